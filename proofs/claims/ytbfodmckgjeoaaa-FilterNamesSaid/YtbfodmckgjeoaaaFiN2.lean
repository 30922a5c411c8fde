/- FilterNames, by a walk. (Written by tools/gen_finames.py.) -/
import Derived.Test.YtbfodmckgjeoaaaFiND
namespace Go.Proofs.Ytbfodmckgjeoaaa.fiL
set_option maxRecDepth 100000
open Go.RowKit Go.Proofs.Ytbfodmckgjeoaaa.base Go.Proofs.Ytbfodmckgjeoaaa.fiP Go.Proofs.Ytbfodmckgjeoaaa.fiW Go.Proofs.Ytbfodmckgjeoaaa.fiU
set_option linter.unusedVariables false
set_option linter.unusedSimpArgs false
set_option maxRecDepth 100000
set_option maxHeartbeats 8000000 in
theorem names_law (w : World) : Calls Try.prog 5 #[] w fun e w' => e = .returned (.bool true) ∧ Below w.heap.size w w' := by
  have K0 := fi_new w 3 0
  have B0 := fi_box w 3 0
  go_enter Try.func5, Try.ntmps5
  go_upto_region 2 with fail
  generalize hw0 : (w.alloc (.cells #[.int .u8 3, .int .i64 0] 23)) = w0 at *
  have HK := Lib.hid K0
  have HW := Lib.hid B0
  clear K0 B0 hw0
  refine region_flowL (FactF rows2 (fun _ => none) vs2) [4, 10, 16, 22, 26] 305 (FactF.grow _ _ _) (by kernel_rfl) (by kernel_rfl) (by kernel_rfl) (by kernel_rfl) (by kernel_rfl) (by intro g hg v w h; simp only [List.mem_cons, List.not_mem_nil, or_false] at hg; rcases hg with rfl | rfl | rfl | rfl | rfl <;> exact h) ?steps ?fin
  case steps =>
    refine And.intro (fun vals W hW hd K hK => ?_) ?_
    · (focus ((have HKW := HK.out.past hW); (have p0 := HKW.c0); (have p1 := HKW.c1); simp only [fl, Act.put, List.setIfInBounds_toArray, List.set_cons_zero, List.set_cons_succ, Nat.zero_add, Nat.reduceAdd] at hK ⊢; go_simp; exact hK _ _ (Below.refl _ _) rfl))
    refine And.intro (fun vals W hW hd K hK => ?_) ?_
    · (focus (simp only [fl, Act.put, List.setIfInBounds_toArray, List.set_cons_zero, List.set_cons_succ, Nat.zero_add, Nat.reduceAdd] at hK ⊢; go_simp; refine (same_any 3 257 _ (by omega)).mono ?_; rintro e w' ⟨A, d, rfl, o, b⟩; exact hK _ _ b ⟨A, 257, d, rfl, ib_ownz (.inl o) (by simp) (byt_repl _ (by decide) (by decide))⟩))
    refine And.intro (fun vals W hW hd K hK => ?_) ?_
    · (focus (simp only [fl, Act.put, List.setIfInBounds_toArray, List.set_cons_zero, List.set_cons_succ, Nat.zero_add, Nat.reduceAdd] at hK ⊢; go_simp; exact hK _ _ (grows_alloc _ _) ⟨_, _, _, rfl, ib_lit W [3, 3, 255] (by simp) (byt_dec rfl) rfl rfl⟩))
    refine And.intro (fun vals W hW hd K hK => ?_) ?_
    · (focus ((have h0 : vals 0 = FiV 3 0 := hd 0 (of_decide_eq_true (by kernel_rfl))); obtain ⟨A1, n1, c1, e1, i1⟩ : RowV (List.replicate 257 3) (vals 1) W := hd 1 (of_decide_eq_true (by kernel_rfl)); obtain ⟨A2, n2, c2, e2, i2⟩ : RowV [3, 3, 255] (vals 2) W := hd 2 (of_decide_eq_true (by kernel_rfl)); simp only [fl, Act.put, List.setIfInBounds_toArray, List.set_cons_zero, List.set_cons_succ, Nat.zero_add, Nat.reduceAdd] at hK ⊢; rw [h0, e1, e2] at hK ⊢; unfold FiV at hK ⊢; go_simp; refine (makes_yes 3 0 (List.replicate 257 3) [3, 3, 255] A1 A2 n1 n2 c1 c2 _ i1 i2 (nv_1).1 (nv_1).2).mono ?_; rintro e w' ⟨rfl, bn⟩; exact hK _ _ bn rfl))
    refine And.intro (fun vals W hW hd K hK => ?_) ?_
    · (focus ((have h0 : vals 3 = .bool true := hd 3 (of_decide_eq_true (by kernel_rfl))); simp only [fl, Act.put, List.setIfInBounds_toArray, List.set_cons_zero, List.set_cons_succ, Nat.zero_add, Nat.reduceAdd] at hK ⊢; rw [h0] at hK ⊢; go_simp; exact hK _ _ (Below.refl _ _) rfl))
    refine And.intro (fun vals W hW hd K hK => ?_) ?_
    · (focus ((have HKW := HK.out.past hW); (have p0 := HKW.c0); (have p1 := HKW.c1); simp only [fl, Act.put, List.setIfInBounds_toArray, List.set_cons_zero, List.set_cons_succ, Nat.zero_add, Nat.reduceAdd] at hK ⊢; go_simp; exact hK _ _ (Below.refl _ _) rfl))
    refine And.intro (fun vals W hW hd K hK => ?_) ?_
    · (focus (simp only [fl, Act.put, List.setIfInBounds_toArray, List.set_cons_zero, List.set_cons_succ, Nat.zero_add, Nat.reduceAdd] at hK ⊢; go_simp; refine (same_any 3 258 _ (by omega)).mono ?_; rintro e w' ⟨A, d, rfl, o, b⟩; exact hK _ _ b ⟨A, 258, d, rfl, ib_ownz (.inl o) (by simp) (byt_repl _ (by decide) (by decide))⟩))
    refine And.intro (fun vals W hW hd K hK => ?_) ?_
    · (focus (simp only [fl, Act.put, List.setIfInBounds_toArray, List.set_cons_zero, List.set_cons_succ, Nat.zero_add, Nat.reduceAdd] at hK ⊢; go_simp; exact hK _ _ (grows_alloc _ _) ⟨_, _, _, rfl, ib_lit W [3, 3, 255, 3] (by simp) (byt_dec rfl) rfl rfl⟩))
    refine And.intro (fun vals W hW hd K hK => ?_) ?_
    · (focus ((have h0 : vals 5 = FiV 3 0 := hd 5 (of_decide_eq_true (by kernel_rfl))); obtain ⟨A1, n1, c1, e1, i1⟩ : RowV (List.replicate 258 3) (vals 6) W := hd 6 (of_decide_eq_true (by kernel_rfl)); obtain ⟨A2, n2, c2, e2, i2⟩ : RowV [3, 3, 255, 3] (vals 7) W := hd 7 (of_decide_eq_true (by kernel_rfl)); simp only [fl, Act.put, List.setIfInBounds_toArray, List.set_cons_zero, List.set_cons_succ, Nat.zero_add, Nat.reduceAdd] at hK ⊢; rw [h0, e1, e2] at hK ⊢; unfold FiV at hK ⊢; go_simp; refine (makes_yes 3 0 (List.replicate 258 3) [3, 3, 255, 3] A1 A2 n1 n2 c1 c2 _ i1 i2 (nv_2).1 (nv_2).2).mono ?_; rintro e w' ⟨rfl, bn⟩; exact hK _ _ bn rfl))
    refine And.intro (fun vals W hW hd K hK => ?_) ?_
    · (focus ((have h0 : vals 4 = .bool true := hd 4 (of_decide_eq_true (by kernel_rfl))); (have h1 : vals 8 = .bool true := hd 8 (of_decide_eq_true (by kernel_rfl))); simp only [fl, Act.put, List.setIfInBounds_toArray, List.set_cons_zero, List.set_cons_succ, Nat.zero_add, Nat.reduceAdd] at hK ⊢; rw [h0, h1] at hK ⊢; go_simp; exact hK _ _ (Below.refl _ _) rfl))
    refine And.intro (fun vals W hW hd K hK => ?_) ?_
    · (focus ((have h0 : vals 9 = .bool true := hd 9 (of_decide_eq_true (by kernel_rfl))); simp only [fl, Act.put, List.setIfInBounds_toArray, List.set_cons_zero, List.set_cons_succ, Nat.zero_add, Nat.reduceAdd] at hK ⊢; rw [h0] at hK ⊢; go_simp; exact hK _ _ (Below.refl _ _) rfl))
    refine And.intro (fun vals W hW hd K hK => ?_) ?_
    · (focus ((have HKW := HK.out.past hW); (have p0 := HKW.c0); (have p1 := HKW.c1); simp only [fl, Act.put, List.setIfInBounds_toArray, List.set_cons_zero, List.set_cons_succ, Nat.zero_add, Nat.reduceAdd] at hK ⊢; go_simp; exact hK _ _ (Below.refl _ _) rfl))
    refine And.intro (fun vals W hW hd K hK => ?_) ?_
    · (focus (simp only [fl, Act.put, List.setIfInBounds_toArray, List.set_cons_zero, List.set_cons_succ, Nat.zero_add, Nat.reduceAdd] at hK ⊢; go_simp; refine (same_any 3 259 _ (by omega)).mono ?_; rintro e w' ⟨A, d, rfl, o, b⟩; exact hK _ _ b ⟨A, 259, d, rfl, ib_ownz (.inl o) (by simp) (byt_repl _ (by decide) (by decide))⟩))
    refine And.intro (fun vals W hW hd K hK => ?_) ?_
    · (focus (simp only [fl, Act.put, List.setIfInBounds_toArray, List.set_cons_zero, List.set_cons_succ, Nat.zero_add, Nat.reduceAdd] at hK ⊢; go_simp; exact hK _ _ (grows_alloc _ _) ⟨_, _, _, rfl, ib_lit W [3, 3, 255, 3, 3, 0] (by simp) (byt_dec rfl) rfl rfl⟩))
    refine And.intro (fun vals W hW hd K hK => ?_) ?_
    · (focus ((have h0 : vals 11 = FiV 3 0 := hd 11 (of_decide_eq_true (by kernel_rfl))); obtain ⟨A1, n1, c1, e1, i1⟩ : RowV (List.replicate 259 3) (vals 12) W := hd 12 (of_decide_eq_true (by kernel_rfl)); obtain ⟨A2, n2, c2, e2, i2⟩ : RowV [3, 3, 255, 3, 3, 0] (vals 13) W := hd 13 (of_decide_eq_true (by kernel_rfl)); simp only [fl, Act.put, List.setIfInBounds_toArray, List.set_cons_zero, List.set_cons_succ, Nat.zero_add, Nat.reduceAdd] at hK ⊢; rw [h0, e1, e2] at hK ⊢; unfold FiV at hK ⊢; go_simp; refine (makes_yes 3 0 (List.replicate 259 3) [3, 3, 255, 3, 3, 0] A1 A2 n1 n2 c1 c2 _ i1 i2 (nv_3).1 (nv_3).2).mono ?_; rintro e w' ⟨rfl, bn⟩; exact hK _ _ bn rfl))
    refine And.intro (fun vals W hW hd K hK => ?_) ?_
    · (focus ((have h0 : vals 10 = .bool true := hd 10 (of_decide_eq_true (by kernel_rfl))); (have h1 : vals 14 = .bool true := hd 14 (of_decide_eq_true (by kernel_rfl))); simp only [fl, Act.put, List.setIfInBounds_toArray, List.set_cons_zero, List.set_cons_succ, Nat.zero_add, Nat.reduceAdd] at hK ⊢; rw [h0, h1] at hK ⊢; go_simp; exact hK _ _ (Below.refl _ _) rfl))
    refine And.intro (fun vals W hW hd K hK => ?_) ?_
    · (focus ((have h0 : vals 15 = .bool true := hd 15 (of_decide_eq_true (by kernel_rfl))); simp only [fl, Act.put, List.setIfInBounds_toArray, List.set_cons_zero, List.set_cons_succ, Nat.zero_add, Nat.reduceAdd] at hK ⊢; rw [h0] at hK ⊢; go_simp; exact hK _ _ (Below.refl _ _) rfl))
    refine And.intro (fun vals W hW hd K hK => ?_) ?_
    · (focus ((have HKW := HK.out.past hW); (have p0 := HKW.c0); (have p1 := HKW.c1); simp only [fl, Act.put, List.setIfInBounds_toArray, List.set_cons_zero, List.set_cons_succ, Nat.zero_add, Nat.reduceAdd] at hK ⊢; go_simp; exact hK _ _ (Below.refl _ _) rfl))
    refine And.intro (fun vals W hW hd K hK => ?_) ?_
    · (focus (simp only [fl, Act.put, List.setIfInBounds_toArray, List.set_cons_zero, List.set_cons_succ, Nat.zero_add, Nat.reduceAdd] at hK ⊢; go_simp; refine (same_any 3 256 _ (by omega)).mono ?_; rintro e w' ⟨A, d, rfl, o, b⟩; exact hK _ _ b ⟨A, 256, d, rfl, ib_ownz (.inl o) (by simp) (byt_repl _ (by decide) (by decide))⟩))
    refine And.intro (fun vals W hW hd K hK => ?_) ?_
    · (focus (simp only [fl, Act.put, List.setIfInBounds_toArray, List.set_cons_zero, List.set_cons_succ, Nat.zero_add, Nat.reduceAdd] at hK ⊢; go_simp; exact hK _ _ (grows_alloc _ _) ⟨_, _, _, rfl, ib_lit W [3, 3, 254] (by simp) (byt_dec rfl) rfl rfl⟩))
    refine And.intro (fun vals W hW hd K hK => ?_) ?_
    · (focus ((have h0 : vals 17 = FiV 3 0 := hd 17 (of_decide_eq_true (by kernel_rfl))); obtain ⟨A1, n1, c1, e1, i1⟩ : RowV (List.replicate 256 3) (vals 18) W := hd 18 (of_decide_eq_true (by kernel_rfl)); obtain ⟨A2, n2, c2, e2, i2⟩ : RowV [3, 3, 254] (vals 19) W := hd 19 (of_decide_eq_true (by kernel_rfl)); simp only [fl, Act.put, List.setIfInBounds_toArray, List.set_cons_zero, List.set_cons_succ, Nat.zero_add, Nat.reduceAdd] at hK ⊢; rw [h0, e1, e2] at hK ⊢; unfold FiV at hK ⊢; go_simp; refine (makes_yes 3 0 (List.replicate 256 3) [3, 3, 254] A1 A2 n1 n2 c1 c2 _ i1 i2 (nv_4).1 (nv_4).2).mono ?_; rintro e w' ⟨rfl, bn⟩; exact hK _ _ bn rfl))
    refine And.intro (fun vals W hW hd K hK => ?_) ?_
    · (focus ((have h0 : vals 16 = .bool true := hd 16 (of_decide_eq_true (by kernel_rfl))); (have h1 : vals 20 = .bool true := hd 20 (of_decide_eq_true (by kernel_rfl))); simp only [fl, Act.put, List.setIfInBounds_toArray, List.set_cons_zero, List.set_cons_succ, Nat.zero_add, Nat.reduceAdd] at hK ⊢; rw [h0, h1] at hK ⊢; go_simp; exact hK _ _ (Below.refl _ _) rfl))
    refine And.intro (fun vals W hW hd K hK => ?_) ?_
    · (focus ((have h0 : vals 21 = .bool true := hd 21 (of_decide_eq_true (by kernel_rfl))); simp only [fl, Act.put, List.setIfInBounds_toArray, List.set_cons_zero, List.set_cons_succ, Nat.zero_add, Nat.reduceAdd] at hK ⊢; rw [h0] at hK ⊢; go_simp; exact hK _ _ (Below.refl _ _) rfl))
    refine And.intro (fun vals W hW hd K hK => ?_) ?_
    · (focus ((have HKW := HK.out.past hW); (have p0 := HKW.c0); (have p1 := HKW.c1); simp only [fl, Act.put, List.setIfInBounds_toArray, List.set_cons_zero, List.set_cons_succ, Nat.zero_add, Nat.reduceAdd] at hK ⊢; go_simp; exact hK _ _ (Below.refl _ _) rfl))
    refine And.intro (fun vals W hW hd K hK => ?_) ?_
    · (focus ((have h0 : vals 23 = FiV 3 0 := hd 23 (of_decide_eq_true (by kernel_rfl))); simp only [fl, Act.put, List.setIfInBounds_toArray, List.set_cons_zero, List.set_cons_succ, Nat.zero_add, Nat.reduceAdd] at hK ⊢; rw [h0] at hK ⊢; unfold FiV at hK ⊢; go_simp; refine (makes_yes 3 0 [] [] none none 0 0 0 0 _ (ib_none _) (ib_none _) (nv_5).1 (nv_5).2).mono ?_; rintro e w' ⟨rfl, bn⟩; exact hK _ _ bn rfl))
    refine And.intro (fun vals W hW hd K hK => ?_) ?_
    · (focus ((have h0 : vals 22 = .bool true := hd 22 (of_decide_eq_true (by kernel_rfl))); (have h1 : vals 24 = .bool true := hd 24 (of_decide_eq_true (by kernel_rfl))); simp only [fl, Act.put, List.setIfInBounds_toArray, List.set_cons_zero, List.set_cons_succ, Nat.zero_add, Nat.reduceAdd] at hK ⊢; rw [h0, h1] at hK ⊢; go_simp; exact hK _ _ (Below.refl _ _) rfl))
    refine And.intro (fun vals W hW hd K hK => ?_) ?_
    · (focus ((have h0 : vals 25 = .bool true := hd 25 (of_decide_eq_true (by kernel_rfl))); simp only [fl, Act.put, List.setIfInBounds_toArray, List.set_cons_zero, List.set_cons_succ, Nat.zero_add, Nat.reduceAdd] at hK ⊢; rw [h0] at hK ⊢; go_simp; exact hK _ _ (Below.refl _ _) rfl))
    refine And.intro (fun vals W hW hd K hK => ?_) ?_
    · (focus ((have HKW := HK.out.past hW); (have p0 := HKW.c0); (have p1 := HKW.c1); simp only [fl, Act.put, List.setIfInBounds_toArray, List.set_cons_zero, List.set_cons_succ, Nat.zero_add, Nat.reduceAdd] at hK ⊢; go_simp; exact hK _ _ (Below.refl _ _) rfl))
    refine And.intro (fun vals W hW hd K hK => ?_) ?_
    · (focus (simp only [fl, Act.put, List.setIfInBounds_toArray, List.set_cons_zero, List.set_cons_succ, Nat.zero_add, Nat.reduceAdd] at hK ⊢; go_simp; exact hK _ _ (grows_alloc _ _) ⟨_, _, _, rfl, ib_lit W [1, 1, 2, 2] (by simp) (byt_dec rfl) rfl rfl⟩))
    refine And.intro (fun vals W hW hd K hK => ?_) ?_
    · (focus (simp only [fl, Act.put, List.setIfInBounds_toArray, List.set_cons_zero, List.set_cons_succ, Nat.zero_add, Nat.reduceAdd] at hK ⊢; go_simp; exact hK _ _ (grows_alloc _ _) ⟨_, _, _, rfl, ib_lit W [1, 1, 0, 2, 2, 0] (by simp) (byt_dec rfl) rfl rfl⟩))
    refine And.intro (fun vals W hW hd K hK => ?_) ?_
    · (focus ((have h0 : vals 27 = FiV 3 0 := hd 27 (of_decide_eq_true (by kernel_rfl))); obtain ⟨A1, n1, c1, e1, i1⟩ : RowV [1, 1, 2, 2] (vals 28) W := hd 28 (of_decide_eq_true (by kernel_rfl)); obtain ⟨A2, n2, c2, e2, i2⟩ : RowV [1, 1, 0, 2, 2, 0] (vals 29) W := hd 29 (of_decide_eq_true (by kernel_rfl)); simp only [fl, Act.put, List.setIfInBounds_toArray, List.set_cons_zero, List.set_cons_succ, Nat.zero_add, Nat.reduceAdd] at hK ⊢; rw [h0, e1, e2] at hK ⊢; unfold FiV at hK ⊢; go_simp; refine (makes_yes 3 0 [1, 1, 2, 2] [1, 1, 0, 2, 2, 0] A1 A2 n1 n2 c1 c2 _ i1 i2 (nv_6).1 (nv_6).2).mono ?_; rintro e w' ⟨rfl, bn⟩; exact hK _ _ bn rfl))
    refine And.intro (fun vals W hW hd K hK => ?_) ?_
    · (focus ((have h0 : vals 26 = .bool true := hd 26 (of_decide_eq_true (by kernel_rfl))); (have h1 : vals 30 = .bool true := hd 30 (of_decide_eq_true (by kernel_rfl))); simp only [fl, Act.put, List.setIfInBounds_toArray, List.set_cons_zero, List.set_cons_succ, Nat.zero_add, Nat.reduceAdd] at hK ⊢; rw [h0, h1] at hK ⊢; go_simp; exact hK _ _ (Below.refl _ _) rfl))
    refine And.intro (fun vals W hW hd K hK => ?_) ?_
    · (focus ((have h0 : vals 31 = .bool true := hd 31 (of_decide_eq_true (by kernel_rfl))); simp only [fl, Act.put, List.setIfInBounds_toArray, List.set_cons_zero, List.set_cons_succ, Nat.zero_add, Nat.reduceAdd] at hK ⊢; rw [h0] at hK ⊢; go_simp; exact hK _ _ (Below.refl _ _) rfl))
    exact trivial
  case fin =>
    intro vals W hW hall
    have h32 : vals 32 = .bool true := hall 32 (by decide)
    simp only [fl, Act.put, List.setIfInBounds_toArray, List.set_cons_zero, List.set_cons_succ, Nat.zero_add, Nat.reduceAdd]
    rw [h32]
    have hz := hW; have HK := Lib.hid (HK.out.past hz); have HW := Lib.hid (HW.out.trans (hz.mono HW.out.size)); clear hz
    clear hall hW h32
    go_wp2_with fail; refine (nothing_yes [3, 3, 254, 3] _ 4 4 _ (ib_lit W [3, 3, 254, 3] (by simp) (byt_dec rfl) rfl rfl) (by omega) nv_7').mono ?_; rintro e w1 ⟨rfl, bn⟩; have hz := ((Below.refl (W).heap.size W).alloc (Nat.le_refl _) _).trans (bn.mono (by simp)); have HK := Lib.hid (HK.out.past hz); have HW := Lib.hid (HW.out.trans (hz.mono HW.out.size)); clear hz; clear bn
    go_wp2_with fail; refine (nothing_yes [0, 0] _ 2 2 _ (ib_lit w1 [0, 0] (by simp) (byt_dec rfl) rfl rfl) (by omega) nv_8).mono ?_; rintro e w2 ⟨rfl, bn⟩; have hz := ((Below.refl (w1).heap.size w1).alloc (Nat.le_refl _) _).trans (bn.mono (by simp)); have HK := Lib.hid (HK.out.past hz); have HW := Lib.hid (HW.out.trans (hz.mono HW.out.size)); clear hz; clear bn
    go_wp2_with fail; refine (nothing_yes [1, 2, 2] _ 3 3 _ (ib_lit w2 [1, 2, 2] (by simp) (byt_dec rfl) rfl rfl) (by omega) nv_9).mono ?_; rintro e w3 ⟨rfl, bn⟩; have hz := ((Below.refl (w2).heap.size w2).alloc (Nat.le_refl _) _).trans (bn.mono (by simp)); have HK := Lib.hid (HK.out.past hz); have HW := Lib.hid (HW.out.trans (hz.mono HW.out.size)); clear hz; clear bn
    go_wp2_with fail; refine (nothing_yes [7, 7, 1, 7, 7, 0] _ 6 6 _ (ib_lit w3 [7, 7, 1, 7, 7, 0] (by simp) (byt_dec rfl) rfl rfl) (by omega) nv_a).mono ?_; rintro e w4 ⟨rfl, bn⟩; have hz := ((Below.refl (w3).heap.size w3).alloc (Nat.le_refl _) _).trans (bn.mono (by simp)); have HK := Lib.hid (HK.out.past hz); have HW := Lib.hid (HW.out.trans (hz.mono HW.out.size)); clear hz; clear bn
    go_wp2_with fail; refine (makes_yes 1 8 [1, 0, 0, 0, 0, 0, 0, 0, 0, 255] [1, 0, 0, 0, 0, 0, 0, 0, 255, 255] _ _ 10 10 10 10 _ ((ib_lit w4 [1, 0, 0, 0, 0, 0, 0, 0, 0, 255] (by simp) (byt_dec rfl) rfl rfl).below ((Below.refl _ _).alloc (Nat.le_refl _) _)) (ib_lit _ [1, 0, 0, 0, 0, 0, 0, 0, 255, 255] (by simp) (byt_dec rfl) (by simp) rfl) (nv_b).1 (nv_b).2).mono ?_; rintro e w5 ⟨rfl, bn⟩; have hz := (((Below.refl (w4).heap.size w4).alloc (Nat.le_refl _) _).alloc (by simp) _).trans (bn.mono (by simp; omega)); have HK := Lib.hid (HK.out.past hz); have HW := Lib.hid (HW.out.trans (hz.mono HW.out.size)); clear hz; clear bn
    go_wp2_with fail; refine (makes_yes 2 0 [255, 0, 255, 255, 1] [255, 1, 1, 0, 2] _ _ 5 5 5 5 _ ((ib_lit w5 [255, 0, 255, 255, 1] (by simp) (byt_dec rfl) rfl rfl).below ((Below.refl _ _).alloc (Nat.le_refl _) _)) (ib_lit _ [255, 1, 1, 0, 2] (by simp) (byt_dec rfl) (by simp) rfl) (nv_c).1 (nv_c).2).mono ?_; rintro e w6 ⟨rfl, bn⟩; have hz := (((Below.refl (w5).heap.size w5).alloc (Nat.le_refl _) _).alloc (by simp) _).trans (bn.mono (by simp; omega)); have HK := Lib.hid (HK.out.past hz); have HW := Lib.hid (HW.out.trans (hz.mono HW.out.size)); clear hz; clear bn
    go_wp2_with fail; refine (makes_yes 1 2 [9] [9] _ _ 1 1 1 1 _ ((ib_lit w6 [9] (by simp) (byt_dec rfl) rfl rfl).below ((Below.refl _ _).alloc (Nat.le_refl _) _)) (ib_lit _ [9] (by simp) (byt_dec rfl) (by simp) rfl) (nv_d).1 (nv_d).2).mono ?_; rintro e w7 ⟨rfl, bn⟩; have hz := (((Below.refl (w6).heap.size w6).alloc (Nat.le_refl _) _).alloc (by simp) _).trans (bn.mono (by simp; omega)); have HK := Lib.hid (HK.out.past hz); have HW := Lib.hid (HW.out.trans (hz.mono HW.out.size)); clear hz; clear bn
    go_wp2_with fail
    have hL := Lies.fresh w7 23 [.int .u8 0, .int .i64 0, .int .u8 1, .int .i64 0, .int .u8 1, .int .i64 9, .int .u8 1, .int .i64 (-1), .int .u8 2, .int .i64 1, .int .u8 3, .int .i64 1, .int .u8 4, .int .i64 0, .int .u8 255, .int .i64 0]
    have hz := ((Below.refl (w7).heap.size w7).alloc (Nat.le_refl _) (.cells #[.int .u8 0, .int .i64 0, .int .u8 1, .int .i64 0, .int .u8 1, .int .i64 9, .int .u8 1, .int .i64 (-1), .int .u8 2, .int .i64 1, .int .u8 3, .int .i64 1, .int .u8 4, .int .i64 0, .int .u8 255, .int .i64 0] 23)); have HK := Lib.hid (HK.out.past hz); have HW := Lib.hid (HW.out.trans (hz.mono HW.out.size)); clear hz
    have HBF : Hid (InF (w7.alloc (.cells #[.int .u8 0, .int .i64 0, .int .u8 1, .int .i64 0, .int .u8 1, .int .i64 9, .int .u8 1, .int .i64 (-1), .int .u8 2, .int .i64 1, .int .u8 3, .int .i64 1, .int .u8 4, .int .i64 0, .int .u8 255, .int .i64 0] 23)) (some ⟨w7.heap.size, 0, none⟩) 8 8 badF) := Lib.hid (inf_lit (n := 8) hL rfl rfl (by omega) (inf_bd rfl))
    clear hL
    generalize (some ⟨w7.heap.size, 0, none⟩ : Option Addr) = AB at *
    generalize (w7.alloc (.cells #[.int .u8 0, .int .i64 0, .int .u8 1, .int .i64 0, .int .u8 1, .int .i64 9, .int .u8 1, .int .i64 (-1), .int .u8 2, .int .i64 1, .int .u8 3, .int .i64 1, .int .u8 4, .int .i64 0, .int .u8 255, .int .i64 0] 23)) = wl at *
    go_loopw [6] (fun i wr => ∃ k : Nat, k ≤ 8 ∧ i = .int .i64 k ∧ Below wl.heap.size wl wr) (fun i _ => 8 - (intOf i).toNat)
    case atStart => exact ⟨0, by omega, rfl, Below.refl _ _⟩
    case round =>
      obtain ⟨k, hk, rfl, acc⟩ := hrel
      have HA := Lib.hid acc
      have HK := Lib.hid (HK.out.past acc)
      have HBW := Lib.hid (HBF.out.below acc)
      have HW := Lib.hid (HW.out.trans (acc.mono HW.out.size))
      by_cases hlt : k < 8
      · have HLT := Lib.hid hlt
        obtain ⟨a, b, hab, hok, hc1, hc2, habd, hbbd⟩ := bad_at hlt
        have HOK := Lib.hid hok
        have HBD := Lib.hid (And.intro habd hbbd)
        have HC1 := Lib.hid hc1
        have HC2 := Lib.hid hc2
        obtain ⟨bb, off, rfl, hbb, hc⟩ := HBW.out.at_ hlt
        obtain ⟨p0, p1⟩ := hc k hlt
        rw [hab] at p0 p1
        have P0 := Lib.hid p0
        have P1 := Lib.hid p1
        have LT0 := Lib.hid hbb
        have k1 : (k : Int) < 8 := by omega
        have k2 : 0 ≤ (k : Int) := by omega
        clear hk acc hlt hab hok hc1 hc2 habd hbbd hc p0 p1 hbb HBW
        have Q1 : Hid (∀ s, oneO (a, b) s = none) := Lib.hid (fun s => if_neg fun hh => by rw [HOK.out] at hh; exact absurd hh.1 (by decide))
        have Q2 : Hid (oneE (a, b) = 8) := Lib.hid (by unfold oneE; rw [HOK.out]; rfl)
        have Q3 : Hid (∀ s, backO (a, b) s = none ∧ backE (a, b) s = 8) := Lib.hid (fun s => ⟨if_neg fun hh => (by rw [HOK.out] at hh; exact absurd hh.1 (by decide)), by unfold backE; rw [HOK.out]; rfl⟩)
        have Q4 : Hid (∀ s, appO [(3, 0), (a, b)] s = none ∧ appE [(3, 0), (a, b)] = 8) := Lib.hid (fun s => ⟨if_neg fun hh => (by rw [HC1.out] at hh; exact absurd hh.1 (by decide)), by unfold appE; rw [HC1.out]; rfl⟩)
        have Q5 : Hid (∀ s, undO [(a, b)] s = none ∧ undE [(a, b)] s = 8) := Lib.hid (fun s => ⟨if_neg fun hh => (by rw [HC2.out] at hh; exact absurd hh.1 (by decide)), by unfold undE; rw [HC2.out]; rfl⟩)
        have Q6 : Hid (ckF (a, b) = 8) := Lib.hid (by unfold ckF; rw [HOK.out]; rfl)
        go_upto_region 9 with fail
        refine region_flowL (FactF rows9 (fun _ => none) (fun i => match i with | 0 => .slice (some ⟨bb, off, none⟩) 8 8 | 1 => .int .i64 k | 2 => .pointer (some ⟨bb, off + k * 2, none⟩) | 3 => FiV a b | 5 => .tuple #[.slice none 0 0, .int .i64 8] | 6 => .tuple #[.slice none 0 0, .int .i64 8] | 7 => .slice none 0 0 | 9 => .slice none 0 0 | _ => .int .i64 8)) [] 305 (FactF.grow _ _ _) (by kernel_rfl) (by kernel_rfl) (by kernel_rfl) (by kernel_rfl) (by kernel_rfl) (by intro g hg v w h; simp at hg) ?steps ?fin
        case steps =>
          refine And.intro (fun vals W hW hd K hK => ?_) ?_
          · (focus (simp only [fl, Act.put, List.setIfInBounds_toArray, List.set_cons_zero, List.set_cons_succ, Nat.zero_add, Nat.reduceAdd] at hK ⊢; go_simp; exact hK _ _ (Below.refl _ _) rfl))
          refine And.intro (fun vals W hW hd K hK => ?_) ?_
          · (focus (simp only [fl, Act.put, List.setIfInBounds_toArray, List.set_cons_zero, List.set_cons_succ, Nat.zero_add, Nat.reduceAdd] at hK ⊢; go_simp; exact hK _ _ (Below.refl _ _) rfl))
          refine And.intro (fun vals W hW hd K hK => ?_) ?_
          · (focus ((have h0 : vals 0 = .slice (some ⟨bb, off, none⟩) 8 8 := hd 0 (of_decide_eq_true (by kernel_rfl))); (have h1 : vals 1 = .int .i64 k := hd 1 (of_decide_eq_true (by kernel_rfl))); simp only [fl, Act.put, List.setIfInBounds_toArray, List.set_cons_zero, List.set_cons_succ, Nat.zero_add, Nat.reduceAdd] at hK ⊢; rw [h0, h1] at hK ⊢; go_simp; exact hK _ _ (Below.refl _ _) rfl))
          refine And.intro (fun vals W hW hd K hK => ?_) ?_
          · (focus ((have h0 : vals 2 = .pointer (some ⟨bb, off + k * 2, none⟩) := hd 2 (of_decide_eq_true (by kernel_rfl))); (have q0 : W.cell? ⟨bb, off + k * 2, none⟩ = some (.int .u8 a) := by rw [hW.cell (p := ⟨bb, off + k * 2, none⟩) LT0.out]; exact P0.out); (have q1 : W.cell? ⟨bb, off + k * 2 + 1, none⟩ = some (.int .i64 b) := by rw [hW.cell (p := ⟨bb, off + k * 2 + 1, none⟩) LT0.out]; exact P1.out); simp only [fl, Act.put, List.setIfInBounds_toArray, List.set_cons_zero, List.set_cons_succ, Nat.zero_add, Nat.reduceAdd] at hK ⊢; rw [h0] at hK ⊢; go_simp; exact hK _ _ (Below.refl _ _) rfl))
          refine And.intro (fun vals W hW hd K hK => ?_) ?_
          · (focus (simp only [fl, Act.put, List.setIfInBounds_toArray, List.set_cons_zero, List.set_cons_succ, Nat.zero_add, Nat.reduceAdd] at hK ⊢; (have hmk : ∀ W : World, (Instr.makeSlice 24 (.int .i64 10126) (.int .i64 10126)).run Try.prog W = .ok (.slice (some ⟨W.heap.size, 0, none⟩) 10126 10126) (W.alloc (.cells (zC 10126) 5)) := fun W => mkz 10126 (by omega) W); go_simp; exact hK _ _ (grows_alloc _ _) ⟨_, _, _, rfl, ib_zero W 10126 (by omega)⟩))
          refine And.intro (fun vals W hW hd K hK => ?_) ?_
          · (focus ((have h3 : vals 3 = FiV a b := hd 3 (of_decide_eq_true (by kernel_rfl))); obtain ⟨A1, n1, c1, e1, i1⟩ : RowV (List.replicate 10126 0) (vals 4) W := hd 4 (of_decide_eq_true (by kernel_rfl)); simp only [fl, Act.put, List.setIfInBounds_toArray, List.set_cons_zero, List.set_cons_succ, Nat.zero_add, Nat.reduceAdd] at hK ⊢; rw [h3, e1] at hK ⊢; unfold FiV at hK ⊢; go_simp; refine (One_any a b (List.replicate 10126 0) A1 n1 c1 _ i1).mono ?_; rintro e w' ⟨hres, bn⟩; (have he := Res.gone hres (Q1.out _)); subst he; rw [Q2.out]; exact hK _ _ bn rfl))
          refine And.intro (fun vals W hW hd K hK => ?_) ?_
          · (focus ((have h0 : vals 5 = .tuple #[.slice none 0 0, .int .i64 8] := hd 5 (of_decide_eq_true (by kernel_rfl))); simp only [fl, Act.put, List.setIfInBounds_toArray, List.set_cons_zero, List.set_cons_succ, Nat.zero_add, Nat.reduceAdd] at hK ⊢; rw [h0] at hK ⊢; go_simp; exact hK _ _ (Below.refl _ _) rfl))
          refine And.intro (fun vals W hW hd K hK => ?_) ?_
          · (focus ((have h0 : vals 6 = .tuple #[.slice none 0 0, .int .i64 8] := hd 6 (of_decide_eq_true (by kernel_rfl))); simp only [fl, Act.put, List.setIfInBounds_toArray, List.set_cons_zero, List.set_cons_succ, Nat.zero_add, Nat.reduceAdd] at hK ⊢; rw [h0] at hK ⊢; go_simp; exact hK _ _ (Below.refl _ _) rfl))
          refine And.intro (fun vals W hW hd K hK => ?_) ?_
          · (focus ((have h0 : vals 6 = .tuple #[.slice none 0 0, .int .i64 8] := hd 6 (of_decide_eq_true (by kernel_rfl))); simp only [fl, Act.put, List.setIfInBounds_toArray, List.set_cons_zero, List.set_cons_succ, Nat.zero_add, Nat.reduceAdd] at hK ⊢; rw [h0] at hK ⊢; go_simp; exact hK _ _ (Below.refl _ _) rfl))
          refine And.intro (fun vals W hW hd K hK => ?_) ?_
          · (focus ((have h0 : vals 7 = .slice none 0 0 := hd 7 (of_decide_eq_true (by kernel_rfl))); simp only [fl, Act.put, List.setIfInBounds_toArray, List.set_cons_zero, List.set_cons_succ, Nat.zero_add, Nat.reduceAdd] at hK ⊢; rw [h0] at hK ⊢; go_simp; exact hK _ _ (Below.refl _ _) rfl))
          refine And.intro (fun vals W hW hd K hK => ?_) ?_
          · (focus ((have h0 : vals 8 = .int .i64 8 := hd 8 (of_decide_eq_true (by kernel_rfl))); simp only [fl, Act.put, List.setIfInBounds_toArray, List.set_cons_zero, List.set_cons_succ, Nat.zero_add, Nat.reduceAdd] at hK ⊢; rw [h0] at hK ⊢; go_simp; exact hK _ _ (Below.refl _ _) rfl))
          exact trivial
        case fin =>
          intro vals9 W9 hW9 hall
          have h9 : vals9 9 = .slice none 0 0 := hall 9 (by decide)
          have h10 : vals9 10 = .int .i64 8 := hall 10 (by decide)
          simp only [fl, Act.put, List.setIfInBounds_toArray, List.set_cons_zero, List.set_cons_succ, Nat.zero_add, Nat.reduceAdd]
          rw [h9, h10]
          have HA := Lib.hid (HA.out.trans (hW9.mono HA.out.size))
          have HK := Lib.hid (HK.out.past hW9)
          have P0 : Hid ((W9).cell? ⟨bb, off + k * 2, none⟩ = some (.int .u8 a)) := Lib.hid ((Below.cell (p := ⟨bb, off + k * 2, none⟩) hW9 LT0.out).trans P0.out); have P1 : Hid ((W9).cell? ⟨bb, off + k * 2 + 1, none⟩ = some (.int .i64 b)) := Lib.hid ((Below.cell (p := ⟨bb, off + k * 2 + 1, none⟩) hW9 LT0.out).trans P1.out); have LT0 := Lib.hid (Nat.lt_of_lt_of_le LT0.out (hW9).size)
          clear hall hW9 h9 h10
          have p0 := P0.out
          have p1 := P1.out
          go_wp2_with fail
          refine (Back_any a b [] none 0 0 _ (ib_none _)).mono ?_
          rintro e wa ⟨hres, bn⟩
          have he := Res.gone hres (Q3.out _).1
          subst he
          rw [(Q3.out _).2]
          have HA := Lib.hid (HA.out.trans (bn.mono HA.out.size))
          have HK := Lib.hid (HK.out.past bn)
          have P0 : Hid ((wa).cell? ⟨bb, off + k * 2, none⟩ = some (.int .u8 a)) := Lib.hid ((Below.cell (p := ⟨bb, off + k * 2, none⟩) bn LT0.out).trans P0.out); have P1 : Hid ((wa).cell? ⟨bb, off + k * 2 + 1, none⟩ = some (.int .i64 b)) := Lib.hid ((Below.cell (p := ⟨bb, off + k * 2 + 1, none⟩) bn LT0.out).trans P1.out); have LT0 := Lib.hid (Nat.lt_of_lt_of_le LT0.out (bn).size)
          clear bn hres p0 p1
          go_upto_region 11 with fail
          refine region_flowL (FactF rows11 (fun i => match i with | 5 => some [(3, 0), (a, b)] | _ => none) (fun i => match i with | 0 => FiV 3 0 | 1 => .slice (some ⟨bb, off, none⟩) 8 8 | 2 => .int .i64 k | 3 => .pointer (some ⟨bb, off + k * 2, none⟩) | 4 => FiV a b | 7 => .tuple #[.slice none 0 0, .int .i64 8] | 8 => .tuple #[.slice none 0 0, .int .i64 8] | 9 => .slice none 0 0 | 11 => .slice none 0 0 | _ => .int .i64 8)) [] 305 (FactF.grow _ _ _) (by kernel_rfl) (by kernel_rfl) (by kernel_rfl) (by kernel_rfl) (by kernel_rfl) (by intro g hg v w h; simp at hg) ?steps ?fin
          case steps =>
            refine And.intro (fun vals W hW hd K hK => ?_) ?_
            · (focus ((have HKW := HK.out.past hW); (have p0 := HKW.c0); (have p1 := HKW.c1); simp only [fl, Act.put, List.setIfInBounds_toArray, List.set_cons_zero, List.set_cons_succ, Nat.zero_add, Nat.reduceAdd] at hK ⊢; go_simp; exact hK _ _ (Below.refl _ _) rfl))
            refine And.intro (fun vals W hW hd K hK => ?_) ?_
            · (focus (simp only [fl, Act.put, List.setIfInBounds_toArray, List.set_cons_zero, List.set_cons_succ, Nat.zero_add, Nat.reduceAdd] at hK ⊢; go_simp; exact hK _ _ (Below.refl _ _) rfl))
            refine And.intro (fun vals W hW hd K hK => ?_) ?_
            · (focus (simp only [fl, Act.put, List.setIfInBounds_toArray, List.set_cons_zero, List.set_cons_succ, Nat.zero_add, Nat.reduceAdd] at hK ⊢; go_simp; exact hK _ _ (Below.refl _ _) rfl))
            refine And.intro (fun vals W hW hd K hK => ?_) ?_
            · (focus ((have h0 : vals 1 = .slice (some ⟨bb, off, none⟩) 8 8 := hd 1 (of_decide_eq_true (by kernel_rfl))); (have h1 : vals 2 = .int .i64 k := hd 2 (of_decide_eq_true (by kernel_rfl))); simp only [fl, Act.put, List.setIfInBounds_toArray, List.set_cons_zero, List.set_cons_succ, Nat.zero_add, Nat.reduceAdd] at hK ⊢; rw [h0, h1] at hK ⊢; go_simp; exact hK _ _ (Below.refl _ _) rfl))
            refine And.intro (fun vals W hW hd K hK => ?_) ?_
            · (focus ((have h0 : vals 3 = .pointer (some ⟨bb, off + k * 2, none⟩) := hd 3 (of_decide_eq_true (by kernel_rfl))); (have q0 : W.cell? ⟨bb, off + k * 2, none⟩ = some (.int .u8 a) := by rw [hW.cell (p := ⟨bb, off + k * 2, none⟩) LT0.out]; exact P0.out); (have q1 : W.cell? ⟨bb, off + k * 2 + 1, none⟩ = some (.int .i64 b) := by rw [hW.cell (p := ⟨bb, off + k * 2 + 1, none⟩) LT0.out]; exact P1.out); simp only [fl, Act.put, List.setIfInBounds_toArray, List.set_cons_zero, List.set_cons_succ, Nat.zero_add, Nat.reduceAdd] at hK ⊢; rw [h0] at hK ⊢; go_simp; exact hK _ _ (Below.refl _ _) rfl))
            refine And.intro (fun vals W hW hd K hK => ?_) ?_
            · (focus ((have h0 : vals 0 = FiV 3 0 := hd 0 (of_decide_eq_true (by kernel_rfl))); (have h4 : vals 4 = FiV a b := hd 4 (of_decide_eq_true (by kernel_rfl))); simp only [fl, Act.put, List.setIfInBounds_toArray, List.set_cons_zero, List.set_cons_succ, Nat.zero_add, Nat.reduceAdd] at hK ⊢; rw [h0, h4] at hK ⊢; unfold FiV at hK ⊢; go_simp; refine hK _ _ (grows_alloc _ _) ⟨_, _, _, rfl, inf_lit (Lies.fresh W 23 [.int .u8 3, .int .i64 0, .int .u8 a, .int .i64 b]) rfl rfl (by omega) (by intro f hf; simp at hf; rcases hf with rfl | rfl; (case inl => exact ⟨⟨by decide, by decide⟩, by decide, by decide⟩); (case inr => exact HBD.out))⟩))
            refine And.intro (fun vals W hW hd K hK => ?_) ?_
            · (focus (simp only [fl, Act.put, List.setIfInBounds_toArray, List.set_cons_zero, List.set_cons_succ, Nat.zero_add, Nat.reduceAdd] at hK ⊢; (have hmk : ∀ W : World, (Instr.makeSlice 24 (.int .i64 2001) (.int .i64 2001)).run Try.prog W = .ok (.slice (some ⟨W.heap.size, 0, none⟩) 2001 2001) (W.alloc (.cells (zC 2001) 5)) := fun W => mkz 2001 (by omega) W); go_simp; exact hK _ _ (grows_alloc _ _) ⟨_, _, _, rfl, ib_zero W 2001 (by omega)⟩))
            refine And.intro (fun vals W hW hd K hK => ?_) ?_
            · (focus (obtain ⟨A0, n0, c0, e0, i0⟩ : FilV [(3, 0), (a, b)] (vals 5) W := hd 5 (of_decide_eq_true (by kernel_rfl)); obtain ⟨A1, n1, c1, e1, i1⟩ : RowV (List.replicate 2001 0) (vals 6) W := hd 6 (of_decide_eq_true (by kernel_rfl)); simp only [fl, Act.put, List.setIfInBounds_toArray, List.set_cons_zero, List.set_cons_succ, Nat.zero_add, Nat.reduceAdd] at hK ⊢; rw [e0, e1] at hK ⊢; go_simp; refine (Apply_any [(3, 0), (a, b)] A0 A1 n0 c0 n1 c1 (List.replicate 2001 0) _ i0 i1).mono ?_; rintro e w' ⟨hres, bn⟩; (have he := Res.gone hres (Q4.out _).1); subst he; rw [(Q4.out []).2]; exact hK _ _ bn rfl))
            refine And.intro (fun vals W hW hd K hK => ?_) ?_
            · (focus ((have h0 : vals 7 = .tuple #[.slice none 0 0, .int .i64 8] := hd 7 (of_decide_eq_true (by kernel_rfl))); simp only [fl, Act.put, List.setIfInBounds_toArray, List.set_cons_zero, List.set_cons_succ, Nat.zero_add, Nat.reduceAdd] at hK ⊢; rw [h0] at hK ⊢; go_simp; exact hK _ _ (Below.refl _ _) rfl))
            refine And.intro (fun vals W hW hd K hK => ?_) ?_
            · (focus ((have h0 : vals 8 = .tuple #[.slice none 0 0, .int .i64 8] := hd 8 (of_decide_eq_true (by kernel_rfl))); simp only [fl, Act.put, List.setIfInBounds_toArray, List.set_cons_zero, List.set_cons_succ, Nat.zero_add, Nat.reduceAdd] at hK ⊢; rw [h0] at hK ⊢; go_simp; exact hK _ _ (Below.refl _ _) rfl))
            refine And.intro (fun vals W hW hd K hK => ?_) ?_
            · (focus ((have h0 : vals 8 = .tuple #[.slice none 0 0, .int .i64 8] := hd 8 (of_decide_eq_true (by kernel_rfl))); simp only [fl, Act.put, List.setIfInBounds_toArray, List.set_cons_zero, List.set_cons_succ, Nat.zero_add, Nat.reduceAdd] at hK ⊢; rw [h0] at hK ⊢; go_simp; exact hK _ _ (Below.refl _ _) rfl))
            refine And.intro (fun vals W hW hd K hK => ?_) ?_
            · (focus ((have h0 : vals 9 = .slice none 0 0 := hd 9 (of_decide_eq_true (by kernel_rfl))); simp only [fl, Act.put, List.setIfInBounds_toArray, List.set_cons_zero, List.set_cons_succ, Nat.zero_add, Nat.reduceAdd] at hK ⊢; rw [h0] at hK ⊢; go_simp; exact hK _ _ (Below.refl _ _) rfl))
            refine And.intro (fun vals W hW hd K hK => ?_) ?_
            · (focus ((have h0 : vals 10 = .int .i64 8 := hd 10 (of_decide_eq_true (by kernel_rfl))); simp only [fl, Act.put, List.setIfInBounds_toArray, List.set_cons_zero, List.set_cons_succ, Nat.zero_add, Nat.reduceAdd] at hK ⊢; rw [h0] at hK ⊢; go_simp; exact hK _ _ (Below.refl _ _) rfl))
            exact trivial
          case fin =>
            intro valsb Wb hWb hall
            have h11 : valsb 11 = .slice none 0 0 := hall 11 (by decide)
            have h12 : valsb 12 = .int .i64 8 := hall 12 (by decide)
            simp only [fl, Act.put, List.setIfInBounds_toArray, List.set_cons_zero, List.set_cons_succ, Nat.zero_add, Nat.reduceAdd]
            rw [h11, h12]
            have HA := Lib.hid (HA.out.trans (hWb.mono HA.out.size))
            have P0 : Hid ((Wb).cell? ⟨bb, off + k * 2, none⟩ = some (.int .u8 a)) := Lib.hid ((Below.cell (p := ⟨bb, off + k * 2, none⟩) hWb LT0.out).trans P0.out); have P1 : Hid ((Wb).cell? ⟨bb, off + k * 2 + 1, none⟩ = some (.int .i64 b)) := Lib.hid ((Below.cell (p := ⟨bb, off + k * 2 + 1, none⟩) hWb LT0.out).trans P1.out); have LT0 := Lib.hid (Nat.lt_of_lt_of_le LT0.out (hWb).size)
            clear hall hWb h11 h12
            have p0 := P0.out
            have p1 := P1.out
            go_wp2_with fail
            refine (Undo_any [(a, b)] _ none 1 1 0 0 [] _ (inf_lit (Lies.fresh Wb 23 [.int .u8 a, .int .i64 b]) rfl rfl (by omega) (by intro f hf; simp at hf; rw [hf]; exact HBD.out)) (ib_none _)).mono ?_
            rintro e wc ⟨hres, bn⟩
            have he := Res.gone hres (Q5.out _).1
            subst he
            rw [(Q5.out _).2]
            have hz := (grows_alloc Wb (.cells #[.int .u8 a, .int .i64 b] 23)).trans (bn.mono (by simp))
            have HA := Lib.hid (HA.out.trans (hz.mono HA.out.size))
            have P0 : Hid ((wc).cell? ⟨bb, off + k * 2, none⟩ = some (.int .u8 a)) := Lib.hid ((Below.cell (p := ⟨bb, off + k * 2, none⟩) hz LT0.out).trans P0.out); have P1 : Hid ((wc).cell? ⟨bb, off + k * 2 + 1, none⟩ = some (.int .i64 b)) := Lib.hid ((Below.cell (p := ⟨bb, off + k * 2 + 1, none⟩) hz LT0.out).trans P1.out); have LT0 := Lib.hid (Nat.lt_of_lt_of_le LT0.out (hz).size)
            clear bn hres p0 p1 hz
            have p0 := P0.out
            have p1 := P1.out
            go_wp2_with fail
            refine (Check_any a b _).mono ?_
            rintro e wd ⟨rfl, bn⟩
            rw [Q6.out]
            have HA := Lib.hid (HA.out.trans (bn.mono HA.out.size))
            clear bn p0 p1
            go_wp2_with fail
            go_roundw
            case rel => exact ⟨k + 1, HLT.out, by go_num, HA.out⟩
            case measure => simp [intOf]; have := HLT.out; omega
      · obtain rfl : k = 8 := by omega
        have k1 : ¬ ((8 : Nat) : Int) < 8 := by omega
        clear hk acc hlt HBW HBF
        go_upto_region 15 with fail
        refine region_flowL (FactF rows15 (fun _ => none) vs15) [] 305 (FactF.grow _ _ _) (by kernel_rfl) (by kernel_rfl) (by kernel_rfl) (by kernel_rfl) (by kernel_rfl) (by intro g hg v w h; simp at hg) ?steps ?fin
        case steps =>
          refine And.intro (fun vals W hW hd K hK => ?_) ?_
          · (focus ((have HKW := HK.out.past hW); (have p0 := HKW.c0); (have p1 := HKW.c1); simp only [fl, Act.put, List.setIfInBounds_toArray, List.set_cons_zero, List.set_cons_succ, Nat.zero_add, Nat.reduceAdd] at hK ⊢; go_simp; exact hK _ _ (Below.refl _ _) rfl))
          refine And.intro (fun vals W hW hd K hK => ?_) ?_
          · (focus (simp only [fl, Act.put, List.setIfInBounds_toArray, List.set_cons_zero, List.set_cons_succ, Nat.zero_add, Nat.reduceAdd] at hK ⊢; (have hmk : ∀ W : World, (Instr.makeSlice 24 (.int .i64 10126) (.int .i64 10126)).run Try.prog W = .ok (.slice (some ⟨W.heap.size, 0, none⟩) 10126 10126) (W.alloc (.cells (zC 10126) 5)) := fun W => mkz 10126 (by omega) W); go_simp; exact hK _ _ (grows_alloc _ _) ⟨_, _, _, rfl, ib_zero W 10126 (by omega)⟩))
          refine And.intro (fun vals W hW hd K hK => ?_) ?_
          · (focus ((have h3 : vals 0 = FiV 3 0 := hd 0 (of_decide_eq_true (by kernel_rfl))); obtain ⟨A1, n1, c1, e1, i1⟩ : RowV (List.replicate 10126 0) (vals 1) W := hd 1 (of_decide_eq_true (by kernel_rfl)); simp only [fl, Act.put, List.setIfInBounds_toArray, List.set_cons_zero, List.set_cons_succ, Nat.zero_add, Nat.reduceAdd] at hK ⊢; rw [h3, e1] at hK ⊢; unfold FiV at hK ⊢; go_simp; refine (One_any 3 0 (List.replicate 10126 0) A1 n1 c1 _ i1).mono ?_; rintro e w' ⟨hres, bn⟩; (have he := Res.gone hres (nv_h 10126 (by omega))); subst he; exact hK _ _ bn rfl))
          (refine And.intro (fun vals W hW hd K hK => ?_) ?_); (focus (focus ((have h0 : vals 2 = .tuple #[.slice none 0 0, .int .i64 4] := hd 2 (of_decide_eq_true (by kernel_rfl))); simp only [fl, Act.put, List.setIfInBounds_toArray, List.set_cons_zero, List.set_cons_succ, Nat.zero_add, Nat.reduceAdd] at hK ⊢; rw [h0] at hK ⊢; go_simp; exact hK _ _ (Below.refl _ _) rfl))); (refine And.intro (fun vals W hW hd K hK => ?_) ?_); (focus (focus ((have h0 : vals 3 = .tuple #[.slice none 0 0, .int .i64 4] := hd 3 (of_decide_eq_true (by kernel_rfl))); simp only [fl, Act.put, List.setIfInBounds_toArray, List.set_cons_zero, List.set_cons_succ, Nat.zero_add, Nat.reduceAdd] at hK ⊢; rw [h0] at hK ⊢; go_simp; exact hK _ _ (Below.refl _ _) rfl))); (refine And.intro (fun vals W hW hd K hK => ?_) ?_); (focus (focus ((have h0 : vals 3 = .tuple #[.slice none 0 0, .int .i64 4] := hd 3 (of_decide_eq_true (by kernel_rfl))); simp only [fl, Act.put, List.setIfInBounds_toArray, List.set_cons_zero, List.set_cons_succ, Nat.zero_add, Nat.reduceAdd] at hK ⊢; rw [h0] at hK ⊢; go_simp; exact hK _ _ (Below.refl _ _) rfl))); (refine And.intro (fun vals W hW hd K hK => ?_) ?_); (focus (focus ((have h0 : vals 4 = .slice none 0 0 := hd 4 (of_decide_eq_true (by kernel_rfl))); simp only [fl, Act.put, List.setIfInBounds_toArray, List.set_cons_zero, List.set_cons_succ, Nat.zero_add, Nat.reduceAdd] at hK ⊢; rw [h0] at hK ⊢; go_simp; exact hK _ _ (Below.refl _ _) rfl))); (refine And.intro (fun vals W hW hd K hK => ?_) ?_); (focus (focus ((have h0 : vals 5 = .int .i64 4 := hd 5 (of_decide_eq_true (by kernel_rfl))); simp only [fl, Act.put, List.setIfInBounds_toArray, List.set_cons_zero, List.set_cons_succ, Nat.zero_add, Nat.reduceAdd] at hK ⊢; rw [h0] at hK ⊢; go_simp; exact hK _ _ (Below.refl _ _) rfl)))
          exact trivial
        case fin =>
          intro vals15 W15 hW hall
          have h6 : vals15 6 = .slice none 0 0 := hall 6 (by decide)
          have h7 : vals15 7 = .int .i64 4 := hall 7 (by decide)
          simp only [fl, Act.put, List.setIfInBounds_toArray, List.set_cons_zero, List.set_cons_succ, Nat.zero_add, Nat.reduceAdd]
          rw [h6, h7]
          have hz := hW; have HK := Lib.hid (HK.out.past hz); have HW := Lib.hid (HW.out.trans (hz.mono HW.out.size)); clear hz
          clear hall hW h6 h7
          go_upto_region 16 with fail
          refine region_flowL (FactF rows15 (fun _ => none) vs15) [] 305 (FactF.grow _ _ _) (by kernel_rfl) (by kernel_rfl) (by kernel_rfl) (by kernel_rfl) (by kernel_rfl) (by intro g hg v w h; simp at hg) ?steps ?fin
          case steps =>
            refine And.intro (fun vals W hW hd K hK => ?_) ?_
            · (focus ((have HKW := HK.out.past hW); (have p0 := HKW.c0); (have p1 := HKW.c1); simp only [fl, Act.put, List.setIfInBounds_toArray, List.set_cons_zero, List.set_cons_succ, Nat.zero_add, Nat.reduceAdd] at hK ⊢; go_simp; exact hK _ _ (Below.refl _ _) rfl))
            refine And.intro (fun vals W hW hd K hK => ?_) ?_
            · (focus (simp only [fl, Act.put, List.setIfInBounds_toArray, List.set_cons_zero, List.set_cons_succ, Nat.zero_add, Nat.reduceAdd] at hK ⊢; (have hmk : ∀ W : World, (Instr.makeSlice 24 (.int .i64 10126) (.int .i64 10126)).run Try.prog W = .ok (.slice (some ⟨W.heap.size, 0, none⟩) 10126 10126) (W.alloc (.cells (zC 10126) 5)) := fun W => mkz 10126 (by omega) W); go_simp; exact hK _ _ (grows_alloc _ _) ⟨_, _, _, rfl, ib_zero W 10126 (by omega)⟩))
            refine And.intro (fun vals W hW hd K hK => ?_) ?_
            · (focus ((have h3 : vals 0 = FiV 3 0 := hd 0 (of_decide_eq_true (by kernel_rfl))); obtain ⟨A1, n1, c1, e1, i1⟩ : RowV (List.replicate 10126 0) (vals 1) W := hd 1 (of_decide_eq_true (by kernel_rfl)); simp only [fl, Act.put, List.setIfInBounds_toArray, List.set_cons_zero, List.set_cons_succ, Nat.zero_add, Nat.reduceAdd] at hK ⊢; rw [h3, e1] at hK ⊢; unfold FiV at hK ⊢; go_simp; refine (Back_any 3 0 (List.replicate 10126 0) A1 n1 c1 _ i1).mono ?_; rintro e w' ⟨hres, bn⟩; (have he := Res.gone hres (nv_i 10126 (by omega)).1); subst he; rw [(nv_i 10126 (by omega)).2]; exact hK _ _ bn rfl))
            (refine And.intro (fun vals W hW hd K hK => ?_) ?_); (focus (focus ((have h0 : vals 2 = .tuple #[.slice none 0 0, .int .i64 4] := hd 2 (of_decide_eq_true (by kernel_rfl))); simp only [fl, Act.put, List.setIfInBounds_toArray, List.set_cons_zero, List.set_cons_succ, Nat.zero_add, Nat.reduceAdd] at hK ⊢; rw [h0] at hK ⊢; go_simp; exact hK _ _ (Below.refl _ _) rfl))); (refine And.intro (fun vals W hW hd K hK => ?_) ?_); (focus (focus ((have h0 : vals 3 = .tuple #[.slice none 0 0, .int .i64 4] := hd 3 (of_decide_eq_true (by kernel_rfl))); simp only [fl, Act.put, List.setIfInBounds_toArray, List.set_cons_zero, List.set_cons_succ, Nat.zero_add, Nat.reduceAdd] at hK ⊢; rw [h0] at hK ⊢; go_simp; exact hK _ _ (Below.refl _ _) rfl))); (refine And.intro (fun vals W hW hd K hK => ?_) ?_); (focus (focus ((have h0 : vals 3 = .tuple #[.slice none 0 0, .int .i64 4] := hd 3 (of_decide_eq_true (by kernel_rfl))); simp only [fl, Act.put, List.setIfInBounds_toArray, List.set_cons_zero, List.set_cons_succ, Nat.zero_add, Nat.reduceAdd] at hK ⊢; rw [h0] at hK ⊢; go_simp; exact hK _ _ (Below.refl _ _) rfl))); (refine And.intro (fun vals W hW hd K hK => ?_) ?_); (focus (focus ((have h0 : vals 4 = .slice none 0 0 := hd 4 (of_decide_eq_true (by kernel_rfl))); simp only [fl, Act.put, List.setIfInBounds_toArray, List.set_cons_zero, List.set_cons_succ, Nat.zero_add, Nat.reduceAdd] at hK ⊢; rw [h0] at hK ⊢; go_simp; exact hK _ _ (Below.refl _ _) rfl))); (refine And.intro (fun vals W hW hd K hK => ?_) ?_); (focus (focus ((have h0 : vals 5 = .int .i64 4 := hd 5 (of_decide_eq_true (by kernel_rfl))); simp only [fl, Act.put, List.setIfInBounds_toArray, List.set_cons_zero, List.set_cons_succ, Nat.zero_add, Nat.reduceAdd] at hK ⊢; rw [h0] at hK ⊢; go_simp; exact hK _ _ (Below.refl _ _) rfl)))
            exact trivial
          case fin =>
            intro vals16 W16 hW hall
            have h6 : vals16 6 = .slice none 0 0 := hall 6 (by decide)
            have h7 : vals16 7 = .int .i64 4 := hall 7 (by decide)
            simp only [fl, Act.put, List.setIfInBounds_toArray, List.set_cons_zero, List.set_cons_succ, Nat.zero_add, Nat.reduceAdd]
            rw [h6, h7]
            have hz := hW; have HK := Lib.hid (HK.out.past hz); have HW := Lib.hid (HW.out.trans (hz.mono HW.out.size)); clear hz
            clear hall hW h6 h7
            have m5 := mk5
            have m1 : ∀ W : World, (Instr.makeSlice 24 (.int .i64 2001) (.int .i64 2001)).run Try.prog W = .ok (.slice (some ⟨W.heap.size, 0, none⟩) 2001 2001) (W.alloc (.cells (zC 2001) 5)) := fun W => mkz 2001 (by omega) W
            have m2 : ∀ W : World, (Instr.makeSlice 24 (.int .i64 10126) (.int .i64 10126)).run Try.prog W = .ok (.slice (some ⟨W.heap.size, 0, none⟩) 10126 10126) (W.alloc (.cells (zC 10126) 5)) := fun W => mkz 10126 (by omega) W
            go_wp2_with fail; refine (Apply_any five _ none 5 5 0 0 [] _ (inf_lit (Lies.fresh W16 23 [.int .u8 0, .int .i64 0, .int .u8 0, .int .i64 0, .int .u8 0, .int .i64 0, .int .u8 0, .int .i64 0, .int .u8 0, .int .i64 0]) rfl rfl (by omega) (inf_bd rfl)) (ib_none _)).mono ?_; rintro e W17 ⟨hres, bn⟩; have he := Res.gone hres nv_n.1; subst he; rw [nv_n.2.1]; have hz := ((Below.refl (W16).heap.size W16).alloc (Nat.le_refl _) _).trans (bn.mono (by simp)); have HK := Lib.hid (HK.out.past hz); have HW := Lib.hid (HW.out.trans (hz.mono HW.out.size)); clear hz; clear bn hres
            go_wp2_with fail; refine (Undo_any five _ none 5 5 0 0 [] _ (inf_lit (Lies.fresh W17 23 [.int .u8 0, .int .i64 0, .int .u8 0, .int .i64 0, .int .u8 0, .int .i64 0, .int .u8 0, .int .i64 0, .int .u8 0, .int .i64 0]) rfl rfl (by omega) (inf_bd rfl)) (ib_none _)).mono ?_; rintro e W18 ⟨hres, bn⟩; have he := Res.gone hres nv_n.2.2.1; subst he; rw [nv_n.2.2.2]; have hz := ((Below.refl (W17).heap.size W17).alloc (Nat.le_refl _) _).trans (bn.mono (by simp)); have HK := Lib.hid (HK.out.past hz); have HW := Lib.hid (HW.out.trans (hz.mono HW.out.size)); clear hz; clear bn hres
            go_wp2_with fail; refine (Apply_any [] none _ 0 0 2001 2001 (List.replicate 2001 0) _ (inf_none _) (ib_zero W18 2001 (by omega))).mono ?_; rintro e W19 ⟨hres, bn⟩; have he := Res.gone hres (nv_j 2001 (by omega)); subst he; rw [(show appE [] = 4 by decide)]; have hz := ((Below.refl (W18).heap.size W18).alloc (Nat.le_refl _) _).trans (bn.mono (by simp)); have HK := Lib.hid (HK.out.past hz); have HW := Lib.hid (HW.out.trans (hz.mono HW.out.size)); clear hz; clear bn hres
            go_wp2_with fail; refine (Undo_any [] none _ 0 0 10126 10126 (List.replicate 10126 0) _ (inf_none _) (ib_zero W19 10126 (by omega))).mono ?_; rintro e W20 ⟨hres, bn⟩; have he := Res.gone hres (nv_k 10126 (by omega)).1; subst he; rw [(nv_k 10126 (by omega)).2]; have hz := ((Below.refl (W19).heap.size W19).alloc (Nat.le_refl _) _).trans (bn.mono (by simp)); have HK := Lib.hid (HK.out.past hz); have HW := Lib.hid (HW.out.trans (hz.mono HW.out.size)); clear hz; clear bn hres
            go_wp2_with fail; refine (Undo_any [] none _ 0 0 2001 2001 (List.replicate 2001 0) _ (inf_none _) (ib_zero W20 2001 (by omega))).mono ?_; rintro e W21 ⟨hres, bn⟩; have he := Res.gone hres (nv_m 2001 (by omega) (by omega)).1; subst he; rw [(nv_m 2001 (by omega) (by omega)).2]; have hz := ((Below.refl (W20).heap.size W20).alloc (Nat.le_refl _) _).trans (bn.mono (by simp)); have HK := Lib.hid (HK.out.past hz); have HW := Lib.hid (HW.out.trans (hz.mono HW.out.size)); clear hz; clear bn hres
            clear m1 m2 m5
            go_upto_region 22 with fail
            obtain ⟨wh, hwh⟩ : ∃ s, appF runs4 (List.replicate 2000 0) = s := ⟨_, rfl⟩
            have NE : Hid (appO runs4 (List.replicate 2000 0) = some wh) := Lib.hid (by rw [← hwh]; exact nv_e)
            have NF : Hid (undO runs4 wh = some (List.replicate 2000 0)) := Lib.hid (by rw [← hwh]; exact nv_f)
            have NB : Hid (Byt wh) := Lib.hid (by rw [← hwh]; exact appF_bd (byt_repl 2000 (by decide) (by decide)))
            clear hwh
            refine region_flowL (FactT (tup22 wh) (rows22 wh) fil22 vs22) [] 305 (FactT.grow _ _ _ _) (by kernel_rfl) (by kernel_rfl) (by kernel_rfl) (by kernel_rfl) (by kernel_rfl) (by intro g hg v w h; simp at hg) ?steps ?fin
            case steps =>
              refine And.intro (fun vals W hW hd K hK => ?_) ?_
              · (focus ((have HKW := HK.out.past hW); (have p0 := HKW.c0); (have p1 := HKW.c1); simp only [fl, Act.put, List.setIfInBounds_toArray, List.set_cons_zero, List.set_cons_succ, Nat.zero_add, Nat.reduceAdd] at hK ⊢; go_simp; exact hK _ _ (Below.refl _ _) rfl))
              refine And.intro (fun vals W hW hd K hK => ?_) ?_
              · (focus ((have HKW := HK.out.past hW); (have p0 := HKW.c0); (have p1 := HKW.c1); simp only [fl, Act.put, List.setIfInBounds_toArray, List.set_cons_zero, List.set_cons_succ, Nat.zero_add, Nat.reduceAdd] at hK ⊢; go_simp; exact hK _ _ (Below.refl _ _) rfl))
              refine And.intro (fun vals W hW hd K hK => ?_) ?_
              · (focus ((have HKW := HK.out.past hW); (have p0 := HKW.c0); (have p1 := HKW.c1); simp only [fl, Act.put, List.setIfInBounds_toArray, List.set_cons_zero, List.set_cons_succ, Nat.zero_add, Nat.reduceAdd] at hK ⊢; go_simp; exact hK _ _ (Below.refl _ _) rfl))
              refine And.intro (fun vals W hW hd K hK => ?_) ?_
              · (focus ((have HKW := HK.out.past hW); (have p0 := HKW.c0); (have p1 := HKW.c1); simp only [fl, Act.put, List.setIfInBounds_toArray, List.set_cons_zero, List.set_cons_succ, Nat.zero_add, Nat.reduceAdd] at hK ⊢; go_simp; exact hK _ _ (Below.refl _ _) rfl))
              refine And.intro (fun vals W hW hd K hK => ?_) ?_
              · (focus ((have h0 : vals 0 = FiV 3 0 := hd 0 (of_decide_eq_true (by kernel_rfl))); (have h1 : vals 1 = FiV 3 0 := hd 1 (of_decide_eq_true (by kernel_rfl))); (have h2 : vals 2 = FiV 3 0 := hd 2 (of_decide_eq_true (by kernel_rfl))); (have h3 : vals 3 = FiV 3 0 := hd 3 (of_decide_eq_true (by kernel_rfl))); simp only [fl, Act.put, List.setIfInBounds_toArray, List.set_cons_zero, List.set_cons_succ, Nat.zero_add, Nat.reduceAdd] at hK ⊢; rw [h0, h1, h2, h3] at hK ⊢; unfold FiV at hK ⊢; go_simp; refine hK _ _ (grows_alloc _ _) ⟨_, _, _, rfl, inf_lit (Lies.fresh W 23 [.int .u8 3, .int .i64 0, .int .u8 3, .int .i64 0, .int .u8 3, .int .i64 0, .int .u8 3, .int .i64 0]) rfl rfl (by omega) (inf_bd rfl)⟩))
              refine And.intro (fun vals W hW hd K hK => ?_) ?_
              · (focus (simp only [fl, Act.put, List.setIfInBounds_toArray, List.set_cons_zero, List.set_cons_succ, Nat.zero_add, Nat.reduceAdd] at hK ⊢; (have hmk : ∀ W : World, (Instr.makeSlice 24 (.int .i64 2000) (.int .i64 2000)).run Try.prog W = .ok (.slice (some ⟨W.heap.size, 0, none⟩) 2000 2000) (W.alloc (.cells (zC 2000) 5)) := fun W => mkz 2000 (by omega) W); go_simp; exact hK _ _ (grows_alloc _ _) ⟨_, _, _, rfl, ib_zero W 2000 (by omega)⟩))
              refine And.intro (fun vals W hW hd K hK => ?_) ?_
              · (focus (obtain ⟨A0, n0, c0, e0, i0⟩ : FilV runs4 (vals 4) W := hd 4 (of_decide_eq_true (by kernel_rfl)); obtain ⟨A1, n1, c1, e1, i1⟩ : RowV (List.replicate 2000 0) (vals 5) W := hd 5 (of_decide_eq_true (by kernel_rfl)); simp only [fl, Act.put, List.setIfInBounds_toArray, List.set_cons_zero, List.set_cons_succ, Nat.zero_add, Nat.reduceAdd] at hK ⊢; rw [e0, e1] at hK ⊢; go_simp; refine (Apply_any runs4 A0 A1 n0 c0 n1 c1 (List.replicate 2000 0) _ i0 i1).mono ?_; rintro e w' ⟨hres, bn⟩; obtain ⟨A2, c2, he, o2⟩ := Res.get hres NE.out; subst he; refine hK _ _ bn ?_; rw [f22_6]; exact ⟨A2, wh.length, c2, rfl, ib_ownz o2 rfl NB.out⟩))
              refine And.intro (fun vals W hW hd K hK => ?_) ?_
              · (focus ((have e7 := hd 6 (of_decide_eq_true (by kernel_rfl))); clear hd; rw [f22_6] at e7; simp only [fl, Act.put, List.setIfInBounds_toArray, List.set_cons_zero, List.set_cons_succ, Nat.zero_add, Nat.reduceAdd] at hK ⊢; refine TupV.elim e7 (fun A0 n0 c0 e0 i0 => ?_); clear e7; rw [e0] at hK ⊢; go_simp; refine hK _ _ (Below.refl _ _) ?_; rw [f22_7]; exact ⟨_, _, _, rfl, i0⟩))
              refine And.intro (fun vals W hW hd K hK => ?_) ?_
              · (focus ((have e7 := hd 7 (of_decide_eq_true (by kernel_rfl))); clear hd; rw [f22_7] at e7; simp only [fl, Act.put, List.setIfInBounds_toArray, List.set_cons_zero, List.set_cons_succ, Nat.zero_add, Nat.reduceAdd] at hK ⊢; refine TupV.elim e7 (fun A0 n0 c0 e0 i0 => ?_); clear e7; rw [e0] at hK ⊢; go_simp; refine hK _ _ (Below.refl _ _) ?_; rw [f22_8]; exact ⟨_, _, _, rfl, i0⟩))
              refine And.intro (fun vals W hW hd K hK => ?_) ?_
              · (focus ((have e7 := hd 7 (of_decide_eq_true (by kernel_rfl))); clear hd; rw [f22_7] at e7; simp only [fl, Act.put, List.setIfInBounds_toArray, List.set_cons_zero, List.set_cons_succ, Nat.zero_add, Nat.reduceAdd] at hK ⊢; refine TupV.elim e7 (fun A0 n0 c0 e0 i0 => ?_); clear e7; rw [e0] at hK ⊢; go_simp; refine hK _ _ (Below.refl _ _) ?_; rw [f22_9]))
              refine And.intro (fun vals W hW hd K hK => ?_) ?_
              · (focus ((have e7 := hd 8 (of_decide_eq_true (by kernel_rfl))); clear hd; rw [f22_8] at e7; simp only [fl, Act.put, List.setIfInBounds_toArray, List.set_cons_zero, List.set_cons_succ, Nat.zero_add, Nat.reduceAdd] at hK ⊢; refine RowV.elim e7 (fun A0 n0 c0 e0 i0 => ?_); clear e7; rw [e0] at hK ⊢; go_simp; refine hK _ _ (Below.refl _ _) ?_; rw [f22_10]; exact ⟨_, _, _, rfl, i0⟩))
              refine And.intro (fun vals W hW hd K hK => ?_) ?_
              · (focus ((have e7 := hd 9 (of_decide_eq_true (by kernel_rfl))); clear hd; rw [f22_9] at e7; simp only [fl, Act.put, List.setIfInBounds_toArray, List.set_cons_zero, List.set_cons_succ, Nat.zero_add, Nat.reduceAdd] at hK ⊢; rw [e7] at hK ⊢; go_simp; refine hK _ _ (Below.refl _ _) ?_; rw [f22_11]))
              exact trivial
            case fin =>
              intro vals22 W22 hW hall
              have e10 := hall 10 (by decide)
              have h11 := hall 11 (by decide)
              rw [f22_10] at e10
              rw [f22_11] at h11
              obtain ⟨A10, n10, c10, e10, i10⟩ := e10
              have I10 := Lib.hid i10
              simp only [fl, Act.put, List.setIfInBounds_toArray, List.set_cons_zero, List.set_cons_succ, Nat.zero_add, Nat.reduceAdd]
              rw [e10, h11]
              have hz := hW; have HK := Lib.hid (HK.out.past hz); have HW := Lib.hid (HW.out.trans (hz.mono HW.out.size)); clear hz
              clear hall hW e10 h11 i10
              have p0 := HK.out.c0
              have p1 := HK.out.c1
              go_wp2_with fail
              refine (Undo_any runs4 _ A10 4 4 n10 c10 wh _ (inf_lit (Lies.fresh W22 23 [.int .u8 3, .int .i64 0, .int .u8 3, .int .i64 0, .int .u8 3, .int .i64 0, .int .u8 3, .int .i64 0]) rfl rfl (by omega) (inf_bd rfl)) (I10.out.below (grows_alloc _ _))).mono ?_
              rintro e W23 ⟨hres, bn⟩
              obtain ⟨A11, c11, he, o11⟩ := Res.get hres NF.out
              subst he
              rw [List.length_replicate] at o11 ⊢
              have O11 := Lib.hid (ib_ownz o11 (by simp) (byt_repl 2000 (by decide) (by decide)))
              have hz := ((Below.refl (W22).heap.size W22).alloc (Nat.le_refl _) _).trans (bn.mono (by simp)); have HK := Lib.hid (HK.out.past hz); have HW := Lib.hid (HW.out.trans (hz.mono HW.out.size)); clear hz
              clear bn hres o11 p0 p1
              go_wp2_with fail
              generalize hwL : W23 = wL at *
              clear hwL
              go_loopw [33, 34] (fun v j wr => ∃ (k t : Nat) (B : Option Addr) (d : Nat), k ≤ 40 ∧ t = 3 * k ∧ j = .int .i64 k ∧ v = .slice B t d ∧ OwnI wr wL.heap.size 5 .u8 (.slice B t d) (wide k) ∧ Below wL.heap.size wL wr) (fun _ j _ => 40 - (intOf j).toNat)
              case atStart => exact ⟨0, 0, none, 0, by omega, rfl, rfl, rfl, OwnI.nil _ _ _ _, Below.refl _ _⟩
              case round =>
                obtain ⟨k, t, B, d, hk, ht, rfl, rfl, own, acc⟩ := hrel
                have HO := Lib.hid own
                have HA := Lib.hid acc
                have HT := Lib.hid ht
                by_cases hlt : k < 40
                · have HLT := Lib.hid hlt
                  have k1 : (k : Int) < 40 := by omega
                  have w1 : IntKind.u8.wrap (k : Int) = (k : Int) := IntWalk.u8_in _ (by omega)
                  clear hk ht own acc hlt
                  go_wp2_with ((at_builtin; refine app8 rfl _ _ rfl wL.heap.size _ (wide k) rfl (HO.out.below ((Below.refl _ _).alloc (Nat.le_refl _) _) (Nat.le_refl _)) (some ⟨_, 0, none⟩) 3 3 [(k : Int), (k : Int), 255] rfl rfl (has_lit (zs := [(k : Int), (k : Int), 255]) rfl (by simp [maxLen])) (t + 3) (by rw [wide_len, HT.out]) (by have := HLT.out; have := HT.out; omega) (by have := HA.out.size; simp; omega) ?_; intro A4 c4 w4 ho4 hg4 hb4; have HO4 := Lib.hid ho4; have HA4 := Lib.hid ((Below.alloc HA.out HA.out.size _).trans hb4); clear ho4 hg4 hb4))
                  go_roundw
                  case rel => exact ⟨k + 1, t + 3, A4, c4, HLT.out, by have := HT.out; omega, by go_num, rfl, by rw [wide]; exact HO4.out, HA4.out⟩
                  case measure => simp [intOf]; have := HLT.out; omega
                · obtain rfl : k = 40 := by omega
                  have k1 : ¬ ((40 : Nat) : Int) < 40 := by omega
                  obtain rfl : t = 120 := by omega
                  have HKK := Lib.hid (HK.out.past acc)
                  have HWW := Lib.hid (HW.out.trans (acc.mono HW.out.size))
                  have O11 := Lib.hid (O11.out.below acc)
                  have IW0 := ib_ownz (.inl own) (by rw [wide_len]) (wide_byt 40 (by omega))
                  obtain ⟨wd, hwd⟩ : ∃ s, wide 40 = s := ⟨_, rfl⟩
                  have NG : Hid (backO (3, 0) wd = none) := Lib.hid (by rw [← hwd]; exact nv_g)
                  have NX : Hid (backE (3, 0) wd = 12) := Lib.hid (by rw [← hwd]; unfold backE; rw [if_pos (by decide), if_pos (by rw [wide_len]; omega)])
                  rw [hwd] at IW0 own
                  have IW := Lib.hid IW0
                  clear hwd IW0
                  clear hk own acc hlt HO HA HT ht
                  have p0 := HKK.out.c0
                  have p1 := HKK.out.c1
                  go_wp2_with fail
                  refine (Back_any 3 0 wd B 120 d _ IW.out).mono ?_
                  rintro e W29 ⟨hres, bn⟩
                  have he := Res.gone hres NG.out
                  subst he
                  rw [NX.out]
                  have O11 := Lib.hid (O11.out.below bn)
                  have HWW := Lib.hid (HWW.out.trans (bn.mono HWW.out.size))
                  clear bn hres p0 p1
                  have m1 : ∀ W : World, (Instr.makeSlice 24 (.int .i64 2000) (.int .i64 2000)).run Try.prog W = .ok (.slice (some ⟨W.heap.size, 0, none⟩) 2000 2000) (W.alloc (.cells (zC 2000) 5)) := fun W => mkz 2000 (by omega) W
                  go_wp2_with fail
                  refine (same_yes _ _ 2000 c11 2000 (List.replicate 2000 0) _ (O11.out.below (grows_alloc _ _)).h (ib_zero _ 2000 (by omega)).h (by simp) (by omega)).mono ?_
                  rintro e W30 ⟨rfl, bn⟩
                  have HWW := Lib.hid (HWW.out.trans (((grows_alloc _ _).trans (bn.mono (by simp))).mono HWW.out.size))
                  clear bn m1
                  go_wp2_with fail
                  refine (alive_yes _).mono ?_
                  rintro e W31 ⟨rfl, bn⟩
                  have HWW := Lib.hid (HWW.out.trans (bn.mono HWW.out.size))
                  clear bn
                  go_wp2_with fail
                  go_ret
                  exact ⟨rfl, HWW.out⟩
end Go.Proofs.Ytbfodmckgjeoaaa.fiL
