/- EncoderNames: the encoders that are not valid. -/
import Derived.Test.YtdnccnaihkajmaaEncL5
import Derived.Test.YtdnccnaihkajmaaMake
namespace Go.Proofs.Ytdnccnaihkajmaa.encL
open Go.RowKit Go.Proofs.Ytdnccnaihkajmaa.base Go.Proofs.Ytdnccnaihkajmaa.encP Go.Proofs.Ytdnccnaihkajmaa.encW
set_option linter.unusedVariables false
set_option linter.unusedSimpArgs false

/-- What stands behind a region, as a name: the steps of the walk need not look at it. -/
theorem wpAny_gen {P : Program} {md : Region.Mode} {ops : Array Oper} {Q : Exit → Act → World → Prop} {fuel : Nat} {listed : Array Bool} {a : Act} {w : World}
    (h : ∀ Q' : Exit → Act → World → Prop, (∀ a w, Q .normal a w → Q' .normal a w) → wpAny P md ops Q' fuel listed a w) : wpAny P md ops Q fuel listed a w :=
  h Q (fun _ _ h => h)
/-- Ways that meet again: what follows is shown once. -/
theorem join_at {p q : Prop} (h : p → q) (k : p) : q := h k
theorem Put_no (x1 x2 p : Int) (b : Bool) (A : Option Addr) (n c : Nat) (zs : List Int) (w : World) (a1 : 0 ≤ x1) (a2 : x1 ≤ 4294967295) (b1 : 0 ≤ x2) (b2 : x2 ≤ 4294967295) (hA : Has .u8 w A zs) (hn : zs.length = n) (hc : n ≤ c) (m : n ≤ 140737488355000) (hok : encOk x1 x2 n = false) :
    Calls Try.prog 11 #[.agg #[.int .u32 (x1), .int .u32 (x2), .slice (A) (n) (c)], .int .i64 p, .bool b] w fun e w' => ∃ A' c', e = .returned (.tuple #[.agg #[.int .u32 (0), .int .u32 (0), .slice (A') (0) (c')], .int .i64 8]) ∧ Below w.heap.size w w' := by
  subst hn
  have he := puE_bad p b hok
  have hv := puV_no (x1 := x1) (x2 := x2) (zs := zs) (p := p) (b := b) (by rw [he]; omega)
  refine (Put_any x1 x2 p b A zs.length c zs w a1 a2 b1 b2 hA rfl hc (by omega)).mono ?_
  rintro e w' ⟨A', c', rfl, h1, h2, h3⟩
  rw [hv, he]
  exact ⟨A', c', rfl, h3⟩
theorem End_no (x1 x2 : Int) (A : Option Addr) (n c : Nat) (zs : List Int) (w : World) (a1 : 0 ≤ x1) (a2 : x1 ≤ 4294967295) (b1 : 0 ≤ x2) (b2 : x2 ≤ 4294967295) (hA : Has .u8 w A zs) (hn : zs.length = n) (hc : n ≤ c) (m : n ≤ 140737488355000) (hok : encOk x1 x2 n = false) :
    Calls Try.prog 13 #[.agg #[.int .u32 (x1), .int .u32 (x2), .slice (A) (n) (c)]] w fun e w' => ∃ A' c', e = .returned (.tuple #[.slice A' 0 c', .int .i64 8]) ∧ Below w.heap.size w w' := by
  subst hn
  have he := enE_bad (x1 := x1) (x2 := x2) hok
  have hv := enV_no (x1 := x1) (x2 := x2) (zs := zs) (by rw [he]; omega)
  refine (End_any x1 x2 A zs.length c zs w a1 a2 b1 b2 hA rfl hc (by omega)).mono ?_
  rintro e w' ⟨A', c', rfl, h1, h2, h3⟩
  rw [hv, he]
  exact ⟨A', c', rfl, h3⟩
theorem Check_no (x1 x2 : Int) (A : Option Addr) (n c : Nat) (w : World) (a1 : 0 ≤ x1) (a2 : x1 ≤ 4294967295) (b1 : 0 ≤ x2) (b2 : x2 ≤ 4294967295) (m : n ≤ 9223372036854775807) (hok : encOk x1 x2 n = false) :
    Calls Try.prog 18 #[.agg #[.int .u32 (x1), .int .u32 (x2), .slice (A) (n) (c)]] w fun e w' => e = .returned (.int .i64 8) ∧ Below w.heap.size w w' := by
  have := Check_any x1 x2 A n c w a1 a2 b1 b2 m
  rwa [ckV, hok] at this
theorem Put_e (x1 x2 p : Int) (b : Bool) (A : Option Addr) (n c : Nat) (zs : List Int) (e0 : Int) (w : World) (a1 : 0 ≤ x1) (a2 : x1 ≤ 4294967295) (b1 : 0 ≤ x2) (b2 : x2 ≤ 4294967295) (hA : Has .u8 w A zs) (hn : zs.length = n) (hc : n ≤ c) (m : n ≤ 140737488355000) (he : puE x1 x2 n p b = e0) (h0 : e0 ≠ 0) :
    Calls Try.prog 11 #[.agg #[.int .u32 (x1), .int .u32 (x2), .slice (A) (n) (c)], .int .i64 p, .bool b] w fun e w' => ∃ A' c', e = .returned (.tuple #[.agg #[.int .u32 (0), .int .u32 (0), .slice (A') (0) (c')], .int .i64 e0]) ∧ Below w.heap.size w w' := by
  subst hn
  have hv := puV_no (x1 := x1) (x2 := x2) (zs := zs) (p := p) (b := b) (by rw [he]; exact h0)
  refine (Put_any x1 x2 p b A zs.length c zs w a1 a2 b1 b2 hA rfl hc (by omega)).mono ?_
  rintro e w' ⟨A', c', rfl, h1, h2, h3⟩
  rw [hv, he]
  exact ⟨A', c', rfl, h3⟩
theorem End_e (x1 x2 : Int) (A : Option Addr) (n c : Nat) (zs : List Int) (e0 : Int) (w : World) (a1 : 0 ≤ x1) (a2 : x1 ≤ 4294967295) (b1 : 0 ≤ x2) (b2 : x2 ≤ 4294967295) (hA : Has .u8 w A zs) (hn : zs.length = n) (hc : n ≤ c) (m : n ≤ 140737488355000) (he : enE x1 x2 n = e0) (h0 : e0 ≠ 0) :
    Calls Try.prog 13 #[.agg #[.int .u32 (x1), .int .u32 (x2), .slice (A) (n) (c)]] w fun e w' => ∃ A' c', e = .returned (.tuple #[.slice A' 0 c', .int .i64 e0]) ∧ Below w.heap.size w w' := by
  subst hn
  have hv := enV_no (x1 := x1) (x2 := x2) (zs := zs) (by rw [he]; exact h0)
  refine (End_any x1 x2 A zs.length c zs w a1 a2 b1 b2 hA rfl hc (by omega)).mono ?_
  rintro e w' ⟨A', c', rfl, h1, h2, h3⟩
  rw [hv, he]
  exact ⟨A', c', rfl, h3⟩
theorem End_len (x1 x2 : Int) (A : Option Addr) (n c m : Nat) (zs : List Int) (w : World) (a1 : 0 ≤ x1) (a2 : x1 ≤ 4294967295) (b1 : 0 ≤ x2) (b2 : x2 ≤ 4294967295) (hA : Has .u8 w A zs) (hn : zs.length = n) (hc : n ≤ c) (he : enE x1 x2 n = 0) (hm : n + 4 = m) (hl : n ≤ 20000) :
    Calls Try.prog 13 #[.agg #[.int .u32 (x1), .int .u32 (x2), .slice (A) (n) (c)]] w fun e w' => ∃ A' c', e = .returned (.tuple #[.slice A' m c', .int .i64 0]) ∧ Below w.heap.size w w' := by
  subst hn
  have hv := enV_yes he
  refine (End_any x1 x2 A zs.length c zs w a1 a2 b1 b2 hA rfl hc (by omega)).mono ?_
  rintro e w' ⟨A', c', rfl, h1, h2, h3⟩
  rw [hv, he, List.length_append, b4_len, hm]
  exact ⟨A', c', rfl, h3⟩
theorem Run_e (A Bb : Option Addr) (lp cp lb cb : Nat) (ps : List Int) (bs : List Bool) (e0 : Int) (w : World) (hA : Has .i64 w A ps) (el : ps.length = lp) (m1 : lp ≤ 9223372036854775807) (hB : HasB w Bb bs) (eb : bs.length = lb) (m2 : lb ≤ 9223372036854775807) (he : rnE ps lb = e0) (h0 : e0 ≠ 0) :
    Calls Try.prog 20 #[.slice A lp cp, .slice Bb lb cb] w fun e w' => ∃ A' c', e = .returned (.tuple #[.slice A' 0 c', .int .i64 e0]) ∧ Below w.heap.size w w' := by
  subst eb
  have hv := rnV_no (ps := ps) (bs := bs) (by rw [he]; exact h0)
  refine (Run_any A Bb lp cp bs.length cb ps bs w hA el m1 hB rfl m2).mono ?_
  rintro e w' ⟨A', c', rfl, h1, h2, h3⟩
  rw [hv, he]
  exact ⟨A', c', rfl, h3⟩
theorem m20000 (w : World) : (Instr.makeSlice 23 (.int .i64 20000) (.int .i64 20000)).run Try.prog w = .ok (.slice (some ⟨w.heap.size, 0, none⟩) 20000 20000) (w.alloc (.cells (zCells 20000) 5)) := mk8 20000 (by omega) w
theorem m19996 (w : World) : (Instr.makeSlice 23 (.int .i64 19996) (.int .i64 19996)).run Try.prog w = .ok (.slice (some ⟨w.heap.size, 0, none⟩) 19996 19996) (w.alloc (.cells (zCells 19996) 5)) := mk8 19996 (by omega) w
theorem m2001 (w : World) : (Instr.makeSlice 45 (.int .i64 2001) (.int .i64 2001)).run Try.prog w = .ok (.slice (some ⟨w.heap.size, 0, none⟩) 2001 2001) (w.alloc (.cells (bCells 2001) 4)) := mkB 2001 (by omega) w
theorem m2 (w : World) : (Instr.makeSlice 45 (.int .i64 2) (.int .i64 2)).run Try.prog w = .ok (.slice (some ⟨w.heap.size, 0, none⟩) 2 2) (w.alloc (.cells (bCells 2) 4)) := mkB 2 (by omega) w
theorem m1 (w : World) : (Instr.makeSlice 45 (.int .i64 1) (.int .i64 1)).run Try.prog w = .ok (.slice (some ⟨w.heap.size, 0, none⟩) 1 1) (w.alloc (.cells (bCells 1) 4)) := mkB 1 (by omega) w
theorem mi3 (w : World) : (Instr.makeSlice 44 (.int .i64 3) (.int .i64 3)).run Try.prog w = .ok (.slice (some ⟨w.heap.size, 0, none⟩) 3 3) (w.alloc (.cells #[.int .i64 0, .int .i64 0, .int .i64 0] 3)) := by kernel_rfl
theorem nvals : puE 0 4294967295 0 4096 true = 2 ∧ puE 0 4294967295 0 (-1) true = 2 ∧ spV 6 6 1 = 0 ∧ spE 6 6 1 = 2 ∧ spV 7 6 1 = 0 ∧ spE 7 6 1 = 2 ∧ spV 0 1 4096 = 0 ∧ spE 0 1 4096 = 2 ∧ puE 16777215 16777216 20000 0 true = 4 ∧ enE 16777215 16777216 20000 = 4 ∧ enE 0 4294967295 19996 = 0 ∧ rnE [0, 0, 0] 2001 = 4 ∧ rnE [0, 0, 0] 2 = 2 ∧ rnE [4096] 1 = 2 ∧ rnE [] 0 = 0 ∧ rnV [] [] = [0, 0, 0, 0] ∧ puE 16777215 16777216 0 0 true = 0 ∧ puV 16777215 16777216 [] 0 true = (0, 4294967295, [0, 255, 255, 255]) := by decide +kernel
theorem has_two {W : World} {o : Obj} {e : TypeId} {k : IntKind} {zs : List Int} {g : Nat} (hg : W.heap.size = g) (hl : zs.length ≤ maxLen) : Has k ((W.alloc (.cells (zs.map (Value.int k)).toArray e)).alloc o) (some ⟨g, 0, none⟩) zs := (has_lit hg hl).below ((Below.refl _ _).alloc (Nat.le_refl _) _) (Nat.le_refl _)
theorem hasb_two {W : World} {o : Obj} {e : TypeId} {n : Nat} {g : Nat} (hg : W.heap.size = g) (hl : n ≤ maxLen) : HasB ((W.alloc (.cells (bCells n) e)).alloc o) (some ⟨g, 0, none⟩) (List.replicate n false) := (has_b W e n hl hg).below ((Below.refl _ _).alloc (Nat.le_refl _) _) (Nat.le_refl _)
theorem bs2 : bstr [0, 0, 0, 0] = ⟨#[0, 0, 0, 0]⟩ ∧ bstr [0, 255, 255, 255] = ⟨#[0, 255, 255, 255]⟩ := by decide +kernel
theorem names_cv {u : World} {A B : Option Addr} (hA : Has .u8 u A [0, 0, 0, 0]) (hB : Has .u8 u B [0, 255, 255, 255]) (c d : Nat) :
    ((convert 23 9 (.slice A 4 c)).run Try.prog (u) = .ok (.string ⟨#[0, 0, 0, 0]⟩) (u)) ∧ ((convert 23 9 (.slice A 4 c)).run Try.prog (((u).alloc (.cells #[.int .u8 0, .int .u8 0, .int .u8 0, .int .u8 0] 5))) = .ok (.string ⟨#[0, 0, 0, 0]⟩) (((u).alloc (.cells #[.int .u8 0, .int .u8 0, .int .u8 0, .int .u8 0] 5)))) ∧ ((convert 23 9 (.slice (some ⟨u.heap.size, 0, none⟩) 4 4)).run Try.prog (((u).alloc (.cells #[.int .u8 0, .int .u8 0, .int .u8 0, .int .u8 0] 5))) = .ok (.string ⟨#[0, 0, 0, 0]⟩) (((u).alloc (.cells #[.int .u8 0, .int .u8 0, .int .u8 0, .int .u8 0] 5)))) ∧ ((convert 23 9 (.slice B 4 d)).run Try.prog (((u).alloc (.cells #[.int .u8 0, .int .u8 0, .int .u8 0, .int .u8 0] 5))) = .ok (.string ⟨#[0, 255, 255, 255]⟩) (((u).alloc (.cells #[.int .u8 0, .int .u8 0, .int .u8 0, .int .u8 0] 5)))) ∧ ((convert 23 9 (.slice B 4 d)).run Try.prog (((((u).alloc (.cells #[.int .u8 0, .int .u8 0, .int .u8 0, .int .u8 0] 5))).alloc (.cells #[.int .u8 0, .int .u8 255, .int .u8 255, .int .u8 255] 5))) = .ok (.string ⟨#[0, 255, 255, 255]⟩) (((((u).alloc (.cells #[.int .u8 0, .int .u8 0, .int .u8 0, .int .u8 0] 5))).alloc (.cells #[.int .u8 0, .int .u8 255, .int .u8 255, .int .u8 255] 5)))) ∧ ((convert 23 9 (.slice (some ⟨u.heap.size + 1, 0, none⟩) 4 4)).run Try.prog (((((u).alloc (.cells #[.int .u8 0, .int .u8 0, .int .u8 0, .int .u8 0] 5))).alloc (.cells #[.int .u8 0, .int .u8 255, .int .u8 255, .int .u8 255] 5))) = .ok (.string ⟨#[0, 255, 255, 255]⟩) (((((u).alloc (.cells #[.int .u8 0, .int .u8 0, .int .u8 0, .int .u8 0] 5))).alloc (.cells #[.int .u8 0, .int .u8 255, .int .u8 255, .int .u8 255] 5)))) := by
  have k1 : Below u.heap.size u (((u).alloc (.cells #[.int .u8 0, .int .u8 0, .int .u8 0, .int .u8 0] 5))) := (Below.refl _ _).alloc (Nat.le_refl _) _
  have k2 : Below u.heap.size u (((((u).alloc (.cells #[.int .u8 0, .int .u8 0, .int .u8 0, .int .u8 0] 5))).alloc (.cells #[.int .u8 0, .int .u8 255, .int .u8 255, .int .u8 255] 5))) := k1.alloc (by simp) _
  refine ⟨cvA hA (Below.refl _ _) rfl bs2.1, cvA hA k1 rfl bs2.1, cvA (has_lit (w := u) (zs := [0, 0, 0, 0]) rfl (by decide)) (Below.refl _ _) rfl bs2.1, cvA hB k1 rfl bs2.2, cvA hB k2 rfl bs2.2, cvA (has_lit (w := ((u).alloc (.cells #[.int .u8 0, .int .u8 0, .int .u8 0, .int .u8 0] 5))) (zs := [0, 255, 255, 255]) (by simp) (by decide)) (Below.refl _ _) rfl bs2.2⟩
theorem m20001 (w : World) : (Instr.makeSlice 23 (.int .i64 20001) (.int .i64 20001)).run Try.prog w = .ok (.slice (some ⟨w.heap.size, 0, none⟩) 20001 20001) (w.alloc (.cells (zCells 20001) 5)) := mk8 20001 (by omega) w
set_option maxRecDepth 1000000 in
set_option maxHeartbeats 200000000 in
theorem names_t (w : World) : Calls Try.prog 5 #[] w fun e w' => e = .returned (.bool true) ∧ Below w.heap.size w w' := by
  have hm := m20001
  go_enter Try.func5, Try.ntmps5
  go_wp2_with fail
  go_loopw [2] (fun i wr => ∃ k : Nat, k ≤ 5 ∧ i = .int .i64 k ∧ Lies wr (w.heap.size + 1) 25 [.int .u32 0, .int .u32 0, .slice none 0 0, .int .u32 5, .int .u32 5, .slice none 0 0, .int .u32 5, .int .u32 6, .slice none 0 0, .int .u32 16777216, .int .u32 16777215, .slice none 0 0, .int .u32 0, .int .u32 4294967295, .slice (some ⟨w.heap.size, 0, none⟩) 20001 20001] ∧ Has .u8 wr (some ⟨w.heap.size, 0, none⟩) (List.replicate 20001 0) ∧ Below w.heap.size w wr) (fun i _ => 5 - (intOf i).toNat)
  case atStart => exact ⟨0, by omega, rfl, Lies.fresh_at (by simp), (has_z w _ 20001 (by decide) rfl).below ((Below.refl _ _).alloc (Nat.le_refl _) _) (Nat.le_refl _), by (repeat' (first | (with_reducible exact Below.refl _ _) | (with_reducible assumption) | (with_reducible refine below_drewN ?_ _) | (with_reducible refine below_new ?_ _) | (with_reducible refine Below.alloc ?_ ?_ _) | (with_reducible refine Below.drew ?_) | (with_reducible refine Below.setCell ?_ ?_ _) | (with_reducible apply below_at; (case k => (with_reducible assumption)); (case hB => omega)) | (with_reducible apply below_on; (with_reducible assumption)) | (go_size; done) | (with_reducible apply size_of)))⟩
  case round =>
    obtain ⟨k, hk, rfl, K, Z, W⟩ := hrel
    have HK := Lib.hid K
    have HZ := Lib.hid Z
    have HW := Lib.hid W
    have ltk := K.lt
    clear K Z W hm
    by_cases hlt : k < 5
    · rcases (show k = 0 ∨ k = 1 ∨ k = 2 ∨ k = 3 ∨ k = 4 by omega) with rfl | rfl | rfl | rfl | rfl
      · as_aux_lemma =>
          ((have a0 := (HK.out).cell 0; have a1 := (HK.out).cell 1; have a2 := (HK.out).cell 2; simp only [List.getElem?_cons_zero, List.getElem?_cons_succ] at a0 a1 a2)); (go_wp2_with fail); (refine (Put_no (0) (0) (-1) true (none) (0) (0) ([]) _ (by omega) (by omega) (by omega) (by omega) (.inl rfl) (by simp) (by omega) (by omega) (by decide)).mono ?_); (rintro e w1 ⟨A1, c1, rfl, hb1⟩); (have HW1 := Lib.hid (HW.out.trans (hb1.mono HW.out.size))); (have HK1 := Lib.hid (HK.out.past hb1)); (have HZ1 := Lib.hid (HZ.out.below hb1 (Nat.le_refl _))); (have HB1 := Lib.hid hb1); (clear hb1 a0 a1 a2); ((have a0 := (HK1.out).cell 0; have a1 := (HK1.out).cell 1; have a2 := (HK1.out).cell 2; simp only [List.getElem?_cons_zero, List.getElem?_cons_succ] at a0 a1 a2)); (have lt1 := HK1.out.lt); (go_wp2_with fail); (refine (End_no (0) (0) (none) (0) (0) ([]) _ (by omega) (by omega) (by omega) (by omega) (Has.below (w := wr) (.inl rfl) (by have := HB1.out; (repeat' (first | (with_reducible exact Below.refl _ _) | (with_reducible assumption) | (with_reducible refine below_drewN ?_ _) | (with_reducible refine below_new ?_ _) | (with_reducible refine Below.alloc ?_ ?_ _) | (with_reducible refine Below.drew ?_) | (with_reducible refine Below.setCell ?_ ?_ _) | (with_reducible apply below_at; (case k => (with_reducible assumption)); (case hB => omega)) | (with_reducible apply below_on; (with_reducible assumption)) | (go_size; done) | (with_reducible apply size_of)))) (Nat.le_refl _)) (by simp) (by omega) (by omega) (by decide)).mono ?_); (rintro e w2 ⟨A2, c2, rfl, hb2⟩); (have HW2 : Hid (Below w.heap.size w w2) := Lib.hid (by have := HW1.out; (repeat' (first | (with_reducible exact Below.refl _ _) | (with_reducible assumption) | (with_reducible refine below_drewN ?_ _) | (with_reducible refine below_new ?_ _) | (with_reducible refine Below.alloc ?_ ?_ _) | (with_reducible refine Below.drew ?_) | (with_reducible refine Below.setCell ?_ ?_ _) | (with_reducible apply below_at; (case k => (with_reducible assumption)); (case hB => omega)) | (with_reducible apply below_on; (with_reducible assumption)) | (go_size; done) | (with_reducible apply size_of))))); (have HK2 := Lib.hid ((HK1.out.alloc _).past hb2)); (have HZ2 := Lib.hid (HZ1.out.below (((Below.refl _ _).alloc (Nat.le_refl _) _).trans (hb2.mono (by simp))) (Nat.le_refl _))); (clear hb2 a0 a1 a2); ((have a0 := (HK2.out).cell 0; have a1 := (HK2.out).cell 1; have a2 := (HK2.out).cell 2; simp only [List.getElem?_cons_zero, List.getElem?_cons_succ] at a0 a1 a2)); (have lt2 := HK2.out.lt); (go_wp2_with fail); (refine (Check_no (0) (0) (none) (0) (0) _ (by omega) (by omega) (by omega) (by omega) (by omega) (by decide)).mono ?_); (rintro e w3 ⟨rfl, hb3⟩); (go_wp2); (go_roundw); (case rel => exact ⟨1, by omega, (by first | rfl | go_num), HK2.out.past hb3, HZ2.out.below hb3 (Nat.le_refl _), HW2.out.trans (hb3.mono HW2.out.size)⟩); (case measure => simp [intOf])
      · as_aux_lemma =>
          ((have a0 := (HK.out).cell 3; have a1 := (HK.out).cell 4; have a2 := (HK.out).cell 5; simp only [List.getElem?_cons_zero, List.getElem?_cons_succ] at a0 a1 a2)); (go_wp2_with fail); (refine (Put_no (5) (5) (-1) true (none) (0) (0) ([]) _ (by omega) (by omega) (by omega) (by omega) (.inl rfl) (by simp) (by omega) (by omega) (by decide)).mono ?_); (rintro e w1 ⟨A1, c1, rfl, hb1⟩); (have HW1 := Lib.hid (HW.out.trans (hb1.mono HW.out.size))); (have HK1 := Lib.hid (HK.out.past hb1)); (have HZ1 := Lib.hid (HZ.out.below hb1 (Nat.le_refl _))); (have HB1 := Lib.hid hb1); (clear hb1 a0 a1 a2); ((have a0 := (HK1.out).cell 3; have a1 := (HK1.out).cell 4; have a2 := (HK1.out).cell 5; simp only [List.getElem?_cons_zero, List.getElem?_cons_succ] at a0 a1 a2)); (have lt1 := HK1.out.lt); (go_wp2_with fail); (refine (End_no (5) (5) (none) (0) (0) ([]) _ (by omega) (by omega) (by omega) (by omega) (Has.below (w := wr) (.inl rfl) (by have := HB1.out; (repeat' (first | (with_reducible exact Below.refl _ _) | (with_reducible assumption) | (with_reducible refine below_drewN ?_ _) | (with_reducible refine below_new ?_ _) | (with_reducible refine Below.alloc ?_ ?_ _) | (with_reducible refine Below.drew ?_) | (with_reducible refine Below.setCell ?_ ?_ _) | (with_reducible apply below_at; (case k => (with_reducible assumption)); (case hB => omega)) | (with_reducible apply below_on; (with_reducible assumption)) | (go_size; done) | (with_reducible apply size_of)))) (Nat.le_refl _)) (by simp) (by omega) (by omega) (by decide)).mono ?_); (rintro e w2 ⟨A2, c2, rfl, hb2⟩); (have HW2 : Hid (Below w.heap.size w w2) := Lib.hid (by have := HW1.out; (repeat' (first | (with_reducible exact Below.refl _ _) | (with_reducible assumption) | (with_reducible refine below_drewN ?_ _) | (with_reducible refine below_new ?_ _) | (with_reducible refine Below.alloc ?_ ?_ _) | (with_reducible refine Below.drew ?_) | (with_reducible refine Below.setCell ?_ ?_ _) | (with_reducible apply below_at; (case k => (with_reducible assumption)); (case hB => omega)) | (with_reducible apply below_on; (with_reducible assumption)) | (go_size; done) | (with_reducible apply size_of))))); (have HK2 := Lib.hid ((HK1.out.alloc _).past hb2)); (have HZ2 := Lib.hid (HZ1.out.below (((Below.refl _ _).alloc (Nat.le_refl _) _).trans (hb2.mono (by simp))) (Nat.le_refl _))); (clear hb2 a0 a1 a2); ((have a0 := (HK2.out).cell 3; have a1 := (HK2.out).cell 4; have a2 := (HK2.out).cell 5; simp only [List.getElem?_cons_zero, List.getElem?_cons_succ] at a0 a1 a2)); (have lt2 := HK2.out.lt); (go_wp2_with fail); (refine (Check_no (5) (5) (none) (0) (0) _ (by omega) (by omega) (by omega) (by omega) (by omega) (by decide)).mono ?_); (rintro e w3 ⟨rfl, hb3⟩); (go_wp2); (go_roundw); (case rel => exact ⟨2, by omega, (by first | rfl | go_num), HK2.out.past hb3, HZ2.out.below hb3 (Nat.le_refl _), HW2.out.trans (hb3.mono HW2.out.size)⟩); (case measure => simp [intOf])
      · as_aux_lemma =>
          ((have a0 := (HK.out).cell 6; have a1 := (HK.out).cell 7; have a2 := (HK.out).cell 8; simp only [List.getElem?_cons_zero, List.getElem?_cons_succ] at a0 a1 a2)); (go_wp2_with fail); (refine (Put_no (5) (6) (-1) true (none) (0) (0) ([]) _ (by omega) (by omega) (by omega) (by omega) (.inl rfl) (by simp) (by omega) (by omega) (by decide)).mono ?_); (rintro e w1 ⟨A1, c1, rfl, hb1⟩); (have HW1 := Lib.hid (HW.out.trans (hb1.mono HW.out.size))); (have HK1 := Lib.hid (HK.out.past hb1)); (have HZ1 := Lib.hid (HZ.out.below hb1 (Nat.le_refl _))); (have HB1 := Lib.hid hb1); (clear hb1 a0 a1 a2); ((have a0 := (HK1.out).cell 6; have a1 := (HK1.out).cell 7; have a2 := (HK1.out).cell 8; simp only [List.getElem?_cons_zero, List.getElem?_cons_succ] at a0 a1 a2)); (have lt1 := HK1.out.lt); (go_wp2_with fail); (refine (End_no (5) (6) (none) (0) (0) ([]) _ (by omega) (by omega) (by omega) (by omega) (Has.below (w := wr) (.inl rfl) (by have := HB1.out; (repeat' (first | (with_reducible exact Below.refl _ _) | (with_reducible assumption) | (with_reducible refine below_drewN ?_ _) | (with_reducible refine below_new ?_ _) | (with_reducible refine Below.alloc ?_ ?_ _) | (with_reducible refine Below.drew ?_) | (with_reducible refine Below.setCell ?_ ?_ _) | (with_reducible apply below_at; (case k => (with_reducible assumption)); (case hB => omega)) | (with_reducible apply below_on; (with_reducible assumption)) | (go_size; done) | (with_reducible apply size_of)))) (Nat.le_refl _)) (by simp) (by omega) (by omega) (by decide)).mono ?_); (rintro e w2 ⟨A2, c2, rfl, hb2⟩); (have HW2 : Hid (Below w.heap.size w w2) := Lib.hid (by have := HW1.out; (repeat' (first | (with_reducible exact Below.refl _ _) | (with_reducible assumption) | (with_reducible refine below_drewN ?_ _) | (with_reducible refine below_new ?_ _) | (with_reducible refine Below.alloc ?_ ?_ _) | (with_reducible refine Below.drew ?_) | (with_reducible refine Below.setCell ?_ ?_ _) | (with_reducible apply below_at; (case k => (with_reducible assumption)); (case hB => omega)) | (with_reducible apply below_on; (with_reducible assumption)) | (go_size; done) | (with_reducible apply size_of))))); (have HK2 := Lib.hid ((HK1.out.alloc _).past hb2)); (have HZ2 := Lib.hid (HZ1.out.below (((Below.refl _ _).alloc (Nat.le_refl _) _).trans (hb2.mono (by simp))) (Nat.le_refl _))); (clear hb2 a0 a1 a2); ((have a0 := (HK2.out).cell 6; have a1 := (HK2.out).cell 7; have a2 := (HK2.out).cell 8; simp only [List.getElem?_cons_zero, List.getElem?_cons_succ] at a0 a1 a2)); (have lt2 := HK2.out.lt); (go_wp2_with fail); (refine (Check_no (5) (6) (none) (0) (0) _ (by omega) (by omega) (by omega) (by omega) (by omega) (by decide)).mono ?_); (rintro e w3 ⟨rfl, hb3⟩); (go_wp2); (go_roundw); (case rel => exact ⟨3, by omega, (by first | rfl | go_num), HK2.out.past hb3, HZ2.out.below hb3 (Nat.le_refl _), HW2.out.trans (hb3.mono HW2.out.size)⟩); (case measure => simp [intOf])
      · as_aux_lemma =>
          ((have a0 := (HK.out).cell 9; have a1 := (HK.out).cell 10; have a2 := (HK.out).cell 11; simp only [List.getElem?_cons_zero, List.getElem?_cons_succ] at a0 a1 a2)); (go_wp2_with fail); (refine (Put_no (16777216) (16777215) (-1) true (none) (0) (0) ([]) _ (by omega) (by omega) (by omega) (by omega) (.inl rfl) (by simp) (by omega) (by omega) (by decide)).mono ?_); (rintro e w1 ⟨A1, c1, rfl, hb1⟩); (have HW1 := Lib.hid (HW.out.trans (hb1.mono HW.out.size))); (have HK1 := Lib.hid (HK.out.past hb1)); (have HZ1 := Lib.hid (HZ.out.below hb1 (Nat.le_refl _))); (have HB1 := Lib.hid hb1); (clear hb1 a0 a1 a2); ((have a0 := (HK1.out).cell 9; have a1 := (HK1.out).cell 10; have a2 := (HK1.out).cell 11; simp only [List.getElem?_cons_zero, List.getElem?_cons_succ] at a0 a1 a2)); (have lt1 := HK1.out.lt); (go_wp2_with fail); (refine (End_no (16777216) (16777215) (none) (0) (0) ([]) _ (by omega) (by omega) (by omega) (by omega) (Has.below (w := wr) (.inl rfl) (by have := HB1.out; (repeat' (first | (with_reducible exact Below.refl _ _) | (with_reducible assumption) | (with_reducible refine below_drewN ?_ _) | (with_reducible refine below_new ?_ _) | (with_reducible refine Below.alloc ?_ ?_ _) | (with_reducible refine Below.drew ?_) | (with_reducible refine Below.setCell ?_ ?_ _) | (with_reducible apply below_at; (case k => (with_reducible assumption)); (case hB => omega)) | (with_reducible apply below_on; (with_reducible assumption)) | (go_size; done) | (with_reducible apply size_of)))) (Nat.le_refl _)) (by simp) (by omega) (by omega) (by decide)).mono ?_); (rintro e w2 ⟨A2, c2, rfl, hb2⟩); (have HW2 : Hid (Below w.heap.size w w2) := Lib.hid (by have := HW1.out; (repeat' (first | (with_reducible exact Below.refl _ _) | (with_reducible assumption) | (with_reducible refine below_drewN ?_ _) | (with_reducible refine below_new ?_ _) | (with_reducible refine Below.alloc ?_ ?_ _) | (with_reducible refine Below.drew ?_) | (with_reducible refine Below.setCell ?_ ?_ _) | (with_reducible apply below_at; (case k => (with_reducible assumption)); (case hB => omega)) | (with_reducible apply below_on; (with_reducible assumption)) | (go_size; done) | (with_reducible apply size_of))))); (have HK2 := Lib.hid ((HK1.out.alloc _).past hb2)); (have HZ2 := Lib.hid (HZ1.out.below (((Below.refl _ _).alloc (Nat.le_refl _) _).trans (hb2.mono (by simp))) (Nat.le_refl _))); (clear hb2 a0 a1 a2); ((have a0 := (HK2.out).cell 9; have a1 := (HK2.out).cell 10; have a2 := (HK2.out).cell 11; simp only [List.getElem?_cons_zero, List.getElem?_cons_succ] at a0 a1 a2)); (have lt2 := HK2.out.lt); (go_wp2_with fail); (refine (Check_no (16777216) (16777215) (none) (0) (0) _ (by omega) (by omega) (by omega) (by omega) (by omega) (by decide)).mono ?_); (rintro e w3 ⟨rfl, hb3⟩); (go_wp2); (go_roundw); (case rel => exact ⟨4, by omega, (by first | rfl | go_num), HK2.out.past hb3, HZ2.out.below hb3 (Nat.le_refl _), HW2.out.trans (hb3.mono HW2.out.size)⟩); (case measure => simp [intOf])
      · as_aux_lemma =>
          ((have a0 := (HK.out).cell 12; have a1 := (HK.out).cell 13; have a2 := (HK.out).cell 14; simp only [List.getElem?_cons_zero, List.getElem?_cons_succ] at a0 a1 a2)); (go_wp2_with fail); (refine (Put_no (0) (4294967295) (-1) true (some ⟨w.heap.size, 0, none⟩) (20001) (20001) (List.replicate 20001 0) _ (by omega) (by omega) (by omega) (by omega) (HZ.out) (by simp) (by omega) (by omega) (by decide)).mono ?_); (rintro e w1 ⟨A1, c1, rfl, hb1⟩); (have HW1 := Lib.hid (HW.out.trans (hb1.mono HW.out.size))); (have HK1 := Lib.hid (HK.out.past hb1)); (have HZ1 := Lib.hid (HZ.out.below hb1 (Nat.le_refl _))); (have HB1 := Lib.hid hb1); (clear hb1 a0 a1 a2); ((have a0 := (HK1.out).cell 12; have a1 := (HK1.out).cell 13; have a2 := (HK1.out).cell 14; simp only [List.getElem?_cons_zero, List.getElem?_cons_succ] at a0 a1 a2)); (have lt1 := HK1.out.lt); (go_wp2_with fail); (refine (End_no (0) (4294967295) (some ⟨w.heap.size, 0, none⟩) (20001) (20001) (List.replicate 20001 0) _ (by omega) (by omega) (by omega) (by omega) (Has.below (w := wr) (HZ.out) (by have := HB1.out; (repeat' (first | (with_reducible exact Below.refl _ _) | (with_reducible assumption) | (with_reducible refine below_drewN ?_ _) | (with_reducible refine below_new ?_ _) | (with_reducible refine Below.alloc ?_ ?_ _) | (with_reducible refine Below.drew ?_) | (with_reducible refine Below.setCell ?_ ?_ _) | (with_reducible apply below_at; (case k => (with_reducible assumption)); (case hB => omega)) | (with_reducible apply below_on; (with_reducible assumption)) | (go_size; done) | (with_reducible apply size_of)))) (Nat.le_refl _)) (by simp) (by omega) (by omega) (by decide)).mono ?_); (rintro e w2 ⟨A2, c2, rfl, hb2⟩); (have HW2 : Hid (Below w.heap.size w w2) := Lib.hid (by have := HW1.out; (repeat' (first | (with_reducible exact Below.refl _ _) | (with_reducible assumption) | (with_reducible refine below_drewN ?_ _) | (with_reducible refine below_new ?_ _) | (with_reducible refine Below.alloc ?_ ?_ _) | (with_reducible refine Below.drew ?_) | (with_reducible refine Below.setCell ?_ ?_ _) | (with_reducible apply below_at; (case k => (with_reducible assumption)); (case hB => omega)) | (with_reducible apply below_on; (with_reducible assumption)) | (go_size; done) | (with_reducible apply size_of))))); (have HK2 := Lib.hid ((HK1.out.alloc _).past hb2)); (have HZ2 := Lib.hid (HZ1.out.below (((Below.refl _ _).alloc (Nat.le_refl _) _).trans (hb2.mono (by simp))) (Nat.le_refl _))); (clear hb2 a0 a1 a2); ((have a0 := (HK2.out).cell 12; have a1 := (HK2.out).cell 13; have a2 := (HK2.out).cell 14; simp only [List.getElem?_cons_zero, List.getElem?_cons_succ] at a0 a1 a2)); (have lt2 := HK2.out.lt); (go_wp2_with fail); (refine (Check_no (0) (4294967295) (some ⟨w.heap.size, 0, none⟩) (20001) (20001) _ (by omega) (by omega) (by omega) (by omega) (by omega) (by decide)).mono ?_); (rintro e w3 ⟨rfl, hb3⟩); (go_wp2); (go_roundw); (case rel => exact ⟨5, by omega, (by first | rfl | go_num), HK2.out.past hb3, HZ2.out.below hb3 (Nat.le_refl _), HW2.out.trans (hb3.mono HW2.out.size)⟩); (case measure => simp [intOf])
    · clear HK HZ ltk
      have NV := Lib.hid nvals
      have ha := m20000
      have hb := m19996
      have hc := m2001
      have hd := m2
      have he := m1
      have hf := mi3
      go_wp2_with fail
      refine (New_any _).mono ?_
      rintro e w1 ⟨rfl, hb1⟩
      have HW1 := Lib.hid (HW.out.trans (hb1.mono HW.out.size))
      clear hb1 HW
      go_wp2_with fail
      refine (Put_e 0 4294967295 4096 true none 0 0 [] 2 _ (by omega) (by omega) (by omega) (by omega) (.inl rfl) rfl (by omega) (by omega) NV.out.1 (by omega)).mono ?_
      rintro e w2 ⟨A2, c2, rfl, hb2⟩
      have HX2 := Lib.hid (Lies.past (Lies.fresh w1 25 [.int .u32 0, .int .u32 4294967295, .slice none 0 0]) hb2)
      have HW2 : Hid (Below w.heap.size w w2) := Lib.hid (by have := HW1.out; (repeat' (first | (with_reducible exact Below.refl _ _) | (with_reducible assumption) | (with_reducible refine below_drewN ?_ _) | (with_reducible refine below_new ?_ _) | (with_reducible refine Below.alloc ?_ ?_ _) | (with_reducible refine Below.drew ?_) | (with_reducible refine Below.setCell ?_ ?_ _) | (with_reducible apply below_at; (case k => (with_reducible assumption)); (case hB => omega)) | (with_reducible apply below_on; (with_reducible assumption)) | (go_size; done) | (with_reducible apply size_of))))
      obtain ⟨x0, x1, x2, _, _, _⟩ := HX2.out.three
      have ltx := HX2.out.lt
      clear hb2 HW1
      go_wp2_with fail
      refine (Put_e 0 4294967295 (-1) true none 0 0 [] 2 _ (by omega) (by omega) (by omega) (by omega) (.inl rfl) rfl (by omega) (by omega) NV.out.2.1 (by omega)).mono ?_
      rintro e w3 ⟨A3, c3, rfl, hb3⟩
      have HW3 : Hid (Below w.heap.size w w3) := Lib.hid (by have := HW2.out; (repeat' (first | (with_reducible exact Below.refl _ _) | (with_reducible assumption) | (with_reducible refine below_drewN ?_ _) | (with_reducible refine below_new ?_ _) | (with_reducible refine Below.alloc ?_ ?_ _) | (with_reducible refine Below.drew ?_) | (with_reducible refine Below.setCell ?_ ?_ _) | (with_reducible apply below_at; (case k => (with_reducible assumption)); (case hB => omega)) | (with_reducible apply below_on; (with_reducible assumption)) | (go_size; done) | (with_reducible apply size_of))))
      clear hb3 HW2 x0 x1 x2 ltx HX2
      go_wp2_with fail
      refine (Split_any 6 6 1 _ (by omega) (by omega) (by omega) (by omega)).mono ?_
      rintro e w' ⟨rfl, rfl⟩
      rw [NV.out.2.2.1, NV.out.2.2.2.1]
      go_wp2_with fail
      refine (Split_any 7 6 1 _ (by omega) (by omega) (by omega) (by omega)).mono ?_
      rintro e w' ⟨rfl, rfl⟩
      rw [NV.out.2.2.2.2.1, NV.out.2.2.2.2.2.1]
      go_wp2_with fail
      refine (Split_any 0 1 4096 _ (by omega) (by omega) (by omega) (by omega)).mono ?_
      rintro e w' ⟨rfl, rfl⟩
      rw [NV.out.2.2.2.2.2.2.1, NV.out.2.2.2.2.2.2.2.1]
      go_wp2_with fail
      refine (Put_e 16777215 16777216 0 true _ 20000 20000 (List.replicate 20000 0) 4 _ (by omega) (by omega) (by omega) (by omega) ((has_z _ _ 20000 (by decide) (by simp)).below ((Below.refl _ _).alloc (Nat.le_refl _) _) (Nat.le_refl _)) (by simp) (by omega) (by omega) NV.out.2.2.2.2.2.2.2.2.1 (by omega)).mono ?_
      rintro e w4 ⟨A4, c4, rfl, hb4⟩
      have HW4 : Hid (Below w.heap.size w w4) := Lib.hid (by have := HW3.out; (repeat' (first | (with_reducible exact Below.refl _ _) | (with_reducible assumption) | (with_reducible refine below_drewN ?_ _) | (with_reducible refine below_new ?_ _) | (with_reducible refine Below.alloc ?_ ?_ _) | (with_reducible refine Below.drew ?_) | (with_reducible refine Below.setCell ?_ ?_ _) | (with_reducible apply below_at; (case k => (with_reducible assumption)); (case hB => omega)) | (with_reducible apply below_on; (with_reducible assumption)) | (go_size; done) | (with_reducible apply size_of))))
      have HF4 : Hid (Lies (w4) (w3.heap.size + 1 + 1) 25 [.int .u32 (16777215), .int .u32 (16777216), .slice (some ⟨w3.heap.size + 1, 0, none⟩) (20000) (20000)]) := Lib.hid (Lies.past (Lies.fresh_at (by simp)) hb4)
      have HZ4 : Hid (Has .u8 w4 (some ⟨w3.heap.size + 1, 0, none⟩) (List.replicate 20000 0)) := Lib.hid (((has_z _ 5 20000 (by decide) (by simp)).below ((Below.refl _ _).alloc (Nat.le_refl _) _) (Nat.le_refl _)).below hb4 (Nat.le_refl _))
      obtain ⟨x0, x1, x2, _, _, _⟩ := HF4.out.three
      have ltx := HF4.out.lt
      clear hb4 HW3 ha
      go_wp2_with fail
      refine (End_e 16777215 16777216 _ 20000 20000 (List.replicate 20000 0) 4 _ (by omega) (by omega) (by omega) (by omega) (HZ4.out.below ((Below.refl _ _).alloc (Nat.le_refl _) _) (Nat.le_refl _)) (by simp) (by omega) (by omega) NV.out.2.2.2.2.2.2.2.2.2.1 (by omega)).mono ?_
      rintro e w5 ⟨A5, c5, rfl, hb5⟩
      have HW5 : Hid (Below w.heap.size w w5) := Lib.hid (by have := HW4.out; (repeat' (first | (with_reducible exact Below.refl _ _) | (with_reducible assumption) | (with_reducible refine below_drewN ?_ _) | (with_reducible refine below_new ?_ _) | (with_reducible refine Below.alloc ?_ ?_ _) | (with_reducible refine Below.drew ?_) | (with_reducible refine Below.setCell ?_ ?_ _) | (with_reducible apply below_at; (case k => (with_reducible assumption)); (case hB => omega)) | (with_reducible apply below_on; (with_reducible assumption)) | (go_size; done) | (with_reducible apply size_of))))
      clear hb5 HW4 x0 x1 x2 ltx HF4 HZ4
      go_wp2_with fail
      refine (End_len 0 4294967295 _ 19996 19996 20000 (List.replicate 19996 0) _ (by omega) (by omega) (by omega) (by omega) ((has_z _ _ 19996 (by decide) (by simp)).below ((Below.refl _ _).alloc (Nat.le_refl _) _) (Nat.le_refl _)) (by simp) (by omega) NV.out.2.2.2.2.2.2.2.2.2.2.1 (by omega) (by omega)).mono ?_
      rintro e w6 ⟨A6, c6, rfl, hb6⟩
      have HW6 : Hid (Below w.heap.size w w6) := Lib.hid (by have := HW5.out; (repeat' (first | (with_reducible exact Below.refl _ _) | (with_reducible assumption) | (with_reducible refine below_drewN ?_ _) | (with_reducible refine below_new ?_ _) | (with_reducible refine Below.alloc ?_ ?_ _) | (with_reducible refine Below.drew ?_) | (with_reducible refine Below.setCell ?_ ?_ _) | (with_reducible apply below_at; (case k => (with_reducible assumption)); (case hB => omega)) | (with_reducible apply below_on; (with_reducible assumption)) | (go_size; done) | (with_reducible apply size_of))))
      clear hb6 HW5 hb
      go_wp2_with fail
      go_upto_region 21 with fail
      go_cut [26, 27] (fun s26 s27 wx => (∃ A' c', s26 = .slice A' 0 c') ∧ s27 = .int .i64 4 ∧ Below w.heap.size w wx)
      case first =>
        as_aux_lemma =>
          go_region_law (first | (go_simp; go_at_call 20; refine (Run_e _ _ 3 3 2001 2001 [0, 0, 0] (List.replicate 2001 false) 4 _ (by first | exact has_lit (zs := [0, 0, 0]) (by simp) (by decide) | exact has_two (zs := [0, 0, 0]) (by simp) (by decide)) rfl (by omega) (by first | exact has_b _ _ 2001 (by decide) (by simp) | exact hasb_two (by simp) (by decide)) (by simp) (by omega) NV.out.2.2.2.2.2.2.2.2.2.2.2.1 (by omega)).mono ?_; rintro e w7 ⟨A7, c7, rfl, hb7⟩))
          all_goals
            go_wp2_with fail
            go_meet
            exact ⟨⟨A7, c7, rfl⟩, rfl, by have := HW6.out; (repeat' (first | (with_reducible exact Below.refl _ _) | (with_reducible assumption) | (with_reducible refine below_drewN ?_ _) | (with_reducible refine below_new ?_ _) | (with_reducible refine Below.alloc ?_ ?_ _) | (with_reducible refine Below.drew ?_) | (with_reducible refine Below.setCell ?_ ?_ _) | (with_reducible apply below_at; (case k => (with_reducible assumption)); (case hB => omega)) | (with_reducible apply below_on; (with_reducible assumption)) | (go_size; done) | (with_reducible apply size_of)))⟩
      case rest =>
        obtain ⟨⟨A7, c7, rfl⟩, rfl, W7⟩ := hcut
        have HW7 := Lib.hid W7
        clear W7 HW6 hc
        go_upto_region 22 with fail
        go_cut [28, 29] (fun s26 s27 wx => (∃ A' c', s26 = .slice A' 0 c') ∧ s27 = .int .i64 2 ∧ Below w.heap.size w wx)
        case first =>
          as_aux_lemma =>
            go_region_law (first | (go_simp; go_at_call 20; refine (Run_e _ _ 3 3 2 2 [0, 0, 0] (List.replicate 2 false) 2 _ (by first | exact has_lit (zs := [0, 0, 0]) (by simp) (by decide) | exact has_two (zs := [0, 0, 0]) (by simp) (by decide)) rfl (by omega) (by first | exact has_b _ _ 2 (by decide) (by simp) | exact hasb_two (by simp) (by decide)) (by simp) (by omega) NV.out.2.2.2.2.2.2.2.2.2.2.2.2.1 (by omega)).mono ?_; rintro e w7 ⟨A7, c7, rfl, hb7⟩))
            all_goals
              go_wp2_with fail
              go_meet
              exact ⟨⟨A7, c7, rfl⟩, rfl, by have := HW7.out; (repeat' (first | (with_reducible exact Below.refl _ _) | (with_reducible assumption) | (with_reducible refine below_drewN ?_ _) | (with_reducible refine below_new ?_ _) | (with_reducible refine Below.alloc ?_ ?_ _) | (with_reducible refine Below.drew ?_) | (with_reducible refine Below.setCell ?_ ?_ _) | (with_reducible apply below_at; (case k => (with_reducible assumption)); (case hB => omega)) | (with_reducible apply below_on; (with_reducible assumption)) | (go_size; done) | (with_reducible apply size_of)))⟩
        case rest =>
          obtain ⟨⟨A8, c8, rfl⟩, rfl, W8⟩ := hcut
          have HW8 := Lib.hid W8
          clear W8 HW7 hd hf
          have NV14 := Lib.hid NV.out.2.2.2.2.2.2.2.2.2.2.2.2.2.1
          have NV15 := Lib.hid NV.out.2.2.2.2.2.2.2.2.2.2.2.2.2.2.1
          have NV16 := Lib.hid NV.out.2.2.2.2.2.2.2.2.2.2.2.2.2.2.2.1
          have NV17 := Lib.hid NV.out.2.2.2.2.2.2.2.2.2.2.2.2.2.2.2.2.1
          have NV18 := Lib.hid NV.out.2.2.2.2.2.2.2.2.2.2.2.2.2.2.2.2.2
          clear NV
          go_wp2_with fail
          refine (Run_e _ _ 1 1 1 1 [4096] (List.replicate 1 false) 2 _ (has_two (zs := [4096]) rfl (by decide)) rfl (by omega) (has_b _ _ 1 (by decide) (by simp)) (by simp) (by omega) NV14.out (by omega)).mono ?_
          rintro e w9 ⟨A9, c9, rfl, hb9⟩
          have HW9 : Hid (Below w.heap.size w w9) := Lib.hid (by have := HW8.out; (repeat' (first | (with_reducible exact Below.refl _ _) | (with_reducible assumption) | (with_reducible refine below_drewN ?_ _) | (with_reducible refine below_new ?_ _) | (with_reducible refine Below.alloc ?_ ?_ _) | (with_reducible refine Below.drew ?_) | (with_reducible refine Below.setCell ?_ ?_ _) | (with_reducible apply below_at; (case k => (with_reducible assumption)); (case hB => omega)) | (with_reducible apply below_on; (with_reducible assumption)) | (go_size; done) | (with_reducible apply size_of))))
          clear hb9 HW8 he
          go_wp2_with fail
          refine (Run_any none none 0 0 0 0 [] [] _ (.inl rfl) rfl (by omega) (.inl rfl) rfl (by omega)).mono ?_
          rintro e w10 ⟨A10, c10, rfl, hh10, hc10, hb10⟩
          rw [NV16.out] at hh10 hc10
          rw [NV16.out, NV15.out]
          have H10 := Lib.hid hh10
          have HW10 : Hid (Below w.heap.size w w10) := Lib.hid (by have := HW9.out; (repeat' (first | (with_reducible exact Below.refl _ _) | (with_reducible assumption) | (with_reducible refine below_drewN ?_ _) | (with_reducible refine below_new ?_ _) | (with_reducible refine Below.alloc ?_ ?_ _) | (with_reducible refine Below.drew ?_) | (with_reducible refine Below.setCell ?_ ?_ _) | (with_reducible apply below_at; (case k => (with_reducible assumption)); (case hB => omega)) | (with_reducible apply below_on; (with_reducible assumption)) | (go_size; done) | (with_reducible apply size_of))))
          clear hh10 hb10 HW9
          go_wp2_with fail
          refine (Put_any 16777215 16777216 0 true none 0 0 [] _ (by omega) (by omega) (by omega) (by omega) (.inl rfl) rfl (by omega) (by omega)).mono ?_
          rintro e w11 ⟨A11, c11, rfl, hh11, hc11, hb11⟩
          rw [NV18.out] at hh11 hc11
          rw [NV18.out, NV17.out]
          have H11 := Lib.hid hh11
          have H10' := Lib.hid (H10.out.below hb11 (Nat.le_refl _))
          have HW11 : Hid (Below w.heap.size w w11) := Lib.hid (by have := HW10.out; (repeat' (first | (with_reducible exact Below.refl _ _) | (with_reducible assumption) | (with_reducible refine below_drewN ?_ _) | (with_reducible refine below_new ?_ _) | (with_reducible refine Below.alloc ?_ ?_ _) | (with_reducible refine Below.drew ?_) | (with_reducible refine Below.setCell ?_ ?_ _) | (with_reducible apply below_at; (case k => (with_reducible assumption)); (case hB => omega)) | (with_reducible apply below_on; (with_reducible assumption)) | (go_size; done) | (with_reducible apply size_of))))
          clear hh11 hb11 HW10 H10 NV14 NV15 NV16 NV17 NV18
          have hmk : ∀ W : World, (Instr.makeSlice 23 (.int .i64 4) (.int .i64 4)).run Try.prog W = .ok (.slice (some ⟨W.heap.size, 0, none⟩) 4 4) (W.alloc (.cells #[.int .u8 0, .int .u8 0, .int .u8 0, .int .u8 0] 5)) := fun W => by kernel_rfl
          go_wp2_with fail
          refine wp_region_any (by kernel_rfl) ?_
          try (change wpAny _ _ _ _ _ _ _ (World.drew _))
          refine wpAny_gen (fun Q' hN => ?_)
          refine wpAny_ready (rs := [0]) (by kernel_rfl) (by simp) ?_
          refine AllReady.cons rfl (fun K hK => ?_) ?_
          rotate_left
          · exact AllReady.nil
          go_simp
          refine hK _ _ ?_
          clear hK K
          refine wpAny_ready (rs := [1]) (by kernel_rfl) (by simp) ?_
          refine AllReady.cons rfl (fun K hK => ?_) ?_
          rotate_left
          · exact AllReady.nil
          go_simp
          go_at_call 22; refine (alive _).mono ?_; rintro e u1 ⟨rfl, hu1⟩; have WU : Hid (Below w11.heap.size w11 u1) := Lib.hid (by (repeat' (first | (with_reducible exact Below.refl _ _) | (with_reducible assumption) | (with_reducible refine below_drewN ?_ _) | (with_reducible refine below_new ?_ _) | (with_reducible refine Below.alloc ?_ ?_ _) | (with_reducible refine Below.drew ?_) | (with_reducible refine Below.setCell ?_ ?_ _) | (with_reducible apply below_at; (case k => (with_reducible assumption)); (case hB => omega)) | (with_reducible apply below_on; (with_reducible assumption)) | (go_size; done) | (with_reducible apply size_of)))); have LY : Lies (u1) (w11.heap.size) 25 [.int .u32 (0), .int .u32 (4294967295), .slice (A11) (4) (c11)] := Lies.past (Lies.drew (Lies.fresh _ _ _)) hu1; obtain ⟨y0, y1, y2, _, _, _⟩ := LY.three; have ly := LY.lt; obtain ⟨F1, F2, F3, F4, F5, F6⟩ := names_cv (H10'.out.below WU.out (Nat.le_refl _)) (H11.out.below WU.out (Nat.le_refl _)) c10 c11; clear hu1 LY
          try go_simp
          refine hK _ _ ?_
          clear hK K
          (refine wpAny_ready (rs := [2]) (by kernel_rfl) (by simp) ?_; refine AllReady.cons rfl (fun K hK => ?_) AllReady.nil; go_simp; refine hK _ _ ?_; clear hK K)
          (refine wpAny_ready (rs := [3]) (by kernel_rfl) (by simp) ?_; refine AllReady.cons rfl (fun K hK => ?_) AllReady.nil; go_simp; refine hK _ _ ?_; clear hK K)
          (refine wpAny_ready (rs := [4]) (by kernel_rfl) (by simp) ?_; refine AllReady.cons rfl (fun K hK => ?_) AllReady.nil; go_simp; refine hK _ _ ?_; clear hK K)
          (refine wpAny_ready (rs := [5]) (by kernel_rfl) (by simp) ?_; refine AllReady.cons rfl (fun K hK => ?_) AllReady.nil; go_simp; refine hK _ _ ?_; clear hK K)
          (refine wpAny_ready (rs := [6]) (by kernel_rfl) (by simp) ?_; refine AllReady.cons rfl (fun K hK => ?_) AllReady.nil; go_simp; refine hK _ _ ?_; clear hK K)
          (refine wpAny_ready (rs := [7]) (by kernel_rfl) (by simp) ?_; refine AllReady.cons rfl (fun K hK => ?_) AllReady.nil; go_simp; refine hK _ _ ?_; clear hK K)
          (refine wpAny_ready (rs := [8]) (by kernel_rfl) (by simp) ?_; refine AllReady.cons rfl (fun K hK => ?_) AllReady.nil; go_simp; refine hK _ _ ?_; clear hK K)
          (refine wpAny_ready (rs := [9]) (by kernel_rfl) (by simp) ?_; refine AllReady.cons rfl (fun K hK => ?_) AllReady.nil; go_simp; refine hK _ _ ?_; clear hK K)
          (refine wpAny_ready (rs := [10]) (by kernel_rfl) (by simp) ?_; refine AllReady.cons rfl (fun K hK => ?_) AllReady.nil; go_simp; refine hK _ _ ?_; clear hK K)
          (refine wpAny_ready (rs := [11]) (by kernel_rfl) (by simp) ?_; refine AllReady.cons rfl (fun K hK => ?_) AllReady.nil; go_simp; refine hK _ _ ?_; clear hK K)
          as_aux_lemma =>
            (refine wpAny_ready (rs := [12]) (by kernel_rfl) (by simp) ?_; refine AllReady.cons rfl (fun K hK => ?_) AllReady.nil; go_simp; refine hK _ _ ?_; clear hK K)
            (refine wpAny_ready (rs := [13]) (by kernel_rfl) (by simp) ?_; refine AllReady.cons rfl (fun K hK => ?_) AllReady.nil; go_simp; refine hK _ _ ?_; clear hK K)
            (refine wpAny_ready (rs := [14]) (by kernel_rfl) (by simp) ?_; refine AllReady.cons rfl (fun K hK => ?_) AllReady.nil; go_simp; refine hK _ _ ?_; clear hK K)
            (refine wpAny_ready (rs := [15]) (by kernel_rfl) (by simp) ?_; refine AllReady.cons rfl (fun K hK => ?_) AllReady.nil; go_simp; refine hK _ _ ?_; clear hK K)
            (refine wpAny_ready (rs := [16]) (by kernel_rfl) (by simp) ?_; refine AllReady.cons rfl (fun K hK => ?_) AllReady.nil; go_simp; refine hK _ _ ?_; clear hK K)
            (refine wpAny_ready (rs := [17]) (by kernel_rfl) (by simp) ?_; refine AllReady.cons rfl (fun K hK => ?_) AllReady.nil; go_simp; refine hK _ _ ?_; clear hK K)
            (refine wpAny_ready (rs := [18]) (by kernel_rfl) (by simp) ?_; refine AllReady.cons rfl (fun K hK => ?_) AllReady.nil; go_simp; refine hK _ _ ?_; clear hK K)
            (refine wpAny_ready (rs := [19]) (by kernel_rfl) (by simp) ?_; refine AllReady.cons rfl (fun K hK => ?_) AllReady.nil; go_simp; refine hK _ _ ?_; clear hK K)
            (refine wpAny_ready (rs := [20]) (by kernel_rfl) (by simp) ?_; refine AllReady.cons rfl (fun K hK => ?_) AllReady.nil; go_simp; refine hK _ _ ?_; clear hK K)
            (refine wpAny_ready (rs := [21]) (by kernel_rfl) (by simp) ?_; refine AllReady.cons rfl (fun K hK => ?_) AllReady.nil; go_simp; refine hK _ _ ?_; clear hK K)
            (refine wpAny_ready (rs := [22]) (by kernel_rfl) (by simp) ?_; refine AllReady.cons rfl (fun K hK => ?_) AllReady.nil; go_simp; refine hK _ _ ?_; clear hK K)
            (refine wpAny_ready (rs := [23]) (by kernel_rfl) (by simp) ?_; refine AllReady.cons rfl (fun K hK => ?_) AllReady.nil; go_simp; refine hK _ _ ?_; clear hK K)
            as_aux_lemma =>
              (refine wpAny_ready (rs := [24]) (by kernel_rfl) (by simp) ?_; refine AllReady.cons rfl (fun K hK => ?_) AllReady.nil; go_simp; refine hK _ _ ?_; clear hK K)
              (refine wpAny_ready (rs := [25]) (by kernel_rfl) (by simp) ?_; refine AllReady.cons rfl (fun K hK => ?_) AllReady.nil; go_simp; refine hK _ _ ?_; clear hK K)
              (refine wpAny_ready (rs := [26]) (by kernel_rfl) (by simp) ?_; refine AllReady.cons rfl (fun K hK => ?_) AllReady.nil; go_simp; refine hK _ _ ?_; clear hK K)
              (refine wpAny_ready (rs := [27]) (by kernel_rfl) (by simp) ?_; refine AllReady.cons rfl (fun K hK => ?_) AllReady.nil; go_simp; refine hK _ _ ?_; clear hK K)
              (refine wpAny_ready (rs := [28]) (by kernel_rfl) (by simp) ?_; refine AllReady.cons rfl (fun K hK => ?_) AllReady.nil; go_simp; refine hK _ _ ?_; clear hK K)
              (refine wpAny_ready (rs := [29]) (by kernel_rfl) (by simp) ?_; refine AllReady.cons rfl (fun K hK => ?_) AllReady.nil; go_simp; refine hK _ _ ?_; clear hK K)
              (refine wpAny_ready (rs := [30]) (by kernel_rfl) (by simp) ?_; refine AllReady.cons rfl (fun K hK => ?_) AllReady.nil; go_simp; refine hK _ _ ?_; clear hK K)
              (refine wpAny_ready (rs := [31]) (by kernel_rfl) (by simp) ?_; refine AllReady.cons rfl (fun K hK => ?_) AllReady.nil; go_simp; refine hK _ _ ?_; clear hK K)
              (refine wpAny_ready (rs := [32]) (by kernel_rfl) (by simp) ?_; refine AllReady.cons rfl (fun K hK => ?_) AllReady.nil; go_simp; refine hK _ _ ?_; clear hK K)
              (refine wpAny_ready (rs := [33]) (by kernel_rfl) (by simp) ?_; refine AllReady.cons rfl (fun K hK => ?_) AllReady.nil; go_simp; refine hK _ _ ?_; clear hK K)
              (refine wpAny_ready (rs := [34]) (by kernel_rfl) (by simp) ?_; refine AllReady.cons rfl (fun K hK => ?_) AllReady.nil; go_simp; refine hK _ _ ?_; clear hK K)
              (refine wpAny_ready (rs := [35]) (by kernel_rfl) (by simp) ?_; refine AllReady.cons rfl (fun K hK => ?_) AllReady.nil; go_simp; refine hK _ _ ?_; clear hK K)
              as_aux_lemma =>
                (refine wpAny_ready (rs := [36]) (by kernel_rfl) (by simp) ?_; refine AllReady.cons rfl (fun K hK => ?_) AllReady.nil; go_simp; refine hK _ _ ?_; clear hK K)
                (refine wpAny_ready (rs := [37]) (by kernel_rfl) (by simp) ?_; refine AllReady.cons rfl (fun K hK => ?_) AllReady.nil; go_simp; refine hK _ _ ?_; clear hK K)
                (refine wpAny_ready (rs := [38]) (by kernel_rfl) (by simp) ?_; refine AllReady.cons rfl (fun K hK => ?_) AllReady.nil; go_simp; refine hK _ _ ?_; clear hK K)
                (refine wpAny_ready (rs := [39]) (by kernel_rfl) (by simp) ?_; refine AllReady.cons rfl (fun K hK => ?_) AllReady.nil; go_simp; refine hK _ _ ?_; clear hK K)
                (refine wpAny_ready (rs := [40]) (by kernel_rfl) (by simp) ?_; refine AllReady.cons rfl (fun K hK => ?_) AllReady.nil; go_simp; refine hK _ _ ?_; clear hK K)
                (refine wpAny_ready (rs := [41]) (by kernel_rfl) (by simp) ?_; refine AllReady.cons rfl (fun K hK => ?_) AllReady.nil; go_simp; refine hK _ _ ?_; clear hK K)
                (refine wpAny_ready (rs := [42]) (by kernel_rfl) (by simp) ?_; refine AllReady.cons rfl (fun K hK => ?_) AllReady.nil; go_simp; refine hK _ _ ?_; clear hK K)
                (refine wpAny_ready (rs := [43]) (by kernel_rfl) (by simp) ?_; refine AllReady.cons rfl (fun K hK => ?_) AllReady.nil; go_simp; refine hK _ _ ?_; clear hK K)
                (refine wpAny_ready (rs := [44]) (by kernel_rfl) (by simp) ?_; refine AllReady.cons rfl (fun K hK => ?_) AllReady.nil; go_simp; refine hK _ _ ?_; clear hK K)
                (refine wpAny_ready (rs := [45]) (by kernel_rfl) (by simp) ?_; refine AllReady.cons rfl (fun K hK => ?_) AllReady.nil; go_simp; refine hK _ _ ?_; clear hK K)
                (refine wpAny_ready (rs := [46]) (by kernel_rfl) (by simp) ?_; refine AllReady.cons rfl (fun K hK => ?_) AllReady.nil; go_simp; refine hK _ _ ?_; clear hK K)
                (refine wpAny_ready (rs := [47]) (by kernel_rfl) (by simp) ?_; refine AllReady.cons rfl (fun K hK => ?_) AllReady.nil; go_simp; refine hK _ _ ?_; clear hK K)
                as_aux_lemma =>
                  (refine wpAny_ready (rs := [48]) (by kernel_rfl) (by simp) ?_; refine AllReady.cons rfl (fun K hK => ?_) AllReady.nil; go_simp; refine hK _ _ ?_; clear hK K)
                  (refine wpAny_ready (rs := [49]) (by kernel_rfl) (by simp) ?_; refine AllReady.cons rfl (fun K hK => ?_) AllReady.nil; go_simp; refine hK _ _ ?_; clear hK K)
                  (refine wpAny_ready (rs := [50]) (by kernel_rfl) (by simp) ?_; refine AllReady.cons rfl (fun K hK => ?_) AllReady.nil; go_simp; refine hK _ _ ?_; clear hK K)
                  (refine wpAny_ready (rs := [51]) (by kernel_rfl) (by simp) ?_; refine AllReady.cons rfl (fun K hK => ?_) AllReady.nil; go_simp; refine hK _ _ ?_; clear hK K)
                  (refine wpAny_ready (rs := [52]) (by kernel_rfl) (by simp) ?_; refine AllReady.cons rfl (fun K hK => ?_) AllReady.nil; go_simp; refine hK _ _ ?_; clear hK K)
                  (refine wpAny_ready (rs := [53]) (by kernel_rfl) (by simp) ?_; refine AllReady.cons rfl (fun K hK => ?_) AllReady.nil; go_simp; refine hK _ _ ?_; clear hK K)
                  (refine wpAny_ready (rs := [54]) (by kernel_rfl) (by simp) ?_; refine AllReady.cons rfl (fun K hK => ?_) AllReady.nil; go_simp; refine hK _ _ ?_; clear hK K)
                  (refine wpAny_ready (rs := [55]) (by kernel_rfl) (by simp) ?_; refine AllReady.cons rfl (fun K hK => ?_) AllReady.nil; go_simp; refine hK _ _ ?_; clear hK K)
                  (refine wpAny_ready (rs := [56]) (by kernel_rfl) (by simp) ?_; refine AllReady.cons rfl (fun K hK => ?_) AllReady.nil; go_simp; refine hK _ _ ?_; clear hK K)
                  as_aux_lemma =>
                    apply join_at
                    · intro key
                      ((refine wpAny_ready (rs := [57, 59]) (by kernel_rfl) (by simp) ?_); (refine AllReady.cons rfl (fun K hK => ?_) (AllReady.cons rfl (fun K hK => ?_) AllReady.nil)); (focus (go_simp; refine hK _ _ ?_; clear hK K; (refine wpAny_ready (rs := [58, 59]) (by kernel_rfl) (by simp) ?_); (refine AllReady.cons rfl (fun K hK => ?_) (AllReady.cons rfl (fun K hK => ?_) AllReady.nil)); (focus (go_simp; refine hK _ _ ?_; clear hK K; (refine wpAny_ready (rs := [59]) (by kernel_rfl) (by simp) ?_; refine AllReady.cons rfl (fun K hK => ?_) AllReady.nil; go_simp; refine hK _ _ ?_; clear hK K); (refine wpAny_ready (rs := [60]) (by kernel_rfl) (by simp) ?_; refine AllReady.cons rfl (fun K hK => ?_) AllReady.nil; go_simp; refine hK _ _ ?_; clear hK K); (refine wpAny_ready (rs := [61]) (by kernel_rfl) (by simp) ?_; refine AllReady.cons rfl (fun K hK => ?_) AllReady.nil; go_simp; refine hK _ _ ?_; clear hK K); exact key)); (go_simp; refine hK _ _ ?_; clear hK K; (refine wpAny_ready (rs := [58, 60]) (by kernel_rfl) (by simp) ?_); (refine AllReady.cons rfl (fun K hK => ?_) (AllReady.cons rfl (fun K hK => ?_) AllReady.nil)); (focus (go_simp; refine hK _ _ ?_; clear hK K; (refine wpAny_ready (rs := [60]) (by kernel_rfl) (by simp) ?_; refine AllReady.cons rfl (fun K hK => ?_) AllReady.nil; go_simp; refine hK _ _ ?_; clear hK K); (refine wpAny_ready (rs := [61]) (by kernel_rfl) (by simp) ?_; refine AllReady.cons rfl (fun K hK => ?_) AllReady.nil; go_simp; refine hK _ _ ?_; clear hK K); exact key)); (go_simp; refine hK _ _ ?_; clear hK K; (refine wpAny_ready (rs := [58]) (by kernel_rfl) (by simp) ?_; refine AllReady.cons rfl (fun K hK => ?_) AllReady.nil; go_simp; refine hK _ _ ?_; clear hK K); (refine wpAny_ready (rs := [61]) (by kernel_rfl) (by simp) ?_; refine AllReady.cons rfl (fun K hK => ?_) AllReady.nil; go_simp; refine hK _ _ ?_; clear hK K); exact key)))); (go_simp; refine hK _ _ ?_; clear hK K; (refine wpAny_ready (rs := [57, 60]) (by kernel_rfl) (by simp) ?_); (refine AllReady.cons rfl (fun K hK => ?_) (AllReady.cons rfl (fun K hK => ?_) AllReady.nil)); (focus (go_simp; refine hK _ _ ?_; clear hK K; (refine wpAny_ready (rs := [58, 60]) (by kernel_rfl) (by simp) ?_); (refine AllReady.cons rfl (fun K hK => ?_) (AllReady.cons rfl (fun K hK => ?_) AllReady.nil)); (focus (go_simp; refine hK _ _ ?_; clear hK K; (refine wpAny_ready (rs := [60]) (by kernel_rfl) (by simp) ?_; refine AllReady.cons rfl (fun K hK => ?_) AllReady.nil; go_simp; refine hK _ _ ?_; clear hK K); (refine wpAny_ready (rs := [61]) (by kernel_rfl) (by simp) ?_; refine AllReady.cons rfl (fun K hK => ?_) AllReady.nil; go_simp; refine hK _ _ ?_; clear hK K); exact key)); (go_simp; refine hK _ _ ?_; clear hK K; (refine wpAny_ready (rs := [58]) (by kernel_rfl) (by simp) ?_; refine AllReady.cons rfl (fun K hK => ?_) AllReady.nil; go_simp; refine hK _ _ ?_; clear hK K); (refine wpAny_ready (rs := [61]) (by kernel_rfl) (by simp) ?_; refine AllReady.cons rfl (fun K hK => ?_) AllReady.nil; go_simp; refine hK _ _ ?_; clear hK K); exact key))); (go_simp; refine hK _ _ ?_; clear hK K; (refine wpAny_ready (rs := [57]) (by kernel_rfl) (by simp) ?_; refine AllReady.cons rfl (fun K hK => ?_) AllReady.nil; go_simp; refine hK _ _ ?_; clear hK K); (refine wpAny_ready (rs := [58]) (by kernel_rfl) (by simp) ?_; refine AllReady.cons rfl (fun K hK => ?_) AllReady.nil; go_simp; refine hK _ _ ?_; clear hK K); (refine wpAny_ready (rs := [61]) (by kernel_rfl) (by simp) ?_; refine AllReady.cons rfl (fun K hK => ?_) AllReady.nil; go_simp; refine hK _ _ ?_; clear hK K); exact key)))
                    as_aux_lemma =>
                      (refine wpAny_ready (rs := [62]) (by kernel_rfl) (by simp) ?_; refine AllReady.cons rfl (fun K hK => ?_) AllReady.nil; go_simp; refine hK _ _ ?_; clear hK K)
                      (refine wpAny_ready (rs := [63]) (by kernel_rfl) (by simp) ?_; refine AllReady.cons rfl (fun K hK => ?_) AllReady.nil; go_simp; refine hK _ _ ?_; clear hK K)
                      (refine wpAny_ready (rs := [64]) (by kernel_rfl) (by simp) ?_; refine AllReady.cons rfl (fun K hK => ?_) AllReady.nil; go_simp; refine hK _ _ ?_; clear hK K)
                      (refine wpAny_ready (rs := [65]) (by kernel_rfl) (by simp) ?_; refine AllReady.cons rfl (fun K hK => ?_) AllReady.nil; go_simp; refine hK _ _ ?_; clear hK K)
                      (refine wpAny_ready (rs := [66]) (by kernel_rfl) (by simp) ?_; refine AllReady.cons rfl (fun K hK => ?_) AllReady.nil; go_simp; refine hK _ _ ?_; clear hK K)
                      (refine wpAny_ready (rs := [67]) (by kernel_rfl) (by simp) ?_; refine AllReady.cons rfl (fun K hK => ?_) AllReady.nil; go_simp; refine hK _ _ ?_; clear hK K)
                      (refine wpAny_ready (rs := [68]) (by kernel_rfl) (by simp) ?_; refine AllReady.cons rfl (fun K hK => ?_) AllReady.nil; go_simp; refine hK _ _ ?_; clear hK K)
                      (refine wpAny_ready (rs := [69]) (by kernel_rfl) (by simp) ?_; refine AllReady.cons rfl (fun K hK => ?_) AllReady.nil; go_simp; refine hK _ _ ?_; clear hK K)
                      as_aux_lemma =>
                        (refine wpAny_ready (rs := [70]) (by kernel_rfl) (by simp) ?_; refine AllReady.cons rfl (fun K hK => ?_) AllReady.nil; go_simp; refine hK _ _ ?_; clear hK K)
                        (refine wpAny_ready (rs := [71]) (by kernel_rfl) (by simp) ?_; refine AllReady.cons rfl (fun K hK => ?_) AllReady.nil; go_simp; refine hK _ _ ?_; clear hK K)
                        (refine wpAny_ready (rs := [72]) (by kernel_rfl) (by simp) ?_; refine AllReady.cons rfl (fun K hK => ?_) AllReady.nil; go_simp; refine hK _ _ ?_; clear hK K)
                        (refine wpAny_ready (rs := [73]) (by kernel_rfl) (by simp) ?_; refine AllReady.cons rfl (fun K hK => ?_) AllReady.nil; go_simp; refine hK _ _ ?_; clear hK K)
                        (refine wpAny_ready (rs := [74]) (by kernel_rfl) (by simp) ?_; refine AllReady.cons rfl (fun K hK => ?_) AllReady.nil; go_simp; refine hK _ _ ?_; clear hK K)
                        (refine wpAny_ready (rs := [75]) (by kernel_rfl) (by simp) ?_; refine AllReady.cons rfl (fun K hK => ?_) AllReady.nil; go_simp; refine hK _ _ ?_; clear hK K)
                        (refine wpAny_ready (rs := [76]) (by kernel_rfl) (by simp) ?_; refine AllReady.cons rfl (fun K hK => ?_) AllReady.nil; go_simp; refine hK _ _ ?_; clear hK K)
                        (refine wpAny_ready (rs := [77]) (by kernel_rfl) (by simp) ?_; refine AllReady.cons rfl (fun K hK => ?_) AllReady.nil; go_simp; refine hK _ _ ?_; clear hK K)
                        as_aux_lemma =>
                          apply join_at
                          · intro key
                            ((refine wpAny_ready (rs := [78, 81]) (by kernel_rfl) (by simp) ?_); (refine AllReady.cons rfl (fun K hK => ?_) (AllReady.cons rfl (fun K hK => ?_) AllReady.nil)); (focus (go_simp; refine hK _ _ ?_; clear hK K; (refine wpAny_ready (rs := [79, 81]) (by kernel_rfl) (by simp) ?_); (refine AllReady.cons rfl (fun K hK => ?_) (AllReady.cons rfl (fun K hK => ?_) AllReady.nil)); (focus (go_simp; refine hK _ _ ?_; clear hK K; (refine wpAny_ready (rs := [80, 81]) (by kernel_rfl) (by simp) ?_); (refine AllReady.cons rfl (fun K hK => ?_) (AllReady.cons rfl (fun K hK => ?_) AllReady.nil)); (focus (go_simp; refine hK _ _ ?_; clear hK K; (refine wpAny_ready (rs := [81]) (by kernel_rfl) (by simp) ?_; refine AllReady.cons rfl (fun K hK => ?_) AllReady.nil; go_simp; refine hK _ _ ?_; clear hK K); (refine wpAny_ready (rs := [82]) (by kernel_rfl) (by simp) ?_; refine AllReady.cons rfl (fun K hK => ?_) AllReady.nil; go_simp; refine hK _ _ ?_; clear hK K); (refine wpAny_ready (rs := [83]) (by kernel_rfl) (by simp) ?_; refine AllReady.cons rfl (fun K hK => ?_) AllReady.nil; go_simp; refine hK _ _ ?_; clear hK K); exact key)); (go_simp; refine hK _ _ ?_; clear hK K; (refine wpAny_ready (rs := [80, 82]) (by kernel_rfl) (by simp) ?_); (refine AllReady.cons rfl (fun K hK => ?_) (AllReady.cons rfl (fun K hK => ?_) AllReady.nil)); (focus (go_simp; refine hK _ _ ?_; clear hK K; (refine wpAny_ready (rs := [82]) (by kernel_rfl) (by simp) ?_; refine AllReady.cons rfl (fun K hK => ?_) AllReady.nil; go_simp; refine hK _ _ ?_; clear hK K); (refine wpAny_ready (rs := [83]) (by kernel_rfl) (by simp) ?_; refine AllReady.cons rfl (fun K hK => ?_) AllReady.nil; go_simp; refine hK _ _ ?_; clear hK K); exact key)); (go_simp; refine hK _ _ ?_; clear hK K; (refine wpAny_ready (rs := [80]) (by kernel_rfl) (by simp) ?_; refine AllReady.cons rfl (fun K hK => ?_) AllReady.nil; go_simp; refine hK _ _ ?_; clear hK K); (refine wpAny_ready (rs := [83]) (by kernel_rfl) (by simp) ?_; refine AllReady.cons rfl (fun K hK => ?_) AllReady.nil; go_simp; refine hK _ _ ?_; clear hK K); exact key)))); (go_simp; refine hK _ _ ?_; clear hK K; (refine wpAny_ready (rs := [79, 82]) (by kernel_rfl) (by simp) ?_); (refine AllReady.cons rfl (fun K hK => ?_) (AllReady.cons rfl (fun K hK => ?_) AllReady.nil)); (focus (go_simp; refine hK _ _ ?_; clear hK K; (refine wpAny_ready (rs := [80, 82]) (by kernel_rfl) (by simp) ?_); (refine AllReady.cons rfl (fun K hK => ?_) (AllReady.cons rfl (fun K hK => ?_) AllReady.nil)); (focus (go_simp; refine hK _ _ ?_; clear hK K; (refine wpAny_ready (rs := [82]) (by kernel_rfl) (by simp) ?_; refine AllReady.cons rfl (fun K hK => ?_) AllReady.nil; go_simp; refine hK _ _ ?_; clear hK K); (refine wpAny_ready (rs := [83]) (by kernel_rfl) (by simp) ?_; refine AllReady.cons rfl (fun K hK => ?_) AllReady.nil; go_simp; refine hK _ _ ?_; clear hK K); exact key)); (go_simp; refine hK _ _ ?_; clear hK K; (refine wpAny_ready (rs := [80]) (by kernel_rfl) (by simp) ?_; refine AllReady.cons rfl (fun K hK => ?_) AllReady.nil; go_simp; refine hK _ _ ?_; clear hK K); (refine wpAny_ready (rs := [83]) (by kernel_rfl) (by simp) ?_; refine AllReady.cons rfl (fun K hK => ?_) AllReady.nil; go_simp; refine hK _ _ ?_; clear hK K); exact key))); (go_simp; refine hK _ _ ?_; clear hK K; (refine wpAny_ready (rs := [79]) (by kernel_rfl) (by simp) ?_; refine AllReady.cons rfl (fun K hK => ?_) AllReady.nil; go_simp; refine hK _ _ ?_; clear hK K); (refine wpAny_ready (rs := [80]) (by kernel_rfl) (by simp) ?_; refine AllReady.cons rfl (fun K hK => ?_) AllReady.nil; go_simp; refine hK _ _ ?_; clear hK K); (refine wpAny_ready (rs := [83]) (by kernel_rfl) (by simp) ?_; refine AllReady.cons rfl (fun K hK => ?_) AllReady.nil; go_simp; refine hK _ _ ?_; clear hK K); exact key)))); (go_simp; refine hK _ _ ?_; clear hK K; (refine wpAny_ready (rs := [78, 82]) (by kernel_rfl) (by simp) ?_); (refine AllReady.cons rfl (fun K hK => ?_) (AllReady.cons rfl (fun K hK => ?_) AllReady.nil)); (focus (go_simp; refine hK _ _ ?_; clear hK K; (refine wpAny_ready (rs := [79, 82]) (by kernel_rfl) (by simp) ?_); (refine AllReady.cons rfl (fun K hK => ?_) (AllReady.cons rfl (fun K hK => ?_) AllReady.nil)); (focus (go_simp; refine hK _ _ ?_; clear hK K; (refine wpAny_ready (rs := [80, 82]) (by kernel_rfl) (by simp) ?_); (refine AllReady.cons rfl (fun K hK => ?_) (AllReady.cons rfl (fun K hK => ?_) AllReady.nil)); (focus (go_simp; refine hK _ _ ?_; clear hK K; (refine wpAny_ready (rs := [82]) (by kernel_rfl) (by simp) ?_; refine AllReady.cons rfl (fun K hK => ?_) AllReady.nil; go_simp; refine hK _ _ ?_; clear hK K); (refine wpAny_ready (rs := [83]) (by kernel_rfl) (by simp) ?_; refine AllReady.cons rfl (fun K hK => ?_) AllReady.nil; go_simp; refine hK _ _ ?_; clear hK K); exact key)); (go_simp; refine hK _ _ ?_; clear hK K; (refine wpAny_ready (rs := [80]) (by kernel_rfl) (by simp) ?_; refine AllReady.cons rfl (fun K hK => ?_) AllReady.nil; go_simp; refine hK _ _ ?_; clear hK K); (refine wpAny_ready (rs := [83]) (by kernel_rfl) (by simp) ?_; refine AllReady.cons rfl (fun K hK => ?_) AllReady.nil; go_simp; refine hK _ _ ?_; clear hK K); exact key))); (go_simp; refine hK _ _ ?_; clear hK K; (refine wpAny_ready (rs := [79]) (by kernel_rfl) (by simp) ?_; refine AllReady.cons rfl (fun K hK => ?_) AllReady.nil; go_simp; refine hK _ _ ?_; clear hK K); (refine wpAny_ready (rs := [80]) (by kernel_rfl) (by simp) ?_; refine AllReady.cons rfl (fun K hK => ?_) AllReady.nil; go_simp; refine hK _ _ ?_; clear hK K); (refine wpAny_ready (rs := [83]) (by kernel_rfl) (by simp) ?_; refine AllReady.cons rfl (fun K hK => ?_) AllReady.nil; go_simp; refine hK _ _ ?_; clear hK K); exact key))); (go_simp; refine hK _ _ ?_; clear hK K; (refine wpAny_ready (rs := [78]) (by kernel_rfl) (by simp) ?_; refine AllReady.cons rfl (fun K hK => ?_) AllReady.nil; go_simp; refine hK _ _ ?_; clear hK K); (refine wpAny_ready (rs := [79]) (by kernel_rfl) (by simp) ?_; refine AllReady.cons rfl (fun K hK => ?_) AllReady.nil; go_simp; refine hK _ _ ?_; clear hK K); (refine wpAny_ready (rs := [80]) (by kernel_rfl) (by simp) ?_; refine AllReady.cons rfl (fun K hK => ?_) AllReady.nil; go_simp; refine hK _ _ ?_; clear hK K); (refine wpAny_ready (rs := [83]) (by kernel_rfl) (by simp) ?_; refine AllReady.cons rfl (fun K hK => ?_) AllReady.nil; go_simp; refine hK _ _ ?_; clear hK K); exact key)))
                          as_aux_lemma =>
                            (refine wpAny_ready (rs := [84]) (by kernel_rfl) (by simp) ?_; refine AllReady.cons rfl (fun K hK => ?_) AllReady.nil; go_simp; refine hK _ _ ?_; clear hK K)
                            (refine wpAny_ready (rs := [85]) (by kernel_rfl) (by simp) ?_; refine AllReady.cons rfl (fun K hK => ?_) AllReady.nil; go_simp; refine hK _ _ ?_; clear hK K)
                            refine wpAny_done (by kernel_rfl) (hN _ _ ?_) _
                            go_wp2
                            go_ret
                            exact ⟨rfl, by have := HW11.out; have := WU.out; (repeat' (first | (with_reducible exact Below.refl _ _) | (with_reducible assumption) | (with_reducible refine below_drewN ?_ _) | (with_reducible refine below_new ?_ _) | (with_reducible refine Below.alloc ?_ ?_ _) | (with_reducible refine Below.drew ?_) | (with_reducible refine Below.setCell ?_ ?_ _) | (with_reducible apply below_at; (case k => (with_reducible assumption)); (case hB => omega)) | (with_reducible apply below_on; (with_reducible assumption)) | (go_size; done) | (with_reducible apply size_of)))⟩
end Go.Proofs.Ytdnccnaihkajmaa.encL
