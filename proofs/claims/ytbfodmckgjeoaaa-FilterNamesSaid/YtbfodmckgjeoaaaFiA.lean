/- The examples of the chapter: makes, nothing, alive. -/
import Derived.Test.YtbfodmckgjeoaaaFiL1
namespace Go.Proofs.Ytbfodmckgjeoaaa.fiL
set_option maxRecDepth 100000
open Go.RowKit Go.Proofs.Ytbfodmckgjeoaaa.base Go.Proofs.Ytbfodmckgjeoaaa.fiP Go.Proofs.Ytbfodmckgjeoaaa.fiW
set_option linter.unusedVariables false
set_option linter.unusedSimpArgs false
set_option maxRecDepth 100000
theorem same_no (A B : Option Addr) (n m c d : Nat) (s t : List Int) (w : World) (hA : Has .u8 w A s) (hB : Has .u8 w B t) (hn : s.length = n) (hm : t.length = m) (hl : n ≤ 9223372036854775807) (hl2 : m ≤ 9223372036854775807) (hne : s ≠ t) :
    Calls Try.prog 16 #[.slice A n c, .slice B m d] w fun e w' => e = .returned (.bool false) ∧ Below w.heap.size w w' :=
  (sameB_any A B n m c d s t w hA hn hB hm hl hl2).mono fun e w' ⟨h1, h2⟩ => ⟨by rw [h1, decide_eq_false hne], h2⟩
theorem oneO_bd {f : Int × Int} {b s : List Int} (h : oneO f b = some s) : s.length ≤ 20000 := by
  have := oneO_len f b
  rw [h] at this; exact this
theorem backO_bd {f : Int × Int} {b s : List Int} (h : backO f b = some s) : s.length ≤ 20000 := by
  have := backO_len f b
  rw [h] at this; exact this
theorem Res.get {w' : World} {B : Nat} {r : Option (List Int)} {er : Int} {e : Ending} {s : List Int} (h : Res w' B r er e) (hr : r = some s) : ∃ A c, e = .returned (.tuple #[.slice A s.length c, .int .i64 0]) ∧ OwnZ w' B (.slice A s.length c) s := by
  rcases h with ⟨s', A, c, h1, h2, h3⟩ | ⟨h1, -⟩
  · rw [hr] at h1; injection h1 with h1; subst h1; exact ⟨A, c, h2, h3⟩
  · rw [hr] at h1; cases h1
theorem Res.gone {w' : World} {B : Nat} {r : Option (List Int)} {er : Int} {e : Ending} (h : Res w' B r er e) (hr : r = none) : e = .returned (.tuple #[.slice none 0 0, .int .i64 er]) := by
  rcases h with ⟨s', A, c, h1, h2, h3⟩ | ⟨h1, h2⟩
  · rw [hr] at h1; cases h1
  · exact h2
set_option maxHeartbeats 2000000 in
theorem makes_yes (k n : Int) (b u : List Int) (A B : Option Addr) (m t c d : Nat) (w : World) (hb : Ib w A m c b) (hu : Ib w B t d u) (h1 : oneO (k, n) b = some u) (h2 : backO (k, n) u = some b) :
    Calls Try.prog 21 #[.agg #[.int .u8 k, .int .i64 n], .slice A m c, .slice B t d] w fun e w' => e = .returned (.bool true) ∧ Below w.heap.size w w' := by
  have HB := Lib.hid hb
  have HU := Lib.hid hu
  have H1 := Lib.hid h1
  have H2 := Lib.hid h2
  have L1 : Hid (t ≤ 9223372036854775807) := Lib.hid (by rw [← hu.e]; have := oneO_bd h1; omega)
  have L2 : Hid (m ≤ 9223372036854775807) := Lib.hid (by rw [← hb.e]; have := backO_bd h2; omega)
  clear hb hu h1 h2
  have K0 := fi_new w k n
  have B0 := fi_box w k n
  go_enter Try.func21, Try.ntmps21
  go_upto_region 1 with fail
  generalize hw0 : (w.alloc (.cells #[.int .u8 k, .int .i64 n] 23)) = w0 at *
  have HK := Lib.hid K0
  have p0 := K0.c0
  have p1 := K0.c1
  have HBW := Lib.hid B0
  have HB := Lib.hid (HB.out.below B0)
  have HU := Lib.hid (HU.out.below B0)
  clear K0 B0 hw0
  go_wp2_with fail
  refine (One_any k n b A m c _ HB.out).mono ?_
  rintro e w1 ⟨hres, b1⟩
  have HB := Lib.hid (HB.out.below b1)
  have HU := Lib.hid (HU.out.below b1)
  have HBW := Lib.hid (HBW.out.trans (b1.mono HBW.out.size))
  have HK := Lib.hid (HK.out.past b1)
  clear p0 p1
  have p0 := HK.out.c0
  have p1 := HK.out.c1
  obtain ⟨A1, c1, rfl, o1⟩ := Res.get hres H1.out
  have HO1 := Lib.hid (ownz_has o1)
  rw [HU.out.e]
  clear o1 b1
  go_wp2_with fail
  refine (Back_any k n u B t d _ HU.out).mono ?_
  rintro e w2 ⟨hres, b2⟩
  have HB := Lib.hid (HB.out.below b2)
  have HU := Lib.hid (HU.out.below b2)
  have HBW := Lib.hid (HBW.out.trans (b2.mono HBW.out.size))
  have HO1 := Lib.hid (HO1.out.below b2 (Nat.le_refl _))
  clear p0 p1
  obtain ⟨A2, c2, rfl, o2⟩ := Res.get hres H2.out
  have HO2 := Lib.hid (ownz_has o2)
  rw [HB.out.e]
  clear o2 b2
  go_wp2_with fail
  refine (same_yes A1 B t c1 d u _ HO1.out HU.out.h HU.out.e L1.out).mono ?_
  rintro e w3 ⟨rfl, b3⟩
  have HB := Lib.hid (HB.out.below b3)
  have HBW := Lib.hid (HBW.out.trans (b3.mono HBW.out.size))
  have HO2 := Lib.hid (HO2.out.below b3 (Nat.le_refl _))
  clear b3
  go_wp2_with fail
  refine (same_yes A2 A m c2 c b _ HO2.out HB.out.h HB.out.e L2.out).mono ?_
  rintro e w4 ⟨rfl, b4⟩
  have HBW := Lib.hid (HBW.out.trans (b4.mono HBW.out.size))
  clear b4
  go_wp2_with fail
  go_ret
  exact ⟨rfl, HBW.out⟩
set_option maxHeartbeats 2000000 in
theorem nothing_yes (b : List Int) (A : Option Addr) (m c : Nat) (w : World) (hb : Ib w A m c b) (hm : m ≤ 10125) (h : backO (3, 0) b = none) :
    Calls Try.prog 23 #[.slice A m c] w fun e w' => e = .returned (.bool true) ∧ Below w.heap.size w w' := by
  have HB := Lib.hid hb
  have H := Lib.hid h
  have HE : Hid (backE (3, 0) b = 12) := Lib.hid (by unfold backE; rw [if_pos (by decide), if_pos (by rw [hb.e]; exact hm)])
  clear hb h hm
  go_enter Try.func23, Try.ntmps23
  go_wp2_with fail
  refine (Back_any 3 0 b A m c _ HB.out).mono ?_
  rintro e w1 ⟨hres, b1⟩
  obtain rfl := Res.gone hres H.out
  have HB1 := Lib.hid b1
  rw [HE.out]
  clear b1 hres
  go_wp2_with fail
  go_ret
  exact ⟨rfl, HB1.out⟩
theorem ib_lit (w : World) (zs : List Int) (hl : zs.length ≤ 10000) (hb : Byt zs) {g n : Nat} (hg : w.heap.size = g) (hn : zs.length = n) : Ib (w.alloc (.cells (zs.map (Value.int .u8)).toArray 5)) (some ⟨g, 0, none⟩) n n zs :=
  ⟨has_lit hg (by unfold maxLen; omega), hn, Nat.le_refl _, by omega, hb⟩
theorem byt_dec {zs : List Int} (h : zs.all (fun z => decide (0 ≤ z) && decide (z ≤ 255)) = true) : Byt zs := by
  intro z hz
  have := List.all_eq_true.1 h z hz
  simp at this; exact this
theorem al_1 : oneO (1, 1) [5, 7, 7, 7, 7] = some [5, 2, 0, 0, 0] ∧ backO (1, 1) [5, 2, 0, 0, 0] = some [5, 7, 7, 7, 7] := by decide +kernel
theorem al_2 : oneO (2, 0) [5, 7, 7, 7, 7] = some [5, 7, 0, 0, 0] ∧ backO (2, 0) [5, 7, 0, 0, 0] = some [5, 7, 7, 7, 7] := by decide +kernel
theorem al_3 : oneO (3, 0) [5, 7, 7, 7, 7] = some [5, 7, 7, 2] ∧ backO (3, 0) [5, 7, 7, 2] = some [5, 7, 7, 7, 7] := by decide +kernel
theorem al_4 : oneO (3, 0) [9, 9] = some [9, 9, 0] ∧ backO (3, 0) [9, 9, 0] = some [9, 9] := by decide +kernel
theorem al_5 : backO (3, 0) [9, 9] = none := by decide +kernel
theorem al_6 : backO (3, 0) [9, 9, 0, 9] = none := by decide +kernel
set_option maxHeartbeats 2000000 in
theorem alive_yes (w : World) : Calls Try.prog 24 #[] w fun e w' => e = .returned (.bool true) ∧ Below w.heap.size w w' := by
  have I0 : Ib (w.alloc (.cells #[.int .u8 5, .int .u8 7, .int .u8 7, .int .u8 7, .int .u8 7] 5)) (some ⟨w.heap.size, 0, none⟩) 5 5 [5, 7, 7, 7, 7] := ib_lit w [5, 7, 7, 7, 7] (by simp) (byt_dec rfl) rfl rfl
  have HI := Lib.hid I0
  have HW : Hid (Below w.heap.size w (w.alloc (.cells #[.int .u8 5, .int .u8 7, .int .u8 7, .int .u8 7, .int .u8 7] 5))) := Lib.hid ((Below.refl _ _).alloc (Nat.le_refl _) _)
  clear I0
  go_enter Try.func24, Try.ntmps24
  go_upto_region 2 with fail
  generalize (w.alloc (.cells #[.int .u8 5, .int .u8 7, .int .u8 7, .int .u8 7, .int .u8 7] 5)) = w0 at *
  go_wp2_with fail
  refine (makes_yes 1 1 [5, 7, 7, 7, 7] [5, 2, 0, 0, 0] _ _ 5 5 5 5 _ (HI.out.below ((Below.refl _ _).alloc (Nat.le_refl _) _)) (ib_lit w0 [5, 2, 0, 0, 0] (by simp) (byt_dec rfl) rfl rfl) al_1.1 al_1.2).mono ?_; rintro e w1 ⟨rfl, bn⟩; have hz := ((Below.refl (w0).heap.size w0).alloc (Nat.le_refl _) _).trans (bn.mono (by simp)); have HI := Lib.hid (HI.out.below hz); have HW := Lib.hid (HW.out.trans (hz.mono HW.out.size)); clear bn hz
  go_wp2_with fail
  refine (makes_yes 2 0 [5, 7, 7, 7, 7] [5, 7, 0, 0, 0] _ _ 5 5 5 5 _ (HI.out.below ((Below.refl _ _).alloc (Nat.le_refl _) _)) (ib_lit _ [5, 7, 0, 0, 0] (by simp) (byt_dec rfl) rfl rfl) al_2.1 al_2.2).mono ?_; rintro e w2 ⟨rfl, bn⟩; have hz := ((Below.refl (w1).heap.size w1).alloc (Nat.le_refl _) _).trans (bn.mono (by simp)); have HI := Lib.hid (HI.out.below hz); have HW := Lib.hid (HW.out.trans (hz.mono HW.out.size)); clear bn hz
  go_wp2_with fail
  refine (makes_yes 3 0 [5, 7, 7, 7, 7] [5, 7, 7, 2] _ _ 5 4 5 4 _ (HI.out.below ((Below.refl _ _).alloc (Nat.le_refl _) _)) (ib_lit _ [5, 7, 7, 2] (by simp) (byt_dec rfl) rfl rfl) al_3.1 al_3.2).mono ?_; rintro e w3 ⟨rfl, bn⟩; have hz := ((Below.refl (w2).heap.size w2).alloc (Nat.le_refl _) _).trans (bn.mono (by simp)); have HI := Lib.hid (HI.out.below hz); have HW := Lib.hid (HW.out.trans (hz.mono HW.out.size)); clear bn hz
  go_wp2_with fail
  refine (makes_yes 3 0 [9, 9] [9, 9, 0] _ _ 2 3 2 3 _ ((ib_lit w3 [9, 9] (by simp) (byt_dec rfl) rfl rfl).below ((Below.refl _ _).alloc (Nat.le_refl _) _)) (ib_lit _ [9, 9, 0] (by simp) (byt_dec rfl) (by simp) rfl) al_4.1 al_4.2).mono ?_; rintro e w4 ⟨rfl, bn⟩; have hz := (((Below.refl (w3).heap.size w3).alloc (Nat.le_refl _) _).alloc (by simp) _).trans (bn.mono (by simp; omega)); have HI := Lib.hid (HI.out.below hz); have HW := Lib.hid (HW.out.trans (hz.mono HW.out.size)); clear bn hz
  go_wp2_with fail
  refine (nothing_yes [9, 9] _ 2 2 _ (ib_lit w4 [9, 9] (by simp) (byt_dec rfl) rfl rfl) (by omega) al_5).mono ?_; rintro e w5 ⟨rfl, bn⟩; have hz := ((Below.refl (w4).heap.size w4).alloc (Nat.le_refl _) _).trans (bn.mono (by simp)); have HI := Lib.hid (HI.out.below hz); have HW := Lib.hid (HW.out.trans (hz.mono HW.out.size)); clear bn hz
  go_wp2_with fail
  refine (nothing_yes [9, 9, 0, 9] _ 4 4 _ (ib_lit w5 [9, 9, 0, 9] (by simp) (byt_dec rfl) rfl rfl) (by omega) al_6).mono ?_; rintro e w6 ⟨rfl, bn⟩; have hz := ((Below.refl (w5).heap.size w5).alloc (Nat.le_refl _) _).trans (bn.mono (by simp)); have HI := Lib.hid (HI.out.below hz); have HW := Lib.hid (HW.out.trans (hz.mono HW.out.size)); clear bn hz
  go_wp2_with fail
  go_ret
  exact ⟨rfl, HW.out⟩
end Go.Proofs.Ytbfodmckgjeoaaa.fiL
