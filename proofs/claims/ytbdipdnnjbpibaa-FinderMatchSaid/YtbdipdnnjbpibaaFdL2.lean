/- Lengths of matches that are told; the chapter's examples of finders, by walks. -/
import Derived.Test.YtbdipdnnjbpibaaFdW12
namespace Go.Proofs.Ytbdipdnnjbpibaa.fdL
open Go.RowKit Go.Proofs.Ytbdipdnnjbpibaa.base Go.Proofs.Ytbdipdnnjbpibaa.rgP Go.Proofs.Ytbdipdnnjbpibaa.fdP Go.Proofs.Ytbdipdnnjbpibaa.fdW Go.Proofs.Ytbdipdnnjbpibaa.hashW
set_option linter.unusedVariables false
set_option linter.unusedSimpArgs false

theorem full_val {r : Rg} {n : Int} {k : Nat} (hok : rgOk r = true) (h1 : n ≤ r.n) (h : ∀ i : Nat, i < k → eqB r n ((i : Int) + 1) = true) (hk : eqB r n ((k : Int) + 1) = false) : full r n = k := by
  have a := full_at hok h1 h
  rcases Nat.lt_or_ge k (full r n) with h2 | h2
  · rw [full_eq h2] at hk; cases hk
  · omega
theorem Length_any (r : Rg) (A : Option Addr) (n c : Nat) (q m : Int) (w : World) (h : RgIn w A n c r) (m9 : m ≤ 9223372036854775807) :
    Calls Try.prog 16 #[.agg #[.int .i64 (r).l, .slice A n c, .int .i64 (r).n], .int .i64 q, .int .i64 m] w fun e w' => e = .returned (.tuple #[.int .i64 (lenV r q m), .int .i64 (lenE r q m)]) ∧ Below w.heap.size w w' := by
  by_cases hk : lenE r q m = 0
  · refine (Length_ok r A n c q m w h hk m9).mono ?_
    rintro e w1 ⟨rfl, hb⟩
    exact ⟨by rw [lenV, if_pos hk, hk], hb⟩
  · refine (Length_bad r A n c q m w h hk).mono ?_
    rintro e w1 ⟨rfl, hb⟩
    exact ⟨by rw [lenV, if_neg hk], hb⟩
set_option maxHeartbeats 1000000 in
theorem length_t (r : Rg) (A : Option Addr) (n c : Nat) (q m v : Int) (w : World) (h : RgIn w A n c r) (m9 : m ≤ 9223372036854775807) (hh : lenE r q m = 0 ∧ lenV r q m = v) :
    Calls Try.prog 17 #[.agg #[.int .i64 (r).l, .slice A n c, .int .i64 (r).n], .int .i64 q, .int .i64 m, .int .i64 v] w fun e w' => e = .returned (.bool true) ∧ Below w.heap.size w w' := by
  have H := Lib.hid h
  have HH := Lib.hid hh
  clear h hh
  go_enter Try.func17, Try.ntmps17
  go_wp2_with (refine (Length_any r A n c q m _ (H.out.below (by (repeat' (first | (with_reducible exact Below.refl _ _) | (with_reducible assumption) | (with_reducible refine below_drewN ?_ _) | (with_reducible refine below_new ?_ _) | (with_reducible refine Below.alloc ?_ ?_ _) | (with_reducible refine Below.drew ?_) | (with_reducible refine Below.setCell ?_ ?_ _) | (with_reducible apply below_at; (case k => (with_reducible assumption)); (case hB => omega)) | (with_reducible apply below_on; (with_reducible assumption)) | (go_size; done) | (with_reducible apply size_of))))) m9).mono ?_; rintro e w1 ⟨rfl, hb1⟩; rw [HH.out.1, HH.out.2])
  go_ret
  exact ⟨by simp, by (repeat' (first | (with_reducible exact Below.refl _ _) | (with_reducible assumption) | (with_reducible refine below_drewN ?_ _) | (with_reducible refine below_new ?_ _) | (with_reducible refine Below.alloc ?_ ?_ _) | (with_reducible refine Below.drew ?_) | (with_reducible refine Below.setCell ?_ ?_ _) | (with_reducible apply below_at; (case k => (with_reducible assumption)); (case hB => omega)) | (with_reducible apply below_on; (with_reducible assumption)) | (go_size; done) | (with_reducible apply size_of)))⟩
set_option maxRecDepth 100000 in
set_option maxHeartbeats 4000000 in
theorem alive (w : World) : Calls Try.prog 18 #[] w fun e w' => e = .returned (.bool true) ∧ Below w.heap.size w w' := by
  obtain ⟨f0, hf0⟩ : ∃ f, newF 0 = f := ⟨_, rfl⟩
  obtain ⟨f1, hf1⟩ : ∃ f, fputV f0 5 12 = f := ⟨_, rfl⟩
  obtain ⟨r0, hr0⟩ : ∃ r, newR 0 = r := ⟨_, rfl⟩
  obtain ⟨r1, hr1⟩ : ∃ r, putV r0 [120, 97, 98, 99, 121, 97, 98, 99] = r := ⟨_, rfl⟩
  have HN := Lib.hid (And.intro hf0 (And.intro hf1 (And.intro hr0 hr1)))
  have HV : Hid (newE 0 = 0 ∧ (findV f0 5 = -1 ∧ fdE f0 = 0) ∧ fputE f0 12 = 0 ∧ (findV f1 5 = 12 ∧ fdE f1 = 0) ∧ findV f1 69 = 12 ∧ findV f1 6 = -1 ∧ putE r0 [120, 97, 98, 99, 121, 97, 98, 99] = 0) := Lib.hid (by subst hr1 hr0 hf1 hf0; decide +kernel)
  have hq : rgOk r1 = true ∧ r1.n = 8 ∧ (∀ i : Nat, i < 3 → eqB r1 4 ((i : Int) + 1) = true) ∧ eqB r1 4 ((3 : Nat) + 1) = false ∧ eqB r1 0 ((0 : Nat) + 1) = false := by subst hr1 hr0; decide +kernel
  have g4 : full r1 4 = 3 := full_val hq.1 (by omega) hq.2.2.1 hq.2.2.2.1
  have g0 : full r1 0 = 0 := full_val hq.1 (by omega) (fun i hi => by omega) hq.2.2.2.2
  have eL : ∀ q m : Int, 0 ≤ q → q ≤ 8 → 0 ≤ m → lenE r1 q m = 0 := fun q m h1 h2 h3 => by rw [lenE, if_pos hq.1, if_pos ⟨h1, by omega, h3⟩]
  have HL : Hid ((lenE r1 4 9 = 0 ∧ lenV r1 4 9 = 3) ∧ (lenE r1 4 2 = 0 ∧ lenV r1 4 2 = 2) ∧ (lenE r1 0 9 = 0 ∧ lenV r1 0 9 = 0)) := Lib.hid ⟨⟨eL 4 9 (by omega) (by omega) (by omega), by rw [lenV, if_pos (eL 4 9 (by omega) (by omega) (by omega)), g4]; rfl⟩, ⟨eL 4 2 (by omega) (by omega) (by omega), by rw [lenV, if_pos (eL 4 2 (by omega) (by omega) (by omega)), g4]; rfl⟩, ⟨eL 0 9 (by omega) (by omega) (by omega), by rw [lenV, if_pos (eL 0 9 (by omega) (by omega) (by omega)), g0]; rfl⟩⟩
  clear hf0 hf1 hr0 hr1 hq g4 g0 eL
  have kc := fun (w : World) (C : Array Value) (n c g : Nat) (hg : g = w.heap.size) => Joins.run_convert_bytes_const_at (P := Try.prog) w 35 5 C n c g hg Try.underlying35 Try.underlying5
  go_enter Try.func18, Try.ntmps18
  go_wp2_with fail
  refine (New_any 0 _).mono ?_
  rintro e w1 ⟨A0, n0, c0, rfl, i0, hb1⟩
  rw [HN.out.1] at i0 ⊢
  rw [HV.out.1]
  have I0 := Lib.hid i0
  have a1 : Below w.heap.size w w1 := by (repeat' (first | (with_reducible exact Below.refl _ _) | (with_reducible assumption) | (with_reducible refine below_drewN ?_ _) | (with_reducible refine below_new ?_ _) | (with_reducible refine Below.alloc ?_ ?_ _) | (with_reducible refine Below.drew ?_) | (with_reducible refine Below.setCell ?_ ?_ _) | (with_reducible apply below_at; (case k => (with_reducible assumption)); (case hB => omega)) | (with_reducible apply below_on; (with_reducible assumption)) | (go_size; done) | (with_reducible apply size_of)))
  clear i0 hb1
  go_wp2_with fail
  refine (Find_any f0 A0 n0 c0 5 _ (I0.out.below ((Below.refl _ _).alloc (Nat.le_refl _) _)) (by omega) (by omega)).mono ?_
  rintro e w2 ⟨rfl, hb2⟩
  rw [HV.out.2.1.1, HV.out.2.1.2]
  have I0 := Lib.hid (fin_step I0.out hb2)
  have T1 : Lies (w2) (w1.heap.size) 24 [.int .i64 (f0).l, .slice (A0) (n0) (c0)] := (Lies.fresh _ _ _).past hb2
  obtain ⟨p0, p1, -, -⟩ := T1.two
  have a2 := acc_step a1 hb2
  clear a1 hb2
  go_wp2_with fail
  refine (Put_any f0 A0 n0 c0 5 12 _ I0.out (by omega) (by omega)).mono ?_
  rintro e w3 ⟨A1, n1, c1, rfl, i1, hb3⟩
  rw [HN.out.2.1] at i1 ⊢
  rw [HV.out.2.2.1]
  have I1 := Lib.hid i1
  have a3 := a2.trans (hb3.mono a2.size)
  clear i1 hb3 a2 T1 p0 p1
  go_wp2_with fail
  refine (Find_any f1 A1 n1 c1 5 _ (I1.out.below ((Below.refl _ _).alloc (Nat.le_refl _) _)) (by omega) (by omega)).mono ?_
  rintro e w4 ⟨rfl, hb4⟩
  rw [HV.out.2.2.2.1.1, HV.out.2.2.2.1.2]
  have I1 := Lib.hid (fin_step I1.out hb4)
  have T2 : Lies (w4) (w3.heap.size) 24 [.int .i64 (f1).l, .slice (A1) (n1) (c1)] := (Lies.fresh _ _ _).past hb4
  obtain ⟨p0, p1, -, -⟩ := T2.two
  have a4 := acc_step a3 hb4
  clear a3 hb4
  go_wp2_with fail
  refine (Find_any f1 A1 n1 c1 69 _ I1.out (by omega) (by omega)).mono ?_
  rintro e w5 ⟨rfl, hb5⟩
  rw [HV.out.2.2.2.2.1, HV.out.2.2.2.1.2]
  have I1 := Lib.hid (I1.out.below hb5)
  have T3 := T2.past hb5
  clear T2 p0 p1
  obtain ⟨p0, p1, -, -⟩ := T3.two
  have a5 := a4.trans (hb5.mono a4.size)
  clear a4 hb5
  go_wp2_with fail
  refine (Find_any f1 A1 n1 c1 6 _ I1.out (by omega) (by omega)).mono ?_
  rintro e w6 ⟨rfl, hb6⟩
  rw [HV.out.2.2.2.2.2.1, HV.out.2.2.2.1.2]
  have a6 := a5.trans (hb6.mono a5.size)
  clear a5 hb6 T3 p0 p1
  go_wp2_with fail
  refine (rgL.New_any 0 _).mono ?_
  rintro e w7 ⟨A7, n7, c7, rfl, i7, -, hb7⟩
  rw [HN.out.2.2.1] at i7 ⊢
  rw [HV.out.1]
  have I7 := Lib.hid i7
  have a7 := a6.trans (hb7.mono a6.size)
  clear a6 hb7 i7
  go_wp2_with fail
  refine (rgL.Put_any r0 A7 _ n7 c7 8 8 [120, 97, 98, 99, 121, 97, 98, 99] _ (I7.out.below (by (repeat' (first | (with_reducible exact Below.refl _ _) | (with_reducible assumption) | (with_reducible refine below_drewN ?_ _) | (with_reducible refine below_new ?_ _) | (with_reducible refine Below.alloc ?_ ?_ _) | (with_reducible refine Below.drew ?_) | (with_reducible refine Below.setCell ?_ ?_ _) | (with_reducible apply below_at; (case k => (with_reducible assumption)); (case hB => omega)) | (with_reducible apply below_on; (with_reducible assumption)) | (go_size; done) | (with_reducible apply size_of))))) (rgL.has_mark (zs := [120, 97, 98, 99, 121, 97, 98, 99]) (by simp)) rfl (by omega) (by decide)).mono ?_
  rintro e w8 ⟨A8, n8, c8, rfl, i8, -, hb8⟩
  rw [HN.out.2.2.2] at i8 ⊢
  rw [HV.out.2.2.2.2.2.2]
  have I8 := Lib.hid i8
  have a8 : Below w.heap.size w w8 := by (repeat' (first | (with_reducible exact Below.refl _ _) | (with_reducible assumption) | (with_reducible refine below_drewN ?_ _) | (with_reducible refine below_new ?_ _) | (with_reducible refine Below.alloc ?_ ?_ _) | (with_reducible refine Below.drew ?_) | (with_reducible refine Below.setCell ?_ ?_ _) | (with_reducible apply below_at; (case k => (with_reducible assumption)); (case hB => omega)) | (with_reducible apply below_on; (with_reducible assumption)) | (go_size; done) | (with_reducible apply size_of)))
  clear a7 hb8 i8 kc
  have T8 : Hid (Lies (w8.alloc (.cells #[.int .i64 r1.l, .slice A8 n8 c8, .int .i64 r1.n] 37)) (w8.heap.size) 37 [.int .i64 (r1).l, .slice (A8) (n8) (c8), .int .i64 (r1).n]) := Lib.hid (Lies.fresh _ _ _)
  go_wp2_with (first
    | (go_at_call 17; with_reducible refine (length_t r1 A8 n8 c8 4 9 3 _ (I8.out.below ((Below.refl _ _).alloc (Nat.le_refl _) _)) (by omega) HL.out.1).mono ?_; rintro e x1 ⟨rfl, hx1⟩; have K1 := T8.out.past hx1; obtain ⟨q0, q1, q2, -, -, -⟩ := K1.three)
    | (go_at_call 17; with_reducible refine (length_t r1 A8 n8 c8 4 2 2 _ (I8.out.below (by (repeat' (first | (with_reducible exact Below.refl _ _) | (with_reducible assumption) | (with_reducible refine below_drewN ?_ _) | (with_reducible refine below_new ?_ _) | (with_reducible refine Below.alloc ?_ ?_ _) | (with_reducible refine Below.drew ?_) | (with_reducible refine Below.setCell ?_ ?_ _) | (with_reducible apply below_at; (case k => (with_reducible assumption)); (case hB => omega)) | (with_reducible apply below_on; (with_reducible assumption)) | (go_size; done) | (with_reducible apply size_of))))) (by omega) HL.out.2.1).mono ?_; rintro e x2 ⟨rfl, hx2⟩; have K2 := K1.past hx2; obtain ⟨q0', q1', q2', -, -, -⟩ := K2.three)
    | (go_at_call 17; with_reducible refine (length_t r1 A8 n8 c8 0 9 0 _ (I8.out.below (by (repeat' (first | (with_reducible exact Below.refl _ _) | (with_reducible assumption) | (with_reducible refine below_drewN ?_ _) | (with_reducible refine below_new ?_ _) | (with_reducible refine Below.alloc ?_ ?_ _) | (with_reducible refine Below.drew ?_) | (with_reducible refine Below.setCell ?_ ?_ _) | (with_reducible apply below_at; (case k => (with_reducible assumption)); (case hB => omega)) | (with_reducible apply below_on; (with_reducible assumption)) | (go_size; done) | (with_reducible apply size_of))))) (by omega) HL.out.2.2).mono ?_; rintro e x3 ⟨rfl, hx3⟩))
  go_ret
  exact ⟨rfl, by (repeat' (first | (with_reducible exact Below.refl _ _) | (with_reducible assumption) | (with_reducible refine below_drewN ?_ _) | (with_reducible refine below_new ?_ _) | (with_reducible refine Below.alloc ?_ ?_ _) | (with_reducible refine Below.drew ?_) | (with_reducible refine Below.setCell ?_ ?_ _) | (with_reducible apply below_at; (case k => (with_reducible assumption)); (case hB => omega)) | (with_reducible apply below_on; (with_reducible assumption)) | (go_size; done) | (with_reducible apply size_of)))⟩
end Go.Proofs.Ytbdipdnnjbpibaa.fdL
