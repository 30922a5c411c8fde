/- ContextNames, by a walk. -/
import Derived.Test.YtpggdijhfdddpaaDoorCxL2
namespace Go.Proofs.YtpggdijhfdddpaaDoor.cxW
open Go.RowKit Go.Proofs.YtpggdijhfdddpaaDoor.base Go.Proofs.YtpggdijhfdddpaaDoor.rgP Go.Proofs.YtpggdijhfdddpaaDoor.cxP Go.Proofs.YtpggdijhfdddpaaDoor.hashP Go.Proofs.YtpggdijhfdddpaaDoor.hashW Go.Proofs.YtpggdijhfdddpaaDoor.rgW
set_option linter.unusedVariables false
set_option linter.unusedSimpArgs false
def badR : Rg := ⟨8, [], 0⟩
theorem bad_in (w : World) : RgIn w none 0 0 badR := ⟨by decide, by decide, by decide, by decide, .inl rfl, rfl, Nat.le_refl _, by decide, by intro z h; cases h⟩
def abc20 : List Int := [97, 66, 99, 68, 101, 70, 103, 72, 105, 74, 107, 76, 109, 78, 111, 80, 113, 82, 115, 84]
def abc16 : List Int := [101, 102, 103, 104, 105, 106, 107, 108, 109, 110, 111, 112, 113, 114, 115, 116]
set_option maxRecDepth 100000 in
set_option maxHeartbeats 1500000 in
theorem names_law (w : World) (hT : Tab w) :
    Calls Tryd.prog 4 #[] w fun e w' => e = .returned (.bool true) ∧ Below w.heap.size w w' := by
  have HTT := Lib.hid hT
  have HE : Hid (rgE badR = 8) := Lib.hid (by decide +kernel)
  have hbo : rgOk badR = false := by decide +kernel
  have HMV : Hid (∀ k, mkV badR k = 0) := Lib.hid (fun k => by simp [mkV, hbo])
  have HWV : Hid (wdV badR = []) := Lib.hid (by decide +kernel)
  have HRV : Hid (rc1 badR 1 = 0 ∧ rc1 badR 2 = 0) := Lib.hid (by decide +kernel)
  have HD : Hid ((dpV 5 15 = 0 ∧ dpE 15 = 2) ∧ (dpV 5 32 = 0 ∧ dpE 32 = 2) ∧ (dpV 5 (-1) = 0 ∧ dpE (-1) = 2) ∧ (dpV 5 16 = hStep 5 16 ∧ dpE 16 = 0) ∧ (dpV 5 31 = hStep 5 31 ∧ dpE 31 = 0) ∧ hStep 5 16 ≠ hStep 5 31) := Lib.hid (by decide +kernel)
  have HBS : Hid (bstr abc16 = ⟨#[101, 102, 103, 104, 105, 106, 107, 108, 109, 110, 111, 112, 113, 114, 115, 116]⟩) := Lib.hid (by decide +kernel)
  obtain ⟨r1, hr1⟩ : ∃ r, putR (newR 0) abc20 = r := ⟨_, rfl⟩
  have HV1 : Hid (wdV r1 = abc16 ∧ rgE r1 = 0) := Lib.hid (by subst hr1; decide +kernel)
  have HR1 := Lib.hid hr1
  have LL : Hid (Lies (w.alloc (.cells #[.int .i64 8, .slice none 0 0, .int .i64 0] 24)) (w.heap.size) 24 [.int .i64 8, .slice none 0 0, .int .i64 0]) := Lib.hid (Lies.fresh _ _ _)
  have kc := fun (w : World) (C : Array Value) (n c g : Nat) (hg : g = w.heap.size) => Joins.run_convert_bytes_const_at (P := Tryd.prog) w 22 5 C n c g hg Tryd.underlying22 Tryd.underlying5
  have HKC := Lib.hid kc
  clear hr1 hT kc hbo
  go_enter Tryd.func4, Tryd.ntmps4
  go_wp2_with fail
  refine (rCheck_any badR none 0 0 _ (bad_in _)).mono ?_
  rintro e w1 ⟨rfl, hb1⟩
  rw [HE.out]
  have HL1 := Lib.hid (LL.out.past hb1)
  have HW1 : Hid (Below w.heap.size w w1) := Lib.hid (by (repeat' (first | (with_reducible exact Below.refl _ _) | (with_reducible assumption) | (with_reducible refine below_drewN ?_ _) | (with_reducible refine below_new ?_ _) | (with_reducible refine Below.alloc ?_ ?_ _) | (with_reducible refine Below.drew ?_) | (with_reducible refine Below.setCell ?_ ?_ _) | (with_reducible apply below_at; (case k => (with_reducible assumption)); (case hB => omega)) | (with_reducible apply below_on; (with_reducible assumption)) | (go_size; done) | (with_reducible apply size_of))))
  clear hb1
  obtain ⟨x0, x1, x2, -, -, -⟩ := HL1.out.three
  go_wp2_with fail
  refine (Of_any badR none 0 0 _ (bad_in _) (HTT.out.below HW1.out (Nat.le_refl _))).mono ?_
  rintro e w2 ⟨rfl, hb2⟩
  rw [HE.out, HMV.out, HMV.out, HMV.out, HMV.out, HMV.out, HMV.out]
  have HL2 := Lib.hid (HL1.out.past hb2)
  have HW2 := Lib.hid (HW1.out.trans (hb2.mono HW1.out.size))
  clear hb2 x0 x1 x2
  obtain ⟨x0, x1, x2, -, -, -⟩ := HL2.out.three
  have zl := HL2.out.lt
  go_wp2_with fail
  refine (Word_any badR none 0 0 _ (bad_in _)).mono ?_
  rintro e w3 ⟨A3, q3, c3, rfl, hq3, o3, hb3⟩
  rw [HE.out]
  have HL3 := Lib.hid ((HL2.out.alloc _).past hb3)
  have HW3 : Hid (Below w.heap.size w w3) := Lib.hid (by have := HW2.out; (repeat' (first | (with_reducible exact Below.refl _ _) | (with_reducible assumption) | (with_reducible refine below_drewN ?_ _) | (with_reducible refine below_new ?_ _) | (with_reducible refine Below.alloc ?_ ?_ _) | (with_reducible refine Below.drew ?_) | (with_reducible refine Below.setCell ?_ ?_ _) | (with_reducible apply below_at; (case k => (with_reducible assumption)); (case hB => omega)) | (with_reducible apply below_on; (with_reducible assumption)) | (go_size; done) | (with_reducible apply size_of))))
  clear hb3 x0 x1 x2 hq3 o3
  obtain ⟨x0, x1, x2, -, -, -⟩ := HL3.out.three
  go_wp2_with fail
  refine (Recent_any badR none 0 0 _ (bad_in _)).mono ?_
  rintro e w4 ⟨rfl, hb4⟩
  rw [HE.out, HRV.out.1, HRV.out.2]
  have HL4 := Lib.hid (HL3.out.past hb4)
  have HW4 := Lib.hid (HW3.out.trans (hb4.mono HW3.out.size))
  clear hb4 x0 x1 x2
  go_wp2_with fail
  refine (Deep_any 5 15 _ (by omega) (by omega)).mono ?_
  rintro e w5 ⟨rfl, hb5⟩
  rw [HD.out.1.1, HD.out.1.2]
  have HW5 := Lib.hid (HW4.out.trans (hb5.mono HW4.out.size))
  clear hb5
  go_wp2_with fail
  refine (Deep_any 5 32 _ (by omega) (by omega)).mono ?_
  rintro e w6 ⟨rfl, hb6⟩
  rw [HD.out.2.1.1, HD.out.2.1.2]
  have HW6 := Lib.hid (HW5.out.trans (hb6.mono HW5.out.size))
  clear hb6
  go_wp2_with fail
  refine (Deep_any 5 (-1) _ (by omega) (by omega)).mono ?_
  rintro e w7 ⟨rfl, hb7⟩
  rw [HD.out.2.2.1.1, HD.out.2.2.1.2]
  have HW7 := Lib.hid (HW6.out.trans (hb7.mono HW6.out.size))
  clear hb7
  go_wp2_with fail
  refine (Deep_any 5 16 _ (by omega) (by omega)).mono ?_
  rintro e w8 ⟨rfl, hb8⟩
  rw [HD.out.2.2.2.1.1, HD.out.2.2.2.1.2]
  have HW8 := Lib.hid (HW7.out.trans (hb8.mono HW7.out.size))
  clear hb8
  go_wp2_with fail
  refine (Deep_any 5 31 _ (by omega) (by omega)).mono ?_
  rintro e w9 ⟨rfl, hb9⟩
  rw [HD.out.2.2.2.2.1.1, HD.out.2.2.2.2.1.2]
  have HW9 := Lib.hid (HW8.out.trans (hb9.mono HW8.out.size))
  have hne := HD.out.2.2.2.2.2
  have HNE : Hid (hStep 5 16 = hStep 5 31 → False) := Lib.hid hne
  generalize hStep 5 16 = x16 at *
  generalize hStep 5 31 = x31 at *
  have kc := HKC.out
  clear hb9
  go_wp2_with fail
  refine (after_ok 0 _ 20 20 abc20 _ (by decide) (has_mark8 (zs := abc20) (by first | rfl | simp)) rfl (by omega) (by decide)).mono ?_
  rintro e w10 ⟨A1, n1, c1, rfl, i1, o1, hb10⟩
  rw [HR1.out] at i1 o1 ⊢
  have I1 := Lib.hid i1
  have HW10 : Hid (Below w.heap.size w w10) := Lib.hid (by have := HW9.out; (repeat' (first | (with_reducible exact Below.refl _ _) | (with_reducible assumption) | (with_reducible refine below_drewN ?_ _) | (with_reducible refine below_new ?_ _) | (with_reducible refine Below.alloc ?_ ?_ _) | (with_reducible refine Below.drew ?_) | (with_reducible refine Below.setCell ?_ ?_ _) | (with_reducible apply below_at; (case k => (with_reducible assumption)); (case hB => omega)) | (with_reducible apply below_on; (with_reducible assumption)) | (go_size; done) | (with_reducible apply size_of))))
  clear i1 o1 hb10 kc
  go_wp2_with fail
  refine (Word_any r1 A1 n1 c1 _ (I1.out.below (grows_alloc _ _))).mono ?_
  rintro e w11 ⟨A11, q11, c11, rfl, hq11, o11, hb11⟩
  rw [HV1.out.2]
  obtain rfl : q11 = 16 := len_cut HV1.out.1 hq11
  rw [HV1.out.1] at o11
  have HW11 : Hid (Below w.heap.size w w11) := Lib.hid (by have := HW10.out; (repeat' (first | (with_reducible exact Below.refl _ _) | (with_reducible assumption) | (with_reducible refine below_drewN ?_ _) | (with_reducible refine below_new ?_ _) | (with_reducible refine Below.alloc ?_ ?_ _) | (with_reducible refine Below.drew ?_) | (with_reducible refine Below.setCell ?_ ?_ _) | (with_reducible apply below_at; (case k => (with_reducible assumption)); (case hB => omega)) | (with_reducible apply below_on; (with_reducible assumption)) | (go_size; done) | (with_reducible apply size_of))))
  have HO11 := Lib.hid o11
  clear hb11 hq11 o11
  go_wp2_with fail
  refine (alive _ (HTT.out.below HW11.out (Nat.le_refl _))).mono ?_
  rintro e wz ⟨rfl, hbz⟩
  have cv1 := conv8 (n := 16) (c := c11) (HO11.out.past hbz).has rfl
  rw [HBS.out] at cv1
  have HWZ := Lib.hid (HW11.out.trans (hbz.mono HW11.out.size))
  clear hbz
  go_wp2_with fail
  go_ret
  exact ⟨retb (bne_iff_ne.2 hne), by have := HWZ.out; (repeat' (first | (with_reducible exact Below.refl _ _) | (with_reducible assumption) | (with_reducible refine below_drewN ?_ _) | (with_reducible refine below_new ?_ _) | (with_reducible refine Below.alloc ?_ ?_ _) | (with_reducible refine Below.drew ?_) | (with_reducible refine Below.setCell ?_ ?_ _) | (with_reducible apply below_at; (case k => (with_reducible assumption)); (case hB => omega)) | (with_reducible apply below_on; (with_reducible assumption)) | (go_size; done) | (with_reducible apply size_of)))⟩
end Go.Proofs.YtpggdijhfdddpaaDoor.cxW
