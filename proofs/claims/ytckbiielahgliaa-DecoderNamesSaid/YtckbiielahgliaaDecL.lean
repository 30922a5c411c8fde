/- The chapter's examples, by walks. -/
import Derived.Test.YtckbiielahgliaaDecRun2
namespace Go.Proofs.Ytckbiielahgliaa.decL
open Go.RowKit Go.Proofs.Ytckbiielahgliaa.base Go.Proofs.Ytckbiielahgliaa.encP Go.Proofs.Ytckbiielahgliaa.encW Go.Proofs.Ytckbiielahgliaa.decP Go.Proofs.Ytckbiielahgliaa.decW
set_option linter.unusedVariables false
set_option linter.unusedSimpArgs false

theorem hasB_litX {w : World} {e : TypeId} {zs : List Bool} {g : Nat} (hg : w.heap.size = g) : HasB (w.alloc (.cells (zs.map Value.bool).toArray e)) (some ⟨g, 0, none⟩) zs := by
  subst hg
  refine .inr ⟨w.heap.size, 0, rfl, by simp, fun i hi => ?_⟩
  have := (Lies.fresh w e (zs.map Value.bool)).cell i
  rw [Nat.zero_add, this, List.getElem?_map, List.getElem?_eq_getElem hi]
  simp [List.getD_eq_getElem?_getD, List.getElem?_eq_getElem hi]
theorem av : drE 1 [2048] = 0 ∧ drV [128] [2048] = [false] ∧ drV [127] [2048] = [true] ∧ drE 0 [2048] = 0 ∧ drV [] [2048] = [true] ∧ win [9] 0 = 150994944 ∧ ovV 0 4294967295 150994944 1 4 = -3 ∧ dcV 0 4294967295 150994944 1 4 = 0 := by decide +kernel
set_option maxRecDepth 100000 in
set_option maxHeartbeats 4000000 in
theorem alive (w : World) : Calls Try.prog 21 #[] w fun e w' => e = .returned (.bool true) ∧ Below w.heap.size w w' := by
  have AV := Lib.hid av
  go_enter Try.func21, Try.ntmps21
  go_wp2_with fail
  refine (RunD_any _ _ 1 _ 1 _ [128] [2048] _ ((has_lit (zs := [128]) rfl (by decide)).below ((Below.refl _ _).alloc (Nat.le_refl _) _) (Nat.le_refl _)) rfl (by omega) (by omega) (by simp [InB]) (has_lit (zs := [2048]) (by simp) (by decide)) rfl (by omega)).mono ?_
  rintro e w1 ⟨A1, c1, rfl, hh1, hc1, hb1⟩
  rw [AV.out.2.1] at hh1 hc1
  rw [AV.out.2.1, AV.out.1]
  have H1 := Lib.hid hh1
  have W1 : Hid (Below w.heap.size w w1) := Lib.hid (by (repeat' (first | (with_reducible exact Below.refl _ _) | (with_reducible assumption) | (with_reducible refine below_drewN ?_ _) | (with_reducible refine below_new ?_ _) | (with_reducible refine Below.alloc ?_ ?_ _) | (with_reducible refine Below.drew ?_) | (with_reducible refine Below.setCell ?_ ?_ _) | (with_reducible apply below_at; (case k => (with_reducible assumption)); (case hB => omega)) | (with_reducible apply below_on; (with_reducible assumption)) | (go_size; done) | (with_reducible apply size_of))))
  clear hh1 hb1
  go_wp2_with fail
  refine (RunD_any _ _ 1 _ 1 _ [127] [2048] _ ((has_lit (zs := [127]) rfl (by decide)).below ((Below.refl _ _).alloc (Nat.le_refl _) _) (Nat.le_refl _)) rfl (by omega) (by omega) (by simp [InB]) (has_lit (zs := [2048]) (by simp) (by decide)) rfl (by omega)).mono ?_
  rintro e w2 ⟨A2, c2, rfl, hh2, hc2, hb2⟩
  rw [AV.out.2.2.1] at hh2 hc2
  rw [AV.out.2.2.1, AV.out.1]
  have H2 := Lib.hid hh2
  have W12 : Hid (Below w1.heap.size w1 w2) := Lib.hid (by (repeat' (first | (with_reducible exact Below.refl _ _) | (with_reducible assumption) | (with_reducible refine below_drewN ?_ _) | (with_reducible refine below_new ?_ _) | (with_reducible refine Below.alloc ?_ ?_ _) | (with_reducible refine Below.drew ?_) | (with_reducible refine Below.setCell ?_ ?_ _) | (with_reducible apply below_at; (case k => (with_reducible assumption)); (case hB => omega)) | (with_reducible apply below_on; (with_reducible assumption)) | (go_size; done) | (with_reducible apply size_of))))
  have W2 : Hid (Below w.heap.size w w2) := Lib.hid (by have := W1.out; (repeat' (first | (with_reducible exact Below.refl _ _) | (with_reducible assumption) | (with_reducible refine below_drewN ?_ _) | (with_reducible refine below_new ?_ _) | (with_reducible refine Below.alloc ?_ ?_ _) | (with_reducible refine Below.drew ?_) | (with_reducible refine Below.setCell ?_ ?_ _) | (with_reducible apply below_at; (case k => (with_reducible assumption)); (case hB => omega)) | (with_reducible apply below_on; (with_reducible assumption)) | (go_size; done) | (with_reducible apply size_of))))
  clear hh2 hb2 W1
  go_wp2_with fail
  refine (RunD_any none _ 0 0 1 _ [] [2048] _ (.inl rfl) rfl (by omega) (by omega) (by simp [InB]) (has_lit (zs := [2048]) (by simp) (by decide)) rfl (by omega)).mono ?_
  rintro e w3 ⟨A3, c3, rfl, hh3, hc3, hb3⟩
  rw [AV.out.2.2.2.2.1] at hh3 hc3
  rw [AV.out.2.2.2.2.1, AV.out.2.2.2.1]
  have H3 := Lib.hid hh3
  have W23 : Hid (Below w2.heap.size w2 w3) := Lib.hid (by (repeat' (first | (with_reducible exact Below.refl _ _) | (with_reducible assumption) | (with_reducible refine below_drewN ?_ _) | (with_reducible refine below_new ?_ _) | (with_reducible refine Below.alloc ?_ ?_ _) | (with_reducible refine Below.drew ?_) | (with_reducible refine Below.setCell ?_ ?_ _) | (with_reducible apply below_at; (case k => (with_reducible assumption)); (case hB => omega)) | (with_reducible apply below_on; (with_reducible assumption)) | (go_size; done) | (with_reducible apply size_of))))
  have W3 : Hid (Below w.heap.size w w3) := Lib.hid (by have := W2.out; (repeat' (first | (with_reducible exact Below.refl _ _) | (with_reducible assumption) | (with_reducible refine below_drewN ?_ _) | (with_reducible refine below_new ?_ _) | (with_reducible refine Below.alloc ?_ ?_ _) | (with_reducible refine Below.drew ?_) | (with_reducible refine Below.setCell ?_ ?_ _) | (with_reducible apply below_at; (case k => (with_reducible assumption)); (case hB => omega)) | (with_reducible apply below_on; (with_reducible assumption)) | (go_size; done) | (with_reducible apply size_of))))
  clear hh3 hb3 W2
  go_wp2_with fail
  refine (New_ok _ 1 _ [9] _ (has_lit (zs := [9]) (by simp) (by decide)) rfl (by omega) (by omega) (by simp [InB])).mono ?_
  rintro e w4 ⟨A4, c4, rfl, hh4, hc4, hm4, hb4⟩
  rw [AV.out.2.2.2.2.2.1]
  have W34 : Hid (Below w3.heap.size w3 w4) := Lib.hid (by (repeat' (first | (with_reducible exact Below.refl _ _) | (with_reducible assumption) | (with_reducible refine below_drewN ?_ _) | (with_reducible refine below_new ?_ _) | (with_reducible refine Below.alloc ?_ ?_ _) | (with_reducible refine Below.drew ?_) | (with_reducible refine Below.setCell ?_ ?_ _) | (with_reducible apply below_at; (case k => (with_reducible assumption)); (case hB => omega)) | (with_reducible apply below_on; (with_reducible assumption)) | (go_size; done) | (with_reducible apply size_of))))
  have W4 : Hid (Below w.heap.size w w4) := Lib.hid (by have := W3.out; (repeat' (first | (with_reducible exact Below.refl _ _) | (with_reducible assumption) | (with_reducible refine below_drewN ?_ _) | (with_reducible refine below_new ?_ _) | (with_reducible refine Below.alloc ?_ ?_ _) | (with_reducible refine Below.drew ?_) | (with_reducible refine Below.setCell ?_ ?_ _) | (with_reducible apply below_at; (case k => (with_reducible assumption)); (case hB => omega)) | (with_reducible apply below_on; (with_reducible assumption)) | (go_size; done) | (with_reducible apply size_of))))
  clear hh4 hb4 W3
  go_wp2_with fail
  refine (Over_any 0 4294967295 150994944 _ 1 _ 4 _ (by omega) (by omega) (by omega) (by omega) (by omega) (by omega) (by omega)).mono ?_
  rintro e w5 ⟨rfl, hb5⟩
  rw [AV.out.2.2.2.2.2.2.1, AV.out.2.2.2.2.2.2.2]
  have W45 : Hid (Below w4.heap.size w4 w5) := Lib.hid (by (repeat' (first | (with_reducible exact Below.refl _ _) | (with_reducible assumption) | (with_reducible refine below_drewN ?_ _) | (with_reducible refine below_new ?_ _) | (with_reducible refine Below.alloc ?_ ?_ _) | (with_reducible refine Below.drew ?_) | (with_reducible refine Below.setCell ?_ ?_ _) | (with_reducible apply below_at; (case k => (with_reducible assumption)); (case hB => omega)) | (with_reducible apply below_on; (with_reducible assumption)) | (go_size; done) | (with_reducible apply size_of))))
  have W5 : Hid (Below w.heap.size w w5) := Lib.hid (by have := W4.out; (repeat' (first | (with_reducible exact Below.refl _ _) | (with_reducible assumption) | (with_reducible refine below_drewN ?_ _) | (with_reducible refine below_new ?_ _) | (with_reducible refine Below.alloc ?_ ?_ _) | (with_reducible refine Below.drew ?_) | (with_reducible refine Below.setCell ?_ ?_ _) | (with_reducible apply below_at; (case k => (with_reducible assumption)); (case hB => omega)) | (with_reducible apply below_on; (with_reducible assumption)) | (go_size; done) | (with_reducible apply size_of))))
  clear hb5 W4
  have HX1 := Lib.hid ((((H1.out.below W12.out (Nat.le_refl _)).below W23.out (Nat.le_refl _)).below W34.out (Nat.le_refl _)).below W45.out (Nat.le_refl _))
  have HX2 := Lib.hid (((H2.out.below W23.out (Nat.le_refl _)).below W34.out (Nat.le_refl _)).below W45.out (Nat.le_refl _))
  have HX3 := Lib.hid ((H3.out.below W34.out (Nat.le_refl _)).below W45.out (Nat.le_refl _))
  clear H1 H2 H3 W12 W23 W34 W45
  go_wp2_with fail
  refine (rSame_any A1 _ 1 1 _ _ [false] [false] _ (HX1.out.below (by (repeat' (first | (with_reducible exact Below.refl _ _) | (with_reducible assumption) | (with_reducible refine below_drewN ?_ _) | (with_reducible refine below_new ?_ _) | (with_reducible refine Below.alloc ?_ ?_ _) | (with_reducible refine Below.drew ?_) | (with_reducible refine Below.setCell ?_ ?_ _) | (with_reducible apply below_at; (case k => (with_reducible assumption)); (case hB => omega)) | (with_reducible apply below_on; (with_reducible assumption)) | (go_size; done) | (with_reducible apply size_of)))) (Nat.le_refl _)) rfl (hasB_litX (zs := [false]) (by simp)) rfl (by omega) (by omega)).mono ?_
  rintro e w6 ⟨rfl, hb6⟩
  have W56 : Hid (Below w5.heap.size w5 w6) := Lib.hid (by (repeat' (first | (with_reducible exact Below.refl _ _) | (with_reducible assumption) | (with_reducible refine below_drewN ?_ _) | (with_reducible refine below_new ?_ _) | (with_reducible refine Below.alloc ?_ ?_ _) | (with_reducible refine Below.drew ?_) | (with_reducible refine Below.setCell ?_ ?_ _) | (with_reducible apply below_at; (case k => (with_reducible assumption)); (case hB => omega)) | (with_reducible apply below_on; (with_reducible assumption)) | (go_size; done) | (with_reducible apply size_of))))
  clear hb6
  go_wp2_with fail
  refine (rSame_any A2 _ 1 1 _ _ [true] [true] _ (HX2.out.below (by have := W56.out; (repeat' (first | (with_reducible exact Below.refl _ _) | (with_reducible assumption) | (with_reducible refine below_drewN ?_ _) | (with_reducible refine below_new ?_ _) | (with_reducible refine Below.alloc ?_ ?_ _) | (with_reducible refine Below.drew ?_) | (with_reducible refine Below.setCell ?_ ?_ _) | (with_reducible apply below_at; (case k => (with_reducible assumption)); (case hB => omega)) | (with_reducible apply below_on; (with_reducible assumption)) | (go_size; done) | (with_reducible apply size_of)))) (Nat.le_refl _)) rfl (hasB_litX (zs := [true]) (by simp)) rfl (by omega) (by omega)).mono ?_
  rintro e w7 ⟨rfl, hb7⟩
  have W57 : Hid (Below w5.heap.size w5 w7) := Lib.hid (by have := W56.out; (repeat' (first | (with_reducible exact Below.refl _ _) | (with_reducible assumption) | (with_reducible refine below_drewN ?_ _) | (with_reducible refine below_new ?_ _) | (with_reducible refine Below.alloc ?_ ?_ _) | (with_reducible refine Below.drew ?_) | (with_reducible refine Below.setCell ?_ ?_ _) | (with_reducible apply below_at; (case k => (with_reducible assumption)); (case hB => omega)) | (with_reducible apply below_on; (with_reducible assumption)) | (go_size; done) | (with_reducible apply size_of))))
  clear hb7 W56
  go_wp2_with fail
  refine (rSame_any A3 _ 1 1 _ _ [true] [true] _ (HX3.out.below (by have := W57.out; (repeat' (first | (with_reducible exact Below.refl _ _) | (with_reducible assumption) | (with_reducible refine below_drewN ?_ _) | (with_reducible refine below_new ?_ _) | (with_reducible refine Below.alloc ?_ ?_ _) | (with_reducible refine Below.drew ?_) | (with_reducible refine Below.setCell ?_ ?_ _) | (with_reducible apply below_at; (case k => (with_reducible assumption)); (case hB => omega)) | (with_reducible apply below_on; (with_reducible assumption)) | (go_size; done) | (with_reducible apply size_of)))) (Nat.le_refl _)) rfl (hasB_litX (zs := [true]) (by simp)) rfl (by omega) (by omega)).mono ?_
  rintro e w8 ⟨rfl, hb8⟩
  have W58 : Hid (Below w5.heap.size w5 w8) := Lib.hid (by have := W57.out; (repeat' (first | (with_reducible exact Below.refl _ _) | (with_reducible assumption) | (with_reducible refine below_drewN ?_ _) | (with_reducible refine below_new ?_ _) | (with_reducible refine Below.alloc ?_ ?_ _) | (with_reducible refine Below.drew ?_) | (with_reducible refine Below.setCell ?_ ?_ _) | (with_reducible apply below_at; (case k => (with_reducible assumption)); (case hB => omega)) | (with_reducible apply below_on; (with_reducible assumption)) | (go_size; done) | (with_reducible apply size_of))))
  clear hb8 W57
  go_wp2
  go_ret
  exact ⟨rfl, by have := W5.out; have := W58.out; (repeat' (first | (with_reducible exact Below.refl _ _) | (with_reducible assumption) | (with_reducible refine below_drewN ?_ _) | (with_reducible refine below_new ?_ _) | (with_reducible refine Below.alloc ?_ ?_ _) | (with_reducible refine Below.drew ?_) | (with_reducible refine Below.setCell ?_ ?_ _) | (with_reducible apply below_at; (case k => (with_reducible assumption)); (case hB => omega)) | (with_reducible apply below_on; (with_reducible assumption)) | (go_size; done) | (with_reducible apply size_of)))⟩
end Go.Proofs.Ytckbiielahgliaa.decL
