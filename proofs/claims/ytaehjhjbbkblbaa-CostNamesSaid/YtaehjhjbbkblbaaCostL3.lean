/- CostNames, by a walk. -/
import Derived.Test.YtaehjhjbbkblbaaCostL1
import Derived.Test.YtaehjhjbbkblbaaCostW4
namespace Go.Proofs.Ytaehjhjbbkblbaa.costL
open Go.RowKit Go.Proofs.Ytaehjhjbbkblbaa.base Go.Proofs.Ytaehjhjbbkblbaa.encP Go.Proofs.Ytaehjhjbbkblbaa.costP Go.Proofs.Ytaehjhjbbkblbaa.encW Go.Proofs.Ytaehjhjbbkblbaa.costW
set_option linter.unusedVariables false
set_option linter.unusedSimpArgs false

theorem nv : lgV 0 = 0 ∧ lgE 0 = 2 ∧ lgV 4294967297 = 0 ∧ lgE 4294967297 = 2 ∧ lgV 4294967296 = 2097152 ∧ lgE 4294967296 = 0 := by decide +kernel
theorem nb : btV 0 true = 0 ∧ btE 0 = 2 ∧ btV 4096 false = 0 ∧ btE 4096 = 2 ∧ btV 1 true = 786432 ∧ btE 1 = 0 := by decide +kernel
theorem ns : ctV 5 5 1 true = 0 ∧ ctE 5 5 1 = 2 ∧ ctV 6 5 1 true = 0 ∧ ctE 6 5 1 = 2 ∧ ctV 5 6 0 true = 0 ∧ ctE 5 6 0 = 2 ∧ ctV 5 6 4096 true = 0 ∧ ctE 5 6 4096 = 2 ∧ ctV 5 6 1 true = 65536 ∧ ctE 5 6 1 = 0 := by decide +kernel
theorem nc : ckE [0] 2001 = 4 ∧ ckE [0] 1 = 2 ∧ ckE [1, 1] 1 = 2 := by decide +kernel
theorem ncheap : btV 1 false = 786432 - lgR 4095 ∧ 0 ≤ lgR 4095 ∧ lgR 4095 < 2162688 := by decide +kernel
set_option maxRecDepth 100000 in
set_option maxHeartbeats 8000000 in
theorem names (w : World) : Calls Try.prog 11 #[] w fun e w' => e = .returned (.bool true) ∧ Below w.heap.size w w' := by
  have NV := Lib.hid nv
  have NB := Lib.hid nb
  have NS := Lib.hid ns
  have NC := Lib.hid nc
  have NH := Lib.hid ncheap
  go_enter Try.func11, Try.ntmps11
  go_wp2_with fail
  refine (log_any 0 _ (by omega)).mono ?_
  rintro e w' ⟨rfl, rfl⟩
  rw [NV.out.1, NV.out.2.1]
  go_wp2_with fail
  refine (log_any 4294967297 _ (by omega)).mono ?_
  rintro e w' ⟨rfl, rfl⟩
  rw [NV.out.2.2.1, NV.out.2.2.2.1]
  go_wp2_with fail
  refine (log_any 4294967296 _ (by omega)).mono ?_
  rintro e w' ⟨rfl, rfl⟩
  rw [NV.out.2.2.2.2.1, NV.out.2.2.2.2.2]
  go_wp2_with fail
  refine (Bit_any 0 true _).mono ?_
  rintro e w' ⟨rfl, rfl⟩
  rw [NB.out.1, NB.out.2.1]
  go_wp2_with fail
  refine (Bit_any 4096 false _).mono ?_
  rintro e w' ⟨rfl, rfl⟩
  rw [NB.out.2.2.1, NB.out.2.2.2.1]
  go_wp2_with fail
  refine (Step_any 5 5 1 true _ (by omega) (by omega) (by omega) (by omega)).mono ?_
  rintro e w' ⟨rfl, rfl⟩
  rw [NS.out.1, NS.out.2.1]
  go_wp2_with fail
  refine (Step_any 6 5 1 true _ (by omega) (by omega) (by omega) (by omega)).mono ?_
  rintro e w' ⟨rfl, rfl⟩
  rw [NS.out.2.2.1, NS.out.2.2.2.1]
  go_wp2_with fail
  refine (Step_any 5 6 0 true _ (by omega) (by omega) (by omega) (by omega)).mono ?_
  rintro e w' ⟨rfl, rfl⟩
  rw [NS.out.2.2.2.2.1, NS.out.2.2.2.2.2.1]
  go_wp2_with fail
  refine (Step_any 5 6 4096 true _ (by omega) (by omega) (by omega) (by omega)).mono ?_
  rintro e w' ⟨rfl, rfl⟩
  rw [NS.out.2.2.2.2.2.2.1, NS.out.2.2.2.2.2.2.2.1]
  go_wp2_with fail
  refine (Step_any 5 6 1 true _ (by omega) (by omega) (by omega) (by omega)).mono ?_
  rintro e w' ⟨rfl, rfl⟩
  rw [NS.out.2.2.2.2.2.2.2.2.1, NS.out.2.2.2.2.2.2.2.2.2]
  go_wp2_with (first | (at_make; refine makeB rfl _ _ rfl _ _ 2001 rfl rfl (by omega) _ (Nat.le_refl _) ?_; intro wm own hbm))
  have A1 : Hid (Has .i64 wm (some ⟨w.heap.size, 0, none⟩) [0]) := Lib.hid ((has_lit (zs := [0]) rfl (by decide)).below hbm (Nat.le_refl _))
  have acc : Below w.heap.size w wm := by (repeat' (first | (with_reducible exact Below.refl _ _) | (with_reducible assumption) | (with_reducible refine below_drewN ?_ _) | (with_reducible refine below_new ?_ _) | (with_reducible refine Below.alloc ?_ ?_ _) | (with_reducible refine Below.drew ?_) | (with_reducible refine Below.setCell ?_ ?_ _) | (with_reducible apply below_on; (with_reducible assumption)) | (go_size; done) | (with_reducible apply size_of)))
  clear hbm own
  refine (Ideal_bad _ _ 1 2001 _ _ [0] _ A1.out rfl (by omega) (by omega) 4 NC.out.1 rfl).mono ?_
  rintro e w' ⟨rfl, rfl⟩
  clear A1
  go_wp2_with (first | (at_make; refine makeB rfl _ _ rfl _ _ 1 rfl rfl (by omega) _ (Nat.le_refl _) ?_; intro wn own hbn))
  have A2 : Hid (Has .i64 wn (some ⟨wm.heap.size, 0, none⟩) [0]) := Lib.hid ((has_lit (zs := [0]) rfl (by decide)).below hbn (Nat.le_refl _))
  have acc2 : Below w.heap.size w wn := by (repeat' (first | (with_reducible exact Below.refl _ _) | (with_reducible assumption) | (with_reducible refine below_drewN ?_ _) | (with_reducible refine below_new ?_ _) | (with_reducible refine Below.alloc ?_ ?_ _) | (with_reducible refine Below.drew ?_) | (with_reducible refine Below.setCell ?_ ?_ _) | (with_reducible apply below_on; (with_reducible assumption)) | (go_size; done) | (with_reducible apply size_of)))
  clear hbn own acc
  refine (Real_bad _ _ 1 1 _ _ [0] _ A2.out rfl (by omega) (by omega) 2 NC.out.2.1 rfl).mono ?_
  rintro e w' ⟨rfl, rfl⟩
  clear A2
  go_wp2_with (first | (at_make; refine makeB rfl _ _ rfl _ _ 1 rfl rfl (by omega) _ (Nat.le_refl _) ?_; intro wo own hbo))
  have A3 : Hid (Has .i64 wo (some ⟨wn.heap.size, 0, none⟩) [1, 1]) := Lib.hid ((has_lit (zs := [1, 1]) rfl (by decide)).below hbo (Nat.le_refl _))
  have acc3 : Below w.heap.size w wo := by (repeat' (first | (with_reducible exact Below.refl _ _) | (with_reducible assumption) | (with_reducible refine below_drewN ?_ _) | (with_reducible refine below_new ?_ _) | (with_reducible refine Below.alloc ?_ ?_ _) | (with_reducible refine Below.drew ?_) | (with_reducible refine Below.setCell ?_ ?_ _) | (with_reducible apply below_on; (with_reducible assumption)) | (go_size; done) | (with_reducible apply size_of)))
  clear hbo own acc2
  refine (Bytes_bad _ _ 2 1 _ _ [1, 1] _ A3.out rfl (by omega) (by omega) 2 NC.out.2.2 rfl).mono ?_
  rintro e w' ⟨rfl, rfl⟩
  clear A3
  go_wp2_with fail
  refine (Real_nil _ _ _ _ _).mono ?_
  rintro e w1 ⟨rfl, hb1⟩
  have acc4 : Below w.heap.size w w1 := by (repeat' (first | (with_reducible exact Below.refl _ _) | (with_reducible assumption) | (with_reducible refine below_drewN ?_ _) | (with_reducible refine below_new ?_ _) | (with_reducible refine Below.alloc ?_ ?_ _) | (with_reducible refine Below.drew ?_) | (with_reducible refine Below.setCell ?_ ?_ _) | (with_reducible apply below_on; (with_reducible assumption)) | (go_size; done) | (with_reducible apply size_of)))
  clear hb1 acc3
  go_wp2_with fail
  refine (Bit_any 1 true _).mono ?_
  rintro e w' ⟨rfl, rfl⟩
  rw [NB.out.2.2.2.2.1, NB.out.2.2.2.2.2]
  go_wp2_with fail
  refine (Bit_any 1 false _).mono ?_
  rintro e w' ⟨rfl, rfl⟩
  rw [NH.out.1, NB.out.2.2.2.2.2]
  obtain ⟨-, l1, l2⟩ := NH.out
  have R := fun w => rLog_ok 4095 w (by omega) (by omega)
  clear NV NB NS NC NH
  generalize lgR 4095 = l at *
  go_wp2_with (first | (go_at_call 45; refine (alive _).mono ?_; rintro e w' ⟨rfl, rfl⟩) | (go_at_call 46; refine (R _).mono ?_; rintro e w' ⟨rfl, rfl⟩))
  go_ret
  exact ⟨rfl, acc4⟩
end Go.Proofs.Ytaehjhjbbkblbaa.costL
