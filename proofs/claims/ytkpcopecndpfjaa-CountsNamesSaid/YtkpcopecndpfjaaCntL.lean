/- Statements of layer 7 (counts), by walks. -/
import Derived.Test.YtkpcopecndpfjaaCntW8
import Derived.Test.YtkpcopecndpfjaaCntW9
import Derived.Test.YtkpcopecndpfjaaMem8
namespace Go.Proofs.Ytkpcopecndpfjaa.cntL
open Go.RowKit Go.Proofs.Ytkpcopecndpfjaa.base Go.Proofs.Ytkpcopecndpfjaa.cntP Go.Proofs.Ytkpcopecndpfjaa.cntW
set_option linter.unusedVariables false
set_option linter.unusedSimpArgs false
theorem run_bd (c : Cnt) (l : List Int) (h : ok c = true) (hz : ∀ z ∈ l, 0 ≤ z ∧ z ≤ 255) : ok (runC c l) = true := by
  unfold runC
  rw [if_pos h]
  split
  · rfl
  · split
    · rename_i hb
      exact run_ok _ h fun z hm => by
        have := hz z hm
        have := (bitsB_iff l).1 hb z hm
        omega
    · rfl
theorem cin {c : Cnt} (h : ok c = true) : CntIn c := by
  have := ok_bd h
  exact ⟨by omega, by omega, by omega, by omega, by omega, by omega⟩
set_option maxHeartbeats 1000000 in
theorem alive (w : World) :
    Calls Try.prog 21 #[] w fun e w' => e = .returned (.bool true) ∧ Below w.heap.size w w' := by
  have r1 : runC ⟨0, 0, 0⟩ [1, 1, 1, 0] = ⟨1, 2, 0⟩ := by kernel_rfl
  have r2 : runE ⟨0, 0, 0⟩ [1, 1, 1, 0] = 0 := by decide +kernel
  have r3 : runC ⟨0, 0, 0⟩ [1, 1, 1, 1, 1, 1, 1, 1, 1, 1, 1, 1, 0] = ⟨1, 7, 0⟩ := by kernel_rfl
  have r4 : runE ⟨0, 0, 0⟩ [1, 1, 1, 1, 1, 1, 1, 1, 1, 1, 1, 1, 0] = 0 := by decide +kernel
  have r5 : trC ⟨1, 7, 0⟩ = ⟨7, 1, 1⟩ := by kernel_rfl
  have r6 : chk ⟨1, 7, 0⟩ = 0 := by decide +kernel
  go_enter Try.func21, Try.ntmps21
  go_wp2_with fail
  refine (Run_any ⟨0, 0, 0⟩ _ 4 4 [1, 1, 1, 0] _ (cin rfl) (by decide) (has_lit rfl (by decide)) rfl (by decide)).mono ?_
  rintro e w1 ⟨rfl, hb1⟩
  rw [r1, r2]
  have z1 := hb1.size
  simp at z1
  go_wp2_with fail
  refine (Run_any ⟨0, 0, 0⟩ _ 13 13 [1, 1, 1, 1, 1, 1, 1, 1, 1, 1, 1, 1, 0] _ (cin rfl) (by decide) (has_lit (by simp) (by decide)) rfl (by decide)).mono ?_
  rintro e w2 ⟨rfl, hb2⟩
  rw [r3, r4]
  have z2 := hb2.size
  simp at z2
  have A2 : Lies w2 w1.heap.size 23 [.int .i32 1, .int .i32 2, .int .u8 0] := Lies.past (by (repeat' (first | (with_reducible assumption) | (with_reducible exact Lies.fresh _ _ _) | (with_reducible refine Lies.drew ?_) | (with_reducible refine Lies.drewN ?_ _) | (with_reducible refine Lies.alloc ?_ _)))) hb2
  obtain ⟨a0, a1, a2, f0, f1, f2⟩ := A2.three
  have la := A2.lt
  have HA2 := Lib.hid A2
  clear A2
  go_wp2_with fail
  refine (Turn_any 1 7 0 _ (cin rfl)).mono ?_
  rintro e w3 ⟨rfl, hb3⟩
  rw [r5, r6]
  have A3 : Lies w3 w1.heap.size 23 [.int .i32 1, .int .i32 2, .int .u8 0] := Lies.past (HA2.out.alloc _) hb3
  have B3 : Lies w3 w2.heap.size 23 [.int .i32 1, .int .i32 7, .int .u8 0] := Lies.past (by (repeat' (first | (with_reducible assumption) | (with_reducible exact Lies.fresh _ _ _) | (with_reducible refine Lies.drew ?_) | (with_reducible refine Lies.drewN ?_ _) | (with_reducible refine Lies.alloc ?_ _)))) hb3
  obtain ⟨a0, a1, a2, f0, f1, f2⟩ := A3.three
  obtain ⟨b0, b1, b2, g0, g1, g2⟩ := B3.three
  have la := A3.lt
  have lb := B3.lt
  clear A3 B3
  go_wp2
  go_ret
  exact ⟨rfl, by (repeat' (first | (with_reducible exact Below.refl _ _) | (with_reducible assumption) | (with_reducible refine below_drewN ?_ _) | (with_reducible refine below_new ?_ _) | (with_reducible refine Below.alloc ?_ ?_ _) | (with_reducible refine Below.drew ?_) | (with_reducible refine Below.setCell ?_ ?_ _) | (with_reducible apply below_on; (with_reducible assumption)) | (go_size; done) | (with_reducible apply size_of)))⟩
end Go.Proofs.Ytkpcopecndpfjaa.cntL
