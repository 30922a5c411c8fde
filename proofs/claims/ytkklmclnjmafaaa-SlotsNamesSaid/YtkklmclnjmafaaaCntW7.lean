/- Runs, by walks. -/
import Derived.Test.YtkklmclnjmafaaaCntW3
import Derived.Test.YtkklmclnjmafaaaCntW4
import Derived.Test.YtkklmclnjmafaaaBlock
import Derived.Deep.LoopGhost
namespace Go.Proofs.Ytkklmclnjmafaaa.cntW
set_option maxRecDepth 100000
open Go.RowKit Go.Proofs.Ytkklmclnjmafaaa.base Go.Proofs.Ytkklmclnjmafaaa.cntP
set_option linter.unusedVariables false
set_option linter.unusedSimpArgs false
theorem run_in {c0 : Cnt} {zs : List Int} (h : ok c0 = true) (hz : ∀ z ∈ zs, 0 ≤ z ∧ z ≤ 255) (hb : bitsB zs = true) (k : Nat) : ok (run c0 (zs.take k)) = true :=
  run_ok _ h (fun z hm => by
    have a1 := hz z (List.mem_of_mem_take hm)
    have a2 := (bitsB_iff zs).1 hb z (List.mem_of_mem_take hm)
    omega)
theorem bit_in {zs : List Int} (hz : ∀ z ∈ zs, 0 ≤ z ∧ z ≤ 255) (hb : bitsB zs = true) {k : Nat} (hk : k < zs.length) : (0 ≤ zs.getD k 0 ∧ zs.getD k 0 ≤ 1) ∧ (zs.getD k 0 = 0 ∨ zs.getD k 0 = 1) := by
  have hmem : zs.getD k 0 ∈ zs := by rw [List.getD_eq_getElem?_getD, List.getElem?_eq_getElem hk]; simp
  have a1 := hz _ hmem
  have a2 := (bitsB_iff zs).1 hb _ hmem
  omega
theorem run_next (c0 : Cnt) {zs : List Int} {k : Nat} (hk : k < zs.length) : run c0 (zs.take (k + 1)) = nx (run c0 (zs.take k)) (zs.getD k 0) := by
  rw [take_snoc 0 zs k hk]; exact run_snoc _ _ _
end Go.Proofs.Ytkklmclnjmafaaa.cntW
