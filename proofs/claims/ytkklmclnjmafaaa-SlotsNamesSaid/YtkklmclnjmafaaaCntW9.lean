/- Runs of the program, by walks. -/
import Derived.Test.YtkklmclnjmafaaaCntW5
import Derived.Test.YtkklmclnjmafaaaCntW6
import Derived.Test.YtkklmclnjmafaaaCntW7
namespace Go.Proofs.Ytkklmclnjmafaaa.cntW
set_option maxRecDepth 100000
open Go.RowKit Go.Proofs.Ytkklmclnjmafaaa.base Go.Proofs.Ytkklmclnjmafaaa.cntP
set_option linter.unusedVariables false
set_option linter.unusedSimpArgs false
theorem bits_bad {zs : List Int} {k : Nat} (hk : k < zs.length) (h : 1 < zs.getD k 0) : bitsB zs = false := by
  have hmem : zs.getD k 0 ∈ zs := by rw [List.getD_eq_getElem?_getD, List.getElem?_eq_getElem hk]; simp
  cases hb : bitsB zs with
  | false => rfl
  | true => have := (bitsB_iff zs).1 hb _ hmem; omega
end Go.Proofs.Ytkklmclnjmafaaa.cntW
