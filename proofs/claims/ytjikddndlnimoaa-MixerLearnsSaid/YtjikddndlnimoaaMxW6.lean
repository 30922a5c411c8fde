/- New mixers of both, by walks. -/
import Derived.Test.YtjikddndlnimoaaMxW5
namespace Go.Proofs.Ytjikddndlnimoaa.mxP
set_option maxRecDepth 100000
open Go.Proofs.Ytjikddndlnimoaa.base Go.Proofs.Ytjikddndlnimoaa.rfP Go.Proofs.Ytjikddndlnimoaa.sqP Go.Proofs.Ytjikddndlnimoaa.fixP
theorem nums_rows {rs : List RY} {m : Nat} {z : List Int} (hl : rs.length = m) (h : ∀ i, i < m → (rs.getD i ry0).b = z) : numsY rs = List.replicate m z := by
  subst hl
  apply List.ext_getElem
  · simp [numsY]
  · intro i h1 h2
    have hi : i < rs.length := by simpa [numsY] using h1
    have := h i hi
    rw [List.getD_eq_getElem?_getD, List.getElem?_eq_getElem hi] at this
    simp [numsY]
    exact this
end Go.Proofs.Ytjikddndlnimoaa.mxP
namespace Go.Proofs.Ytjikddndlnimoaa.mxW
set_option maxRecDepth 100000
open Go.RowKit Go.Proofs.Ytjikddndlnimoaa.base Go.Proofs.Ytjikddndlnimoaa.rfP Go.Proofs.Ytjikddndlnimoaa.mxP Go.Proofs.Ytjikddndlnimoaa.sqP Go.Proofs.Ytjikddndlnimoaa.sqW Go.Proofs.Ytjikddndlnimoaa.fixP Go.Proofs.Ytjikddndlnimoaa.fixW
set_option linter.unusedVariables false
set_option linter.unusedSimpArgs false
theorem rep_bd {x : Int} (hx : -2147483648 ≤ x ∧ x ≤ 2147483647) (k : Nat) : ∀ z ∈ List.replicate k x, -2147483648 ≤ z ∧ z ≤ 2147483647 := fun z hz => by rw [(List.mem_replicate.1 hz).2]; exact hx
end Go.Proofs.Ytjikddndlnimoaa.mxW
