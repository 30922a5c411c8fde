/- How a match that came in reads; the laws with what their frames give. -/
import Derived.Test.YtemiecghdmagnaaGE
import Derived.Test.YtemiecghdmagnaaMaPlain
namespace Go.Proofs.Ytemiecghdmagnaa.base
set_option maxRecDepth 100000
open Go.ChangeShapes Go.WideShapes Go.ChangeAt Go.RowKit Go.Joins
open Go.Proofs.Ytemiecghdmagnaa.maP
set_option linter.unusedVariables false
def MtIn (_ : Mt) : Prop := True
theorem read_match {H : Type} {enc : TypeId × Value → H} {W : World} {bs : Nat} {v : Value} {d : DataW H} {p : List MemPlace}
    (hv : Value.okWide Try.prog W .any bs 23 v) (h : DataW.Trod enc Try.prog W 0 (fun _ => true) true 23 v d p) :
    ∃ m : Mt, v = .agg #[.int .i64 m.a, .int .i64 m.k] ∧ MtIn m := by
  obtain ⟨v0, v1, y0, y1, k, rfl, rfl, rfl, t0, t1⟩ := open_agg2 Try.underlying23 (by kernel_rfl) (by kernel_rfl) hv h
  obtain ⟨a, e0, rfl, wa⟩ := DataW.trod_int Try.underlying3 t0
  simp at e0
  subst e0
  obtain ⟨b, e1, rfl, wb⟩ := DataW.trod_int Try.underlying3 t1
  simp at e1
  subst e1
  exact ⟨⟨a, b⟩, rfl, trivial⟩
end Go.Proofs.Ytemiecghdmagnaa.base
