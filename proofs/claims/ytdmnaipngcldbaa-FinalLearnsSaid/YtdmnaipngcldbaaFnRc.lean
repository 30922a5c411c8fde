/- What is chosen, as it came in. -/
import Derived.Test.YtdmnaipngcldbaaFnEq
import Derived.Lib.SmallJoins
namespace Go.Proofs.Ytdmnaipngcldbaa.base
set_option maxRecDepth 100000
open Go.ChangeShapes Go.WideShapes Go.ChangeAt Go.RowKit Go.Joins Go.Deep
theorem read_chosen {H : Type} {enc : TypeId × Value → H} {W : World} {bs : Nat} {v : Value} {d : DataW H} {p : List MemPlace}
    (hv : Value.okWide Try.prog W .any bs 29 v) (h : DataW.Trod enc Try.prog W 0 (fun _ => true) true 29 v d p) : ∃ a b x y : Int, v = .agg #[.int .i64 a, .int .i64 b, .int .i64 x, .int .i64 y] ∧ True := by
  obtain ⟨cs, rfl, hsz⟩ := okWide_struct Try.underlying29 hv
  have hC : Try.prog.cellsOf 29 = 4 := by kernel_rfl
  obtain ⟨l⟩ := cs
  match l, hsz.trans hC with
  | [c0, c1, c2, c3], _ =>
    obtain ⟨fuel, hf⟩ := h
    obtain ⟨xs, n, _, hx, _, hlen, hg⟩ := DataW.trod_struct Try.underlying29 hf
    have e2 : Try.prog.cellsOf 27 = 2 := by kernel_rfl
    match xs, hlen with
    | [y0, y1], _ =>
      have g0 : DataW.trod enc Try.prog W 0 (fun _ => true) true n 27 [c0, c1] = some y0 := by
        have := hg 0 _ rfl
        simpa [e2, Value.cells] using this
      have g1 : DataW.trod enc Try.prog W 0 (fun _ => true) true n 27 [c2, c3] = some y1 := by
        have := hg 1 _ rfl
        simpa [e2, Value.cells] using this
      obtain ⟨a, b, rfl, rfl, _, _⟩ := i2_cells g0
      obtain ⟨x, y, rfl, rfl, _, _⟩ := i2_cells g1
      exact ⟨a, b, x, y, rfl, trivial⟩
end Go.Proofs.Ytdmnaipngcldbaa.base
