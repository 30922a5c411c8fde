/- How a count that came in reads. -/
import Derived.Test.YtkklmclnjmafaaaBase
import Derived.Test.YtkklmclnjmafaaaCntPlain
import Derived.Lib.SmallJoins
namespace Go.Proofs.Ytkklmclnjmafaaa.base
set_option maxRecDepth 100000
open Go.ChangeShapes Go.WideShapes Go.ChangeAt Go.RowKit Go.Joins
open Go.Proofs.Ytkklmclnjmafaaa.cntP

/-- A count as a value. -/
def cv (c : Cnt) : Value := .agg #[.int .i32 c.a, .int .i32 c.b, .int .u8 c.l]
/-- A count whose numbers fit their kinds. -/
structure CntIn (c : Cnt) : Prop where
  a1 : -2147483648 ≤ c.a
  a2 : c.a ≤ 2147483647
  b1 : -2147483648 ≤ c.b
  b2 : c.b ≤ 2147483647
  l1 : 0 ≤ c.l
  l2 : c.l ≤ 255

theorem read_count {H : Type} {enc : TypeId × Value → H} {W : World} {bs : Nat} {v : Value} {d : DataW H} {p : List MemPlace}
    (hv : Value.okWide Try.prog W .any bs 73 v) (h : DataW.Trod enc Try.prog W 0 (fun _ => true) true 73 v d p) : ∃ c : Cnt, v = cv c ∧ CntIn c := by
  obtain ⟨v0, v1, v2, y0, y1, y2, m, rfl, rfl, rfl, t0, t1, t2⟩ := open_agg3 Try.underlying73 (by kernel_rfl) (by kernel_rfl) hv h
  obtain ⟨a, e0, rfl, wa⟩ := DataW.trod_int Try.underlying21 t0
  obtain ⟨b, e1, rfl, wb⟩ := DataW.trod_int Try.underlying21 t1
  obtain ⟨l, e2, rfl, wl⟩ := DataW.trod_int Try.underlying5 t2
  simp at e0 e1 e2
  subst e0 e1 e2
  have x := bounds_i32 wa
  have y := bounds_i32 wb
  have z := bounds_u8 wl
  exact ⟨⟨a, b, l⟩, rfl, ⟨x.1, x.2, y.1, y.2, z.1, z.2⟩⟩
end Go.Proofs.Ytkklmclnjmafaaa.base
