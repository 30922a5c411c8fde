/- How an encoder that came in reads. -/
import Derived.Test.YtdnccnaihkajmaaBase
import Derived.Lib.SmallJoins
namespace Go.Proofs.Ytdnccnaihkajmaa.base
open Go.ChangeShapes Go.WideShapes Go.ChangeAt Go.RowKit Go.Joins

/-- An encoder as it came in. -/
structure EncIn (w : World) (x1 x2 : Int) (A : Option Addr) (n c : Nat) (zs : List Int) : Prop where
  a1 : 0 ≤ x1
  a2 : x1 ≤ 4294967295
  b1 : 0 ≤ x2
  b2 : x2 ≤ 4294967295
  row : IsRow .u8 w A n c zs
theorem read_row8 {H : Type} {enc : TypeId × Value → H} {W : World} {n : Nat} {v : Value} {y : DataW H × List MemPlace}
    (h : DataW.trod enc Try.prog W 0 (fun _ => true) true n 23 [v] = some y) : ∃ (a : Option Addr) (len cap : Nat) (zs : List Int), v = .slice a len cap ∧ IsRow .u8 W a len cap zs := by
  rcases open_ints Try.underlying23 Try.underlying5 (by kernel_rfl) h with ⟨hcs, _⟩ | ⟨x, l, c, zs, hcs, _, hl, hm, hz, _, hcell, hwz⟩
  · simp at hcs
    exact ⟨none, 0, 0, [], hcs, .inl ⟨rfl, rfl, rfl, rfl⟩⟩
  · simp at hcs
    exact ⟨_, _, _, zs, hcs, .inr ⟨_, rfl, hl, hm, by simpa using hz, hcell, hwz⟩⟩
theorem read_enc {H : Type} {enc : TypeId × Value → H} {W : World} {bs : Nat} {v : Value} {d : DataW H} {p : List MemPlace}
    (hv : Value.okWide Try.prog W .any bs 25 v) (h : DataW.Trod enc Try.prog W 0 (fun _ => true) true 25 v d p) :
    ∃ (x1 x2 : Int) (A : Option Addr) (n c : Nat) (zs : List Int), v = .agg #[.int .u32 x1, .int .u32 x2, .slice A n c] ∧ EncIn W x1 x2 A n c zs := by
  obtain ⟨v0, v1, v2, y0, y1, y2, m, rfl, rfl, rfl, t0, t1, t2⟩ := open_agg3 Try.underlying25 (by kernel_rfl) (by kernel_rfl) hv h
  obtain ⟨a, e0, rfl, wa⟩ := DataW.trod_int Try.underlying22 t0
  obtain ⟨b, e1, rfl, wb⟩ := DataW.trod_int Try.underlying22 t1
  obtain ⟨A, n, c, zs, rfl, hr⟩ := read_row8 t2
  simp at e0 e1
  subst e0 e1
  have x := bounds_u32 wa
  have y := bounds_u32 wb
  exact ⟨a, b, A, n, c, zs, rfl, ⟨x.1, x.2, y.1, y.2, hr⟩⟩
end Go.Proofs.Ytdnccnaihkajmaa.base
