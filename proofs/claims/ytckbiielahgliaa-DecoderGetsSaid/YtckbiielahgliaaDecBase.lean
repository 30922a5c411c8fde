/- How a decoder that came in reads. -/
import Derived.Test.YtckbiielahgliaaBase
import Derived.Lib.SmallJoins
import Derived.Deep.Fields
namespace Go.Proofs.Ytckbiielahgliaa.base
open Go.ChangeShapes Go.WideShapes Go.ChangeAt Go.RowKit Go.Joins Go.Deep

/-- A decoder as it came in. -/
structure DecIn (w : World) (x1 x2 x : Int) (A : Option Addr) (n c : Nat) (zs : List Int) (t : Int) : Prop where
  a1 : 0 ≤ x1
  a2 : x1 ≤ 4294967295
  b1 : 0 ≤ x2
  b2 : x2 ≤ 4294967295
  c1 : 0 ≤ x
  c2 : x ≤ 4294967295
  row : IsRow .u8 w A n c zs
  t1 : -9223372036854775808 ≤ t
  t2 : t ≤ 9223372036854775807
theorem read_row8 {H : Type} {enc : TypeId × Value → H} {W : World} {n : Nat} {v : Value} {y : DataW H × List MemPlace}
    (h : DataW.trod enc Try.prog W 0 (fun _ => true) true n 23 [v] = some y) : ∃ (a : Option Addr) (len cap : Nat) (zs : List Int), v = .slice a len cap ∧ IsRow .u8 W a len cap zs := by
  rcases open_ints Try.underlying23 Try.underlying5 (by kernel_rfl) h with ⟨hcs, _⟩ | ⟨x, l, c, zs, hcs, _, hl, hm, hz, _, hcell, hwz⟩
  · simp at hcs
    exact ⟨none, 0, 0, [], hcs, .inl ⟨rfl, rfl, rfl, rfl⟩⟩
  · simp at hcs
    exact ⟨_, _, _, zs, hcs, .inr ⟨_, rfl, hl, hm, by simpa using hz, hcell, hwz⟩⟩
/-- A struct whose fields have a cell each, by value: a value for each field, and how it reads. -/
theorem agg_fields {H : Type} {enc : TypeId × Value → H} {P : Program} {w : World} {base b0 : Nat} {spare : Nat → Bool} {held : Bool} {r : Reach} {t : TypeId} {fs : Array Field} {v : Value} {d : DataW H} {p : List MemPlace}
    (hs : P.underlying t = some (.struct fs)) (hone : oneCellFields P fs = true) (hC : P.cellsOf t = fs.size) (hv : Value.okWide P w r b0 t v) (h : DataW.Trod enc P w base spare held t v d p) :
    ∃ cs : Array Value, v = .agg cs ∧ cs.size = fs.size ∧ ∀ (j : Nat) (f : Field), fs[j]? = some f → ∃ (x : Value) (y : DataW H × List MemPlace) (m : Nat), cs[j]? = some x ∧ DataW.trod enc P w base spare held m f.type [x] = some y := by
  obtain ⟨cs, rfl, hsz⟩ := okWide_struct hs hv
  obtain ⟨fuel, hf⟩ := h
  obtain ⟨ys, m, _, _, _, hlen, hg⟩ := DataW.trod_struct hs hf
  refine ⟨cs, rfl, hsz.trans hC, fun j f hj => ?_⟩
  obtain ⟨o, k⟩ := hone_of hone j f hj
  have hjl : j < fs.size := (Array.getElem?_eq_some_iff.1 hj).1
  have hjc : j < cs.size := by rw [hsz.trans hC]; exact hjl
  have h1 := hg j f hj
  rw [o, k] at h1
  have e1 : ((Value.agg cs).cells.toList.drop j).take 1 = [cs[j]] := by
    show (cs.toList.drop j).take 1 = _
    rw [List.drop_eq_getElem_cons (by simpa using hjc)]
    simp
  rw [e1] at h1
  have hjy : j < ys.length := by omega
  exact ⟨cs[j], ys[j], m, Array.getElem?_eq_getElem hjc, by rw [h1, List.getElem?_eq_getElem hjy]⟩
theorem read_dec {H : Type} {enc : TypeId × Value → H} {W : World} {bs : Nat} {v : Value} {d : DataW H} {p : List MemPlace}
    (hv : Value.okWide Try.prog W .any bs 25 v) (h : DataW.Trod enc Try.prog W 0 (fun _ => true) true 25 v d p) :
    ∃ (x1 x2 x : Int) (A : Option Addr) (n c : Nat) (zs : List Int) (t : Int), v = .agg #[.int .u32 x1, .int .u32 x2, .int .u32 x, .slice A n c, .int .i64 t] ∧ DecIn W x1 x2 x A n c zs t := by
  obtain ⟨cs, rfl, hsz, hF⟩ := agg_fields Try.underlying25 (by kernel_rfl) (by kernel_rfl) hv h
  obtain ⟨v0, y0, m0, e0, t0⟩ := hF 0 _ rfl
  obtain ⟨v1, y1, m1, e1, t1⟩ := hF 1 _ rfl
  obtain ⟨v2, y2, m2, e2, t2⟩ := hF 2 _ rfl
  obtain ⟨v3, y3, m3, e3, t3⟩ := hF 3 _ rfl
  obtain ⟨v4, y4, m4, e4, t4⟩ := hF 4 _ rfl
  obtain ⟨a, i0, rfl, wa⟩ := DataW.trod_int Try.underlying22 t0
  obtain ⟨b, i1, rfl, wb⟩ := DataW.trod_int Try.underlying22 t1
  obtain ⟨c, i2, rfl, wc⟩ := DataW.trod_int Try.underlying22 t2
  obtain ⟨A, n, k, zs, rfl, hr⟩ := read_row8 t3
  obtain ⟨t, i4, rfl, wt⟩ := DataW.trod_int Try.underlying3 t4
  simp at i0 i1 i2 i4
  subst i0 i1 i2 i4
  have hcs : cs = #[.int .u32 a, .int .u32 b, .int .u32 c, .slice A n k, .int .i64 t] := by
    apply Array.ext_getElem?
    intro j
    match j with
    | 0 => exact e0
    | 1 => exact e1
    | 2 => exact e2
    | 3 => exact e3
    | 4 => exact e4
    | j + 5 => rw [Array.getElem?_eq_none (by rw [hsz]; simp), Array.getElem?_eq_none (by simp)]
  subst hcs
  have x := bounds_u32 wa
  have y := bounds_u32 wb
  have z := bounds_u32 wc
  have u := bounds_i64 wt
  exact ⟨a, b, c, A, n, k, zs, t, rfl, ⟨x.1, x.2, y.1, y.2, z.1, z.2, hr, u.1, u.2⟩⟩
end Go.Proofs.Ytckbiielahgliaa.base
