/- How an adaptive map that came in reads. -/
import Derived.Test.YtipbafcjmeibpaaBase
import Derived.Test.YtipbafcjmeibpaaMem32
import Derived.Test.YtipbafcjmeibpaaAdPlain
import Derived.Lib.SmallJoins
namespace Go.Proofs.Ytipbafcjmeibpaa.base
open Go.ChangeShapes Go.WideShapes Go.ChangeAt Go.RowKit Go.Joins
open Go.Proofs.Ytipbafcjmeibpaa.adP

/-- A slice of integers among a struct's fields. -/
theorem read_ints {H : Type} {enc : TypeId × Value → H} {W : World} {t e : TypeId} {k : IntKind} {n : Nat} {v : Value} {y : DataW H × List MemPlace} (ht : Try.prog.underlying t = some (.slice e)) (he : Try.prog.underlying e = some (.int k)) (hc : Try.prog.cellsOf e = 1)
    (h : DataW.trod enc Try.prog W 0 (fun _ => true) true n t [v] = some y) : ∃ (a : Option Addr) (len cap : Nat) (zs : List Int), v = .slice a len cap ∧ IsRow k W a len cap zs := by
  rcases open_ints ht he hc h with ⟨hcs, _⟩ | ⟨x, l, c, zs, hcs, _, hl, hm, hz, _, hcell, hwz⟩
  · simp at hcs
    exact ⟨none, 0, 0, [], hcs, .inl ⟨rfl, rfl, rfl, rfl⟩⟩
  · simp at hcs
    exact ⟨some x, l, c, zs, hcs, .inr ⟨x, rfl, hl, hm, by simpa using hz, hcell, hwz⟩⟩
/-- A map in memory: its two rows. -/
structure AdIn (w : World) (A B : Option Addr) (lp ln : Nat) (m : Ad) : Prop where
  l1 : -2147483648 ≤ m.l
  l2 : m.l ≤ 2147483647
  hp : Has .i32 w A m.p
  ep : m.p.length = lp
  hn : Has .i32 w B m.n
  en : m.n.length = ln
  mp : lp ≤ 9223372036854775807
  mn : ln ≤ 9223372036854775807
  bp : ∀ z ∈ m.p, -2147483648 ≤ z ∧ z ≤ 2147483647
  bn : ∀ z ∈ m.n, -2147483648 ≤ z ∧ z ≤ 2147483647
theorem AdIn.below {w w' : World} {A B : Option Addr} {lp ln : Nat} {m : Ad} (h : AdIn w A B lp ln m) (hb : Below w.heap.size w w') : AdIn w' A B lp ln m :=
  ⟨h.l1, h.l2, h.hp.below hb (Nat.le_refl _), h.ep, h.hn.below hb (Nat.le_refl _), h.en, h.mp, h.mn, h.bp, h.bn⟩

theorem row_cap {k : IntKind} {w : World} {a : Option Addr} {len cap : Nat} {zs : List Int} (h : IsRow k w a len cap zs) : len ≤ cap := by
  rcases h with ⟨_, h1, h2, _⟩ | ⟨x, _, h, _⟩
  · omega
  · exact h
theorem read_adapt {H : Type} {enc : TypeId × Value → H} {W : World} {bs : Nat} {v : Value} {d : DataW H} {p : List MemPlace}
    (hv : Value.okWide Try.prog W .any bs 24 v) (h : DataW.Trod enc Try.prog W 0 (fun _ => true) true 24 v d p) :
    ∃ (A B : Option Addr) (lp ln cp cn : Nat) (m : Ad), v = .agg #[.int .i32 m.l, .slice A lp cp, .slice B ln cn] ∧ AdIn W A B lp ln m ∧ lp ≤ cp ∧ ln ≤ cn := by
  obtain ⟨v0, v1, v2, y0, y1, y2, k, rfl, rfl, rfl, t0, t1, t2⟩ := open_agg3 Try.underlying24 (by kernel_rfl) (by kernel_rfl) hv h
  obtain ⟨a, e0, rfl, wa⟩ := DataW.trod_int Try.underlying21 t0
  simp at e0
  subst e0
  obtain ⟨A, lp, cp, zp, rfl, rp⟩ := read_ints Try.underlying22 Try.underlying21 (by kernel_rfl) t1
  obtain ⟨B, ln, cn, zn, rfl, rn⟩ := read_ints Try.underlying22 Try.underlying21 (by kernel_rfl) t2
  obtain ⟨hp, ep, mp, bp⟩ := has_of_row rp
  obtain ⟨hn, en, mn, bn⟩ := has_of_row rn
  have x := bounds_i32 wa
  unfold maxLen at mp mn
  exact ⟨A, B, lp, ln, cp, cn, ⟨a, zp.take lp, zn.take ln⟩, rfl, ⟨x.1, x.2, hp, ep, hn, en, by omega, by omega, fun z h => bounds_i32 (bp z h), fun z h => bounds_i32 (bn z h)⟩, row_cap rp, row_cap rn⟩
end Go.Proofs.Ytipbafcjmeibpaa.base
