/- Several texts as one: RgBase, FdBase. -/
import Derived.Test.YtemiecghdmagnaaBase
import Derived.Test.YtemiecghdmagnaaGD
import Derived.Test.YtemiecghdmagnaaGA
import Derived.Lib.SmallJoins
namespace Go.Proofs.Ytemiecghdmagnaa.base
set_option maxRecDepth 100000
open Go.ChangeShapes Go.WideShapes Go.ChangeAt Go.RowKit Go.Joins
open Go.Proofs.Ytemiecghdmagnaa.rgP

/-- A slice of bytes among a struct's fields. -/
theorem read_bytes {H : Type} {enc : TypeId × Value → H} {W : World} {t e : TypeId} {k : IntKind} {n : Nat} {v : Value} {y : DataW H × List MemPlace} (ht : Try.prog.underlying t = some (.slice e)) (he : Try.prog.underlying e = some (.int k)) (hc : Try.prog.cellsOf e = 1)
    (h : DataW.trod enc Try.prog W 0 (fun _ => true) true n t [v] = some y) : ∃ (a : Option Addr) (len cap : Nat) (zs : List Int), v = .slice a len cap ∧ IsRow k W a len cap zs := by
  rcases open_ints ht he hc h with ⟨hcs, _⟩ | ⟨x, l, c, zs, hcs, _, hl, hm, hz, _, hcell, hwz⟩
  · simp at hcs
    exact ⟨none, 0, 0, [], hcs, .inl ⟨rfl, rfl, rfl, rfl⟩⟩
  · simp at hcs
    exact ⟨some x, l, c, zs, hcs, .inr ⟨x, rfl, hl, hm, by simpa using hz, hcell, hwz⟩⟩
/-- A ring in memory: its row. -/
structure RgIn (w : World) (A : Option Addr) (n c : Nat) (r : Rg) : Prop where
  l1 : -9223372036854775808 ≤ r.l
  l2 : r.l ≤ 9223372036854775807
  n1 : -9223372036854775808 ≤ r.n
  n2 : r.n ≤ 9223372036854775807
  h : Has .u8 w A r.b
  e : r.b.length = n
  c1 : n ≤ c
  c2 : c ≤ 9223372036854775807
  b : ∀ z ∈ r.b, 0 ≤ z ∧ z ≤ 255
theorem RgIn.below {w w' : World} {A : Option Addr} {n c : Nat} {r : Rg} (h : RgIn w A n c r) (hb : Below w.heap.size w w') : RgIn w' A n c r :=
  ⟨h.l1, h.l2, h.n1, h.n2, h.h.below hb (Nat.le_refl _), h.e, h.c1, h.c2, h.b⟩
theorem row_caps {k : IntKind} {w : World} {a : Option Addr} {len cap : Nat} {zs : List Int} (h : IsRow k w a len cap zs) : len ≤ cap ∧ cap ≤ maxLen := by
  rcases h with ⟨_, h1, h2, _⟩ | ⟨x, _, h1, h2, _⟩
  · rw [h1, h2]; exact ⟨Nat.le_refl _, Nat.zero_le _⟩
  · exact ⟨h1, h2⟩
set_option maxRecDepth 100000 in
theorem read_ring {H : Type} {enc : TypeId × Value → H} {W : World} {bs : Nat} {v : Value} {d : DataW H} {p : List MemPlace}
    (hv : Value.okWide Try.prog W .any bs 26 v) (h : DataW.Trod enc Try.prog W 0 (fun _ => true) true 26 v d p) :
    ∃ (A : Option Addr) (n c : Nat) (r : Rg), v = .agg #[.int .i64 r.l, .slice A n c, .int .i64 r.n] ∧ RgIn W A n c r := by
  obtain ⟨v0, v1, v2, y0, y1, y2, k, rfl, rfl, rfl, t0, t1, t2⟩ := open_agg3 Try.underlying26 (by kernel_rfl) (by kernel_rfl) hv h
  obtain ⟨a, e0, rfl, wa⟩ := DataW.trod_int Try.underlying3 t0
  simp at e0
  subst e0
  obtain ⟨A, n, c, z, rfl, rp⟩ := read_bytes Try.underlying24 Try.underlying5 (by kernel_rfl) t1
  obtain ⟨m, e2, rfl, wm⟩ := DataW.trod_int Try.underlying3 t2
  simp at e2
  subst e2
  obtain ⟨hp, ep, mp, bp⟩ := has_of_row rp
  have x := bounds_i64 wa
  have y := bounds_i64 wm
  have q := row_caps rp
  unfold maxLen at q
  exact ⟨A, n, c, ⟨a, z.take n, m⟩, rfl, ⟨x.1, x.2, y.1, y.2, hp, ep, q.1, by omega, fun z h => bounds_u8 (bp z h)⟩⟩
end Go.Proofs.Ytemiecghdmagnaa.base

namespace Go.Proofs.Ytemiecghdmagnaa.base
set_option maxRecDepth 100000
open Go.ChangeShapes Go.WideShapes Go.ChangeAt Go.RowKit Go.Joins
open Go.Proofs.Ytemiecghdmagnaa.rgP Go.Proofs.Ytemiecghdmagnaa.fdP

/-- A finder in memory: its row. -/
structure FdIn (w : World) (A : Option Addr) (n c : Nat) (f : Fnd) : Prop where
  l1 : -9223372036854775808 ≤ f.l
  l2 : f.l ≤ 9223372036854775807
  h : Has .i64 w A f.s
  e : f.s.length = n
  c1 : n ≤ c
  c2 : c ≤ 9223372036854775807
  b : ∀ z ∈ f.s, -9223372036854775808 ≤ z ∧ z ≤ 9223372036854775807
theorem FdIn.below {w w' : World} {A : Option Addr} {n c : Nat} {f : Fnd} (h : FdIn w A n c f) (hb : Below w.heap.size w w') : FdIn w' A n c f :=
  ⟨h.l1, h.l2, h.h.below hb (Nat.le_refl _), h.e, h.c1, h.c2, h.b⟩
theorem read_finder {H : Type} {enc : TypeId × Value → H} {W : World} {bs : Nat} {v : Value} {d : DataW H} {p : List MemPlace}
    (hv : Value.okWide Try.prog W .any bs 29 v) (h : DataW.Trod enc Try.prog W 0 (fun _ => true) true 29 v d p) :
    ∃ (A : Option Addr) (n c : Nat) (f : Fnd), v = .agg #[.int .i64 f.l, .slice A n c] ∧ FdIn W A n c f := by
  obtain ⟨v0, v1, y0, y1, k, rfl, rfl, rfl, t0, t1⟩ := open_agg2 Try.underlying29 (by kernel_rfl) (by kernel_rfl) hv h
  obtain ⟨a, e0, rfl, wa⟩ := DataW.trod_int Try.underlying3 t0
  simp at e0
  subst e0
  obtain ⟨A, n, c, z, rfl, rp⟩ := read_bytes Try.underlying27 Try.underlying3 (by kernel_rfl) t1
  obtain ⟨hp, ep, mp, bp⟩ := has_of_row rp
  have x := bounds_i64 wa
  have q := row_caps rp
  unfold maxLen at q
  exact ⟨A, n, c, ⟨a, z.take n⟩, rfl, ⟨x.1, x.2, hp, ep, q.1, by omega, fun z h => bounds_i64 (bp z h)⟩⟩
end Go.Proofs.Ytemiecghdmagnaa.base
