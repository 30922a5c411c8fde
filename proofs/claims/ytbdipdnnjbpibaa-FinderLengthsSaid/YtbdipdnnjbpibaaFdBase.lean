/- How a finder that came in reads. -/
import Derived.Test.YtbdipdnnjbpibaaRgBase
import Derived.Test.YtbdipdnnjbpibaaFdPlain
namespace Go.Proofs.Ytbdipdnnjbpibaa.base
open Go.ChangeShapes Go.WideShapes Go.ChangeAt Go.RowKit Go.Joins
open Go.Proofs.Ytbdipdnnjbpibaa.rgP Go.Proofs.Ytbdipdnnjbpibaa.fdP

/-- A finder in memory: its row. -/
structure FdIn (w : World) (A : Option Addr) (n c : Nat) (f : Fnd) : Prop where
  l1 : -9223372036854775808 ≤ f.l
  l2 : f.l ≤ 9223372036854775807
  h : Has .i64 w A f.s
  e : f.s.length = n
  c1 : n ≤ c
  c2 : c ≤ 9223372036854775807
  b : ∀ z ∈ f.s, -9223372036854775808 ≤ z ∧ z ≤ 9223372036854775807
theorem FdIn.below {w w' : World} {A : Option Addr} {n c : Nat} {f : Fnd} (h : FdIn w A n c f) (hb : Below w.heap.size w w') : FdIn w' A n c f :=
  ⟨h.l1, h.l2, h.h.below hb (Nat.le_refl _), h.e, h.c1, h.c2, h.b⟩
theorem read_finder {H : Type} {enc : TypeId × Value → H} {W : World} {bs : Nat} {v : Value} {d : DataW H} {p : List MemPlace}
    (hv : Value.okWide Try.prog W .any bs 24 v) (h : DataW.Trod enc Try.prog W 0 (fun _ => true) true 24 v d p) :
    ∃ (A : Option Addr) (n c : Nat) (f : Fnd), v = .agg #[.int .i64 f.l, .slice A n c] ∧ FdIn W A n c f := by
  obtain ⟨v0, v1, y0, y1, k, rfl, rfl, rfl, t0, t1⟩ := open_agg2 Try.underlying24 (by kernel_rfl) (by kernel_rfl) hv h
  obtain ⟨a, e0, rfl, wa⟩ := DataW.trod_int Try.underlying3 t0
  simp at e0
  subst e0
  obtain ⟨A, n, c, z, rfl, rp⟩ := read_bytes Try.underlying22 Try.underlying3 (by kernel_rfl) t1
  obtain ⟨hp, ep, mp, bp⟩ := has_of_row rp
  have x := bounds_i64 wa
  have q := row_caps rp
  unfold maxLen at q
  exact ⟨A, n, c, ⟨a, z.take n⟩, rfl, ⟨x.1, x.2, hp, ep, q.1, by omega, fun z h => bounds_i64 (bp z h)⟩⟩
end Go.Proofs.Ytbdipdnnjbpibaa.base
