/- A block of memory that is known whole. No program's numbers. -/
import Derived.Test.YthckpenindchlaaBase
import Derived.Handy
import Derived.OneCell
import Derived.Laws.Rows
import Derived.Laws.OwnMore
namespace Go.Proofs.Ythckpenindchlaa.base
set_option maxRecDepth 100000
open Go.RowKit

/-- Block g has just the cells cs, of element type t; none is frozen. -/
def Lies (w : World) (g : Nat) (t : TypeId) (cs : List Value) : Prop := w.heap[g]? = some (.cells cs.toArray t (0, 0))

section
variable {w w' : World} {g : Nat} {t : TypeId} {cs : List Value}
theorem Lies.lt (h : Lies w g t cs) : g < w.heap.size := lt_of_block h
theorem Lies.cell (h : Lies w g t cs) (i : Nat) : w.cell? ⟨g, i, none⟩ = cs[i]? := by
  unfold Lies at h
  simp [World.cell?, h]
theorem Lies.free (h : Lies w g t cs) (i : Nat) : w.frozen? ⟨g, i, none⟩ = false := by
  unfold Lies at h
  simp [World.frozen?, h]
theorem Lies.fresh (w : World) (t : TypeId) (cs : List Value) : Lies (w.alloc (.cells cs.toArray t)) w.heap.size t cs := heap_alloc_new w _
theorem Lies.fresh_at {w : World} {t : TypeId} {cs : List Value} {g : Nat} (h : w.heap.size = g) : Lies (w.alloc (.cells cs.toArray t)) g t cs := h ▸ Lies.fresh w t cs
theorem Lies.drew (h : Lies w g t cs) : Lies w.drew g t cs := h
theorem Lies.drewN (h : Lies w g t cs) (n : Nat) : Lies (w.drewN n) g t cs := h
theorem Lies.alloc (h : Lies w g t cs) (o : Obj) : Lies (w.alloc o) g t cs := (Below.heap_alloc w o g h.lt).trans h
theorem Lies.below {B : Nat} (h : Lies w g t cs) (hb : Below B w w') (hg : g < B) : Lies w' g t cs := (hb.block g hg).trans h
/-- .. where all that stood before is as it was. -/
theorem Lies.past (h : Lies w g t cs) (hb : Below w.heap.size w w') : Lies w' g t cs := h.below hb h.lt
theorem Lies.set (h : Lies w g t cs) (i : Nat) (v : Value) : Lies (w.setCell ⟨g, i, none⟩ v) g t (cs.set i v) := by
  unfold Lies at *
  simp [World.setCell, Array.getElem?_modify, h]
theorem Lies.other (h : Lies w g t cs) {p : Addr} (hp : p.block ≠ g) (v : Value) : Lies (w.setCell p v) g t cs := (Below.heap_setCell w p v g (fun e => hp e.symm)).trans h
/-- A whole struct of three stored. -/
theorem Lies.store3 {x y z a b c : Value} (h : Lies w g t [x, y, z]) : Lies (((w.setCell ⟨g, 0, none⟩ a).setCell ⟨g, 1, none⟩ b).setCell ⟨g, 2, none⟩ c) g t [a, b, c] := ((h.set 0 a).set 1 b).set 2 c
theorem Lies.grown {row : Option Nat} (h : Lies w g t cs) (hb : w.grownBy w' row) (hg : some g ≠ row) : Lies w' g t cs := (hb.block g h.lt hg).trans h
/-- The three cells of a block of three, and that they may be written. -/
theorem Lies.three {a b c : Value} (h : Lies w g t [a, b, c]) : w.cell? ⟨g, 0, none⟩ = some a ∧ w.cell? ⟨g, 1, none⟩ = some b ∧ w.cell? ⟨g, 2, none⟩ = some c ∧ w.frozen? ⟨g, 0, none⟩ = false ∧ w.frozen? ⟨g, 1, none⟩ = false ∧ w.frozen? ⟨g, 2, none⟩ = false :=
  ⟨h.cell 0, h.cell 1, h.cell 2, h.free 0, h.free 1, h.free 2⟩
theorem Lies.one {a : Value} (h : Lies w g t [a]) : w.cell? ⟨g, 0, none⟩ = some a ∧ w.frozen? ⟨g, 0, none⟩ = false := ⟨h.cell 0, h.free 0⟩
theorem Lies.two {a b : Value} (h : Lies w g t [a, b]) : w.cell? ⟨g, 0, none⟩ = some a ∧ w.cell? ⟨g, 1, none⟩ = some b ∧ w.frozen? ⟨g, 0, none⟩ = false ∧ w.frozen? ⟨g, 1, none⟩ = false := ⟨h.cell 0, h.cell 1, h.free 0, h.free 1⟩
end
end Go.Proofs.Ythckpenindchlaa.base
