/- Lists of strings of bytes ([][]byte) in memory. -/
import Derived.Test.YthckpenindchlaaMem8
import Derived.Deep.Matrix
namespace Go.Proofs.Ythckpenindchlaa.base
set_option maxRecDepth 100000
open Go.ChangeShapes Go.WideShapes Go.ChangeAt Go.RowKit Go.Deep
set_option linter.unusedVariables false

/-- A slice of bytes: its address, length, room, bytes. -/
structure R8 where
  A : Option Addr
  n : Nat
  c : Nat
  b : List Int
def r80 : R8 := ⟨none, 0, 0, []⟩
structure InR (w : World) (r : R8) : Prop where
  h : Has .u8 w r.A r.b
  e : r.b.length = r.n
  c1 : r.n ≤ r.c
  c2 : r.c ≤ 9223372036854775807
  b : ∀ z ∈ r.b, 0 ≤ z ∧ z ≤ 255
theorem InR.below {w w' : World} {B : Nat} {r : R8} (h : InR w r) (hb : Below B w w') (hB : w.heap.size ≤ B) : InR w' r := ⟨h.h.below hb hB, h.e, h.c1, h.c2, h.b⟩
/-- The slice at P has these slices of bytes. -/
structure HasL (w : World) (P : Option Addr) (rs : List R8) : Prop where
  at_ : rs = [] ∨ ∃ b off, P = some ⟨b, off, none⟩ ∧ b < w.heap.size ∧ ∀ i, i < rs.length → w.cell? ⟨b, off + i, none⟩ = some (.slice (rs.getD i r80).A (rs.getD i r80).n (rs.getD i r80).c)
  all : ∀ r ∈ rs, InR w r
theorem HasL.below {w w' : World} {B : Nat} {P : Option Addr} {rs : List R8} (h : HasL w P rs) (hb : Below B w w') (hB : w.heap.size ≤ B) : HasL w' P rs := by
  refine ⟨?_, fun r hr => (h.all r hr).below hb hB⟩
  rcases h.at_ with h | ⟨b, off, rfl, hlt, hc⟩
  · exact .inl h
  · exact .inr ⟨b, off, rfl, Nat.lt_of_lt_of_le hlt hb.size, fun i hi => by rw [hb.cell (p := ⟨b, off + i, none⟩) (Nat.lt_of_lt_of_le hlt hB)]; exact hc i hi⟩
theorem HasL.some {w : World} {P : Option Addr} {rs : List R8} (h : HasL w P rs) (hp : 0 < rs.length) : ∃ b off, P = Option.some ⟨b, off, none⟩ ∧ b < w.heap.size ∧ ∀ i, i < rs.length → w.cell? ⟨b, off + i, none⟩ = Option.some (.slice (rs.getD i r80).A (rs.getD i r80).n (rs.getD i r80).c) := by
  rcases h.at_ with h | h
  · subst h; simp at hp
  · exact h
theorem HasL.get {w : World} {P : Option Addr} {rs : List R8} (h : HasL w P rs) (i : Nat) (hi : i < rs.length) : InR w (rs.getD i r80) := by
  rw [List.getD_eq_getElem?_getD, List.getElem?_eq_getElem hi]
  exact h.all _ (List.getElem_mem hi)
/-- An argument of type [][]byte. -/
structure RowsB (w : World) (P : Option Addr) (m d : Nat) (rs : List R8) : Prop where
  l : rs.length = m
  c1 : m ≤ d
  c2 : d ≤ 9223372036854775807
  h : HasL w P rs
theorem RowsB.below {w w' : World} {B : Nat} {P : Option Addr} {m d : Nat} {rs : List R8} (h : RowsB w P m d rs) (hb : Below B w w') (hB : w.heap.size ≤ B) : RowsB w' P m d rs := ⟨h.l, h.c1, h.c2, h.h.below hb hB⟩
end Go.Proofs.Ythckpenindchlaa.base
