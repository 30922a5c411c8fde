/- Lists of strings of bytes ([][]byte) in memory. -/
import Derived.Test.YtjdgobfjpjnhgaaDoorMem8
import Derived.Deep.Matrix
namespace Go.Proofs.YtjdgobfjpjnhgaaDoor.base
set_option maxRecDepth 100000
open Go.ChangeShapes Go.WideShapes Go.ChangeAt Go.RowKit Go.Deep
set_option linter.unusedVariables false

/-- A slice of bytes: its address, length, room, bytes. -/
structure R8 where
  A : Option Addr
  n : Nat
  c : Nat
  b : List Int
def r80 : R8 := ⟨none, 0, 0, []⟩
structure InR (w : World) (r : R8) : Prop where
  h : Has .u8 w r.A r.b
  e : r.b.length = r.n
  c1 : r.n ≤ r.c
  c2 : r.c ≤ 9223372036854775807
  b : ∀ z ∈ r.b, 0 ≤ z ∧ z ≤ 255
theorem InR.below {w w' : World} {B : Nat} {r : R8} (h : InR w r) (hb : Below B w w') (hB : w.heap.size ≤ B) : InR w' r := ⟨h.h.below hb hB, h.e, h.c1, h.c2, h.b⟩
/-- The slice at P has these slices of bytes. -/
structure HasL (w : World) (P : Option Addr) (rs : List R8) : Prop where
  at_ : rs = [] ∨ ∃ b off, P = some ⟨b, off, none⟩ ∧ b < w.heap.size ∧ ∀ i, i < rs.length → w.cell? ⟨b, off + i, none⟩ = some (.slice (rs.getD i r80).A (rs.getD i r80).n (rs.getD i r80).c)
  all : ∀ r ∈ rs, InR w r
theorem HasL.below {w w' : World} {B : Nat} {P : Option Addr} {rs : List R8} (h : HasL w P rs) (hb : Below B w w') (hB : w.heap.size ≤ B) : HasL w' P rs := by
  refine ⟨?_, fun r hr => (h.all r hr).below hb hB⟩
  rcases h.at_ with h | ⟨b, off, rfl, hlt, hc⟩
  · exact .inl h
  · exact .inr ⟨b, off, rfl, Nat.lt_of_lt_of_le hlt hb.size, fun i hi => by rw [hb.cell (p := ⟨b, off + i, none⟩) (Nat.lt_of_lt_of_le hlt hB)]; exact hc i hi⟩
theorem HasL.some {w : World} {P : Option Addr} {rs : List R8} (h : HasL w P rs) (hp : 0 < rs.length) : ∃ b off, P = Option.some ⟨b, off, none⟩ ∧ b < w.heap.size ∧ ∀ i, i < rs.length → w.cell? ⟨b, off + i, none⟩ = Option.some (.slice (rs.getD i r80).A (rs.getD i r80).n (rs.getD i r80).c) := by
  rcases h.at_ with h | h
  · subst h; simp at hp
  · exact h
theorem HasL.get {w : World} {P : Option Addr} {rs : List R8} (h : HasL w P rs) (i : Nat) (hi : i < rs.length) : InR w (rs.getD i r80) := by
  rw [List.getD_eq_getElem?_getD, List.getElem?_eq_getElem hi]
  exact h.all _ (List.getElem_mem hi)
/-- A slice that came in, or a struct's field, of type [][]byte. -/
theorem read_rows8 {H : Type} {enc : TypeId × Value → H} {W : World} {n : Nat} {cs : List Value} {y : DataW H × List MemPlace}
    (h : DataW.trod enc Tryd.prog W 0 (fun _ => true) true n 22 cs = some y) : ∃ (P : Option Addr) (m d : Nat) (rs : List R8), cs = [.slice P m d] ∧ rs.length = m ∧ m ≤ d ∧ d ≤ 9223372036854775807 ∧ HasL W P rs := by
  rcases open_int_rows Tryd.underlying22 Tryd.underlying23 Tryd.underlying5 (by kernel_rfl) (by kernel_rfl) h with ⟨rfl, _⟩ | ⟨a, len, cap, A, L, C, Z, rfl, _, hl, hm, _, hr⟩
  · exact ⟨none, 0, 0, [], rfl, rfl, Nat.le_refl _, by omega, ⟨.inl rfl, by simp⟩⟩
  · unfold maxLen at hm
    let rs : List R8 := (List.range len).map fun r => ⟨A r, L r, C r, (Z r).take (L r)⟩
    have hrs : rs.length = len := by simp [rs]
    have hg : ∀ i, i < len → rs.getD i r80 = ⟨A i, L i, C i, (Z i).take (L i)⟩ := by
      intro i hi
      rw [List.getD_eq_getElem?_getD, List.getElem?_eq_getElem (by rw [hrs]; exact hi)]
      simp [rs]
    have hin : ∀ r, r < len → InR W ⟨A r, L r, C r, (Z r).take (L r)⟩ := by
      intro r hlt
      obtain ⟨hc, h1, h2, h3, h4, h5, h6⟩ := hr r (by omega)
      have hrow : IsRow .u8 W (A r) (L r) (C r) (Z r) := by
        cases hA : A r with
        | none =>
          have h0 := h5 hA
          have hz : Z r = [] := List.eq_nil_of_length_eq_zero (by omega)
          exact .inl ⟨rfl, by omega, h0, hz⟩
        | some x => exact .inr ⟨x, rfl, h1, h2, h3, fun i hi => (h6 x hA).2 i (by omega), h4⟩
      obtain ⟨q1, q2, q3, q4⟩ := has_of_row hrow
      unfold maxLen at h2
      exact ⟨q1, q2, h1, by omega, fun z hz => bounds_u8 (q4 z hz)⟩
    refine ⟨some a, len, cap, rs, rfl, hrs, hl, by omega, ?_, ?_⟩
    · rcases Nat.eq_zero_or_pos len with h0 | h0
      · exact .inl (List.eq_nil_of_length_eq_zero (by omega))
      · right
        obtain ⟨b, off, spot⟩ := a
        have hc0 := (hr 0 (by omega)).1
        have hspot : spot = none := by simpa [Addr.add] using World.cell?_spot hc0
        subst hspot
        rw [addr_add] at hc0
        refine ⟨b, off, rfl, lt_of_cell hc0, fun i hi => ?_⟩
        rw [hg i (by omega), ← addr_add]
        exact (hr i (by omega)).1
    · intro r hr2
      obtain ⟨i, hi, rfl⟩ := List.mem_map.1 hr2
      exact hin i (List.mem_range.1 hi)
/-- An argument of type [][]byte. -/
structure RowsB (w : World) (P : Option Addr) (m d : Nat) (rs : List R8) : Prop where
  l : rs.length = m
  c1 : m ≤ d
  c2 : d ≤ 9223372036854775807
  h : HasL w P rs
theorem RowsB.below {w w' : World} {B : Nat} {P : Option Addr} {m d : Nat} {rs : List R8} (h : RowsB w P m d rs) (hb : Below B w w') (hB : w.heap.size ≤ B) : RowsB w' P m d rs := ⟨h.l, h.c1, h.c2, h.h.below hb hB⟩
theorem read_rows {H : Type} {enc : TypeId × Value → H} {W : World} {bs : Nat} {v : Value} {d : DataW H} {p : List MemPlace}
    (hv : Value.okWide Tryd.prog W .any bs 22 v) (h : DataW.Trod enc Tryd.prog W 0 (fun _ => true) true 22 v d p) :
    ∃ (P : Option Addr) (m c : Nat) (rs : List R8), v = .slice P m c ∧ RowsB W P m c rs := by
  obtain ⟨a, len, cap, rfl⟩ := okWide_slice Tryd.underlying22 hv
  obtain ⟨fuel, hf⟩ := h
  obtain ⟨P, m, c, rs, hcs, h1, h2, h3, h4⟩ := read_rows8 hf
  simp [Value.cells] at hcs
  obtain ⟨rfl, rfl, rfl⟩ := hcs
  exact ⟨_, _, _, rs, rfl, h1, h2, h3, h4⟩
end Go.Proofs.YtjdgobfjpjnhgaaDoor.base
