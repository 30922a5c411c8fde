/- make of a number of slices of bytes that is told; blocks that are only known to lie somewhere. -/
import Derived.Test.YtjdgobfjpjnhgaaDoorMake
import Derived.Test.YtjdgobfjpjnhgaaDoorRowsV2
namespace Go.Proofs.YtjdgobfjpjnhgaaDoor.base
set_option maxRecDepth 100000
open Go.RowKit
set_option linter.unusedVariables false
def sCells (n : Nat) : Array Value := (List.replicate n (Value.slice none 0 0)).toArray
theorem sCells_map (n : Nat) : sCells n = ((List.replicate n r80).map R8.val).toArray := by simp [sCells, r80, R8.val]
theorem mkS (n : Nat) (hn : n ≤ 1000000) (w : World) : (Instr.makeSlice 22 (.int .i64 (n : Int)) (.int .i64 (n : Int))).run Tryd.prog w = .ok (.slice (some ⟨w.heap.size, 0, none⟩) n n) (w.alloc (.cells (sCells n) 23)) := by
  obtain ⟨i, hi, hz, h1, h2⟩ := infoS
  exact run_make_cells _ _ i (.slice none 0 0) Tryd.underlying22 hi hz h1 rfl n (by rw [h2]; omega) (by omega) w
theorem inr_nil (w : World) : InR w r80 := ⟨.inl rfl, rfl, Nat.le_refl _, by show 0 ≤ 9223372036854775807; omega, by simp [r80]⟩
theorem rows_s (w : World) (n : Nat) (hn : n ≤ 1000000) {g : Nat} (hg : w.heap.size = g) : RowsB (w.alloc (.cells (sCells n) 23)) (some ⟨g, 0, none⟩) n n (List.replicate n r80) := by
  rw [sCells_map]
  exact rows_lit w (List.replicate n r80) (fun r hr => by rw [(List.mem_replicate.1 hr).2]; exact inr_nil w) (by simpa using hn) hg (by simp)
theorem rows_none (w : World) : RowsB w none 0 0 [] := ⟨rfl, Nat.le_refl _, by omega, ⟨.inl rfl, by simp⟩⟩
theorem rows_heap {w : World} {x n : Nat} (h : w.heap[x]? = some (.cells (sCells n) 23 (0, 0))) (hn : n ≤ 1000000) : RowsB w (some ⟨x, 0, none⟩) n n (List.replicate n r80) := by
  refine ⟨by simp, Nat.le_refl _, by omega, ⟨.inr ⟨x, 0, rfl, lt_of_block h, fun i hi => ?_⟩, fun r hr => by rw [(List.mem_replicate.1 hr).2]; exact inr_nil w⟩⟩
  have hi2 : i < n := by simpa using hi
  rw [sCells_map] at h
  simp only [World.cell?, h, Nat.zero_add]
  simp [hi2, List.getD_eq_getElem?_getD, R8.val]
theorem hasz_heap {w : World} {x n : Nat} (h : w.heap[x]? = some (.cells (zCells n) 5 (0, 0))) : Has .u8 w (some ⟨x, 0, none⟩) (List.replicate n 0) := by
  refine .inr ⟨x, 0, rfl, lt_of_block h, fun i hi => ?_⟩
  have hi2 : i < n := by simpa using hi
  rw [zCells_map] at h
  simp only [World.cell?, h, Nat.zero_add]
  simp [hi2, List.getD_eq_getElem?_getD]
theorem hasb_heap {w : World} {x n : Nat} (h : w.heap[x]? = some (.cells (bCells n) 4 (0, 0))) : HasB w (some ⟨x, 0, none⟩) (List.replicate n false) := by
  refine .inr ⟨x, 0, rfl, lt_of_block h, fun i hi => ?_⟩
  have hi2 : i < n := by simpa using hi
  rw [bCells_map] at h
  simp only [World.cell?, h, Nat.zero_add]
  simp [hi2, List.getD_eq_getElem?_getD]
/-- A list's front. -/
theorem rows_front {w : World} {P : Option Addr} {m d k : Nat} {rs : List R8} (h : RowsB w P m d rs) (hk : k ≤ m) : RowsB w P k d (rs.take k) := by
  have hl : (rs.take k).length = k := by rw [List.length_take, h.l]; omega
  refine ⟨hl, Nat.le_trans hk h.c1, h.c2, ⟨?_, fun r hr => h.h.all r (List.mem_of_mem_take hr)⟩⟩
  rcases h.h.at_ with h0 | ⟨b, off, h1, h2, h3⟩
  · left; rw [h0]; simp
  · refine .inr ⟨b, off, h1, h2, fun i hi => ?_⟩
    rw [hl] at hi
    have e : (rs.take k).getD i r80 = rs.getD i r80 := by
      simp only [List.getD_eq_getElem?_getD, List.getElem?_take]
      rw [if_pos hi]
    rw [e]
    exact h3 i (by rw [h.l]; omega)
theorem b_al {a w : World} (h : Below a.heap.size a w) (o : Obj) : Below a.heap.size a (w.alloc o) := h.alloc h.size o
theorem b_to {a b c : World} (h : Below a.heap.size a b) (k : Below b.heap.size b c) : Below a.heap.size a c := h.trans (k.mono h.size)
attribute [irreducible] sCells
end Go.Proofs.YtjdgobfjpjnhgaaDoor.base
