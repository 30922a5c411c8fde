/- make of a number of bytes, bools, integers that is told: its run as an equation, the cells behind a name. -/
import Derived.Test.YthckpenindchlaaMem8
import Derived.Test.YthckpenindchlaaBool
import Derived.Laws.MakeOwn
namespace Go.Proofs.Ythckpenindchlaa.base
set_option maxRecDepth 100000
open Go.RowKit
set_option linter.unusedVariables false

def bCells (n : Nat) : Array Value := (List.replicate n (Value.bool false)).toArray
def zCells (n : Nat) : Array Value := (List.replicate n (Value.int .u8 0)).toArray
def iCells (n : Nat) : Array Value := (List.replicate n (Value.int .i64 0)).toArray
theorem bCells_map (n : Nat) : bCells n = ((List.replicate n false).map Value.bool).toArray := by simp [bCells]
theorem zCells_map (n : Nat) : zCells n = ((List.replicate n (0 : Int)).map (Value.int .u8)).toArray := by simp [zCells]
theorem iCells_map (n : Nat) : iCells n = ((List.replicate n (0 : Int)).map (Value.int .i64)).toArray := by simp [iCells]
theorem run_make_cells {P : Program} (t e : TypeId) (i : TypeInfo) (z : Value) (ht : P.underlying t = some (.slice e)) (hi : P.info? e = some i) (hz : i.zero = some z) (hs : i.size = 1) (hc : z.cells = #[z]) (n : Nat) (hb : i.bytes * n ≤ 281474976710656) (h63 : n ≤ 9223372036854775807) (w : World) :
    (Instr.makeSlice t (.int .i64 (n : Int)) (.int .i64 (n : Int))).run P w = .ok (.slice (some ⟨w.heap.size, 0, none⟩) n n) (w.alloc (.cells (List.replicate n z).toArray e)) := by
  have hb' : (i.bytes : Int) * (n : Int) ≤ 281474976710656 := by
    have h : ((i.bytes * n : Nat) : Int) ≤ 281474976710656 := by omega
    rwa [Int.natCast_mul] at h
  have hr := run_make (P := P) w t e i z ht hi hz .i64 .i64 n n (by omega) (by omega) hb' (by omega)
  simp only [Int.toNat_natCast] at hr
  rw [hr]
  have e1 : madeCells z.cells (n * i.size) = (List.replicate n z).toArray := by
    rw [hs, hc, Nat.mul_one]
    apply Array.ext'
    rw [toList_madeCells_one]
  rw [e1]
theorem mk8 (n : Nat) (hn : n ≤ 1000000) (w : World) : (Instr.makeSlice 51 (.int .i64 (n : Int)) (.int .i64 (n : Int))).run Try.prog w = .ok (.slice (some ⟨w.heap.size, 0, none⟩) n n) (w.alloc (.cells (zCells n) 5)) := by
  obtain ⟨i, hi, hz, h1, h2⟩ := info8
  exact run_make_cells _ _ i (.int .u8 0) Try.underlying51 hi hz h1 rfl n (by rw [h2]; omega) (by omega) w
theorem mkB (n : Nat) (hn : n ≤ 1000000) (w : World) : (Instr.makeSlice 67 (.int .i64 (n : Int)) (.int .i64 (n : Int))).run Try.prog w = .ok (.slice (some ⟨w.heap.size, 0, none⟩) n n) (w.alloc (.cells (bCells n) 4)) := by
  obtain ⟨i, hi, hz, h1, h2⟩ := infoB
  exact run_make_cells _ _ i (.bool false) Try.underlying67 hi hz h1 rfl n (by rw [h2]; omega) (by omega) w
theorem has_z (w : World) (e : TypeId) (n : Nat) (hn : n ≤ maxLen) {g : Nat} (hg : w.heap.size = g) : Has .u8 (w.alloc (.cells (zCells n) e)) (some ⟨g, 0, none⟩) (List.replicate n 0) := by
  rw [zCells_map]; exact has_lit (zs := List.replicate n 0) hg (by simpa using hn)
theorem has_i (w : World) (e : TypeId) (n : Nat) (hn : n ≤ maxLen) {g : Nat} (hg : w.heap.size = g) : Has .i64 (w.alloc (.cells (iCells n) e)) (some ⟨g, 0, none⟩) (List.replicate n 0) := by
  rw [iCells_map]; exact has_lit (zs := List.replicate n 0) hg (by simpa using hn)
theorem has_b (w : World) (e : TypeId) (n : Nat) (hn : n ≤ maxLen) {g : Nat} (hg : w.heap.size = g) : HasB (w.alloc (.cells (bCells n) e)) (some ⟨g, 0, none⟩) (List.replicate n false) := by
  rw [bCells_map]; exact hasB_lit (zs := List.replicate n false) hg (by simpa using hn)
attribute [irreducible] bCells zCells iCells
end Go.Proofs.Ythckpenindchlaa.base
