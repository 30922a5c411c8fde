/- make of a number of bytes that is told: its run as an equation, the cells behind a name. -/
import Derived.Test.YtipbafcjmeibpaaMem8
import Derived.Laws.MakeOwn
namespace Go.Proofs.Ytipbafcjmeibpaa.base
open Go.RowKit
def zCells (n : Nat) : Array Value := (List.replicate n (Value.int .u8 0)).toArray
theorem mk8 (n : Nat) (hn : n ≤ 1000000) (w : World) : (Instr.makeSlice 35 (.int .i64 (n : Int)) (.int .i64 (n : Int))).run Try.prog w = .ok (.slice (some ⟨w.heap.size, 0, none⟩) n n) (w.alloc (.cells (zCells n) 5)) := by
  obtain ⟨i, hi, hz, h1, h2⟩ := info8
  have hr := run_make (P := Try.prog) w 35 5 i (.int .u8 0) Try.underlying35 hi hz .i64 .i64 n n (by omega) (by omega) (by rw [h2]; omega) (by omega)
  simp only [Int.toNat_natCast] at hr
  rw [hr]
  have e1 : madeCells (Value.int .u8 0).cells (n * i.size) = zCells n := by
    rw [h1, Nat.mul_one]
    apply Array.ext'
    have e : (Value.int .u8 0).cells = #[.int .u8 0] := rfl
    rw [e, toList_madeCells_one]
    simp [zCells]
  rw [e1]
attribute [irreducible] zCells
theorem m20001 (w : World) : (Instr.makeSlice 35 (.int .i64 20001) (.int .i64 20001)).run Try.prog w = .ok (.slice (some ⟨w.heap.size, 0, none⟩) 20001 20001) (w.alloc (.cells (zCells 20001) 5)) := mk8 20001 (by omega) w
end Go.Proofs.Ytipbafcjmeibpaa.base
