/- make of a number of bytes that is told: its run as an equation, the cells behind a name. -/
import Derived.Test.YtbfodmckgjeoaaaMem8
import Derived.Laws.MakeOwn
namespace Go.Proofs.Ytbfodmckgjeoaaa.base
set_option maxRecDepth 100000
open Go.RowKit
set_option linter.unusedVariables false
def zC (n : Nat) : Array Value := ((List.replicate n (0 : Int)).map (Value.int .u8)).toArray
theorem mkz (n : Nat) (hn : n ≤ 1000000) (w : World) : (Instr.makeSlice 24 (.int .i64 (n : Int)) (.int .i64 (n : Int))).run Try.prog w = .ok (.slice (some ⟨w.heap.size, 0, none⟩) n n) (w.alloc (.cells (zC n) 5)) := by
  obtain ⟨i, hi, hz, h1, h2⟩ := info8
  have hr := run_make (P := Try.prog) w 24 5 i (.int .u8 0) Try.underlying24 hi hz .i64 .i64 n n (by omega) (by omega) (by rw [h2]; omega) (by omega)
  simp only [Int.toNat_natCast] at hr
  rw [hr]
  have e1 : madeCells (Value.int .u8 0).cells (n * i.size) = zC n := by
    rw [h1, Nat.mul_one]
    apply Array.ext'
    have e : (Value.int .u8 0).cells = #[.int .u8 0] := rfl
    rw [e, toList_madeCells_one]
    simp [zC]
  rw [e1]
theorem own_zC (w : World) (n : Nat) (hn : n ≤ maxLen) {B g : Nat} (hB : B ≤ g) (hg : w.heap.size = g) : OwnI (w.alloc (.cells (zC n) 5)) B 5 .u8 (.slice (some ⟨g, 0, none⟩) n n) (List.replicate n 0) := by
  subst hg
  have := OwnI.lit w 5 .u8 (List.replicate n 0) B hB (by simpa using hn)
  rwa [List.length_replicate] at this
theorem has_zC (w : World) (e : TypeId) (n : Nat) (hn : n ≤ maxLen) {g : Nat} (hg : w.heap.size = g) : Has .u8 (w.alloc (.cells (zC n) e)) (some ⟨g, 0, none⟩) (List.replicate n 0) := by
  unfold zC; exact has_lit (zs := List.replicate n 0) hg (by simpa using hn)
attribute [irreducible] zC
end Go.Proofs.Ytbfodmckgjeoaaa.base
