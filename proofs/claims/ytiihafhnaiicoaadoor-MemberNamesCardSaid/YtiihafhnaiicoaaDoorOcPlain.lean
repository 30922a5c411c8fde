/- Plain arithmetic of numbers in bytes. No program. -/
import Derived.RowKit
namespace Go.Proofs.YtiihafhnaiicoaaDoor.ocP
set_option maxRecDepth 100000
open Go.RowKit
set_option linter.unusedVariables false

def wdB (w : Int) : Bool := decide (1 ≤ w) && decide (w ≤ 8)
/-- The bytes of a number, the highest one first. -/
def digs (n : Int) (w : Nat) : List Int := (List.range w).map fun (i : Nat) => n / 256 ^ (w - 1 - i) % 256
def numE (n w : Int) : Int := if wdB w then (if n < 256 ^ w.toNat then 0 else 16) else 2
def numV (n w : Int) : List Int := if numE n w = 0 then digs n w.toNat else []
/-- The last k of eight bytes, zeros ahead of them. -/
def dK (n : Int) (k : Nat) : List Int := (List.range 8).map fun (j : Nat) => if 8 - k ≤ j then n / 256 ^ (7 - j) % 256 else 0
theorem wdB_iff (w : Int) : wdB w = true ↔ 1 ≤ w ∧ w ≤ 8 := by simp [wdB]
theorem wd_cases {w : Int} (h : wdB w = true) : w = 1 ∨ w = 2 ∨ w = 3 ∨ w = 4 ∨ w = 5 ∨ w = 6 ∨ w = 7 ∨ w = 8 := by rw [wdB_iff] at h; omega
theorem digs_len (n : Int) (w : Nat) : (digs n w).length = w := by simp [digs]
theorem digs_b (n : Int) (w : Nat) : ∀ z ∈ digs n w, 0 ≤ z ∧ z ≤ 255 := by
  intro z hz
  obtain ⟨i, _, rfl⟩ := List.mem_map.1 hz
  omega
theorem dK_len (n : Int) (k : Nat) : (dK n k).length = 8 := by simp [dK]
theorem dK_zero (n : Int) : dK n 0 = [0, 0, 0, 0, 0, 0, 0, 0] := rfl
theorem dK_set (n : Int) {k : Nat} (h : k < 8) : (dK n k).set (7 - k) (n / 256 ^ k % 256) = dK n (k + 1) := by
  rcases (show k = 0 ∨ k = 1 ∨ k = 2 ∨ k = 3 ∨ k = 4 ∨ k = 5 ∨ k = 6 ∨ k = 7 by omega) with rfl | rfl | rfl | rfl | rfl | rfl | rfl | rfl <;> simp [dK, List.range, List.range.loop]
theorem dK_drop (n : Int) {w : Nat} (h : w ≤ 8) : (dK n 8).drop (8 - w) = digs n w := by
  rcases (show w = 0 ∨ w = 1 ∨ w = 2 ∨ w = 3 ∨ w = 4 ∨ w = 5 ∨ w = 6 ∨ w = 7 ∨ w = 8 by omega) with rfl | rfl | rfl | rfl | rfl | rfl | rfl | rfl | rfl <;> simp [dK, digs, List.range, List.range.loop]
end Go.Proofs.YtiihafhnaiicoaaDoor.ocP
