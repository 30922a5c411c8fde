/- Paddings, as lists. No program. -/
import Derived.Test.YtiihafhnaiicoaaDoorShPlain
namespace Go.Proofs.YtiihafhnaiicoaaDoor.shP
set_option maxRecDepth 100000
open Go.RowKit
set_option linter.unusedVariables false

/-- The last k of the eight bytes of a padding, zeros ahead of them. -/
def lenK (n k : Nat) : List Int := (List.range 8).map fun (i : Nat) => if 7 - i < k then (8 * (n : Int)) / 2 ^ (8 * (7 - i)) % 256 else 0
def pK (n k : Nat) : List Int := 128 :: (List.replicate (zerosN n) 0 ++ lenK n k)
theorem lenK_0 (n : Nat) : lenK n 0 = List.replicate 8 0 := by unfold lenK; simp; rfl
theorem lenK_8 (n : Nat) : lenK n 8 = len8 n := by
  unfold lenK len8
  apply List.map_congr_left
  intro i hi
  rw [if_pos (by omega)]
theorem lenK_set (n k : Nat) (h : k < 8) (x : Int) (hx : x = 8 * (n : Int) / 2 ^ (8 * k) % 256) : (lenK n k).set (7 - k) x = lenK n (k + 1) := by
  subst hx
  apply List.ext_getElem
  · simp [lenK]
  · intro i h1 h2
    simp [lenK] at h1
    simp only [lenK, List.getElem_set, List.getElem_map, List.getElem_range]
    by_cases c : 7 - k = i
    · subst c
      rw [if_pos rfl, if_pos (by omega), show 7 - (7 - k) = k by omega]
    · rw [if_neg c]
      by_cases c2 : 7 - i < k
      · rw [if_pos c2, if_pos (by omega)]
      · rw [if_neg c2, if_neg (by omega)]
theorem pK_0 (n : Nat) : pK n 0 = (List.replicate (zerosN n + 9) (0 : Int)).set 0 128 := by
  rw [pK, lenK_0, List.replicate_append_replicate, show zerosN n + 9 = (zerosN n + 8) + 1 from rfl, List.replicate_succ (n := zerosN n + 8), List.set_cons_zero]
theorem pK_8 (n : Nat) : pK n 8 = padL n := by rw [pK, lenK_8, padL]
theorem pK_len (n k : Nat) : (pK n k).length = zerosN n + 9 := by simp [pK, lenK]
theorem pK_set (n k : Nat) (h : k < 8) (x : Int) (hx : x = 8 * (n : Int) / 2 ^ (8 * k) % 256) (j : Nat) (hj : j = zerosN n + 8 - k) : (pK n k).set j x = pK n (k + 1) := by
  obtain ⟨i, rfl⟩ : ∃ i, j = i + 1 := ⟨j - 1, by omega⟩
  rw [pK, List.set_cons_succ, List.set_append_right _ _ (by simp; omega), List.length_replicate, show i - zerosN n = 7 - k by omega, lenK_set n k h x hx, pK]
theorem padL_len (n : Nat) : (padL n).length = zerosN n + 9 := by rw [← pK_8, pK_len]
theorem zerosN_lt (n : Nat) : zerosN n < 64 := by unfold zerosN; omega
theorem pad_64 (n : Nat) : (n + (padL n).length) % 64 = 0 := by rw [padL_len]; unfold zerosN; omega
theorem padL_bd (n : Nat) : ∀ z ∈ padL n, 0 ≤ z ∧ z ≤ 255 := by
  intro z hz
  simp only [padL, len8, List.mem_cons, List.mem_append, List.mem_replicate, List.mem_map] at hz
  rcases hz with rfl | ⟨_, rfl⟩ | ⟨i, _, rfl⟩ <;> omega
end Go.Proofs.YtiihafhnaiicoaaDoor.shP
