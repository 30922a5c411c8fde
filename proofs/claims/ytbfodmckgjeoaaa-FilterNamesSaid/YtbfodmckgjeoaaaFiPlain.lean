/- Filters of lists of bytes: plain facts. No program's numbers. -/
import Derived.Lib.Bytes
namespace Go.Proofs.Ytbfodmckgjeoaaa.fiP
set_option maxRecDepth 100000
set_option linter.unusedVariables false
set_option linter.unusedSimpArgs false
/-- A list that is made from its front. -/
def bld (f : List Int → Nat → Int) : Nat → List Int
  | 0 => []
  | k + 1 => bld f k ++ [f (bld f k) k]
theorem bld_len (f : List Int → Nat → Int) : ∀ k, (bld f k).length = k
  | 0 => rfl
  | k + 1 => by simp [bld, bld_len f k]
theorem bld_snoc (f : List Int → Nat → Int) (k : Nat) : bld f (k + 1) = bld f k ++ [f (bld f k) k] := rfl
theorem bld_take (f : List Int → Nat → Int) {j : Nat} : ∀ {k : Nat}, j ≤ k → (bld f k).take j = bld f j
  | 0, h => by rw [show j = 0 by omega]; rfl
  | k + 1, h => by
    by_cases e : j = k + 1
    · rw [e, List.take_of_length_le (by rw [bld_len]; omega)]
    · rw [bld_snoc, List.take_append_of_le_length (by rw [bld_len]; omega), bld_take f (by omega)]
theorem bld_at (f : List Int → Nat → Int) {j k : Nat} (h : j < k) : (bld f k).getD j 0 = f (bld f j) j := by
  have h1 : (bld f k).getD j 0 = ((bld f k).take (j + 1)).getD j 0 := by
    simp only [List.getD_eq_getElem?_getD, List.getElem?_take]; rw [if_pos (by omega)]
  rw [h1, bld_take f (by omega), bld_snoc, List.getD_eq_getElem?_getD, List.getElem?_append_right (by rw [bld_len]; omega), bld_len]
  simp
theorem bld_bd {f : List Int → Nat → Int} (h : ∀ l k, 0 ≤ f l k ∧ f l k ≤ 255) : ∀ k, ∀ z ∈ bld f k, 0 ≤ z ∧ z ≤ 255
  | 0, z, hz => by simp [bld] at hz
  | k + 1, z, hz => by
    rw [bld_snoc] at hz
    rcases List.mem_append.1 hz with hz | hz
    · exact bld_bd h k z hz
    · rw [List.mem_singleton.1 hz]; exact h _ _
/-- What stands n before. -/
def bef (l : List Int) (n k : Nat) : Int := if n ≤ k then l.getD (k - n) 0 else 0
def dF (b : List Int) (n : Nat) : List Int → Nat → Int := fun _ k => (b.getD k 0 - bef b n k) % 256
def sF (b : List Int) (n : Nat) : List Int → Nat → Int := fun l k => (b.getD k 0 + bef l n k) % 256
def dl (b : List Int) (n : Nat) : List Int := bld (dF b n) b.length
def sm (b : List Int) (n : Nat) : List Int := bld (sF b n) b.length
theorem dF_bd (b : List Int) (n : Nat) : ∀ l k, 0 ≤ dF b n l k ∧ dF b n l k ≤ 255 := fun l k => by unfold dF; omega
theorem sF_bd (b : List Int) (n : Nat) : ∀ l k, 0 ≤ sF b n l k ∧ sF b n l k ≤ 255 := fun l k => by unfold sF; omega
theorem at_bd {b : List Int} (hb : ∀ z ∈ b, 0 ≤ z ∧ z ≤ 255) (k : Nat) : 0 ≤ b.getD k 0 ∧ b.getD k 0 ≤ 255 := by
  rw [List.getD_eq_getElem?_getD]
  cases h : b[k]? with
  | none => simp
  | some v => exact hb v (List.mem_of_getElem? h)
theorem list_eq {l m : List Int} (hl : l.length = m.length) (h : ∀ k, k < l.length → l.getD k 0 = m.getD k 0) : l = m := by
  refine List.ext_getElem hl fun k h1 h2 => ?_
  have := h k h1
  rw [List.getD_eq_getElem?_getD, List.getD_eq_getElem?_getD, List.getElem?_eq_getElem h1, List.getElem?_eq_getElem h2] at this
  exact this
/-- Sums of differences are the bytes. -/
theorem sm_dl {b : List Int} (hb : ∀ z ∈ b, 0 ≤ z ∧ z ≤ 255) {n : Nat} (hn : 1 ≤ n) : sm (dl b n) n = b := by
  have hl : (dl b n).length = b.length := bld_len _ _
  have key : ∀ k, k ≤ b.length → bld (sF (dl b n) n) k = b.take k := by
    intro k
    induction k with
    | zero => intro _; rfl
    | succ k ih =>
      intro hk
      rw [bld_snoc, ih (by omega), List.take_succ_eq_append_getElem (by omega)]
      congr 1
      have e1 : (dl b n).getD k 0 = (b.getD k 0 - bef b n k) % 256 := bld_at _ (by omega)
      have e2 : bef (b.take k) n k = bef b n k := by
        unfold bef
        by_cases c : n ≤ k
        · rw [if_pos c, if_pos c]
          simp only [List.getD_eq_getElem?_getD, List.getElem?_take]; rw [if_pos (by omega)]
        · rw [if_neg c, if_neg c]
      have e3 := at_bd hb k
      have e4 : b[k] = b.getD k 0 := by simp [List.getD_eq_getElem?_getD, List.getElem?_eq_getElem (show k < b.length by omega)]
      unfold sF
      rw [e1, e2, e4]
      congr 1
      omega
  rw [sm, hl, key _ (Nat.le_refl _), List.take_length]
/-- Differences of sums are the bytes. -/
theorem dl_sm {b : List Int} (hb : ∀ z ∈ b, 0 ≤ z ∧ z ≤ 255) {n : Nat} (hn : 1 ≤ n) : dl (sm b n) n = b := by
  have hl : (sm b n).length = b.length := bld_len _ _
  refine list_eq (by rw [dl, bld_len, hl]) fun k hk => ?_
  rw [dl, bld_len, hl] at hk
  have e1 : (dl (sm b n) n).getD k 0 = ((sm b n).getD k 0 - bef (sm b n) n k) % 256 := bld_at _ (by rw [hl]; exact hk)
  have e2 : (sm b n).getD k 0 = (b.getD k 0 + bef (bld (sF b n) k) n k) % 256 := bld_at _ hk
  have e3 : bef (bld (sF b n) k) n k = bef (sm b n) n k := by
    unfold bef
    by_cases c : n ≤ k
    · rw [if_pos c, if_pos c, sm, bld_at _ (show k - n < k by omega), bld_at _ (show k - n < b.length by omega)]
    · rw [if_neg c, if_neg c]
  have e4 := at_bd hb k
  rw [e1, e2, e3]
  omega
end Go.Proofs.Ytbfodmckgjeoaaa.fiP
