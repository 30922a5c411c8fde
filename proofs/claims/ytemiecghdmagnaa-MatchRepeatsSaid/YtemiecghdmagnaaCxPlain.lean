/- Plain facts on contexts: the last bytes, the word at their end, the numbers. -/
import Derived.Test.YtemiecghdmagnaaGA
import Derived.Test.YtemiecghdmagnaaGB
namespace Go.Proofs.Ytemiecghdmagnaa.cxP
set_option maxRecDepth 100000
open Go.Proofs.Ytemiecghdmagnaa.rgP Go.Proofs.Ytemiecghdmagnaa.hashP
theorem last_len (r : Rg) (k : Nat) : (lastL r k).length = k := by simp [lastL]
theorem last_at (r : Rg) (k i : Nat) (hi : i < k) : (lastL r k).getD i 0 = ago r ((k : Int) - i) := by
  unfold lastL
  rw [List.getD_eq_getElem?_getD, List.getElem?_map, List.getElem?_range hi]
  rfl
theorem getD_ext {a b : List Int} (hl : a.length = b.length) (h : ∀ i, i < a.length → a.getD i 0 = b.getD i 0) : a = b := by
  refine List.ext_getElem hl fun i h1 h2 => ?_
  have := h i h1
  rw [List.getD_eq_getElem?_getD, List.getD_eq_getElem?_getD, List.getElem?_eq_getElem h1, List.getElem?_eq_getElem h2] at this
  exact this
theorem last_drop (r : Rg) (k j : Nat) (h : j ≤ k) : (lastL r k).drop j = lastL r (k - j) := by
  refine getD_ext (by simp [last_len]) fun i hi => ?_
  have hi : i < k - j := by simpa [last_len] using hi
  rw [last_at r (k - j) i hi, List.getD_eq_getElem?_getD, List.getElem?_drop, ← List.getD_eq_getElem?_getD, last_at r k (j + i) (by omega)]
  congr 1
  omega
/-- With zeros in front. -/
theorem last_zeros (r : Rg) (m : Nat) (hm : m ≤ 16) (h : m = 16 ∨ r.n = m) : List.replicate (16 - m) 0 ++ lastL r m = lastL r 16 := by
  refine getD_ext (by simp [last_len]; omega) fun i hi => ?_
  have hi : i < 16 := by simp [last_len] at hi; omega
  rw [last_at r 16 i hi]
  by_cases c : i < 16 - m
  · rw [List.getD_eq_getElem?_getD, List.getElem?_append_left (by simpa using c), List.getElem?_replicate, if_pos c]
    have : r.n < ((16 : Nat) : Int) - i := by rcases h with h | h <;> omega
    rw [ago, if_pos this]
    rfl
  · rw [List.getD_eq_getElem?_getD, List.getElem?_append_right (by simp; omega), ← List.getD_eq_getElem?_getD, last_at r m _ (by simp; omega)]
    congr 1
    simp
    omega
theorem at_bd {b : List Int} (hb : ∀ z ∈ b, 0 ≤ z ∧ z ≤ 255) (k : Nat) : 0 ≤ b.getD k 0 ∧ b.getD k 0 ≤ 255 := by
  rw [List.getD_eq_getElem?_getD]
  cases h : b[k]? with
  | none => simp
  | some x => exact hb x (List.mem_of_getElem? h)
def letB (c : Int) : Bool := (decide (65 ≤ c) && decide (c ≤ 90)) || (decide (97 ≤ c) && decide (c ≤ 122))
def low (c : Int) : Int := if c ≤ 90 then c + 32 else c
theorem low_bd {c : Int} (h : 0 ≤ c ∧ c ≤ 255) : 0 ≤ low c ∧ low c ≤ 255 := by unfold low; split <;> omega
/-- Where the letters at the end of the first k begin. -/
def wf (l : List Int) : Nat → Nat
  | 0 => 0
  | k + 1 => if letB (l.getD k 0) then wf l k else k + 1
theorem wf_le (l : List Int) : ∀ k, wf l k ≤ k
  | 0 => Nat.le_refl _
  | k + 1 => by unfold wf; split; exact Nat.le_trans (wf_le l k) (Nat.le_succ k); exact Nat.le_refl _
def wordL (l : List Int) : List Int := (l.drop (wf l l.length)).map low
theorem word_len (l : List Int) : (wordL l).length = l.length - wf l l.length := by simp [wordL]
/-- The same, of at most sixteen letters. -/
def sf (l : List Int) (n : Nat) : Nat → Nat
  | 0 => 0
  | k + 1 => if n - (k + 1) < 16 ∧ letB (l.getD k 0) = true then sf l n k else k + 1
theorem sf_le (l : List Int) (n : Nat) : ∀ k, sf l n k ≤ k
  | 0 => Nat.le_refl _
  | k + 1 => by unfold sf; split; exact Nat.le_trans (sf_le l n k) (Nat.le_succ k); exact Nat.le_refl _
theorem sf_wf (l : List Int) (n : Nat) (hn : n ≤ 16) : ∀ k, sf l n k = wf l k
  | 0 => rfl
  | k + 1 => by
    unfold sf wf
    rw [sf_wf l n hn k]
    by_cases c : letB (l.getD k 0) = true
    · rw [if_pos ⟨by omega, c⟩, if_pos c]
    · rw [if_neg (fun h => c h.2), if_neg c]
def speltL (l : List Int) : List Int := (l.drop (sf l l.length l.length)).map low
theorem spelt_word {l : List Int} (h : l.length ≤ 16) : speltL l = wordL l := by unfold speltL wordL; rw [sf_wf l _ h]
theorem low_mem {l : List Int} (h : ∀ z ∈ l, 0 ≤ z ∧ z ≤ 255) (k : Nat) : ∀ z ∈ (l.drop k).map low, 0 ≤ z ∧ z ≤ 255 := by
  intro z hz
  obtain ⟨y, hy, rfl⟩ := List.mem_map.1 hz
  exact low_bd (h y (List.mem_of_mem_drop hy))
theorem word_bd {l : List Int} (h : ∀ z ∈ l, 0 ≤ z ∧ z ≤ 255) : ∀ z ∈ wordL l, 0 ≤ z ∧ z ≤ 255 := low_mem h _
theorem spelt_bd {l : List Int} (h : ∀ z ∈ l, 0 ≤ z ∧ z ≤ 255) : ∀ z ∈ speltL l, 0 ≤ z ∧ z ≤ 255 := low_mem h _
def ordL : List Int := [1, 2, 3, 4, 6]
def ordK (k : Nat) : Nat := [1, 2, 3, 4, 6].getD k 0
theorem ord_k (k : Nat) (h : k < 5) : ordL.getD k 0 = (ordK k : Int) ∧ 1 ≤ ordK k ∧ ordK k ≤ 6 := by
  rcases (show k = 0 ∨ k = 1 ∨ k = 2 ∨ k = 3 ∨ k = 4 by omega) with rfl | rfl | rfl | rfl | rfl <;> decide
/-- The bytes of a context. -/
def byK (r : Rg) (k : Nat) : List Int := if k < 5 then lastL r (ordK k) else wordL (lastL r 16)
def mk (r : Rg) (k : Nat) : Int := hSteps (if k < 8 then ((k : Int) + 1) * 2654435769 % 4294967296 else 0) (byK r k)
def mkL (r : Rg) : List Int := (List.range 6).map (mk r)
theorem mk_len (r : Rg) : (mkL r).length = 6 := by simp [mkL]
theorem mk_at (r : Rg) (k : Nat) (h : k < 6) : (mkL r).getD k 0 = mk r k := by
  unfold mkL
  rw [List.getD_eq_getElem?_getD, List.getElem?_map, List.getElem?_range h]
  rfl
/-- The first j are small ones already. -/
def mixW (ys : List Int) (j : Nat) : List Int := (ys.take j).map low ++ ys.drop j
theorem mixW_0 (ys : List Int) : mixW ys 0 = ys := by simp [mixW]
theorem mixW_len (ys : List Int) (j : Nat) : (mixW ys j).length = ys.length := by simp [mixW]; omega
theorem mixW_all (ys : List Int) (j : Nat) (h : ys.length ≤ j) : mixW ys j = ys.map low := by simp [mixW, List.take_of_length_le h, h]
theorem mixW_at (ys : List Int) (j : Nat) (h : j < ys.length) : (mixW ys j).getD j 0 = ys.getD j 0 := by
  have e : ((ys.take j).map low).length = j := by simp; omega
  rw [mixW, List.getD_eq_getElem?_getD, List.getElem?_append_right (by rw [e]; exact Nat.le_refl _), e, List.getElem?_drop, List.getD_eq_getElem?_getD]
  congr 2
  omega
theorem mixW_set (ys : List Int) (j : Nat) (h : j < ys.length) : (mixW ys j).set j (low (ys.getD j 0)) = mixW ys (j + 1) := by
  have e : ((ys.take j).map low).length = j := by simp; omega
  have hd : ys.drop j = ys.getD j 0 :: ys.drop (j + 1) := by rw [List.drop_eq_getElem_cons h, List.getD_eq_getElem?_getD, List.getElem?_eq_getElem h]; rfl
  have ht : ys.take (j + 1) = ys.take j ++ [ys.getD j 0] := by rw [List.take_succ_eq_append_getElem h, List.getD_eq_getElem?_getD, List.getElem?_eq_getElem h]; rfl
  rw [mixW, mixW, List.set_append_right _ _ (by rw [e]; exact Nat.le_refl _), e, Nat.sub_self, hd, List.set_cons_zero, ht, List.map_append, List.append_assoc]
  rfl
theorem mixW_same (ys : List Int) (j : Nat) (h : j < ys.length) (hs : low (ys.getD j 0) = ys.getD j 0) : mixW ys (j + 1) = mixW ys j := by
  rw [← mixW_set ys j h, hs, ← mixW_at ys j h]
  have h2 : j < (mixW ys j).length := by rw [mixW_len]; exact h
  rw [List.getD_eq_getElem?_getD, List.getElem?_eq_getElem h2]
  simp
end Go.Proofs.Ytemiecghdmagnaa.cxP
