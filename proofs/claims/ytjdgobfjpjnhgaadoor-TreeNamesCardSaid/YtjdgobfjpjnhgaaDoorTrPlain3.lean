/- A list turned round from both ends. -/
import Derived.Test.YtjdgobfjpjnhgaaDoorTrPlain2
namespace Go.Proofs.YtjdgobfjpjnhgaaDoor.trP
set_option maxRecDepth 100000
set_option linter.unusedVariables false
section
variable {α : Type} (d : α)
def sw (l : List α) (i : Nat) : List α := (List.range l.length).map fun p => if p < i ∨ l.length ≤ p + i then l.getD (l.length - 1 - p) d else l.getD p d
theorem sw_len (l : List α) (i : Nat) : (sw d l i).length = l.length := by simp [sw]
theorem sw_at (l : List α) (i p : Nat) (h : p < l.length) : (sw d l i)[p]'(by rw [sw_len]; exact h) = if p < i ∨ l.length ≤ p + i then l.getD (l.length - 1 - p) d else l.getD p d := by
  simp [sw]
theorem gd (l : List α) (p : Nat) (h : p < l.length) : l.getD p d = l[p] := by rw [List.getD_eq_getElem?_getD, List.getElem?_eq_getElem h]; rfl
theorem sw_zero (l : List α) : sw d l 0 = l := by
  apply List.ext_getElem (sw_len d l 0)
  intro p h1 h2
  rw [sw_at d l 0 p h2, if_neg (by omega), gd d l p h2]
theorem sw_end (l : List α) (i : Nat) (h : l.length ≤ 2 * i + 1) : sw d l i = l.reverse := by
  apply List.ext_getElem (by rw [sw_len, List.length_reverse])
  intro p h1 h2
  rw [List.length_reverse] at h2
  rw [sw_at d l i p h2, List.getElem_reverse]
  split
  · rw [gd d l _ (by omega)]
  · rename_i hc
    have : l.length - 1 - p = p := by omega
    rw [gd d l p h2]
    congr 1
    exact this.symm
theorem sw_get (l : List α) (i : Nat) (h : 2 * i + 1 < l.length) : (sw d l i).getD i d = l.getD i d ∧ (sw d l i).getD (l.length - 1 - i) d = l.getD (l.length - 1 - i) d := by
  constructor
  · rw [gd d _ i (by rw [sw_len]; omega), sw_at d l i i (by omega), if_neg (by omega)]
  · rw [gd d _ (l.length - 1 - i) (by rw [sw_len]; omega), sw_at d l i _ (by omega), if_neg (by omega)]
theorem sw_step (l : List α) (i : Nat) (h : 2 * i + 1 < l.length) : ((sw d l i).set i (l.getD (l.length - 1 - i) d)).set (l.length - 1 - i) (l.getD i d) = sw d l (i + 1) := by
  apply List.ext_getElem (by rw [List.length_set, List.length_set, sw_len, sw_len])
  intro p h1 h2
  rw [sw_len] at h2
  rw [sw_at d l (i + 1) p h2, List.getElem_set, List.getElem_set]
  by_cases c1 : l.length - 1 - i = p
  · rw [if_pos c1, if_pos (by omega)]
    rw [show l.length - 1 - p = i by omega]
  · rw [if_neg c1]
    by_cases c2 : i = p
    · subst c2
      rw [if_pos rfl, if_pos (by omega)]
    · rw [if_neg c2, sw_at d l i p h2]
      by_cases c3 : p < i ∨ l.length ≤ p + i
      · rw [if_pos c3, if_pos (by omega)]
      · rw [if_neg c3, if_neg (by omega)]
end
end Go.Proofs.YtjdgobfjpjnhgaaDoor.trP
