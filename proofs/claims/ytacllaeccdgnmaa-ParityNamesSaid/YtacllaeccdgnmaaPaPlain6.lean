/- Parity by plain lists: groups of a list, their parities, and what is recovered. -/
import Derived.Test.YtacllaeccdgnmaaPaPlain5
namespace Go.Proofs.Ytacllaeccdgnmaa.paP
set_option maxRecDepth 100000
open Go.RowKit
set_option linter.unusedVariables false
/-- The group j of g elements. -/
def chunk {α : Type} (l : List α) (g j : Nat) : List α := (l.drop (j * g)).take g
def groups (n g : Nat) : Nat := (n + g - 1) / g
theorem groups_iff {n g j : Nat} (hg : 0 < g) : j < groups n g ↔ j * g < n := by
  unfold groups
  rw [← Nat.succ_le_iff, Nat.le_div_iff_mul_le hg, Nat.succ_mul]
  omega
theorem groups_le {n g : Nat} (hg : 0 < g) : groups n g ≤ n := by
  rcases Nat.lt_or_ge n (groups n g) with h | h
  · have := (groups_iff hg).1 h
    have h2 := Nat.mul_le_mul_left n hg
    omega
  · exact h
/-- What the group is, cut by numbers. -/
theorem chunk_cut {α : Type} (l : List α) {g j J k : Nat} (hJ : J = j * g) (hk : k = min g (l.length - J)) : chunk l g j = (l.drop J).take k := by
  subst hJ
  unfold chunk
  rw [hk, List.take_eq_take_iff, List.length_drop]
  omega
theorem chunk_map {α β : Type} (f : α → β) (l : List α) (g j : Nat) : (chunk l g j).map f = chunk (l.map f) g j := by
  unfold chunk; rw [List.map_take, List.map_drop]
theorem chunk_mem {α : Type} {l : List α} {g j : Nat} {x : α} (h : x ∈ chunk l g j) : x ∈ l := List.mem_of_mem_drop (List.mem_of_mem_take h)
theorem chunk_len {α : Type} (l : List α) (g j : Nat) : (chunk l g j).length = min g (l.length - j * g) := by unfold chunk; rw [List.length_take, List.length_drop]
def protP (l : List (List Int)) (g q : Nat) : List (List Int) := (List.range q).map (fun j => parP (chunk l g j))
theorem protP_step (l : List (List Int)) (g q : Nat) : protP l g (q + 1) = protP l g q ++ [parP (chunk l g q)] := by
  unfold protP; rw [List.range_succ, List.map_append]; rfl
def protE (l : List (List Int)) (g : Int) : Int := if g < 1 ∨ 16 < g then 2 else if 100 < l.length ∨ 5000 < wd l then 4 else 0
def protV (l : List (List Int)) (g : Int) : List (List Int) := if protE l g = 0 then protP l g.toNat (groups l.length g.toNat) else []

def gi (l : List (List Int)) (lost : List Bool) (g : Nat) (p : List (List Int)) (i : Nat) : Int := if lost.getD i false = true then repE (chunk l g (i / g)) ((i : Int) - ((i / g * g : Nat) : Int)) (p.getD (i / g) []) else 0
def rvi (l : List (List Int)) (lost : List Bool) (g : Nat) (p : List (List Int)) (i : Nat) : List Int := if lost.getD i false = true then repV (chunk l g (i / g)) ((i : Int) - ((i / g * g : Nat) : Int)) (p.getD (i / g) []) else l.getD i []
def fE (l : List (List Int)) (lost : List Bool) (g : Nat) (p : List (List Int)) : Nat → Int
  | 0 => 0
  | k + 1 => if fE l lost g p k = 0 then gi l lost g p k else fE l lost g p k
theorem fE_zero {l : List (List Int)} {lost : List Bool} {g : Nat} {p : List (List Int)} : ∀ {k : Nat}, (∀ i, i < k → gi l lost g p i = 0) → fE l lost g p k = 0
  | 0, _ => rfl
  | k + 1, h => by
    unfold fE
    rw [if_pos (fE_zero fun i hi => h i (by omega))]
    exact h k (by omega)
theorem fE_first {l : List (List Int)} {lost : List Bool} {g : Nat} {p : List (List Int)} {i : Nat} (h0 : ∀ j, j < i → gi l lost g p j = 0) (h1 : gi l lost g p i ≠ 0) : ∀ {k : Nat}, i < k → fE l lost g p k = gi l lost g p i
  | 0, h => by omega
  | k + 1, h => by
    unfold fE
    by_cases e : i = k
    · subst e
      rw [if_pos (fE_zero h0)]
    · have := fE_first h0 h1 (k := k) (by omega)
      rw [this, if_neg h1]
def badB (l : List (List Int)) (lost : List Bool) : Bool := (List.range l.length).any fun i => !lost.getD i false && decide (5000 < (l.getD i []).length)
theorem badB_no {l : List (List Int)} {lost : List Bool} : badB l lost = false ↔ ∀ i, i < l.length → lost.getD i false = false → (l.getD i []).length ≤ 5000 := by
  unfold badB
  rw [List.any_eq_false]
  constructor
  · intro h i hi hb
    have := h i (List.mem_range.2 hi)
    rw [hb] at this
    simpa using this
  · intro h i hi
    cases hb : lost.getD i false
    · have := h i (List.mem_range.1 hi) hb
      simpa using this
    · simp
theorem badB_yes {l : List (List Int)} {lost : List Bool} {i : Nat} (hi : i < l.length) (h1 : lost.getD i false = false) (h2 : 5000 < (l.getD i []).length) : badB l lost = true := by
  cases h : badB l lost
  · have := badB_no.1 h i hi h1; omega
  · rfl
def twoB (lost : List Bool) (g n : Nat) : Bool := (List.range n).any fun i => (List.range n).any fun j => decide (i ≠ j) && decide (i / g = j / g) && lost.getD i false && lost.getD j false
theorem twoB_yes {lost : List Bool} {g n i j : Nat} (hi : i < n) (hj : j < n) (h : i ≠ j) (hg : i / g = j / g) (h1 : lost.getD i false = true) (h2 : lost.getD j false = true) : twoB lost g n = true := by
  unfold twoB
  rw [List.any_eq_true]
  refine ⟨i, List.mem_range.2 hi, ?_⟩
  rw [List.any_eq_true]
  exact ⟨j, List.mem_range.2 hj, by rw [h1, h2, decide_eq_true h, decide_eq_true hg]; rfl⟩
theorem twoB_no {lost : List Bool} {g n : Nat} (h : ∀ i j, i < n → j < n → i / g = j / g → lost.getD i false = true → lost.getD j false = true → i = j) : twoB lost g n = false := by
  cases e : twoB lost g n
  · rfl
  · unfold twoB at e
    rw [List.any_eq_true] at e
    obtain ⟨i, hi, e⟩ := e
    rw [List.any_eq_true] at e
    obtain ⟨j, hj, e⟩ := e
    simp only [Bool.and_eq_true, decide_eq_true_eq] at e
    exact absurd (h i j (List.mem_range.1 hi) (List.mem_range.1 hj) e.1.1.2 e.1.2 e.2) e.1.1.1
theorem twoB_uniq {lost : List Bool} {g n i j : Nat} (h : twoB lost g n = false) (hi : i < n) (hj : j < n) (hg : i / g = j / g) (h1 : lost.getD i false = true) (h2 : lost.getD j false = true) : i = j := by
  rcases Classical.em (i = j) with e | e
  · exact e
  · have := twoB_yes hi hj e hg h1 h2
    rw [h] at this; cases this
def recE (l : List (List Int)) (lost : List Bool) (g : Int) (p : List (List Int)) : Int :=
  if (g < 1 ∨ 16 < g) ∨ lost.length ≠ l.length then 2 else if 100 < l.length then 4 else if badB l lost = true then 4
  else if p.length ≠ groups l.length g.toNat ∨ twoB lost g.toNat l.length = true then 40 else fE l lost g.toNat p l.length
def recV (l : List (List Int)) (lost : List Bool) (g : Int) (p : List (List Int)) : List (List Int) := if recE l lost g p = 0 then (List.range l.length).map (rvi l lost g.toNat p) else []
/-- A group's index. -/
theorem in_group {g j i : Nat} (hg : 0 < g) : i / g = j ↔ j * g ≤ i ∧ i < j * g + g := by
  rw [Nat.div_eq_iff hg]
  omega
end Go.Proofs.Ytacllaeccdgnmaa.paP
