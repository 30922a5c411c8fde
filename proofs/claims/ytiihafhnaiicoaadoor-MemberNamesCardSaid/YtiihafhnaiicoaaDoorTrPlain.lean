/- Trees of digests by plain lists, over any way of putting two together: roots, proofs, the way up. -/
import Derived.Test.YtiihafhnaiicoaaDoorBase
namespace Go.Proofs.YtiihafhnaiicoaaDoor.trP
set_option maxRecDepth 100000
open Go.RowKit
set_option linter.unusedVariables false
/-- The greatest power of 2 that is less than n (n at least 2). -/
def half (n : Nat) : Nat := 2 ^ Nat.log2 (n - 1)
theorem half_pos (n : Nat) : 0 < half n := Nat.two_pow_pos _
theorem half_lt {n : Nat} (h : 2 ≤ n) : half n < n := by
  have := Nat.log2_self_le (n := n - 1) (by omega)
  unfold half; omega
theorem half_two {n : Nat} (h : 2 ≤ n) : n ≤ 2 * half n := by
  have := Nat.lt_log2_self (n := n - 1)
  unfold half
  rw [Nat.pow_succ] at this
  omega
theorem half_uniq {n k a : Nat} (h : 2 ≤ n) (hk : k = 2 ^ a) (h1 : k < n) (h2 : n ≤ 2 * k) : k = half n := by
  subst hk
  unfold half
  have : Nat.log2 (n - 1) = a := by
    rw [Nat.log2_eq_iff (by omega)]
    rw [Nat.pow_succ]
    omega
  rw [this]
section
variable {α : Type} (nd : α → α → α) (z : α)
def rootT (l : List α) : α :=
  if h : 2 ≤ l.length then nd (rootT (l.take (half l.length))) (rootT (l.drop (half l.length)))
  else l.headD z
termination_by l.length
decreasing_by
  · have := half_lt h; rw [List.length_take]; omega
  · have := half_pos l.length; rw [List.length_drop]; omega
def proofT (l : List α) (i : Nat) : List α :=
  if h : 2 ≤ l.length then
    if i < half l.length then proofT (l.take (half l.length)) i ++ [rootT nd z (l.drop (half l.length))]
    else proofT (l.drop (half l.length)) (i - half l.length) ++ [rootT nd z (l.take (half l.length))]
  else []
termination_by l.length
decreasing_by
  · have := half_lt h; rw [List.length_take]; omega
  · have := half_pos l.length; rw [List.length_drop]; omega
/-- The way from the leaf up: which steps come from the second part. -/
def sidesT (n i : Nat) : List Bool :=
  if h : 2 ≤ n then
    if i < half n then sidesT (half n) i ++ [false] else sidesT (n - half n) (i - half n) ++ [true]
  else []
termination_by n
decreasing_by
  · exact half_lt h
  · have := half_pos n; omega
/-- Going up from a digest. -/
def upT (d : α) (ss : List Bool) (l : List α) : α := (ss.zip l).foldl (fun s p => if p.1 then nd p.2 s else nd s p.2) d
theorem upT_snoc (d : α) (ss : List Bool) (l : List α) (b : Bool) (x : α) (h : ss.length = l.length) : upT nd d (ss ++ [b]) (l ++ [x]) = if b then nd x (upT nd d ss l) else nd (upT nd d ss l) x := by
  unfold upT
  rw [List.zip_append h, List.foldl_append]
  rfl
theorem rootT_two {l : List α} (h : 2 ≤ l.length) : rootT nd z l = nd (rootT nd z (l.take (half l.length))) (rootT nd z (l.drop (half l.length))) := by
  rw [rootT, dif_pos h]
theorem rootT_one (a : α) : rootT nd z [a] = a := by rw [rootT, dif_neg (by simp)]; rfl
theorem rootT_nil : rootT nd z [] = z := by rw [rootT, dif_neg (by simp)]; rfl
theorem proof_len : ∀ (n : Nat) (l : List α) (i : Nat), l.length = n → (proofT nd z l i).length = (sidesT n i).length := by
  intro n
  induction n using Nat.strongRecOn with
  | _ n ih =>
    intro l i hl
    rw [proofT, sidesT]
    by_cases h : 2 ≤ n
    · have h1 := half_lt h
      have h2 := half_pos n
      rw [dif_pos (by omega), dif_pos h, hl]
      by_cases hi : i < half n
      · rw [if_pos hi, if_pos hi, List.length_append, List.length_append, ih (half n) h1 _ i (by rw [List.length_take]; omega)]; rfl
      · rw [if_neg hi, if_neg hi, List.length_append, List.length_append, ih (n - half n) (by omega) _ _ (by rw [List.length_drop]; omega)]; rfl
    · rw [dif_neg (by omega), dif_neg h]; rfl
/-- A proof shows its leaf: going up gives the root of the list with the leaf in its place. -/
theorem up_root : ∀ (n : Nat) (l : List α) (i : Nat) (d : α), l.length = n → i < n → upT nd d (sidesT n i) (proofT nd z l i) = rootT nd z (l.set i d) := by
  intro n
  induction n using Nat.strongRecOn with
  | _ n ih =>
    intro l i d hl hi
    have hpl := fun (m : Nat) (k : List α) (j : Nat) (hk : k.length = m) => (proof_len nd z m k j hk).symm
    rw [proofT, sidesT]
    by_cases h : 2 ≤ n
    · have h1 := half_lt h
      have h2 := half_pos n
      rw [dif_pos h, dif_pos (show 2 ≤ l.length by omega), hl, rootT_two nd z (l := l.set i d) (by rw [List.length_set]; omega), List.length_set, hl]
      by_cases hk : i < half n
      · rw [if_pos hk, if_pos hk, upT_snoc nd _ _ _ _ _ (hpl _ _ _ (by rw [List.length_take]; omega)), ih (half n) h1 _ i d (by rw [List.length_take]; omega) hk, List.take_set, List.drop_set_of_lt hk]
        rfl
      · rw [if_neg hk, if_neg hk, upT_snoc nd _ _ _ _ _ (hpl _ _ _ (by rw [List.length_drop]; omega)), ih (n - half n) (by omega) _ _ d (by rw [List.length_drop]; omega) (by omega), List.drop_set, if_neg (show ¬ i < half n from hk), List.take_set_of_le (by omega)]
        rfl
    · have hn : n = 1 := by omega
      have hi0 : i = 0 := by omega
      subst hi0
      rw [dif_neg h, dif_neg (show ¬ 2 ≤ l.length by omega)]
      match l, hl with
      | [a], _ => show d = _; rw [show ([a] : List α).set 0 d = [d] from rfl, rootT_one]
      | [], hl => simp at hl; omega
      | a :: b :: r, hl => simp at hl; omega
/-- .. and does not depend on the leaf. -/
theorem proof_set : ∀ (n : Nat) (l : List α) (i : Nat) (d : α), l.length = n → i < n → proofT nd z (l.set i d) i = proofT nd z l i := by
  intro n
  induction n using Nat.strongRecOn with
  | _ n ih =>
    intro l i d hl hi
    conv => lhs; rw [proofT]
    conv => rhs; rw [proofT]
    rw [List.length_set, hl]
    by_cases h : 2 ≤ n
    · have h1 := half_lt h
      have h2 := half_pos n
      rw [dif_pos h, dif_pos h]
      by_cases hk : i < half n
      · rw [if_pos hk, if_pos hk, List.take_set, List.drop_set_of_lt hk, ih (half n) h1 _ i d (by rw [List.length_take]; omega) hk]
      · rw [if_neg hk, if_neg hk, List.drop_set, if_neg (show ¬ i < half n from hk), List.take_set_of_le (by omega), ih (n - half n) (by omega) _ _ d (by rw [List.length_drop]; omega) (by omega)]
    · rw [dif_neg h, dif_neg h]
end
end Go.Proofs.YtiihafhnaiicoaaDoor.trP
