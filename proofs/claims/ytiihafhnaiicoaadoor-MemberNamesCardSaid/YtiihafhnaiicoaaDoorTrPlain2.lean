/- Trees of digests by plain lists: how long a way is; the ways from the top. -/
import Derived.Test.YtiihafhnaiicoaaDoorTrPlain
namespace Go.Proofs.YtiihafhnaiicoaaDoor.trP
set_option maxRecDepth 100000
open Go.RowKit
set_option linter.unusedVariables false
theorem sides_le : ∀ (k n i : Nat), n ≤ 2 ^ k → (sidesT n i).length ≤ k
  | 0, n, i, h => by
    rw [sidesT, dif_neg (by simp at h; omega)]; simp
  | k + 1, n, i, h => by
    rw [sidesT]
    by_cases h2 : 2 ≤ n
    · rw [dif_pos h2]
      have h1 := half_lt h2
      have h3 := half_two h2
      have h4 : half n ≤ 2 ^ k := by
        unfold half at h1 ⊢
        have h5 : 2 ^ Nat.log2 (n - 1) < 2 ^ (k + 1) := Nat.lt_of_lt_of_le h1 h
        have h6 := (Nat.pow_lt_pow_iff_right (by omega : 1 < 2)).1 h5
        exact Nat.pow_le_pow_right (by omega) (by omega)
      split
      · have := sides_le k (half n) i h4
        simp; omega
      · have := sides_le k (n - half n) (i - half n) (by omega)
        simp; omega
    · rw [dif_neg h2]; simp
/-- The way from the top: one step more. -/
theorem sides_rev {n : Nat} (h : 2 ≤ n) (i : Nat) : (sidesT n i).reverse = if i < half n then false :: (sidesT (half n) i).reverse else true :: (sidesT (n - half n) (i - half n)).reverse := by
  conv => lhs; rw [sidesT]
  rw [dif_pos h]
  split <;> simp
theorem sides_one {n : Nat} (h : ¬ 2 ≤ n) (i : Nat) : sidesT n i = [] := by rw [sidesT, dif_neg h]
section
variable {α : Type} (nd : α → α → α) (z : α)
theorem proof_rev {l : List α} (h : 2 ≤ l.length) (i : Nat) : (proofT nd z l i).reverse = if i < half l.length then rootT nd z (l.drop (half l.length)) :: (proofT nd z (l.take (half l.length)) i).reverse else rootT nd z (l.take (half l.length)) :: (proofT nd z (l.drop (half l.length)) (i - half l.length)).reverse := by
  conv => lhs; rw [proofT]
  rw [dif_pos h]
  split <;> simp
theorem proof_one {l : List α} (h : ¬ 2 ≤ l.length) (i : Nat) : proofT nd z l i = [] := by rw [proofT, dif_neg h]
theorem up_take (d : α) (ss : List Bool) (l : List α) (k : Nat) (h1 : k < ss.length) (h2 : k < l.length) : upT nd d (ss.take (k + 1)) (l.take (k + 1)) = if ss[k] then nd l[k] (upT nd d (ss.take k) (l.take k)) else nd (upT nd d (ss.take k) (l.take k)) l[k] := by
  rw [List.take_add_one, List.take_add_one, List.getElem?_eq_getElem h1, List.getElem?_eq_getElem h2]
  exact upT_snoc nd d _ _ _ _ (by rw [List.length_take, List.length_take]; omega)
end
end Go.Proofs.YtiihafhnaiicoaaDoor.trP
