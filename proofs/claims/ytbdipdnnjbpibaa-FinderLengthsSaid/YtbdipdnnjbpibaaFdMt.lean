/- Matches in rings: how far back two places have the same bytes. No program. -/
import Derived.Test.YtbdipdnnjbpibaaRgPlain
namespace Go.Proofs.Ytbdipdnnjbpibaa.fdP
open Go.RowKit Go.Proofs.Ytbdipdnnjbpibaa.rgP
set_option linter.unusedVariables false

def thB (r : Rg) (n : Int) : Bool := decide (0 ≤ n) && (decide (n < r.n) && decide (r.n - n ≤ r.b.length))
/-- Are the bytes that are i before n and before the end both there, and the same? -/
def eqB (r : Rg) (n i : Int) : Bool := thB r (n - i) && (thB r (r.n - i) && decide (ago r (r.n - (n - i)) = ago r i))
/-- How many at most: the first i (from 1 on, below m) at which they differ, less one. -/
def mlen (r : Rg) (n : Int) : Nat → Nat
  | 0 => 0
  | m + 1 => if mlen r n m = m then (if eqB r n (m + 1) then m + 1 else m) else mlen r n m
def lenE (r : Rg) (n m : Int) : Int := if rgOk r then (if 0 ≤ n ∧ n ≤ r.n ∧ 0 ≤ m then 0 else 2) else 8
/-- No match is longer than 8,192 bytes. -/
def full (r : Rg) (n : Int) : Nat := mlen r n 8193
def lenV (r : Rg) (n m : Int) : Int := if lenE r n m = 0 then min (full r n : Int) m else 0

theorem mlen_le (r : Rg) (n : Int) : ∀ m, mlen r n m ≤ m
  | 0 => Nat.le_refl _
  | m + 1 => by
    have := mlen_le r n m
    rw [mlen]
    split
    · split <;> omega
    · omega
theorem mlen_all {r : Rg} {n : Int} : ∀ {m : Nat}, (∀ i : Nat, i < m → eqB r n ((i : Int) + 1) = true) → mlen r n m = m
  | 0, _ => rfl
  | m + 1, h => by
    have h1 := mlen_all (m := m) (fun i hi => h i (by omega))
    have h2 := h m (by omega)
    rw [mlen, if_pos h1, if_pos (by simpa using h2)]
theorem mlen_at {r : Rg} {n : Int} {k : Nat} (h : ∀ i : Nat, i < k → eqB r n ((i : Int) + 1) = true) (hk : eqB r n ((k : Int) + 1) = false) : ∀ m, k < m → mlen r n m = k
  | 0, h' => by omega
  | m + 1, h' => by
    rcases Nat.lt_or_ge k m with h1 | h1
    · have h2 := mlen_at h hk m h1
      rw [mlen, if_neg (by omega), h2]
    · have e : m = k := by omega
      subst e
      rw [mlen, if_pos (mlen_all h), if_neg (by rw [show ((m : Int) + 1) = ((m : Int) + 1) from rfl, hk]; decide)]
theorem mlen_eq {r : Rg} {n : Int} : ∀ (m : Nat) (i : Nat), i < mlen r n m → eqB r n ((i : Int) + 1) = true
  | 0, i, h => by simp [mlen] at h
  | m + 1, i, h => by
    rw [mlen] at h
    by_cases c : mlen r n m = m
    · rw [if_pos c] at h
      by_cases e : eqB r n (m + 1)
      · rw [if_pos e] at h
        rcases Nat.lt_or_ge i m with h1 | h1
        · exact mlen_eq m i (by omega)
        · rw [show i = m by omega]; exact e
      · rw [if_neg e] at h
        exact mlen_eq m i (by omega)
    · rw [if_neg c] at h
      exact mlen_eq m i h
theorem mlen_stop {r : Rg} {n : Int} : ∀ (m : Nat), mlen r n m < m → eqB r n ((mlen r n m : Int) + 1) = false
  | 0, h => by simp [mlen] at h
  | m + 1, h => by
    have hl := mlen_le r n m
    by_cases c : mlen r n m = m
    · rw [mlen, if_pos c] at h ⊢
      by_cases e : eqB r n (m + 1)
      · rw [if_pos e] at h; omega
      · rw [if_neg e]; simpa using e
    · rw [mlen, if_neg c]
      exact mlen_stop m (by omega)
/-- Beyond the places there is no byte. -/
theorem eqB_far {r : Rg} {n i : Int} (h1 : n ≤ r.n) (h2 : (r.b.length : Int) < i) : eqB r n i = false := by
  unfold eqB thB
  rw [decide_eq_false (p := r.n - (n - i) ≤ (r.b.length : Int)) (by omega)]
  simp
theorem full_le {r : Rg} {n : Int} (hok : rgOk r = true) (h1 : n ≤ r.n) : full r n ≤ r.b.length := by
  rcases Nat.lt_or_ge r.b.length (full r n) with h | h
  · have h3 := mlen_eq 8193 r.b.length h
    rw [eqB_far h1 (by omega)] at h3
    cases h3
  · exact h
theorem full_stop {r : Rg} {n : Int} (hok : rgOk r = true) (h1 : n ≤ r.n) : eqB r n ((full r n : Int) + 1) = false := by
  have h2 := full_le hok h1
  have h3 := sz_bd ((rgOk_iff r).1 hok).1.1
  have h4 := ((rgOk_iff r).1 hok).1.2.1
  exact mlen_stop 8193 (by unfold full at h2; omega)
theorem full_eq {r : Rg} {n : Int} {i : Nat} (h : i < full r n) : eqB r n ((i : Int) + 1) = true := mlen_eq 8193 i h
/-- What a walk finds that stops at k, or comes to m. -/
theorem full_at {r : Rg} {n : Int} {k : Nat} (hok : rgOk r = true) (h1 : n ≤ r.n) (h : ∀ i : Nat, i < k → eqB r n ((i : Int) + 1) = true) : k ≤ full r n := by
  rcases Nat.lt_or_ge (full r n) k with h2 | h2
  · have := h (full r n) h2
    rw [full_stop hok h1] at this
    cases this
  · exact h2
theorem lenE_parts {r : Rg} {n m : Int} (h : lenE r n m = 0) : rgOk r = true ∧ 0 ≤ n ∧ n ≤ r.n ∧ 0 ≤ m := by
  unfold lenE at h
  cases hok : rgOk r
  · rw [hok] at h; simp at h
  · rw [hok] at h
    simp only [if_true] at h
    by_cases c : 0 ≤ n ∧ n ≤ r.n ∧ 0 ≤ m
    · exact ⟨rfl, c⟩
    · rw [if_neg c] at h; simp at h
attribute [irreducible] full
end Go.Proofs.Ytbdipdnnjbpibaa.fdP
