/- Plain functions of walks through nibbles. No program. -/
import Derived.RowKit
namespace Go.Proofs.Ytjhfamoldppclaa.nibP
open Go.RowKit

/-- The bits of a number behind its first 1. -/
def rdF : Nat → Nat → List Bool
  | 0, _ => []
  | f + 1, n => if n ≤ 1 then [] else rdF f (n / 2) ++ [n % 2 == 1]
def rd (n : Nat) : List Bool := rdF 20 n
/-- A 1 and behind it some bits. -/
def prt (l : List Bool) : Nat := l.foldl (fun n b => 2 * n + b.toNat) 1
/-- The node of a part. -/
def nd (n : Nat) : Nat := if n < 16 then n else prt ((rd n).drop 4)
def wOk (p : Int) : Bool := decide (1 ≤ p) && decide (p < 256)
def wE (p : Int) : Int := if wOk p then 0 else 8

theorem wOk_iff (p : Int) : wOk p = true ↔ 1 ≤ p ∧ p < 256 := by simp [wOk]
theorem rd_step : ∀ n, n < 512 → 2 ≤ n → rd n = rd (n / 2) ++ [n % 2 == 1] := by decide +kernel
theorem rd_one : ∀ n, n ≤ 1 → rd n = [] := by decide +kernel
theorem prt_rd : ∀ n, n < 512 → 1 ≤ n → prt (rd n) = n := by decide +kernel
theorem rd_len : ∀ n, n < 512 → (rd n).length ≤ 8 ∧ ((rd n).length < 4 ↔ n < 16) ∧ ((rd n).length = 8 ↔ 256 ≤ n) := by decide +kernel
theorem nd_bd : ∀ n, n < 256 → 1 ≤ n → 1 ≤ nd n ∧ nd n ≤ 15 := by decide +kernel
theorem prt_snoc (l : List Bool) (b : Bool) : prt (l ++ [b]) = 2 * prt l + b.toNat := by simp [prt]
theorem prt_bd (l : List Bool) : 2 ^ l.length ≤ prt l ∧ prt l < 2 ^ (l.length + 1) := by
  have gen : ∀ (l : List Bool) (n : Nat), n * 2 ^ l.length ≤ l.foldl (fun n b => 2 * n + b.toNat) n ∧ l.foldl (fun n b => 2 * n + b.toNat) n < (n + 1) * 2 ^ l.length := by
    intro l
    induction l with
    | nil => intro n; simp
    | cons b l ih =>
      intro n
      have := ih (2 * n + b.toNat)
      have hb : b.toNat ≤ 1 := by cases b <;> decide
      simp only [List.foldl_cons, List.length_cons, Nat.pow_succ]
      refine ⟨Nat.le_trans ?_ this.1, Nat.lt_of_lt_of_le this.2 ?_⟩
      · have : n * (2 ^ l.length * 2) = (2 * n) * 2 ^ l.length := by rw [Nat.mul_comm (2 ^ l.length) 2, ← Nat.mul_assoc, Nat.mul_comm n 2]
        rw [this]; exact Nat.mul_le_mul_right _ (by omega)
      · have : (n + 1) * (2 ^ l.length * 2) = (2 * n + 2) * 2 ^ l.length := by rw [Nat.mul_comm (2 ^ l.length) 2, ← Nat.mul_assoc, Nat.mul_comm (n + 1) 2, Nat.mul_add]
        rw [this]; exact Nat.mul_le_mul_right _ (by omega)
  have := gen l 1
  unfold prt
  rw [Nat.pow_succ]
  omega
theorem rd_prt_n : ∀ (n : Nat) (l : List Bool), l.length = n → n ≤ 8 → rd (prt l) = l
  | 0, l, h, _ => by rw [List.eq_nil_of_length_eq_zero h]; rfl
  | n + 1, l, h, hn => by
    rcases List.eq_nil_or_concat l with rfl | ⟨l, b, rfl⟩
    · simp at h
    have hl : l.length = n := by simpa using h
    have ih := rd_prt_n n l hl (by omega)
    have b1 := prt_bd l
    have p1 : 2 ^ l.length ≥ 1 := Nat.one_le_two_pow
    have p2 : 2 ^ (l.length + 1) ≤ 2 ^ 8 := Nat.pow_le_pow_right (by omega) (by omega)
    have hb : b.toNat ≤ 1 := by cases b <;> decide
    have e8 : 2 ^ 8 = 256 := rfl
    rw [List.concat_eq_append, prt_snoc, rd_step _ (by omega) (by omega)]
    have e1 : (2 * prt l + b.toNat) / 2 = prt l := by omega
    rw [e1, ih]
    congr 1
    cases b <;> simp <;> omega
theorem rd_prt (l : List Bool) (h : l.length ≤ 8) : rd (prt l) = l := rd_prt_n _ l rfl h
end Go.Proofs.Ytjhfamoldppclaa.nibP
