/- Plain arithmetic of logarithms by digits. No program. -/
import Derived.Test.YtaehjhjbbkblbaaEncPlain
import Derived.Lib.BitFns
namespace Go.Proofs.Ytaehjhjbbkblbaa.costP
open Go.RowKit Go.Proofs.Ytaehjhjbbkblbaa.encP

/-- One digit more. -/
def lgStep (s : Int × Int) : Int × Int := if 4294967296 ≤ s.1 * s.1 / 2147483648 then (s.1 * s.1 / 2147483648 / 2, 2 * s.2 + 1) else (s.1 * s.1 / 2147483648, 2 * s.2)
def lgIt : Nat → Int × Int → Int × Int
  | 0, s => s
  | k + 1, s => lgStep (lgIt k s)
/-- The whole part of the logarithm. -/
def hN (n : Int) : Nat := Lib.bitLen n.toNat - 1
def lg0 (n : Int) : Int × Int := (n * 2147483648 / 2 ^ hN n, (hN n : Int))
def lgR (n : Int) : Int := (lgIt 16 (lg0 n)).2
def lgOk (n : Int) : Bool := decide (1 ≤ n) && decide (n ≤ 4294967296)
def lgV (n : Int) : Int := if lgOk n then lgR n else 0
def lgE (n : Int) : Int := if lgOk n then 0 else 2

theorem lgOk_iff (n : Int) : lgOk n = true ↔ 1 ≤ n ∧ n ≤ 4294967296 := by simp [lgOk]
theorem bitLen_two : ∀ (f x : Nat), x < 2 ^ f → 1 ≤ x → f ≤ 64 → 1 ≤ Lib.bitLen x ∧ 2 ^ (Lib.bitLen x - 1) ≤ x ∧ x < 2 ^ Lib.bitLen x
  | 0, x, h, h1, _ => by simp at h; omega
  | f + 1, x, h, h1, hf => by
    have hx : x < 2 ^ 64 := Nat.lt_of_lt_of_le h (Nat.pow_le_pow_right (by omega) hf)
    have e := Lib.bitLen_half x (by omega) hx
    by_cases c : x = 1
    · subst c
      have : Lib.bitLen 1 = 1 := by decide
      rw [this]; exact ⟨by omega, by omega, by omega⟩
    · obtain ⟨a, b, d⟩ := bitLen_two f (x / 2) (by rw [Nat.pow_succ] at h; omega) (by omega) (by omega)
      rw [e]
      refine ⟨by omega, ?_, ?_⟩
      · have : 1 + Lib.bitLen (x / 2) - 1 = (Lib.bitLen (x / 2) - 1) + 1 := by omega
        rw [this, Nat.pow_succ]; omega
      · rw [Nat.add_comm, Nat.pow_succ]; omega
theorem hN_spec {n : Int} (h1 : 1 ≤ n) (h2 : n ≤ 4294967296) : hN n ≤ 32 ∧ (2 : Int) ^ hN n ≤ n ∧ n < 2 ^ (hN n + 1) ∧ Lib.bitLen n.toNat = hN n + 1 := by
  obtain ⟨a, b, c⟩ := bitLen_two 33 n.toNat (by omega) (by omega) (by omega)
  unfold hN
  have e : Lib.bitLen n.toNat - 1 + 1 = Lib.bitLen n.toNat := by omega
  refine ⟨?_, ?_, ?_, e.symm⟩
  · have := Lib.bitLen_le n.toNat 33 (by omega) (by omega)
    omega
  · have : ((2 ^ (Lib.bitLen n.toNat - 1) : Nat) : Int) ≤ n := by omega
    simpa using this
  · rw [e]
    have : n < ((2 ^ Lib.bitLen n.toNat : Nat) : Int) := by omega
    simpa using this
theorem hN_eq {n : Int} {h : Nat} (h1 : 1 ≤ n) (h2 : n ≤ 4294967296) (a : (2 : Int) ^ h ≤ n) (b : n < 2 ^ (h + 1)) : hN n = h := by
  obtain ⟨_, c, d, _⟩ := hN_spec h1 h2
  have lt1 : (2 : Int) ^ h < 2 ^ (hN n + 1) := by omega
  have lt2 : (2 : Int) ^ hN n < 2 ^ (h + 1) := by omega
  have e1 : h < hN n + 1 := by
    rcases Nat.lt_or_ge h (hN n + 1) with x | x
    · exact x
    · have : (2 : Nat) ^ (hN n + 1) ≤ 2 ^ h := Nat.pow_le_pow_right (by omega) x
      have : (2 : Int) ^ (hN n + 1) ≤ 2 ^ h := by exact_mod_cast this
      omega
  have e2 : hN n < h + 1 := by
    rcases Nat.lt_or_ge (hN n) (h + 1) with x | x
    · exact x
    · have : (2 : Nat) ^ (h + 1) ≤ 2 ^ hN n := Nat.pow_le_pow_right (by omega) x
      have : (2 : Int) ^ (h + 1) ≤ 2 ^ hN n := by exact_mod_cast this
      omega
  omega
theorem sq_bd {x : Int} (h1 : 2147483648 ≤ x) (h2 : x < 4294967296) : 4611686018427387904 ≤ x * x ∧ x * x ≤ 18446744065119617025 := by
  have a : 2147483648 * 2147483648 ≤ x * x := Int.mul_le_mul h1 h1 (by omega) (by omega)
  have b : x * x ≤ 4294967295 * 4294967295 := Int.mul_le_mul (by omega) (by omega) (by omega) (by omega)
  omega
theorem lgStep_bd {s : Int × Int} {M : Int} (h1 : 2147483648 ≤ s.1) (h2 : s.1 < 4294967296) (h3 : 0 ≤ s.2) (h4 : s.2 < M) :
    2147483648 ≤ (lgStep s).1 ∧ (lgStep s).1 < 4294967296 ∧ 0 ≤ (lgStep s).2 ∧ (lgStep s).2 < 2 * M := by
  obtain ⟨a, b⟩ := sq_bd h1 h2
  unfold lgStep
  generalize s.1 * s.1 = y at *
  split
  · exact ⟨by show 2147483648 ≤ y / 2147483648 / 2; omega, by show y / 2147483648 / 2 < 4294967296; omega, by show 0 ≤ 2 * s.2 + 1; omega, by show 2 * s.2 + 1 < 2 * M; omega⟩
  · exact ⟨by show 2147483648 ≤ y / 2147483648; omega, by show y / 2147483648 < 4294967296; omega, by show 0 ≤ 2 * s.2; omega, by show 2 * s.2 < 2 * M; omega⟩
theorem lgIt_bd {s : Int × Int} {M : Int} (h1 : 2147483648 ≤ s.1) (h2 : s.1 < 4294967296) (h3 : 0 ≤ s.2) (h4 : s.2 < M) : ∀ k : Nat,
    2147483648 ≤ (lgIt k s).1 ∧ (lgIt k s).1 < 4294967296 ∧ 0 ≤ (lgIt k s).2 ∧ (lgIt k s).2 < 2 ^ k * M
  | 0 => ⟨h1, h2, h3, by simpa [lgIt] using h4⟩
  | k + 1 => by
    obtain ⟨a, b, c, d⟩ := lgIt_bd h1 h2 h3 h4 k
    have := lgStep_bd a b c d
    refine ⟨this.1, this.2.1, this.2.2.1, ?_⟩
    have e : (2 : Int) ^ (k + 1) * M = 2 * (2 ^ k * M) := by rw [Int.pow_succ, Int.mul_comm ((2 : Int) ^ k) 2, Int.mul_assoc]
    rw [e]; exact this.2.2.2
theorem lg0_bd {n : Int} (h1 : 1 ≤ n) (h2 : n ≤ 4294967296) : 2147483648 ≤ (lg0 n).1 ∧ (lg0 n).1 < 4294967296 ∧ 0 ≤ (lg0 n).2 ∧ (lg0 n).2 < 33 := by
  obtain ⟨a, b, c, _⟩ := hN_spec h1 h2
  have p : (0 : Int) < 2 ^ hN n := Int.pow_pos (by omega)
  refine ⟨?_, ?_, by show (0 : Int) ≤ hN n; omega, by show (hN n : Int) < 33; omega⟩
  · show 2147483648 ≤ n * 2147483648 / 2 ^ hN n
    exact Int.le_ediv_of_mul_le p (by rw [Int.mul_comm]; exact Int.mul_le_mul_of_nonneg_right b (by omega))
  · show n * 2147483648 / 2 ^ hN n < 4294967296
    refine Int.ediv_lt_of_lt_mul p ?_
    rw [Int.pow_succ] at c
    have e : (4294967296 : Int) * 2 ^ hN n = 2 ^ hN n * 2 * 2147483648 := by omega
    rw [e]; exact Int.mul_lt_mul_of_pos_right c (by omega)
/-- At each round of a logarithm. -/
theorem lg_bd {n : Int} (h1 : 1 ≤ n) (h2 : n ≤ 4294967296) {k : Nat} (hk : k ≤ 16) :
    2147483648 ≤ (lgIt k (lg0 n)).1 ∧ (lgIt k (lg0 n)).1 < 4294967296 ∧ 0 ≤ (lgIt k (lg0 n)).2 ∧ (lgIt k (lg0 n)).2 < 2162688 := by
  obtain ⟨a, b, c, d⟩ := lg0_bd h1 h2
  obtain ⟨e, f, g, h⟩ := lgIt_bd a b c d k
  refine ⟨e, f, g, Int.lt_of_lt_of_le h ?_⟩
  have p : ∀ k : Nat, k ≤ 16 → (2 : Int) ^ k ≤ 65536 := by decide
  have := p k hk
  omega
theorem lgV_bd (n : Int) : 0 ≤ lgV n ∧ lgV n < 2162688 := by
  unfold lgV
  split
  · rename_i h
    have := lg_bd ((lgOk_iff n).1 h).1 ((lgOk_iff n).1 h).2 (k := 16) (by omega)
    exact ⟨this.2.2.1, this.2.2.2⟩
  · omega
def cOk (p : Int) : Bool := decide (1 ≤ p) && decide (p ≤ 4095)
theorem cOk_iff (p : Int) : cOk p = true ↔ 1 ≤ p ∧ p ≤ 4095 := by unfold cOk; rw [Bool.and_eq_true, decide_eq_true_iff, decide_eq_true_iff]
def btV (p : Int) (b : Bool) : Int := if cOk p then 786432 - lgR (if b then p else 4096 - p) else 0
def btE (p : Int) : Int := if cOk p then 0 else 2
def prtV (x1 x2 p : Int) (b : Bool) : Int := if b then mid x1 x2 p - x1 + 1 else x2 - mid x1 x2 p
def ctOk (x1 x2 p : Int) : Bool := decide (x1 < x2) && cOk p
def ctV (x1 x2 p : Int) (b : Bool) : Int := if ctOk x1 x2 p then lgR (x2 - x1 + 1) - lgR (prtV x1 x2 p b) else 0
def ctE (x1 x2 p : Int) : Int := if ctOk x1 x2 p then 0 else 2
end Go.Proofs.Ytaehjhjbbkblbaa.costP
