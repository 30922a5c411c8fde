/- Plain arithmetic on reciprocals: quotients by a reciprocal, and steps. No program. -/
import Derived.RowKit
namespace Go.Proofs.Ytipbafcjmeibpaa.recipP
open Go.RowKit

/-- The reciprocal. -/
def rc (n : Int) : Int := 65536 / n
def okN (n : Int) : Bool := decide (1 ≤ n) && decide (n ≤ 1024)
def ofV (n : Int) : Int := if okN n then rc n else 0
def ofE (n : Int) : Int := if okN n then 0 else 2
def quo (x n : Int) : Int := x * rc n / 65536
def divV (x n : Int) : Int := if okN n then quo x n else 0
def prob (p : Int) : Bool := decide (0 ≤ p) && decide (p < 65536)
def stepOk (p t n : Int) : Bool := okN n && prob p && prob t
def stepV (p t n : Int) : Int := if stepOk p t n then p + quo (t - p) n else 0
def stepE (p t n : Int) : Int := if stepOk p t n then 0 else 2

theorem okN_iff (n : Int) : okN n = true ↔ 1 ≤ n ∧ n ≤ 1024 := by simp [okN]
theorem prob_iff (n : Int) : prob n = true ↔ 0 ≤ n ∧ n < 65536 := by simp [prob]
theorem ofE_bd (n : Int) : 0 ≤ ofE n ∧ ofE n ≤ 2 := by unfold ofE; split <;> omega
theorem stepE_bd (p t n : Int) : 0 ≤ stepE p t n ∧ stepE p t n ≤ 2 := by unfold stepE; split <;> omega
theorem ofE_ok {n : Int} (h : okN n = true) : ofE n = 0 := by simp [ofE, h]
theorem ofE_no {n : Int} (h : okN n = false) : ofE n = 2 := by simp [ofE, h]

theorem rc_bd {n : Int} (h1 : 1 ≤ n) (h2 : n ≤ 1024) : 64 ≤ rc n ∧ rc n ≤ 65536 := by
  unfold rc
  constructor
  · exact Int.le_ediv_of_mul_le (by omega) (by omega)
  · exact Int.ediv_le_of_le_mul (by omega) (by omega)

theorem mul_bd {x r : Int} (h3 : -2147483648 ≤ x) (h4 : x ≤ 2147483647) (h1 : 64 ≤ r) (h2 : r ≤ 65536) :
    -2147483648 * 65536 ≤ x * r ∧ x * r ≤ 2147483647 * 65536 := by
  constructor
  · by_cases h : 0 ≤ x
    · have := Int.mul_nonneg h (by omega : 0 ≤ r); omega
    · have h5 : x * 65536 ≤ x * r := Int.mul_le_mul_of_nonpos_left (by omega) h2
      omega
  · by_cases h : 0 ≤ x
    · have h5 : x * r ≤ x * 65536 := Int.mul_le_mul_of_nonneg_left h2 h
      omega
    · have h5 : x * r ≤ x * 64 := Int.mul_le_mul_of_nonpos_left (by omega) h1
      omega

theorem quo_bd {x n : Int} (h3 : -2147483648 ≤ x) (h4 : x ≤ 2147483647) (h1 : 1 ≤ n) (h2 : n ≤ 1024) :
    -2147483648 ≤ quo x n ∧ quo x n ≤ 2147483647 := by
  have := rc_bd h1 h2
  have := mul_bd h3 h4 this.1 this.2
  unfold quo
  omega

theorem ofV_bd (n : Int) : 0 ≤ ofV n ∧ ofV n ≤ 65536 := by
  unfold ofV; split
  · rename_i h; have := rc_bd ((okN_iff n).1 h).1 ((okN_iff n).1 h).2; omega
  · omega

/-- What the reciprocal's quotient comes to in the words of a walk. -/
theorem quo_wrap {x n : Int} (h3 : -2147483648 ≤ x) (h4 : x ≤ 2147483647) (h1 : 1 ≤ n) (h2 : n ≤ 1024) :
    wrap32 (wrap64 (x * wrap64 (rc n)) / 65536) = quo x n := by
  have b := rc_bd h1 h2
  have m := mul_bd h3 h4 b.1 b.2
  have q := quo_bd h3 h4 h1 h2
  have e1 : wrap64 (rc n) = rc n := by unfold wrap64; omega
  rw [e1]
  have e2 : wrap64 (x * rc n) = x * rc n := by unfold wrap64; omega
  rw [e2]
  unfold quo at *
  unfold wrap32; omega

/-- Rounding down by a division that rounds towards nothing. -/
theorem floor_eq (y : Int) : (if y.tdiv 65536 * 65536 > y then y.tdiv 65536 - 1 else y.tdiv 65536) = y / 65536 := by
  have h := Int.tdiv_eq_ediv (a := y) (b := 65536)
  have hs : Int.sign 65536 = 1 := rfl
  rw [hs] at h
  split <;> (rw [h] at *; split at * <;> omega)

theorem tdiv_bd (y : Int) : (0 ≤ y → 0 ≤ y.tdiv 65536 ∧ y.tdiv 65536 ≤ y) ∧ (y < 0 → y ≤ y.tdiv 65536 ∧ y.tdiv 65536 ≤ 0) ∧ y - 65536 < y.tdiv 65536 * 65536 ∧ y.tdiv 65536 * 65536 < y + 65536 := by
  have h := Int.tdiv_eq_ediv (a := y) (b := 65536)
  have hs : Int.sign 65536 = 1 := rfl
  rw [hs] at h
  rw [h]
  split <;> omega

/-- A quotient of a number is between 0 and the number. -/
theorem quo_between {x n : Int} (h1 : 1 ≤ n) (h2 : n ≤ 1024) : (0 ≤ x → 0 ≤ quo x n ∧ quo x n ≤ x) ∧ (x < 0 → x ≤ quo x n ∧ quo x n < 0) := by
  have b := rc_bd h1 h2
  unfold quo
  constructor
  · intro h
    have h5 : x * rc n ≤ x * 65536 := Int.mul_le_mul_of_nonneg_left b.2 h
    have h6 : 0 ≤ x * rc n := Int.mul_nonneg h (by omega)
    omega
  · intro h
    have h5 : x * 65536 ≤ x * rc n := Int.mul_le_mul_of_nonpos_left (by omega) b.2
    have h6 : x * rc n ≤ x * 64 := Int.mul_le_mul_of_nonpos_left (by omega) b.1
    omega

theorem step_bd (p t n : Int) (a1 : 0 ≤ p) (a2 : p < 65536) (a3 : 0 ≤ t) (a4 : t < 65536) (h1 : 1 ≤ n) (h2 : n ≤ 1024) :
    -65536 ≤ quo (t - p) n ∧ quo (t - p) n ≤ 65536 := by
  have h := quo_between (x := t - p) h1 h2
  by_cases c : 0 ≤ t - p
  · have := h.1 c; omega
  · have := h.2 (by omega); omega

theorem rc_spec {n : Int} (h1 : 1 ≤ n) : rc n * n ≤ 65536 ∧ 65536 < (rc n + 1) * n := by
  unfold rc
  have a := Int.mul_ediv_self_le (x := 65536) (k := n) (by omega)
  have b := Int.lt_mul_ediv_self_add (x := 65536) (k := n) (by omega)
  have c : n * (65536 / n) = 65536 / n * n := Int.mul_comm _ _
  have d : (65536 / n + 1) * n = 65536 / n * n + n := by rw [Int.add_mul, Int.one_mul]
  omega

theorem rc_anti {n m : Int} (h1 : 1 ≤ n) (h : n ≤ m) : rc m ≤ rc n := by
  have a := rc_spec h1
  have b := rc_spec (n := m) (by omega)
  have p : 0 ≤ rc m := by unfold rc; exact Int.ediv_nonneg (by omega) (by omega)
  by_cases c : rc m ≤ rc n
  · exact c
  · have e : (rc n + 1) * n ≤ rc m * m := Int.mul_le_mul (by omega) h (by omega) p
    omega

theorem quo_mono {x y n : Int} (h1 : 1 ≤ n) (h2 : n ≤ 1024) (h : x ≤ y) : quo x n ≤ quo y n := by
  have b := rc_bd h1 h2
  have h5 : x * rc n ≤ y * rc n := Int.mul_le_mul_of_nonneg_right h (by omega)
  unfold quo; omega

theorem quo_next {x n : Int} (h1 : 1 ≤ n) (h2 : n ≤ 1024) : quo (x + 1) n ≤ quo x n + 1 := by
  have b := rc_bd h1 h2
  have h5 : (x + 1) * rc n = x * rc n + rc n := by rw [Int.add_mul, Int.one_mul]
  unfold quo; rw [h5]; omega

/-- A number divided by another one, rounded down. -/
theorem down_eq (x n : Int) (h1 : 1 ≤ n) : (if x < 0 ∧ x.tmod n ≠ 0 then x.tdiv n - 1 else x.tdiv n) = x / n := by
  have h := Int.tdiv_eq_ediv (a := x) (b := n)
  have hs : Int.sign n = 1 := Int.sign_eq_one_of_pos (by omega)
  rw [hs] at h
  have hm : x.tmod n = 0 ↔ n ∣ x := (Int.dvd_iff_tmod_eq_zero).symm
  by_cases c : x < 0 ∧ x.tmod n ≠ 0
  · rw [if_pos c, h, if_neg (by rw [← hm]; rintro (h' | h'); omega; exact c.2 h')]; omega
  · rw [if_neg c, h, if_pos]
    · omega
    · by_cases p : 0 ≤ x
      · exact .inl p
      · right; rw [← hm]; by_cases q : x.tmod n = 0
        · exact q
        · exact absurd ⟨by omega, q⟩ c

theorem near_pos {x n : Int} (h1 : 1 ≤ n) (h : 0 ≤ x) (h3 : x ≤ 65535) : quo x n ≤ x / n ∧ x / n - 1 ≤ quo x n := by
  have r := rc_spec h1
  have d1 := Int.ediv_mul_le x (b := n) (by omega)
  have d2 := Int.lt_ediv_add_one_mul_self x (b := n) (by omega)
  have e : (x * rc n) * n = x * (rc n * n) := Int.mul_assoc _ _ _
  have e1 : x * (rc n * n) ≤ x * 65536 := Int.mul_le_mul_of_nonneg_left r.1 h
  have r2 : 65536 - n + 1 ≤ rc n * n := by rw [Int.add_mul, Int.one_mul] at r; omega
  have e2 : x * (65536 - n + 1) ≤ x * (rc n * n) := Int.mul_le_mul_of_nonneg_left r2 h
  have q1 : quo x n * 65536 ≤ x * rc n := by unfold quo; omega
  have q2 : x * rc n < (quo x n + 1) * 65536 := by unfold quo; omega
  have q1' : quo x n * 65536 * n ≤ x * rc n * n := Int.mul_le_mul_of_nonneg_right q1 (by omega)
  have q2' : x * rc n * n < (quo x n + 1) * 65536 * n := Int.mul_lt_mul_of_pos_right q2 (by omega)
  have f1 : quo x n * 65536 * n = quo x n * n * 65536 := by rw [Int.mul_assoc, Int.mul_comm 65536 n, ← Int.mul_assoc]
  have f2 : (quo x n + 1) * 65536 * n = (quo x n * n + n) * 65536 := by rw [Int.mul_assoc, Int.mul_comm 65536 n, ← Int.mul_assoc, Int.add_mul, Int.one_mul]
  have f3 : x * (65536 - n + 1) = x * 65536 - x * n + x := by rw [Int.mul_add, Int.mul_sub, Int.mul_one]
  rw [Int.add_mul, Int.one_mul] at d2
  generalize quo x n = q at *
  generalize x / n = d at *
  have xn : x * n ≤ 65535 * n := Int.mul_le_mul_of_nonneg_right h3 (by omega)
  constructor
  · by_cases c : q ≤ d
    · exact c
    · have g : (d + 1) * n ≤ q * n := Int.mul_le_mul_of_nonneg_right (by omega) (by omega)
      rw [Int.add_mul, Int.one_mul] at g
      omega
  · by_cases c : d - 1 ≤ q
    · exact c
    · have g : (q + 2) * n ≤ d * n := Int.mul_le_mul_of_nonneg_right (by omega) (by omega)
      rw [Int.add_mul] at g
      omega

theorem near_neg {x n : Int} (h1 : 1 ≤ n) (h : x < 0) (h3 : -65535 ≤ x) : x / n ≤ quo x n ∧ quo x n ≤ x / n + 1 := by
  have r := rc_spec h1
  have d1 := Int.ediv_mul_le x (b := n) (by omega)
  have d2 := Int.lt_ediv_add_one_mul_self x (b := n) (by omega)
  have e : (x * rc n) * n = x * (rc n * n) := Int.mul_assoc _ _ _
  have e1 : x * 65536 ≤ x * (rc n * n) := Int.mul_le_mul_of_nonpos_left (by omega) r.1
  have r2 : 65536 - n + 1 ≤ rc n * n := by rw [Int.add_mul, Int.one_mul] at r; omega
  have e2 : x * (rc n * n) ≤ x * (65536 - n + 1) := Int.mul_le_mul_of_nonpos_left (by omega) r2
  have q1 : quo x n * 65536 ≤ x * rc n := by unfold quo; omega
  have q2 : x * rc n < (quo x n + 1) * 65536 := by unfold quo; omega
  have q1' : quo x n * 65536 * n ≤ x * rc n * n := Int.mul_le_mul_of_nonneg_right q1 (by omega)
  have q2' : x * rc n * n < (quo x n + 1) * 65536 * n := Int.mul_lt_mul_of_pos_right q2 (by omega)
  have f1 : quo x n * 65536 * n = quo x n * n * 65536 := by rw [Int.mul_assoc, Int.mul_comm 65536 n, ← Int.mul_assoc]
  have f2 : (quo x n + 1) * 65536 * n = (quo x n * n + n) * 65536 := by rw [Int.mul_assoc, Int.mul_comm 65536 n, ← Int.mul_assoc, Int.add_mul, Int.one_mul]
  have f3 : x * (65536 - n + 1) = x * 65536 - x * n + x := by rw [Int.mul_add, Int.mul_sub, Int.mul_one]
  rw [Int.add_mul, Int.one_mul] at d2
  generalize quo x n = q at *
  generalize x / n = d at *
  have xn : -65535 * n ≤ x * n := Int.mul_le_mul_of_nonneg_right h3 (by omega)
  constructor
  · by_cases c : d ≤ q
    · exact c
    · have g : (q + 1) * n ≤ d * n := Int.mul_le_mul_of_nonneg_right (by omega) (by omega)
      rw [Int.add_mul, Int.one_mul] at g
      omega
  · by_cases c : q ≤ d + 1
    · exact c
    · have g : (d + 2) * n ≤ q * n := Int.mul_le_mul_of_nonneg_right (by omega) (by omega)
      rw [Int.add_mul] at g
      omega

theorem ediv_bd {x n : Int} (h1 : 1 ≤ n) : (0 ≤ x → 0 ≤ x / n ∧ x / n ≤ x) ∧ (x < 0 → x ≤ x / n ∧ x / n < 0) := by
  have d1 := Int.ediv_mul_le x (b := n) (by omega)
  have d2 := Int.lt_ediv_add_one_mul_self x (b := n) (by omega)
  constructor
  · intro h
    have a : 0 ≤ x / n := Int.ediv_nonneg h (by omega)
    have b : x / n * 1 ≤ x / n * n := Int.mul_le_mul_of_nonneg_left h1 a
    omega
  · intro h
    have a : x / n < 0 := Int.ediv_neg_of_neg_of_pos h (by omega)
    have b : (x / n + 1) * n ≤ (x / n + 1) * 1 := Int.mul_le_mul_of_nonpos_left (by omega) h1
    omega
/-- A power of two has an exact reciprocal. -/
theorem quo_pow (x : Int) (k : Nat) (h : k ≤ 10) : quo x (2 ^ k) = x / 2 ^ k := by
  unfold quo rc
  have : k = 0 ∨ k = 1 ∨ k = 2 ∨ k = 3 ∨ k = 4 ∨ k = 5 ∨ k = 6 ∨ k = 7 ∨ k = 8 ∨ k = 9 ∨ k = 10 := by omega
  rcases this with rfl | rfl | rfl | rfl | rfl | rfl | rfl | rfl | rfl | rfl | rfl <;> simp <;> omega
end Go.Proofs.Ytipbafcjmeibpaa.recipP
