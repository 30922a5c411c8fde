/- How near the logarithm by digits is to the true one. No program. -/
import Derived.Test.YtaehjhjbbkblbaaCostPlain
namespace Go.Proofs.Ytaehjhjbbkblbaa.costP
open Go.RowKit Go.Proofs.Ytaehjhjbbkblbaa.encP

theorem bern (D : Nat) (hD : 1 ≤ D) : ∀ k : Nat, k ≤ D → D ^ k * (D - k) ≤ (D - 1) ^ k * D
  | 0, _ => by simp
  | k + 1, h => by
    have ih := bern D hD k (by omega)
    obtain ⟨d, hd⟩ : ∃ d, D = d + 1 + k := ⟨D - 1 - k, by omega⟩
    have e1 : D - (k + 1) = d := by omega
    have e2 : D - k = d + 1 := by omega
    have e3 : D - 1 = d + k := by omega
    rw [e1, Nat.pow_succ, Nat.pow_succ]
    rw [e2] at ih
    have h3 : D * d ≤ (d + 1) * (D - 1) := by
      rw [e3, hd]
      have : (d + 1 + k) * d = d * d + d + k * d := by rw [Nat.add_mul, Nat.add_mul, Nat.one_mul]
      have : (d + 1) * (d + k) = d * d + d * k + d + k := by rw [Nat.add_mul, Nat.mul_add, Nat.one_mul]; omega
      have : k * d = d * k := Nat.mul_comm _ _
      omega
    calc D ^ k * D * d = D ^ k * (D * d) := Nat.mul_assoc _ _ _
      _ ≤ D ^ k * ((d + 1) * (D - 1)) := Nat.mul_le_mul_left _ h3
      _ = D ^ k * (d + 1) * (D - 1) := (Nat.mul_assoc _ _ _).symm
      _ ≤ (D - 1) ^ k * D * (D - 1) := Nat.mul_le_mul_right _ ih
      _ = (D - 1) ^ k * (D - 1) * D := by rw [Nat.mul_assoc, Nat.mul_comm D, ← Nat.mul_assoc]
theorem bern2 {D k : Nat} (hD : 1 ≤ D) (h : 2 * k ≤ D) : D ^ k ≤ 2 * (D - 1) ^ k := by
  have b := bern D hD k (by omega)
  have h2 : D ^ k * D ≤ 2 * (D - 1) ^ k * D := by
    have : D ^ k * D ≤ D ^ k * (2 * (D - k)) := Nat.mul_le_mul_left _ (by omega)
    have e : D ^ k * (2 * (D - k)) = 2 * (D ^ k * (D - k)) := by rw [← Nat.mul_assoc, Nat.mul_comm (D ^ k) 2, Nat.mul_assoc]
    have f : 2 * (D - 1) ^ k * D = 2 * ((D - 1) ^ k * D) := Nat.mul_assoc _ _ _
    omega
  exact Nat.le_of_mul_le_mul_right h2 (by omega)
/-- The state of a logarithm in natural numbers. -/
def nSt (s : Nat × Nat) : Nat × Nat := if 4294967296 ≤ s.1 * s.1 / 2147483648 then (s.1 * s.1 / 2147483648 / 2, 2 * s.2 + 1) else (s.1 * s.1 / 2147483648, 2 * s.2)
def nIt : Nat → Nat × Nat → Nat × Nat
  | 0, s => s
  | k + 1, s => nSt (nIt k s)
theorem arr1 (z P C y : Nat) (q : z * (2 * C) ≤ y) : z * (P * 2) * C ≤ y * P := by
  have e : z * (P * 2) * C = z * (2 * C) * P := by ac_rfl
  rw [e]; exact Nat.mul_le_mul_right _ q
theorem arr2 (z P C E y : Nat) (q : y * E ≤ z * (2 * C) * C) : y * P * E ≤ z * (P * 2) * C * C := by
  have e : z * (P * 2) * C * C = z * (2 * C) * C * P := by ac_rfl
  have f : y * P * E = y * E * P := by ac_rfl
  rw [e, f]; exact Nat.mul_le_mul_right _ q
theorem arr3 (z P C y : Nat) (q : z * C ≤ y) : z * P * C ≤ y * P := by
  have e : z * P * C = z * C * P := by ac_rfl
  rw [e]; exact Nat.mul_le_mul_right _ q
theorem arr4 (z P C E y : Nat) (q : y * E ≤ z * C * C) : y * P * E ≤ z * P * C * C := by
  have e : z * P * C * C = z * C * C * P := by ac_rfl
  have f : y * P * E = y * E * P := by ac_rfl
  rw [e, f]; exact Nat.mul_le_mul_right _ q
theorem q1 {y K : Nat} : y / K * K ≤ y := Nat.div_mul_le_self y K
theorem q2 {y K C D : Nat} (hK : 0 < K) (hD : C = D + 1) (hz : D ≤ y / K) : y * D ≤ y / K * K * C := by
  have h := Nat.lt_mul_div_succ y hK
  generalize y / K = z at *
  have h1 : y * D ≤ K * (z + 1) * D := Nat.mul_le_mul_right _ (Nat.le_of_lt h)
  have h2 : (z + 1) * D ≤ z * C := by rw [hD, Nat.add_mul, Nat.mul_add, Nat.one_mul, Nat.mul_one]; omega
  have h3 : K * (z + 1) * D = K * ((z + 1) * D) := Nat.mul_assoc _ _ _
  have h4 : z * K * C = K * (z * C) := by ac_rfl
  rw [h4]
  rw [h3] at h1
  exact Nat.le_trans h1 (Nat.mul_le_mul_left _ h2)
theorem nSt_ok (x l : Nat) (h1 : 2147483648 ≤ x) (h2 : x < 4294967296) :
    2147483648 ≤ (nSt (x, l)).1 ∧ (nSt (x, l)).1 < 4294967296 ∧
    (nSt (x, l)).1 * 2 ^ (nSt (x, l)).2 * 2147483648 ≤ (x * 2 ^ l) * (x * 2 ^ l) ∧ (x * 2 ^ l) * (x * 2 ^ l) * 2147483647 ≤ (nSt (x, l)).1 * 2 ^ (nSt (x, l)).2 * 2147483648 * 2147483648 := by
  have a : 2147483648 * 2147483648 ≤ x * x := Nat.mul_le_mul h1 h1
  have b : x * x ≤ 4294967295 * 4294967295 := Nat.mul_le_mul (by omega) (by omega)
  have e : (x * 2 ^ l) * (x * 2 ^ l) = x * x * 2 ^ (2 * l) := by
    rw [Nat.mul_mul_mul_comm, ← Nat.pow_add, Nat.two_mul]
  rw [e]
  unfold nSt
  simp only
  generalize x * x = y at *
  generalize hP : 2 ^ (2 * l) = P at *
  split
  · rename_i c
    have e2 : 2 ^ (2 * l + 1) = P * 2 := by rw [Nat.pow_succ, hP]
    have zz : y / 2147483648 / 2 = y / 4294967296 := Nat.div_div_eq_div_mul y 2147483648 2
    refine ⟨by show 2147483648 ≤ y / 2147483648 / 2; omega, by show y / 2147483648 / 2 < 4294967296; omega, ?_, ?_⟩
    · show y / 2147483648 / 2 * 2 ^ (2 * l + 1) * 2147483648 ≤ y * P
      rw [e2]
      have q : y / 2147483648 / 2 * 4294967296 ≤ y := by rw [zz]; exact q1
      exact arr1 (y / 2147483648 / 2) P 2147483648 y q
    · show y * P * 2147483647 ≤ y / 2147483648 / 2 * 2 ^ (2 * l + 1) * 2147483648 * 2147483648
      rw [e2]
      have q : y * 2147483647 ≤ y / 2147483648 / 2 * 4294967296 * 2147483648 := by rw [zz]; exact q2 (by decide) (by decide) (by rw [← zz]; omega)
      exact arr2 (y / 2147483648 / 2) P 2147483648 2147483647 y q
  · rename_i c
    refine ⟨by show 2147483648 ≤ y / 2147483648; omega, by show y / 2147483648 < 4294967296; omega, ?_, ?_⟩
    · show y / 2147483648 * 2 ^ (2 * l) * 2147483648 ≤ y * P
      rw [hP]
      have q : y / 2147483648 * 2147483648 ≤ y := q1
      exact arr3 (y / 2147483648) P 2147483648 y q
    · show y * P * 2147483647 ≤ y / 2147483648 * 2 ^ (2 * l) * 2147483648 * 2147483648
      rw [hP]
      have q : y * 2147483647 ≤ y / 2147483648 * 2147483648 * 2147483648 := q2 (by decide) (by decide) (by omega)
      exact arr4 (y / 2147483648) P 2147483648 2147483647 y q
/-- What holds of a state that stands for n to the power p. -/
structure Near (n p C D : Nat) (s : Nat × Nat) : Prop where
  a : C ≤ s.1
  b : s.1 < 2 * C
  u : s.1 * 2 ^ s.2 ≤ n ^ p * C
  l : n ^ p * C * D ^ (p - 1) ≤ s.1 * 2 ^ s.2 * C ^ (p - 1)
theorem near_step {n p C D x' X : Nat} {t : Nat} (hp : 1 ≤ p) (hC : 1 ≤ C) (u : X ≤ n ^ p * C) (l : n ^ p * C * D ^ (p - 1) ≤ X * C ^ (p - 1)) (q1 : x' * 2 ^ t * C ≤ X * X) (q2 : X * X * D ≤ x' * 2 ^ t * C * C) :
    x' * 2 ^ t ≤ n ^ (2 * p) * C ∧ n ^ (2 * p) * C * D ^ (2 * p - 1) ≤ x' * 2 ^ t * C ^ (2 * p - 1) := by
  have e : n ^ (2 * p) = n ^ p * n ^ p := by rw [Nat.two_mul, Nat.pow_add]
  rw [e]
  generalize x' * 2 ^ t = Y at *
  generalize n ^ p = N at *
  obtain ⟨r, rfl⟩ : ∃ r, p = r + 1 := ⟨p - 1, by omega⟩
  have e1 : r + 1 - 1 = r := by omega
  have e2 : 2 * (r + 1) - 1 = r + r + 1 := by omega
  rw [e1] at l
  rw [e2]
  constructor
  · have h := Nat.le_trans q1 (Nat.mul_le_mul u u)
    have f : N * C * (N * C) = N * N * C * C := by ac_rfl
    rw [f] at h
    exact Nat.le_of_mul_le_mul_right h (by omega)
  · have h := Nat.mul_le_mul l l
    have f1 : N * C * D ^ r * (N * C * D ^ r) = N * N * C * (D ^ r * D ^ r) * C := by ac_rfl
    have f2 : X * C ^ r * (X * C ^ r) = X * X * (C ^ r * C ^ r) := by ac_rfl
    rw [f1, f2] at h
    have h2 := Nat.mul_le_mul_right D h
    have h3 : X * X * (C ^ r * C ^ r) * D ≤ Y * C * C * (C ^ r * C ^ r) := by
      have f3 : X * X * (C ^ r * C ^ r) * D = X * X * D * (C ^ r * C ^ r) := by ac_rfl
      rw [f3]; exact Nat.mul_le_mul_right _ q2
    have h4 := Nat.le_trans h2 h3
    have f5 : N * N * C * (D ^ r * D ^ r) * C * D = N * N * C * D ^ (r + r + 1) * C := by
      rw [Nat.pow_succ, Nat.pow_add]; ac_rfl
    have f6 : Y * C * C * (C ^ r * C ^ r) = Y * C ^ (r + r + 1) * C := by
      rw [Nat.pow_succ, Nat.pow_add]; ac_rfl
    rw [f5, f6] at h4
    exact Nat.le_of_mul_le_mul_right h4 (by omega)
theorem near_it (n : Nat) (s : Nat × Nat) (h : Near n 1 2147483648 2147483647 s) : ∀ k : Nat, Near n (2 ^ k) 2147483648 2147483647 (nIt k s)
  | 0 => h
  | k + 1 => by
    have ih := near_it n s h k
    obtain ⟨a, b, u, l⟩ := ih
    show Near n (2 ^ (k + 1)) 2147483648 2147483647 (nSt (nIt k s))
    have e : 2 ^ (k + 1) = 2 * 2 ^ k := by rw [Nat.pow_succ, Nat.mul_comm]
    rw [e]
    generalize nIt k s = q at *
    obtain ⟨x, t⟩ := q
    obtain ⟨c1, c2, c3, c4⟩ := nSt_ok x t a b
    have st := near_step (n := n) (p := 2 ^ k) (D := 2147483647) Nat.one_le_two_pow (by omega : 1 ≤ 2147483648) u l c3 c4
    exact ⟨c1, c2, st.1, st.2⟩
theorem near_pow {n p C D : Nat} {s : Nat × Nat} (hC : 1 ≤ C) (hD : D = C - 1) (hk : 2 * (p - 1) ≤ C) (hD1 : 1 ≤ D) (h : Near n p C D s) : 2 ^ s.2 ≤ n ^ p ∧ n ^ p < 2 ^ (s.2 + 2) := by
  obtain ⟨a, b, u, l⟩ := h
  constructor
  · have h1 : 2 ^ s.2 * C ≤ n ^ p * C := by
      refine Nat.le_trans ?_ u
      rw [Nat.mul_comm]; exact Nat.mul_le_mul_right _ a
    exact Nat.le_of_mul_le_mul_right h1 (by omega)
  · have bn := bern2 (D := C) (k := p - 1) hC hk
    rw [← hD] at bn
    generalize hdd : D ^ (p - 1) = d at *
    generalize C ^ (p - 1) = c at *
    have hc : 0 < d := by rw [← hdd]; exact Nat.pow_pos (by omega)
    have h1 : n ^ p * C * d ≤ s.1 * 2 ^ s.2 * (2 * d) := Nat.le_trans l (Nat.mul_le_mul_left _ bn)
    have h2 : s.1 * 2 ^ s.2 * (2 * d) < 2 * C * 2 ^ s.2 * (2 * d) :=
      Nat.mul_lt_mul_of_pos_right (Nat.mul_lt_mul_of_pos_right b (Nat.two_pow_pos _)) (by omega)
    have h3 := Nat.lt_of_le_of_lt h1 h2
    have f1 : 2 * C * 2 ^ s.2 * (2 * d) = 2 ^ (s.2 + 2) * (C * d) := by rw [Nat.pow_add, show 2 ^ 2 = 2 * 2 from rfl]; ac_rfl
    have f2 : n ^ p * C * d = n ^ p * (C * d) := Nat.mul_assoc _ _ _
    rw [f1, f2] at h3
    exact Nat.lt_of_mul_lt_mul_right h3
/-- The two kinds of states. -/
theorem nIt_lg (s : Nat × Nat) : ∀ k : Nat, lgIt k ((s.1 : Int), (s.2 : Int)) = (((nIt k s).1 : Int), ((nIt k s).2 : Int))
  | 0 => rfl
  | k + 1 => by
    show lgStep (lgIt k _) = _
    rw [nIt_lg s k]
    show _ = (((nSt (nIt k s)).1 : Int), ((nSt (nIt k s)).2 : Int))
    unfold lgStep nSt
    simp only
    have e : (((nIt k s).1 : Int) * ((nIt k s).1 : Int)) = (((nIt k s).1 * (nIt k s).1 : Nat) : Int) := by rw [Int.natCast_mul]
    rw [e]
    generalize (nIt k s).1 * (nIt k s).1 = y
    by_cases c : 4294967296 ≤ y / 2147483648
    · rw [if_pos c, if_pos (by omega)]
      exact Prod.ext (by show ((y : Int) / 2147483648 / 2) = ((y / 2147483648 / 2 : Nat) : Int); omega) (by show 2 * ((nIt k s).2 : Int) + 1 = ((2 * (nIt k s).2 + 1 : Nat) : Int); omega)
    · rw [if_neg c, if_neg (by omega)]
      exact Prod.ext (by show ((y : Int) / 2147483648) = ((y / 2147483648 : Nat) : Int); omega) (by show 2 * ((nIt k s).2 : Int) = ((2 * (nIt k s).2 : Nat) : Int); omega)
/-- The logarithm by digits is near to the true one. -/
def LgNear (p n : Nat) : Prop := ∃ a : Nat, lgR n = a ∧ 2 ^ a ≤ n ^ p ∧ n ^ p < 2 ^ (a + 2)
theorem lg_near_of {p n : Nat} {q : Nat × Nat} (hk : 2 * (p - 1) ≤ 2147483648) (it : Near n p 2147483648 2147483647 q) (e : lgR n = (q.2 : Int)) : LgNear p n := by
  have pw := near_pow (by omega) (by omega) hk (by omega) it
  exact ⟨q.2, e, pw.1, pw.2⟩
theorem lg_start {n : Nat} (h1 : 1 ≤ n) (h2 : n ≤ 4294967296) : ∃ x : Nat, lg0 n = ((x : Int), ((hN n : Nat) : Int)) ∧ Near n 1 2147483648 2147483647 (x, hN n) := by
  obtain ⟨hh, c, d, _⟩ := hN_spec (n := n) (by omega) (by omega)
  obtain ⟨b1, b2, _, _⟩ := lg0_bd (n := n) (by omega) (by omega)
  have cN : 2 ^ hN n ≤ n := by exact_mod_cast c
  have e0 : (lg0 n).1 = ((n * 2147483648 / 2 ^ hN n : Nat) : Int) := by
    show (n : Int) * 2147483648 / 2 ^ hN n = _
    rw [Int.natCast_ediv, Int.natCast_mul, Int.natCast_pow]
    rfl
  have es : lg0 n = (((n * 2147483648 / 2 ^ hN n : Nat) : Int), ((hN n : Nat) : Int)) := Prod.ext e0 rfl
  have hx : n * 2147483648 / 2 ^ hN n * 2 ^ hN n = n * 2147483648 := by
    apply Nat.div_mul_cancel
    by_cases c32 : hN n ≤ 31
    · have : (2147483648 : Nat) = 2 ^ hN n * 2 ^ (31 - hN n) := by rw [← Nat.pow_add]; rw [show hN n + (31 - hN n) = 31 by omega]
      exact Nat.dvd_trans ⟨2 ^ (31 - hN n), this⟩ ⟨n, Nat.mul_comm _ _⟩
    · have e32 : hN n = 32 := by omega
      rw [e32] at cN ⊢
      have : n = 4294967296 := by have : 2 ^ 32 = 4294967296 := by decide
                                  omega
      subst this
      decide
  rw [e0] at b1 b2
  refine ⟨_, es, ?_⟩
  generalize n * 2147483648 / 2 ^ hN n = x at *
  refine ⟨by show 2147483648 ≤ x; omega, by show x < 2 * 2147483648; omega, ?_, ?_⟩
  · rw [Nat.pow_one]; exact Nat.le_of_eq hx
  · rw [Nat.pow_one, show 1 - 1 = 0 from rfl, Nat.pow_zero, Nat.mul_one, Nat.mul_one]
    exact Nat.le_of_eq hx.symm
theorem lg_near {n k : Nat} (h1 : 1 ≤ n) (h2 : n ≤ 4294967296) : ∃ q : Nat × Nat, lgIt k (lg0 n) = ((q.1 : Int), (q.2 : Int)) ∧ Near n (2 ^ k) 2147483648 2147483647 q := by
  obtain ⟨x, e, nr⟩ := lg_start h1 h2
  exact ⟨nIt k (x, hN n), by rw [e]; exact nIt_lg (x, hN n) k, near_it n _ nr k⟩
theorem lg_pow : ∃ p : Nat, 1 ≤ p ∧ p ≤ 65536 ∧ ∀ n : Nat, 1 ≤ n → n ≤ 4294967296 → LgNear p n := by
  have all : ∀ (k : Nat), 2 ^ k ≤ 65536 → ∀ n : Nat, 1 ≤ n → n ≤ 4294967296 → lgR n = (lgIt k (lg0 n)).2 → LgNear (2 ^ k) n := by
    intro k hk n h1 h2 e
    obtain ⟨q, e2, it⟩ := lg_near (k := k) h1 h2
    exact lg_near_of (by omega) it (by rw [e, e2])
  obtain ⟨k, hk⟩ : ∃ k : Nat, k = 16 := ⟨_, rfl⟩
  have h1 : 2 ^ k ≤ 65536 := by rw [hk]; decide
  exact ⟨2 ^ k, Nat.one_le_two_pow, h1, fun n a b => all k h1 n a b (by rw [hk, lgR])⟩
end Go.Proofs.Ytaehjhjbbkblbaa.costP
