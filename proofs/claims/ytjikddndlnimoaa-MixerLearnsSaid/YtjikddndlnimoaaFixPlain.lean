/- Plain arithmetic of saturating numbers, rounding shifts, and dot products. No program. -/
import Derived.WalkKit
namespace Go.Proofs.Ytjikddndlnimoaa.fixP
set_option maxRecDepth 100000
open Go.RowKit

def sat (n : Int) : Int := if n < -2147483648 then -2147483648 else if n > 2147483647 then 2147483647 else n
theorem sat_bd (n : Int) : -2147483648 ≤ sat n ∧ sat n ≤ 2147483647 := by unfold sat; split <;> (try split) <;> omega

def kOk (k : Int) : Bool := decide (0 ≤ k) && decide (k ≤ 62)
theorem kOk_iff (k : Int) : kOk k = true ↔ 0 ≤ k ∧ k ≤ 62 := by simp [kOk]
/-- n, rounded by k places. -/
def rnd (n : Int) (k : Nat) : Int := if k = 0 then n else n / 2 ^ k + n / 2 ^ (k - 1) % 2
def rndV (n k : Int) : Int := if kOk k then rnd n k.toNat else 0
def rndE (k : Int) : Int := if kOk k then 0 else 2
theorem rndE_bd (k : Int) : 0 ≤ rndE k ∧ rndE k ≤ 2 := by unfold rndE; split <;> omega

theorem rnd_zero (n : Int) : rnd n 0 = n := rfl
theorem rnd_succ (n : Int) (k : Nat) : rnd n (k + 1) = n / 2 ^ (k + 1) + n / 2 ^ k % 2 := rfl

theorem pow_pos2 (k : Nat) : (0 : Int) < 2 ^ k := Int.pow_pos (by omega)

/-- n shifted down is no farther from nothing. -/
theorem shr_bd (n : Int) (k : Nat) : (0 ≤ n → 0 ≤ n / 2 ^ k ∧ n / 2 ^ k ≤ n) ∧ (n < 0 → n ≤ n / 2 ^ k ∧ n / 2 ^ k < 0) := by
  have hp := pow_pos2 k
  have d1 := Int.ediv_mul_le n (b := 2 ^ k) (by omega)
  constructor
  · intro h
    have a : 0 ≤ n / 2 ^ k := Int.ediv_nonneg h (by omega)
    have b : n / 2 ^ k * 1 ≤ n / 2 ^ k * 2 ^ k := Int.mul_le_mul_of_nonneg_left (by omega) a
    omega
  · intro h
    have a : n / 2 ^ k < 0 := Int.ediv_neg_of_neg_of_pos h hp
    have d2 := Int.lt_ediv_add_one_mul_self n (b := 2 ^ k) hp
    have b : (n / 2 ^ k + 1) * 2 ^ k ≤ (n / 2 ^ k + 1) * 1 := Int.mul_le_mul_of_nonpos_left (by omega) (by omega)
    omega

theorem shr_succ (n : Int) (k : Nat) : n / 2 ^ (k + 1) = n / 2 ^ k / 2 := by
  rw [Int.pow_succ, Int.ediv_ediv_of_nonneg (Int.le_of_lt (pow_pos2 k))]

theorem rnd_half (n : Int) (k : Nat) : rnd n (k + 1) = n / 2 ^ k / 2 + n / 2 ^ k % 2 := by rw [rnd_succ, shr_succ]

/-- Halving by a division that rounds towards nothing, rounded down. -/
theorem down_half (n : Int) : (if n < 0 ∧ n.tmod 2 ≠ 0 then n.tdiv 2 - 1 else n.tdiv 2) = n / 2 := by
  have h := Int.tdiv_eq_ediv (a := n) (b := 2)
  have hs : Int.sign 2 = 1 := rfl
  rw [hs] at h
  have hm := Int.mul_tdiv_add_tmod n 2
  split <;> (split at h <;> omega)

theorem rnd_bd (n : Int) (k : Nat) (h1 : -9223372036854775808 ≤ n) (h2 : n ≤ 9223372036854775807) : -9223372036854775808 ≤ rnd n k ∧ rnd n k ≤ 9223372036854775807 := by
  cases k with
  | zero => rw [rnd_zero]; omega
  | succ k =>
    rw [rnd_half]
    have := shr_bd n k
    by_cases c : 0 ≤ n
    · have := this.1 c; omega
    · have := this.2 (by omega); omega

/-! ### Dot products: the products, their sum, and the sums of their halves. -/
def prods (xs ys : List Int) : List Int := List.zipWith (· * ·) xs ys
def hi (ps : List Int) : Int := (ps.map (· / 4294967296)).sum
def lo (ps : List Int) : Int := (ps.map (· % 4294967296)).sum
theorem hi_lo (ps : List Int) : ps.sum = hi ps * 4294967296 + lo ps := by
  induction ps with
  | nil => rfl
  | cons p ps ih =>
    simp only [hi, lo, List.map_cons, List.sum_cons] at ih ⊢
    omega
theorem hi_snoc (ps : List Int) (p : Int) : hi (ps ++ [p]) = hi ps + p / 4294967296 := by simp [hi]
theorem lo_snoc (ps : List Int) (p : Int) : lo (ps ++ [p]) = lo ps + p % 4294967296 := by simp [lo]
theorem lo_bd : ∀ ps : List Int, 0 ≤ lo ps ∧ lo ps ≤ 4294967295 * ps.length
  | [] => by simp [lo]
  | p :: ps => by
    have := lo_bd ps
    simp only [lo, List.map_cons, List.sum_cons, List.length_cons] at this ⊢
    omega
theorem hi_bd : ∀ ps : List Int, (∀ p ∈ ps, -4611686018427387904 ≤ p ∧ p ≤ 4611686018427387904) → -1073741824 * (ps.length : Int) ≤ hi ps ∧ hi ps ≤ 1073741824 * ps.length
  | [], _ => by simp [hi]
  | p :: ps, h => by
    have a := hi_bd ps fun q hq => h q (by simp [hq])
    have b := h p (by simp)
    simp only [hi, List.map_cons, List.sum_cons, List.length_cons] at a ⊢
    omega
theorem mul_bd32 {x y : Int} (h1 : -2147483648 ≤ x) (h2 : x ≤ 2147483647) (h3 : -2147483648 ≤ y) (h4 : y ≤ 2147483647) : -4611686018427387904 ≤ x * y ∧ x * y ≤ 4611686018427387904 := by
  have f : ∀ a b : Int, 0 ≤ a → a ≤ 2147483648 → 0 ≤ b → b ≤ 2147483648 → 0 ≤ a * b ∧ a * b ≤ 4611686018427387904 := by
    intro a b a1 a2 b1 b2
    have := Int.mul_le_mul a2 b2 b1 (by omega)
    exact ⟨Int.mul_nonneg a1 b1, by omega⟩
  by_cases cx : 0 ≤ x <;> by_cases cy : 0 ≤ y
  · have := f x y cx (by omega) cy (by omega); omega
  · have := f x (-y) cx (by omega) (by omega) (by omega); rw [Int.mul_neg] at this; omega
  · have := f (-x) y (by omega) (by omega) cy (by omega); rw [Int.neg_mul] at this; omega
  · have := f (-x) (-y) (by omega) (by omega) (by omega) (by omega); rw [Int.neg_mul_neg] at this; omega
theorem prods_bd {xs ys : List Int} (hx : ∀ x ∈ xs, -2147483648 ≤ x ∧ x ≤ 2147483647) (hy : ∀ y ∈ ys, -2147483648 ≤ y ∧ y ≤ 2147483647) :
    ∀ p ∈ prods xs ys, -4611686018427387904 ≤ p ∧ p ≤ 4611686018427387904 := by
  intro p hp
  obtain ⟨i, hi, e⟩ := List.mem_iff_getElem.1 hp
  rw [← e]
  unfold prods at hi ⊢
  rw [List.getElem_zipWith]
  exact mul_bd32 (hx _ (List.getElem_mem _)).1 (hx _ (List.getElem_mem _)).2 (hy _ (List.getElem_mem _)).1 (hy _ (List.getElem_mem _)).2
theorem prods_length {xs ys : List Int} (h : xs.length = ys.length) : (prods xs ys).length = xs.length := by simp [prods, h]
theorem prods_getD {xs ys : List Int} (h : xs.length = ys.length) (k : Nat) (hk : k < xs.length) : (prods xs ys).getD k 0 = xs.getD k 0 * ys.getD k 0 := by
  simp only [List.getD_eq_getElem?_getD]
  rw [List.getElem?_eq_getElem (by rw [prods_length h]; exact hk), List.getElem?_eq_getElem hk, List.getElem?_eq_getElem (by omega)]
  simp [prods]
theorem prods_comm (xs ys : List Int) : prods xs ys = prods ys xs := by
  unfold prods
  rw [List.zipWith_comm]
  congr 1
  funext a b
  exact Int.mul_comm b a

/-- What the last line of a dot product comes to. -/
theorem sat_parts (a b : Int) (h1 : 0 ≤ b) (h2 : b ≤ 4294967295) : sat (sat a * 4294967296 + b) = sat (a * 4294967296 + b) := by
  unfold sat
  split <;> (try split) <;> (try split) <;> (try split) <;> omega

/-! The same sums by a division that rounds towards nothing. -/
def thi (ps : List Int) : Int := (ps.map (·.tdiv 4294967296)).sum
def tlo (ps : List Int) : Int := (ps.map (·.tmod 4294967296)).sum
theorem tparts (p : Int) : p = p.tdiv 4294967296 * 4294967296 + p.tmod 4294967296 ∧ -4294967296 < p.tmod 4294967296 ∧ p.tmod 4294967296 < 4294967296 := by
  have h := Int.mul_tdiv_add_tmod p 4294967296
  have a := Int.tmod_lt_of_pos p (show (0 : Int) < 4294967296 by omega)
  have b := Int.lt_tmod_of_pos p (show (0 : Int) < 4294967296 by omega)
  omega
theorem thi_tlo (ps : List Int) : ps.sum = thi ps * 4294967296 + tlo ps := by
  induction ps with
  | nil => rfl
  | cons p ps ih =>
    have := (tparts p).1
    simp only [thi, tlo, List.map_cons, List.sum_cons] at ih ⊢
    omega
theorem thi_snoc (ps : List Int) (p : Int) : thi (ps ++ [p]) = thi ps + p.tdiv 4294967296 := by simp [thi]
theorem tlo_snoc (ps : List Int) (p : Int) : tlo (ps ++ [p]) = tlo ps + p.tmod 4294967296 := by simp [tlo]
theorem tlo_bd : ∀ ps : List Int, -4294967296 * (ps.length : Int) ≤ tlo ps ∧ tlo ps ≤ 4294967296 * ps.length
  | [] => by simp [tlo]
  | p :: ps => by
    have := tlo_bd ps
    have := tparts p
    simp only [tlo, List.map_cons, List.sum_cons, List.length_cons] at *
    omega
theorem thi_bd : ∀ ps : List Int, (∀ p ∈ ps, -4611686018427387904 ≤ p ∧ p ≤ 4611686018427387904) → -1073741825 * (ps.length : Int) ≤ thi ps ∧ thi ps ≤ 1073741825 * ps.length
  | [], _ => by simp [thi]
  | p :: ps, h => by
    have a := thi_bd ps fun q hq => h q (by simp [hq])
    have b := h p (by simp)
    have := tparts p
    simp only [thi, List.map_cons, List.sum_cons, List.length_cons] at a ⊢
    omega
/-- What the reference's last lines come to. -/
theorem tsat (s t r : Int) (h : s = t * 4294967296 + r) (r1 : -4294967296 < r) (r2 : r < 4294967296) :
    (2 < t → sat s = 2147483647) ∧ (t < -2 → sat s = -2147483648) := by
  unfold sat
  constructor <;> intro _ <;> (repeat split) <;> omega
end Go.Proofs.Ytjikddndlnimoaa.fixP
