/- Plain facts on refiners: what a look gives, how a place moves, and where it ends. -/
import Derived.Test.YtdmnaipngcldbaaDoorProg
import Derived.ProofKit
namespace Go.Proofs.YtdmnaipngcldbaaDoor.rfP
set_option maxRecDepth 100000
set_option linter.unusedVariables false
/-- The probability between two places. -/
def lkP (a b w : Int) : Int := ((128 - w) * a + w * b) / 2048
theorem lk_bd {a b w : Int} (a0 : 0 ≤ a) (a1 : a ≤ 65535) (b0 : 0 ≤ b) (b1 : b ≤ 65535) (w0 : 0 ≤ w) (w1 : w < 128) : 0 ≤ (128 - w) * a + w * b ∧ (128 - w) * a + w * b ≤ 8388480 := by
  have h1 := Int.mul_nonneg (show 0 ≤ 128 - w by omega) a0
  have h2 := Int.mul_nonneg w0 b0
  have h3 := Int.mul_le_mul_of_nonneg_left a1 (show 0 ≤ 128 - w by omega)
  have h4 := Int.mul_le_mul_of_nonneg_left b1 w0
  omega
theorem lk_parts {a b w : Int} (a0 : 0 ≤ a) (a1 : a ≤ 65535) (b0 : 0 ≤ b) (b1 : b ≤ 65535) (w0 : 0 ≤ w) (w1 : w < 128) : 0 ≤ (128 - w) * a ∧ (128 - w) * a ≤ 8388480 ∧ 0 ≤ w * b ∧ w * b ≤ 8388480 := by
  have h1 := Int.mul_nonneg (show 0 ≤ 128 - w by omega) a0
  have h2 := Int.mul_nonneg w0 b0
  have h3 := Int.mul_le_mul_of_nonneg_left a1 (show 0 ≤ 128 - w by omega)
  have h4 := Int.mul_le_mul_of_nonneg_left b1 w0
  omega
theorem lk_mono {a b a' b' w : Int} (ha : a ≤ a') (hb : b ≤ b') (w0 : 0 ≤ w) (w1 : w < 128) : lkP a b w ≤ lkP a' b' w := by
  unfold lkP
  have h3 := Int.mul_le_mul_of_nonneg_left ha (show 0 ≤ 128 - w by omega)
  have h4 := Int.mul_le_mul_of_nonneg_left hb w0
  omega
theorem lk_same (a w : Int) : lkP a a w = a / 16 := by
  unfold lkP
  rw [← Int.add_mul, show 128 - w + w = 128 by omega]
  omega
/-- Between the two places. -/
theorem lk_between {a b w : Int} (w0 : 0 ≤ w) (w1 : w < 128) : min a b / 16 ≤ lkP a b w ∧ lkP a b w ≤ max a b / 16 := by
  have h1 := lk_mono (a := min a b) (b := min a b) (a' := a) (b' := b) (by omega) (by omega) w0 w1
  have h2 := lk_mono (a := a) (b := b) (a' := max a b) (b' := max a b) (by omega) (by omega) w0 w1
  rw [lk_same] at h1 h2
  exact ⟨h1, h2⟩
theorem lk_range {a b w : Int} (a0 : 0 ≤ a) (a1 : a ≤ 65535) (b0 : 0 ≤ b) (b1 : b ≤ 65535) (w0 : 0 ≤ w) (w1 : w < 128) : 0 ≤ lkP a b w ∧ lkP a b w ≤ 4095 := by
  have := lk_bd a0 a1 b0 b1 w0 w1
  unfold lkP
  omega
/-- A place after a bit. -/
def mv (t : Int) (bit : Bool) : Int := if bit then t + (65535 - t) / 64 else t - t / 64
theorem mv_in {t : Int} (bit : Bool) (h0 : 0 ≤ t) (h1 : t ≤ 65535) : 0 ≤ mv t bit ∧ mv t bit ≤ 65535 := by
  unfold mv; cases bit <;> simp <;> omega
theorem mv_up {t : Int} (h1 : t ≤ 65535) : t ≤ mv t true := by unfold mv; simp; omega
theorem mv_down {t : Int} (h0 : 0 ≤ t) : mv t false ≤ t := by unfold mv; simp; omega
theorem mv_mono {t u : Int} (h : t ≤ u) : mv t false ≤ mv u false := by unfold mv; simp; omega
theorem mv_flip (t : Int) : mv t true = 65535 - mv (65535 - t) false := by unfold mv; simp; omega
/-- How the program has it. -/
theorem mv_prog {t : Int} (bit : Bool) (h0 : 0 ≤ t) (h1 : t ≤ 65535) : t + Int.tdiv ((if bit then 65535 else 0) - t) 64 = mv t bit := by
  cases bit
  · have : Int.tdiv (0 - t) 64 = -(t / 64) := by
      rw [Int.zero_sub, Int.neg_tdiv, Int.tdiv_eq_ediv_of_nonneg h0]
    simp only [Bool.false_eq_true, if_false, mv]
    omega
  · have : Int.tdiv (65535 - t) 64 = (65535 - t) / 64 := Int.tdiv_eq_ediv_of_nonneg (by omega)
    simp only [if_true, mv]
    omega
/-- A place after one bit again and again. -/
def mvN : Nat → Int → Bool → Int
  | 0, t, _ => t
  | n + 1, t, bit => mv (mvN n t bit) bit
theorem mvN_in {t : Int} (bit : Bool) (h0 : 0 ≤ t) (h1 : t ≤ 65535) : ∀ n, 0 ≤ mvN n t bit ∧ mvN n t bit ≤ 65535
  | 0 => ⟨h0, h1⟩
  | n + 1 => mv_in bit (mvN_in bit h0 h1 n).1 (mvN_in bit h0 h1 n).2
theorem mvN_mono {t u : Int} (h : t ≤ u) : ∀ n, mvN n t false ≤ mvN n u false
  | 0 => h
  | n + 1 => mv_mono (mvN_mono h n)
theorem mvN_flip (t : Int) : ∀ n, mvN n t true = 65535 - mvN n (65535 - t) false
  | 0 => by show t = 65535 - (65535 - t); omega
  | n + 1 => by
    show mv (mvN n t true) true = 65535 - mv (mvN n (65535 - t) false) false
    rw [mv_flip, mvN_flip t n]
    congr 2
    omega
theorem top_700 : mvN 700 65535 false < 64 := by decide +kernel
/-- In the end within 64 of the target. -/
theorem ends_low {t : Int} (h0 : 0 ≤ t) (h1 : t ≤ 65535) : 0 ≤ mvN 700 t false ∧ mvN 700 t false < 64 :=
  ⟨(mvN_in false h0 h1 700).1, Int.lt_of_le_of_lt (mvN_mono h1 700) top_700⟩
theorem ends_high {t : Int} (h0 : 0 ≤ t) (h1 : t ≤ 65535) : 65535 - 64 < mvN 700 t true ∧ mvN 700 t true ≤ 65535 := by
  have := ends_low (t := 65535 - t) (by omega) (by omega)
  rw [mvN_flip]
  omega
end Go.Proofs.YtdmnaipngcldbaaDoor.rfP
