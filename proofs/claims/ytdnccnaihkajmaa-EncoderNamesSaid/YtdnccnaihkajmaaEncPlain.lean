/- Plain arithmetic of splits of ranges. No program. -/
import Derived.RowKit
namespace Go.Proofs.Ytdnccnaihkajmaa.encP
open Go.RowKit

def pOk (p : Int) : Bool := decide (0 ≤ p) && decide (p ≤ 4095)
theorem pOk_iff (p : Int) : pOk p = true ↔ 0 ≤ p ∧ p ≤ 4095 := by simp [pOk]
/-- The middle of a range. -/
def mid (x1 x2 p : Int) : Int := x1 + (x2 - x1) / 4096 * p + (x2 - x1) % 4096 * p / 4096
def spOk (x1 x2 p : Int) : Bool := decide (x1 < x2) && pOk p
def spV (x1 x2 p : Int) : Int := if spOk x1 x2 p then mid x1 x2 p else 0
def spE (x1 x2 p : Int) : Int := if spOk x1 x2 p then 0 else 2
theorem part_bd {w p : Int} (hw : 0 ≤ w) (h0 : 0 ≤ p) (h1 : p ≤ 4095) :
    0 ≤ w / 4096 * p ∧ w / 4096 * p ≤ w / 4096 * 4095 ∧ 0 ≤ w % 4096 * p ∧ w % 4096 * p ≤ w % 4096 * 4095 := by
  refine ⟨Int.mul_nonneg (by omega) h0, Int.mul_le_mul_of_nonneg_left h1 (by omega), Int.mul_nonneg (by omega) h0, Int.mul_le_mul_of_nonneg_left h1 (by omega)⟩
theorem mid_bd {x1 x2 p : Int} (h : x1 < x2) (h0 : 0 ≤ p) (h1 : p ≤ 4095) : x1 ≤ mid x1 x2 p ∧ mid x1 x2 p < x2 := by
  obtain ⟨a, b, c, d⟩ := part_bd (w := x2 - x1) (p := p) (by omega) h0 h1
  unfold mid
  generalize (x2 - x1) / 4096 * p = y at *
  generalize (x2 - x1) % 4096 * p = z at *
  omega
theorem mid_zero (x1 x2 : Int) : mid x1 x2 0 = x1 := by simp [mid]
theorem mid_mono {x1 x2 p q : Int} (h : x1 < x2) (h0 : p ≤ q) : mid x1 x2 p ≤ mid x1 x2 q := by
  have a : (x2 - x1) / 4096 * p ≤ (x2 - x1) / 4096 * q := Int.mul_le_mul_of_nonneg_left h0 (by omega)
  have b : (x2 - x1) % 4096 * p ≤ (x2 - x1) % 4096 * q := Int.mul_le_mul_of_nonneg_left h0 (by omega)
  unfold mid
  generalize (x2 - x1) / 4096 * p = y at *
  generalize (x2 - x1) % 4096 * p = z at *
  generalize (x2 - x1) / 4096 * q = y' at *
  generalize (x2 - x1) % 4096 * q = z' at *
  omega
theorem spE_bd (x1 x2 p : Int) : 0 ≤ spE x1 x2 p ∧ spE x1 x2 p ≤ 2 := by unfold spE; split <;> omega
end Go.Proofs.Ytdnccnaihkajmaa.encP
