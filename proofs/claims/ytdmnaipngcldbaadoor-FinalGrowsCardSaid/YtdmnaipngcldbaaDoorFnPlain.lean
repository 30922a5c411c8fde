/- Joining, and what maps are: plain. -/
import Derived.Test.YtdmnaipngcldbaaDoorRfWH
namespace Go.Proofs.YtdmnaipngcldbaaDoor.fnP
set_option maxRecDepth 100000
open Go.Proofs.YtdmnaipngcldbaaDoor.base Go.Proofs.YtdmnaipngcldbaaDoor.rfP
set_option linter.unusedVariables false
def prB (p : Int) : Bool := decide (0 ≤ p) && decide (p ≤ 4095)
theorem prB_iff (p : Int) : prB p = true ↔ 0 ≤ p ∧ p ≤ 4095 := by simp [prB]
def joinN (p a b : Int) : Int := min (max (((p + 3 * a) / 4 + (p + b) / 2 + 1) / 2) 1) 4095
def joinB (p a b : Int) : Bool := prB p && (prB a && prB b)
theorem joinB_iff (p a b : Int) : joinB p a b = true ↔ (0 ≤ p ∧ p ≤ 4095) ∧ (0 ≤ a ∧ a ≤ 4095) ∧ (0 ≤ b ∧ b ≤ 4095) := by simp [joinB, prB_iff]
def joinE (p a b : Int) : Int := if joinB p a b = true then 0 else 2
def joinV (p a b : Int) : Int := if joinB p a b = true then joinN p a b else 0
theorem join_bd (p a b : Int) : 1 ≤ joinN p a b ∧ joinN p a b ≤ 4095 := by unfold joinN; omega
theorem join_no {p a b : Int} (h : joinB p a b = false) : joinE p a b = 2 ∧ joinV p a b = 0 := by unfold joinE joinV; rw [h]; exact ⟨rfl, rfl⟩
theorem join_yes {p a b : Int} (h : joinB p a b = true) : joinE p a b = 0 ∧ joinV p a b = joinN p a b := by unfold joinE joinV; rw [h]; exact ⟨rfl, rfl⟩
/-- Both maps are valid. -/
def fnB (x y : List (List Int)) : Bool := decide (x.length = 256) && (decide (y.length = 256) && (rfB x && rfB y))
def fnE (x y : List (List Int)) : Int := if fnB x y = true then 0 else 8
theorem fnB_iff (x y : List (List Int)) : fnB x y = true ↔ x.length = 256 ∧ y.length = 256 ∧ rfB x = true ∧ rfB y = true := by simp [fnB]
theorem fnE_yes {x y : List (List Int)} (h : fnB x y = true) : fnE x y = 0 := by unfold fnE; rw [h]; rfl
theorem fnE_no {x y : List (List Int)} (h : fnB x y = false) : fnE x y = 8 := by unfold fnE; rw [h]; rfl
end Go.Proofs.YtdmnaipngcldbaaDoor.fnP
