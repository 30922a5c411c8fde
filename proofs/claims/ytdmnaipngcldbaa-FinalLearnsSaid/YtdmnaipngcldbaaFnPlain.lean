/- Joining, and what maps are: plain. -/
import Derived.Test.YtdmnaipngcldbaaRfWH
namespace Go.Proofs.Ytdmnaipngcldbaa.fnP
set_option maxRecDepth 100000
open Go.Proofs.Ytdmnaipngcldbaa.base Go.Proofs.Ytdmnaipngcldbaa.rfP
set_option linter.unusedVariables false
def prB (p : Int) : Bool := decide (0 ≤ p) && decide (p ≤ 4095)
theorem prB_iff (p : Int) : prB p = true ↔ 0 ≤ p ∧ p ≤ 4095 := by simp [prB]
def joinN (p a b : Int) : Int := min (max (((p + 3 * a) / 4 + (p + b) / 2 + 1) / 2) 1) 4095
def joinB (p a b : Int) : Bool := prB p && (prB a && prB b)
theorem joinB_iff (p a b : Int) : joinB p a b = true ↔ (0 ≤ p ∧ p ≤ 4095) ∧ (0 ≤ a ∧ a ≤ 4095) ∧ (0 ≤ b ∧ b ≤ 4095) := by simp [joinB, prB_iff]
def joinE (p a b : Int) : Int := if joinB p a b = true then 0 else 2
def joinV (p a b : Int) : Int := if joinB p a b = true then joinN p a b else 0
theorem join_bd (p a b : Int) : 1 ≤ joinN p a b ∧ joinN p a b ≤ 4095 := by unfold joinN; omega
theorem join_no {p a b : Int} (h : joinB p a b = false) : joinE p a b = 2 ∧ joinV p a b = 0 := by unfold joinE joinV; rw [h]; exact ⟨rfl, rfl⟩
theorem join_yes {p a b : Int} (h : joinB p a b = true) : joinE p a b = 0 ∧ joinV p a b = joinN p a b := by unfold joinE joinV; rw [h]; exact ⟨rfl, rfl⟩
/-- Both maps are valid. -/
def fnB (x y : List (List Int)) : Bool := decide (x.length = 256) && (decide (y.length = 256) && (rfB x && rfB y))
def fnE (x y : List (List Int)) : Int := if fnB x y = true then 0 else 8
theorem fnB_iff (x y : List (List Int)) : fnB x y = true ↔ x.length = 256 ∧ y.length = 256 ∧ rfB x = true ∧ rfB y = true := by simp [fnB]
theorem fnE_yes {x y : List (List Int)} (h : fnB x y = true) : fnE x y = 0 := by unfold fnE; rw [h]; rfl
theorem fnE_no {x y : List (List Int)} (h : fnB x y = false) : fnE x y = 8 := by unfold fnE; rw [h]; rfl
end Go.Proofs.Ytdmnaipngcldbaa.fnP
namespace Go.Proofs.Ytdmnaipngcldbaa.fnP
set_option maxRecDepth 100000
open Go.Proofs.Ytdmnaipngcldbaa.base Go.Proofs.Ytdmnaipngcldbaa.rfP Go.Proofs.Ytdmnaipngcldbaa.rfW
set_option linter.unusedVariables false
def fE (x y : List (List Int)) (r0 r1 d p : Int) : Int := if fnB x y = true then (if lookE x r0 d = 0 then (if lookE y r1 d = 0 then joinE p (lookV x r0 d) (lookV y r1 d) else lookE y r1 d) else lookE x r0 d) else 8
def fV (x y : List (List Int)) (r0 r1 d p : Int) : Int := if fE x y r0 r1 d p = 0 then joinN p (lookV x r0 d) (lookV y r1 d) else 0
def fZ (x y : List (List Int)) (r0 r1 d p v : Int) : Int := if fE x y r0 r1 d p = 0 then v else 0
theorem f_bad {x y : List (List Int)} {r0 r1 d p : Int} (h : fE x y r0 r1 d p ≠ 0) : fV x y r0 r1 d p = 0 ∧ ∀ v, fZ x y r0 r1 d p v = 0 := by unfold fV fZ; rw [if_neg h]; exact ⟨rfl, fun v => by rw [if_neg h]⟩
theorem f_ok {x y : List (List Int)} {r0 r1 d p : Int} (h : fE x y r0 r1 d p = 0) : fV x y r0 r1 d p = joinN p (lookV x r0 d) (lookV y r1 d) ∧ ∀ v, fZ x y r0 r1 d p v = v := by unfold fV fZ; rw [if_pos h]; exact ⟨rfl, fun v => by rw [if_pos h]⟩
theorem fE_no {x y : List (List Int)} {r0 r1 d p : Int} (h : fnB x y = false) : fE x y r0 r1 d p = 8 := by unfold fE; rw [h]; rfl
theorem fE_one {x y : List (List Int)} {r0 r1 d p : Int} (h : fnB x y = true) (h1 : lookE x r0 d ≠ 0) : fE x y r0 r1 d p = lookE x r0 d := by unfold fE; rw [if_pos h, if_neg h1]
theorem fE_two {x y : List (List Int)} {r0 r1 d p : Int} (h : fnB x y = true) (h1 : lookE x r0 d = 0) (h2 : lookE y r1 d ≠ 0) : fE x y r0 r1 d p = lookE y r1 d := by unfold fE; rw [if_pos h, if_pos h1, if_neg h2]
theorem fE_join {x y : List (List Int)} {r0 r1 d p : Int} (h : fnB x y = true) (h1 : lookE x r0 d = 0) (h2 : lookE y r1 d = 0) : fE x y r0 r1 d p = joinE p (lookV x r0 d) (lookV y r1 d) := by unfold fE; rw [if_pos h, if_pos h1, if_pos h2]
end Go.Proofs.Ytdmnaipngcldbaa.fnP
