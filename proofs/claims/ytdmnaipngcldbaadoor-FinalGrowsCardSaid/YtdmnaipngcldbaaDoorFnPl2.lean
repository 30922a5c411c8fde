/- Looking into both maps: plain. -/
import Derived.Test.YtdmnaipngcldbaaDoorFnW2
namespace Go.Proofs.YtdmnaipngcldbaaDoor.fnP
set_option maxRecDepth 100000
open Go.Proofs.YtdmnaipngcldbaaDoor.base Go.Proofs.YtdmnaipngcldbaaDoor.rfP Go.Proofs.YtdmnaipngcldbaaDoor.rfW
set_option linter.unusedVariables false
def fE (x y : List (List Int)) (r0 r1 d p : Int) : Int := if fnB x y = true then (if lookE x r0 d = 0 then (if lookE y r1 d = 0 then joinE p (lookV x r0 d) (lookV y r1 d) else lookE y r1 d) else lookE x r0 d) else 8
def fV (x y : List (List Int)) (r0 r1 d p : Int) : Int := if fE x y r0 r1 d p = 0 then joinN p (lookV x r0 d) (lookV y r1 d) else 0
def fZ (x y : List (List Int)) (r0 r1 d p v : Int) : Int := if fE x y r0 r1 d p = 0 then v else 0
theorem f_bad {x y : List (List Int)} {r0 r1 d p : Int} (h : fE x y r0 r1 d p ≠ 0) : fV x y r0 r1 d p = 0 ∧ ∀ v, fZ x y r0 r1 d p v = 0 := by unfold fV fZ; rw [if_neg h]; exact ⟨rfl, fun v => by rw [if_neg h]⟩
theorem f_ok {x y : List (List Int)} {r0 r1 d p : Int} (h : fE x y r0 r1 d p = 0) : fV x y r0 r1 d p = joinN p (lookV x r0 d) (lookV y r1 d) ∧ ∀ v, fZ x y r0 r1 d p v = v := by unfold fV fZ; rw [if_pos h]; exact ⟨rfl, fun v => by rw [if_pos h]⟩
theorem fE_no {x y : List (List Int)} {r0 r1 d p : Int} (h : fnB x y = false) : fE x y r0 r1 d p = 8 := by unfold fE; rw [h]; rfl
theorem fE_one {x y : List (List Int)} {r0 r1 d p : Int} (h : fnB x y = true) (h1 : lookE x r0 d ≠ 0) : fE x y r0 r1 d p = lookE x r0 d := by unfold fE; rw [if_pos h, if_neg h1]
theorem fE_two {x y : List (List Int)} {r0 r1 d p : Int} (h : fnB x y = true) (h1 : lookE x r0 d = 0) (h2 : lookE y r1 d ≠ 0) : fE x y r0 r1 d p = lookE y r1 d := by unfold fE; rw [if_pos h, if_pos h1, if_neg h2]
theorem fE_join {x y : List (List Int)} {r0 r1 d p : Int} (h : fnB x y = true) (h1 : lookE x r0 d = 0) (h2 : lookE y r1 d = 0) : fE x y r0 r1 d p = joinE p (lookV x r0 d) (lookV y r1 d) := by unfold fE; rw [if_pos h, if_pos h1, if_pos h2]
end Go.Proofs.YtdmnaipngcldbaaDoor.fnP
