/- CostOnes, by a walk. -/
import Derived.Test.YtaehjhjbbkblbaaCostW3
namespace Go.Proofs.Ytaehjhjbbkblbaa.costL
open Go.RowKit Go.Proofs.Ytaehjhjbbkblbaa.base Go.Proofs.Ytaehjhjbbkblbaa.encP Go.Proofs.Ytaehjhjbbkblbaa.costP Go.Proofs.Ytaehjhjbbkblbaa.encW Go.Proofs.Ytaehjhjbbkblbaa.costW
set_option linter.unusedVariables false
set_option linter.unusedSimpArgs false

set_option maxRecDepth 100000 in
set_option maxHeartbeats 2000000 in
theorem ones (n x1 x2 p : Int) (b : Bool) (w : World) (n1 : 0 ≤ n) (n2 : n ≤ 18446744073709551615) (a1 : 0 ≤ x1) (a2 : x1 ≤ 4294967295) (b1 : 0 ≤ x2) (b2 : x2 ≤ 4294967295) (_ : -9223372036854775808 ≤ p) (_ : p ≤ 9223372036854775807) :
    Calls Try.prog 9 #[.int .u64 n, .int .u32 x1, .int .u32 x2, .int .i64 p, .bool b] w fun e w' => e = .returned (.bool true) ∧ w = w' := by
  have eE : ∀ y : Int, y = 0 ∨ y = 2 → 0 ≤ y ∧ y ≤ 2 := fun y h => by omega
  have E1 : 0 ≤ lgE n ∧ lgE n ≤ 2 := by unfold lgE; split <;> omega
  have E2 : 0 ≤ btE p ∧ btE p ≤ 2 := by unfold btE; split <;> omega
  have E3 : 0 ≤ ctE x1 x2 p ∧ ctE x1 x2 p ≤ 2 := by unfold ctE; split <;> omega
  clear eE n2
  go_enter Try.func9, Try.ntmps9
  go_wp2_with (first | (go_at_call 33; refine (log_any _ _ n1).mono ?_; rintro e w' ⟨rfl, rfl⟩) | (go_at_call 34; refine (rLog_any _ _ n1).mono ?_; rintro e w' ⟨rfl, rfl⟩) | (go_at_call 35; refine (Bit_any _ _ _).mono ?_; rintro e w' ⟨rfl, rfl⟩) | (go_at_call 36; refine (rBit_any _ _ _).mono ?_; rintro e w' ⟨rfl, rfl⟩) | (go_at_call 37; refine (Step_any _ _ _ _ _ a1 a2 b1 b2).mono ?_; rintro e w' ⟨rfl, rfl⟩) | (go_at_call 38; refine (rStep_any _ _ _ _ _ a1 a2 b1 b2).mono ?_; rintro e w' ⟨rfl, rfl⟩))
  go_ret
  exact ⟨rfl, rfl⟩
end Go.Proofs.Ytaehjhjbbkblbaa.costL
