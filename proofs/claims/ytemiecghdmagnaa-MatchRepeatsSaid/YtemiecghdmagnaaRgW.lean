/- Levels and sizes of rings, by walks. -/
import Derived.Test.YtemiecghdmagnaaGE
import Derived.Test.YtemiecghdmagnaaBlock
import Derived.Test.YtemiecghdmagnaaReg
import Derived.Handy
import Derived.Deep.DeepMust
import Derived.Deep.QuietTactic
import Derived.Deep.LoopGhost
import Derived.Lib.Hide
namespace Go.Proofs.Ytemiecghdmagnaa.rgW
set_option maxRecDepth 100000
open Go.RowKit Go.Proofs.Ytemiecghdmagnaa.base Go.Proofs.Ytemiecghdmagnaa.rgP
set_option linter.unusedVariables false
set_option linter.unusedSimpArgs false

set_option maxHeartbeats 400000 in
theorem isLevel_any (l : Int) (w : World) : Calls Try.prog 48 #[.int .i64 l] w fun e w' => e = .returned (.bool (lvB l)) ∧ w = w' := by
  by_cases h1 : 0 ≤ l
  · go_enter Try.func48, Try.ntmps48
    go_wp2
    go_ret
    exact ⟨retb (by simp [lvB]; omega), rfl⟩
  · go_enter Try.func48, Try.ntmps48
    go_wp2
    go_ret
    exact ⟨retb (by simp [lvB]; omega), rfl⟩
set_option maxHeartbeats 400000 in
theorem rLevel_any (l : Int) (w : World) : Calls Try.prog 52 #[.int .i64 l] w fun e w' => e = .returned (.bool (lvB l)) ∧ w = w' := by
  by_cases h1 : 0 ≤ l
  · go_enter Try.func52, Try.ntmps52
    go_wp2
    go_ret
    exact ⟨retb (by simp [lvB]; omega), rfl⟩
  · go_enter Try.func52, Try.ntmps52
    go_wp2
    go_ret
    exact ⟨retb (by simp [lvB]; omega), rfl⟩
set_option maxHeartbeats 1000000 in
theorem places_ok (l : Int) (w : World) (h : lvB l = true) : Calls Try.prog 49 #[.int .i64 l] w fun e w' => e = .returned (.int .i64 (szOf l : Int)) ∧ w = w' := by
  rcases lv_cases h with rfl | rfl | rfl | rfl | rfl | rfl | rfl | rfl
  all_goals
    go_enter Try.func49, Try.ntmps49
    go_wp2
    go_ret
    exact ⟨ret1 (by decide +kernel), rfl⟩
/-- The sizes, one by one. -/
def dbl (n : Nat) : Int := 64 * 2 ^ n
theorem dbl_next (n : Nat) : dbl (n + 1) = dbl n * 2 := by unfold dbl; rw [Int.pow_succ]; omega
theorem dbl_sz {l : Int} (h : 0 ≤ l) : dbl l.toNat = (szOf l : Int) := by unfold dbl szOf; push_cast; rfl
end Go.Proofs.Ytemiecghdmagnaa.rgW
