/- Levels and sizes of rings, by walks. -/
import Derived.Test.YtpggdijhfdddpaaDoorRgBase
import Derived.Test.YtpggdijhfdddpaaDoorBlock
import Derived.Test.YtpggdijhfdddpaaDoorReg
import Derived.Handy
import Derived.Deep.DeepMust
import Derived.Deep.QuietTactic
import Derived.Deep.LoopGhost
import Derived.Lib.Hide
namespace Go.Proofs.YtpggdijhfdddpaaDoor.rgW
open Go.RowKit Go.Proofs.YtpggdijhfdddpaaDoor.base Go.Proofs.YtpggdijhfdddpaaDoor.rgP
set_option linter.unusedVariables false
set_option linter.unusedSimpArgs false

set_option maxHeartbeats 400000 in
theorem isLevel_any (l : Int) (w : World) : Calls Tryd.prog 45 #[.int .i64 l] w fun e w' => e = .returned (.bool (lvB l)) ∧ w = w' := by
  by_cases h1 : 0 ≤ l
  · go_enter Tryd.func45, Tryd.ntmps45
    go_wp2
    go_ret
    exact ⟨retb (by simp [lvB]; omega), rfl⟩
  · go_enter Tryd.func45, Tryd.ntmps45
    go_wp2
    go_ret
    exact ⟨retb (by simp [lvB]; omega), rfl⟩
set_option maxHeartbeats 400000 in
theorem rLevel_any (l : Int) (w : World) : Calls Tryd.prog 34 #[.int .i64 l] w fun e w' => e = .returned (.bool (lvB l)) ∧ w = w' := by
  by_cases h1 : 0 ≤ l
  · go_enter Tryd.func34, Tryd.ntmps34
    go_wp2
    go_ret
    exact ⟨retb (by simp [lvB]; omega), rfl⟩
  · go_enter Tryd.func34, Tryd.ntmps34
    go_wp2
    go_ret
    exact ⟨retb (by simp [lvB]; omega), rfl⟩
set_option maxHeartbeats 1000000 in
theorem places_ok (l : Int) (w : World) (h : lvB l = true) : Calls Tryd.prog 46 #[.int .i64 l] w fun e w' => e = .returned (.int .i64 (szOf l : Int)) ∧ w = w' := by
  rcases lv_cases h with rfl | rfl | rfl | rfl | rfl | rfl | rfl | rfl
  all_goals
    go_enter Tryd.func46, Tryd.ntmps46
    go_wp2
    go_ret
    exact ⟨ret1 (by decide +kernel), rfl⟩
/-- The sizes, one by one. -/
def dbl (n : Nat) : Int := 64 * 2 ^ n
theorem dbl_next (n : Nat) : dbl (n + 1) = dbl n * 2 := by unfold dbl; rw [Int.pow_succ]; omega
theorem dbl_sz {l : Int} (h : 0 ≤ l) : dbl l.toNat = (szOf l : Int) := by unfold dbl szOf; push_cast; rfl
end Go.Proofs.YtpggdijhfdddpaaDoor.rgW
