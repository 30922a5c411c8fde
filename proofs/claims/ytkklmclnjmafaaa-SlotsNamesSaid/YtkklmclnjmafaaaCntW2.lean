/- What the functions of package counts and of its reference return, by walks. -/
import Derived.Test.YtkklmclnjmafaaaCntW
import Derived.Test.YtkklmclnjmafaaaReg
import Derived.Handy
namespace Go.Proofs.Ytkklmclnjmafaaa.cntW
set_option maxRecDepth 100000
open Go.RowKit Go.Proofs.Ytkklmclnjmafaaa.base Go.Proofs.Ytkklmclnjmafaaa.cntP
set_option linter.unusedVariables false
set_option maxHeartbeats 400000 in
theorem more_any (n : Int) (w : World) (h1 : -2147483648 ≤ n) (h2 : n ≤ 2147483646) :
    Calls Try.prog 60 #[.int .i32 n] w fun e w' => e = .returned (.int .i32 (more n)) ∧ w = w' := by
  by_cases h : n + 1 ≤ 12
  · go_enter Try.func60, Try.ntmps60
    go_wp2
    go_ret
    exact ⟨ret1 (by rw [more, if_pos h]), rfl⟩
  · go_enter Try.func60, Try.ntmps60
    go_wp2
    go_ret
    exact ⟨ret1 (by rw [more, if_neg (by omega)]), rfl⟩
set_option maxHeartbeats 400000 in
theorem shrunk_any (n : Int) (w : World) (h1 : -2147483648 ≤ n) (h2 : n ≤ 2147483647) :
    Calls Try.prog 61 #[.int .i32 n] w fun e w' => e = .returned (.int .i32 (shr n)) ∧ w = w' := by
  by_cases h : n ≤ 2
  · go_enter Try.func61, Try.ntmps61
    go_wp2
    go_ret
    exact ⟨ret1 (by rw [shr, if_pos h]), rfl⟩
  · go_enter Try.func61, Try.ntmps61
    go_wp2
    go_ret
    exact ⟨ret1 (by rw [shr, if_neg (by omega)]), rfl⟩
set_option maxHeartbeats 400000 in
theorem rshrunk_any (n : Int) (w : World) (h1 : -2147483648 ≤ n) (h2 : n ≤ 2147483647) :
    Calls Try.prog 59 #[.int .i32 n] w fun e w' => e = .returned (.int .i32 (shr n)) ∧ w = w' := by
  by_cases h : n ≤ 2
  · go_enter Try.func59, Try.ntmps59
    go_wp2
    go_ret
    exact ⟨ret1 (by rw [shr, if_pos h]), rfl⟩
  · go_enter Try.func59, Try.ntmps59
    go_wp2
    go_ret
    exact ⟨ret1 (by rw [shr, if_neg (by omega)]), rfl⟩
set_option maxHeartbeats 400000 in
theorem next_any (a b l bit : Int) (w : World) (a1 : 0 ≤ a) (a2 : a ≤ 12) (b1 : 0 ≤ b) (b2 : b ≤ 12) (hb : bit = 0 ∨ bit = 1) :
    Calls Try.prog 56 #[.agg #[.int .i32 a, .int .i32 b, .int .u8 l], .int .u8 bit] w fun e w' => e = .returned (.agg #[.int .i32 (nx ⟨a, b, l⟩ bit).a, .int .i32 (nx ⟨a, b, l⟩ bit).b, .int .u8 (nx ⟨a, b, l⟩ bit).l]) ∧ Below w.heap.size w w' := by
  rcases hb with rfl | rfl
  · go_enter Try.func56, Try.ntmps56
    go_wp2
    refine region_still_tail 7 (by kernel_rfl) (by kernel_rfl) ?_
    simp only [List.take_succ_cons, List.take_zero, List.drop_succ_cons, List.drop_zero]
    still_step
    still_step
    still_call (turned (more_any _ _ (by omega) (by omega)))
    still_step
    still_step
    still_call (turned (shrunk_any _ _ (by omega) (by omega)))
    still_step
    refine wpStill_nil ?_
    go_wp2
    go_returns
    exact ⟨rfl, by go_grown⟩
  · go_enter Try.func56, Try.ntmps56
    go_wp2
    refine region_still_tail 7 (by kernel_rfl) (by kernel_rfl) ?_
    simp only [List.take_succ_cons, List.take_zero, List.drop_succ_cons, List.drop_zero]
    still_step
    still_step
    still_call (turned (shrunk_any _ _ (by omega) (by omega)))
    still_step
    still_step
    still_call (turned (more_any _ _ (by omega) (by omega)))
    still_step
    refine wpStill_nil ?_
    go_wp2
    go_returns
    exact ⟨rfl, by go_grown⟩
end Go.Proofs.Ytkklmclnjmafaaa.cntW
