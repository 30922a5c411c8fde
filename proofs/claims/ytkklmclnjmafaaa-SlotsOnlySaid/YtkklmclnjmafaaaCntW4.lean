/- What the functions of package counts and of its reference return, by walks: Check and After of the reference. -/
import Derived.Test.YtkklmclnjmafaaaCntW2
import Derived.IntWalk
import Derived.Test.YtkklmclnjmafaaaBlock
namespace Go.Proofs.Ytkklmclnjmafaaa.cntW
set_option maxRecDepth 100000
open Go.RowKit Go.Proofs.Ytkklmclnjmafaaa.base Go.Proofs.Ytkklmclnjmafaaa.cntP
set_option linter.unusedVariables false
set_option maxHeartbeats 400000 in
theorem rafter_any (a b l bit : Int) (w : World) (a1 : 0 ≤ a) (a2 : a ≤ 12) (b1 : 0 ≤ b) (b2 : b ≤ 12) (hb : bit = 0 ∨ bit = 1) :
    Calls Try.prog 53 #[.agg #[.int .i32 (a), .int .i32 (b), .int .u8 (l)], .int .u8 bit] w fun e w' => e = .returned (.agg #[.int .i32 (nx ⟨a, b, l⟩ bit).a, .int .i32 (nx ⟨a, b, l⟩ bit).b, .int .u8 (nx ⟨a, b, l⟩ bit).l]) ∧ Below w.heap.size w w' := by
  have wa : IntKind.i32.wrap (a + 1) = a + 1 := IntWalk.i32_in _ (by omega)
  have wb : IntKind.i32.wrap (b + 1) = b + 1 := IntWalk.i32_in _ (by omega)
  rcases hb with rfl | rfl
  · by_cases h : a + 1 ≤ 12
    all_goals
      have ma : more a = if a + 1 ≤ 12 then a + 1 else 12 := rfl
      first | rw [if_pos h] at ma | rw [if_neg h] at ma
      have MA := Lib.hid ma
      clear ma wb
      go_enter Try.func53, Try.ntmps53
      go_wp2
      refine region_still_tail 8 (by kernel_rfl) (by kernel_rfl) ?_; simp only [List.take_succ_cons, List.take_zero, List.drop_succ_cons, List.drop_zero]
      still_step
      still_step
      still_step
      still_step
      still_step
      still_step
      still_call (turned (rshrunk_any _ _ (by omega) (by omega)))
      still_step
      refine wpStill_nil ?_
      clear wa
      go_wp2
      go_returns
      refine ⟨?_, by (repeat' (first | (with_reducible exact Below.refl _ _) | (with_reducible assumption) | (with_reducible refine below_drewN ?_ _) | (with_reducible refine below_new ?_ _) | (with_reducible refine Below.alloc ?_ ?_ _) | (with_reducible refine Below.drew ?_) | (with_reducible refine Below.setCell ?_ ?_ _) | (with_reducible apply below_at; (case k => (with_reducible assumption)); (case hB => omega)) | (with_reducible apply below_on; (with_reducible assumption)) | (go_size; done) | (with_reducible apply size_of)))⟩
      show _ = Ending.returned (.agg #[.int .i32 (more a), .int .i32 (shr b), .int .u8 (0)])
      rw [MA.out]
  · by_cases h : b + 1 ≤ 12
    all_goals
      have mb : more b = if b + 1 ≤ 12 then b + 1 else 12 := rfl
      first | rw [if_pos h] at mb | rw [if_neg h] at mb
      have MB := Lib.hid mb
      clear mb wa
      go_enter Try.func53, Try.ntmps53
      go_wp2
      refine region_still_tail 8 (by kernel_rfl) (by kernel_rfl) ?_; simp only [List.take_succ_cons, List.take_zero, List.drop_succ_cons, List.drop_zero]
      still_step
      still_step
      still_call (turned (rshrunk_any _ _ (by omega) (by omega)))
      still_step
      still_step
      still_step
      still_step
      still_step
      refine wpStill_nil ?_
      clear wb
      go_wp2
      go_returns
      refine ⟨?_, by (repeat' (first | (with_reducible exact Below.refl _ _) | (with_reducible assumption) | (with_reducible refine below_drewN ?_ _) | (with_reducible refine below_new ?_ _) | (with_reducible refine Below.alloc ?_ ?_ _) | (with_reducible refine Below.drew ?_) | (with_reducible refine Below.setCell ?_ ?_ _) | (with_reducible apply below_at; (case k => (with_reducible assumption)); (case hB => omega)) | (with_reducible apply below_on; (with_reducible assumption)) | (go_size; done) | (with_reducible apply size_of)))⟩
      show _ = Ending.returned (.agg #[.int .i32 (shr a), .int .i32 (more b), .int .u8 (1)])
      rw [MB.out]
end Go.Proofs.Ytkklmclnjmafaaa.cntW
