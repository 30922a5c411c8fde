/- More statements of layer 4 (squash), by walks. -/
import Derived.Test.YtnikphjhcicgbaaDoorSqLaws
import Derived.Test.YtnikphjhcicgbaaDoorSqW2
import Derived.Lib.LaidTab
namespace Go.Proofs.YtnikphjhcicgbaaDoor.sqL
open Go.RowKit Go.Proofs.YtnikphjhcicgbaaDoor.base Go.Proofs.YtnikphjhcicgbaaDoor.sqP Go.Proofs.YtnikphjhcicgbaaDoor.sqW
set_option linter.unusedVariables false

theorem eql_rows (w : World) : (binOp .eql 22 (.agg rowsA) (.agg rowsA)).run Tryd.prog w = .ok (.bool true) w := by kernel_rfl

set_option maxHeartbeats 1000000 in
theorem makes (d : Int) (w : World) (d1 : -2147483648 ≤ d) (d2 : d ≤ 2147483647) (hT : TabF w) :
    Calls Tryd.prog 4 #[.int .i32 d] w fun e w' => e = .returned (.bool true) ∧ Below w.heap.size w w' := by
  have acc := Below.refl w.heap.size w
  have he := eql_rows
  go_enter Tryd.func4, Tryd.ntmps4
  go_wp2_with (first | (go_at_call 11; refine (sq_b _ _ hT.1).mono ?_; rintro e w' ⟨rfl, hb⟩; replace hT := hT.below hb; replace acc := acc.trans (hb.mono acc.size); clear hb) | (go_at_call 14; refine (rsq_any _ _).mono ?_; rintro e w' ⟨rfl, hb⟩; replace hT := hT.below hb; replace acc := acc.trans (hb.mono acc.size); clear hb) | (go_at_call 10; refine (row_any _ hT).mono ?_; rintro e w' ⟨rfl, hb⟩; replace hT := hT.below hb; replace acc := acc.trans (hb.mono acc.size); clear hb) | (go_at_call 15; refine (rrow_any _).mono ?_; rintro e w' ⟨rfl, hb⟩; replace hT := hT.below hb; replace acc := acc.trans (hb.mono acc.size); clear hb))
  go_ret
  exact ⟨rfl, acc⟩

set_option maxHeartbeats 1000000 in
theorem stretches (p : Int) (w : World) (p1 : -2147483648 ≤ p) (p2 : p ≤ 2147483647) (hT : Tab w) :
    Calls Tryd.prog 5 #[.int .i32 p] w fun e w' => e = .returned (.bool true) ∧ Below w.heap.size w w' := by
  have acc := Below.refl w.heap.size w
  go_enter Tryd.func5, Tryd.ntmps5
  go_wp2_with (first | (go_at_call 12; refine (st_any _ _ hT).mono ?_; rintro e w' ⟨rfl, hb⟩; replace acc := acc.trans (hb.mono acc.size); clear hb) | (go_at_call 16; refine (rst_any _ _).mono ?_; rintro e w' ⟨rfl, hb⟩; replace acc := acc.trans (hb.mono acc.size); clear hb))
  go_ret
  exact ⟨rfl, acc⟩

theorem tabF_of {W : World} (hg : Tryd.prog.globalNamed "bitloft/squash.row" = some 0) (t : Lib.TabIs Tryd.prog W "bitloft/squash.row" .i32 rows) : TabF W := by
  refine ⟨⟨lt_of_cell (t.cell hg 0 (by decide)), fun i hi => t.cell hg i hi⟩, ?_⟩
  unfold Lib.TabIs World.var? at t
  rw [hg] at t
  simp only [Option.bind_some] at t
  split at t
  · rename_i cs ty fr h
    exact ⟨ty, fr, by rw [h]; injection t with t; rw [t]; rfl⟩
  · cases t
end Go.Proofs.YtnikphjhcicgbaaDoor.sqL
