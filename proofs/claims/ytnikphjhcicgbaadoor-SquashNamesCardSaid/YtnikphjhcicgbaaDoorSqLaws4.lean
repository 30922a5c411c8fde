/- The chapter's examples of layer 4 (squash), by walks. -/
import Derived.Test.YtnikphjhcicgbaaDoorSqLaws3
namespace Go.Proofs.YtnikphjhcicgbaaDoor.sqL
open Go.RowKit Go.Proofs.YtnikphjhcicgbaaDoor.base Go.Proofs.YtnikphjhcicgbaaDoor.sqP Go.Proofs.YtnikphjhcicgbaaDoor.sqW
set_option linter.unusedVariables false

theorem nval0 : sq 2147483647 = 4095 := by decide +kernel
theorem nval1 : sq (-2147483648) = 0 := by decide +kernel
theorem nval2 : sq (-2048) = 0 := by decide +kernel
theorem nval3 : st 2147483647 = 2047 := by decide +kernel
theorem nval4 : st (-2147483648) = -2047 := by decide +kernel
theorem nval5 : sq (-1) = 2043 := by decide +kernel
theorem nval6 : sq 1 = 2051 := by decide +kernel
theorem nval7 : sq (-128) = 1546 := by decide +kernel
theorem nval8 : sq 1920 = 4093 := by decide +kernel
theorem nval9 : sq (-1920) = 2 := by decide +kernel
theorem nval10 : st 2048 = 1 := by decide +kernel
theorem nval11 : st 2046 = 0 := by decide +kernel
theorem nval12 : st 2549 = 128 := by decide +kernel
theorem nval13 : st 4094 = 1984 := by decide +kernel
theorem nval14 : st 2 = -1984 := by decide +kernel

set_option maxRecDepth 100000 in
set_option maxHeartbeats 8000000 in
theorem names (w : World) (hF : TabF w) :
    Calls Tryd.prog 3 #[] w fun e w' => e = .returned (.bool true) ∧ Below w.heap.size w w' := by
  have hT0 := hF.1
  have HC : Hid (∀ (w : World) (g : Nat), w.heap[g]? = some (.cells rowsA 22 (0, 0)) → w.cell? ⟨g, 0, none⟩ = some (.int .i32 1) ∧ w.cell? ⟨g, 16, none⟩ = some (.int .i32 2047) ∧ w.cell? ⟨g, 32, none⟩ = some (.int .i32 4094)) :=
    Lib.hid fun w g hg => ⟨by rw [cell_of_row w g _ _ _ _ hg]; rfl, by rw [cell_of_row w g _ _ _ _ hg]; rfl, by rw [cell_of_row w g _ _ _ _ hg]; rfl⟩
  have v0 := nval0
  have v1 := nval1
  have v2 := nval2
  have v3 := nval3
  have v4 := nval4
  have v5 := nval5
  have v6 := nval6
  have v7 := nval7
  have v8 := nval8
  have v9 := nval9
  have v10 := nval10
  have v11 := nval11
  have v12 := nval12
  have v13 := nval13
  have v14 := nval14
  go_enter Tryd.func3, Tryd.ntmps3
  go_wp2_with (first | (go_at_call 10; refine (row_any _ hF).mono ?_; rintro e w' ⟨rfl, hb⟩) | (show wpList _ _ _ ({ dst := none, op := Op.store _ _ _, type := _, pos := _, after := _, guard := none } :: _) _ _; go_must (refine wpList_store_arr (P := Tryd.prog) rfl 22 (.tmp 1) (.tmp 5) rfl w'.heap.size ?c4 rowsA ?c0 22 ?o1 ?c1 ?c2 rowsA_one info33 ?_); (case c4 => rfl); (case c0 => rfl); (case c1 => exact heap_alloc_new _ _); (case c2 => rfl); intro w1 hg1 hb1 hs1))
  have hT : Tab w1 := (hT0.below hb).below ((((Below.refl _ _).alloc (Nat.le_refl _) _).trans hb1))
  have acc : Below w.heap.size w w1 := (hb.alloc hb.size _).trans (hb1.mono hb.size)
  have HG := Lib.hid hg1
  have hB := Below.refl w1.heap.size w1
  clear hF hT0 hb hb1 hs1 hg1
  generalize w'.heap.size = g at *
  have c0 := (HC.out _ g HG.out).1
  have c16 := (HC.out _ g HG.out).2.1
  have c32 := (HC.out _ g HG.out).2.2
  go_wp2_with (first | (go_at_call 11; refine (sq_b _ _ hT).mono ?_; rintro e w' ⟨rfl, hb⟩; replace hT := hT.below hb; replace hB := hB.trans (hb.mono hB.size); replace HG := Lib.hid ((hb.block g (lt_of_block HG.out)).trans HG.out); clear c0 c16 c32; have c0 := (HC.out _ g HG.out).1; have c16 := (HC.out _ g HG.out).2.1; have c32 := (HC.out _ g HG.out).2.2; clear hb) | (go_at_call 12; refine (st_any _ _ hT).mono ?_; rintro e w' ⟨rfl, hb⟩; replace hT := hT.below hb; replace hB := hB.trans (hb.mono hB.size); replace HG := Lib.hid ((hb.block g (lt_of_block HG.out)).trans HG.out); clear c0 c16 c32; have c0 := (HC.out _ g HG.out).1; have c16 := (HC.out _ g HG.out).2.1; have c32 := (HC.out _ g HG.out).2.2; clear hb) | (go_at_call 13; refine (alive _ hT).mono ?_; rintro e w' ⟨rfl, hb⟩; replace hT := hT.below hb; replace hB := hB.trans (hb.mono hB.size); replace HG := Lib.hid ((hb.block g (lt_of_block HG.out)).trans HG.out); clear c0 c16 c32; have c0 := (HC.out _ g HG.out).1; have c16 := (HC.out _ g HG.out).2.1; have c32 := (HC.out _ g HG.out).2.2; clear hb))
  go_ret
  exact ⟨rfl, acc.trans (hB.mono acc.size)⟩
end Go.Proofs.YtnikphjhcicgbaaDoor.sqL
