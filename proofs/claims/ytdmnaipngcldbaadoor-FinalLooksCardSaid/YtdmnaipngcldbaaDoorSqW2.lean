/- What squash.Row, and the reference's Row and Squash, return, by walks. -/
import Derived.Test.YtdmnaipngcldbaaDoorSqW
import Derived.Test.YtdmnaipngcldbaaDoorArr
import Derived.Deep.DeepMust
namespace Go.Proofs.YtdmnaipngcldbaaDoor.sqW
set_option maxRecDepth 100000
open Go.RowKit Go.Proofs.YtdmnaipngcldbaaDoor.base Go.Proofs.YtdmnaipngcldbaaDoor.sqP
set_option linter.unusedVariables false

/-- The row, as cells. -/
def rowsA : Array Value := (rows.map (Value.int .i32)).toArray
theorem rowsA_size : rowsA.size = 33 := rfl
theorem rowsA_one : ∀ v ∈ rowsA.toList, v.oneCell' = true := one_ints
  where one_ints : ∀ u ∈ (rows.map (Value.int .i32)).toArray.toList, u.oneCell' = true := by
          intro u hu
          obtain ⟨z, _, rfl⟩ := List.mem_map.1 (by simpa using hu)
          rfl
theorem rowsA_get (i : Nat) (h : i < 33) : rowsA[i]? = some (.int .i32 (rows.getD i 0)) := by
  have h' : i < rows.length := h
  simp [rowsA, List.getD_eq_getElem?_getD, List.getElem?_eq_getElem h']
theorem info33 : (Tryd.prog.info? 103).map (·.size) = some rowsA.size := by kernel_rfl

set_option maxHeartbeats 400000 in
theorem rrow_any (w : World) :
    Calls Tryd.prog 56 #[] w fun e w' => e = .returned (.agg rowsA) ∧ Below w.heap.size w w' := by
  go_enter Tryd.func56, Tryd.ntmps56
  go_wp2_with (first | (show wpList _ _ _ ({ dst := none, op := Op.store _ _ _, type := _, pos := _, after := _, guard := none } :: _) _ _; go_must (refine wpList_store_arr (P := Tryd.prog) rfl 103 (.tmp 0) (.tmp 1) rfl w.heap.size ?c4 rowsA ?c0 103 ?o1 ?c1 ?c2 rowsA_one info33 ?_); (case c4 => rfl); (case c0 => rfl); (case c1 => exact heap_alloc_new _ _); (case c2 => rfl); intro w1 hg1 hb1 hs1))
  exact bodyPost_ret (v := .agg rowsA) (results_cell_row rfl _ _ w.heap.size _ rowsA _ _ rfl hg1 Tryd.underlying103 rfl info33) rfl ⟨rfl, ((Below.refl _ _).alloc (Nat.le_refl _) _).trans hb1⟩


/-- The table's block. -/
def TabF (w : World) : Prop := Tab w ∧ ∃ t fr, w.heap[0]? = some (.cells rowsA t fr)
theorem TabF.below {w w' : World} (h : TabF w) (hb : Below w.heap.size w w') : TabF w' := by
  obtain ⟨h1, t, fr, h2⟩ := h
  exact ⟨h1.below hb, t, fr, by rw [hb.block 0 h1.1]; exact h2⟩

set_option maxHeartbeats 400000 in
theorem rsq_mid (d : Int) (w0 : World) (h1 : -2047 ≤ d) (h2 : d ≤ 2047) :
    Calls Tryd.prog 55 #[.int .i32 d] w0 fun e w' => e = .returned (.int .i32 (mid d)) ∧ Below w0.heap.size w0 w' := by
  have b1 := row_bd ((d + 2048) / 128).toNat (by omega)
  have b2 := row_bd ((d + 2048) / 128 + 1).toNat (by omega)
  have HM : Hid (mid d = (rows.getD ((d + 2048) / 128).toNat 0 * (128 - (d + 2048) % 128) + rows.getD ((d + 2048) / 128 + 1).toNat 0 * ((d + 2048) % 128) + 64) / 128) := Lib.hid (by
    unfold mid
    rw [show d / 128 + 16 = (d + 2048) / 128 from by omega, show d / 128 + 17 = (d + 2048) / 128 + 1 from by omega, show d % 128 = (d + 2048) % 128 from by omega])
  have HC : Hid (∀ (w : World) (g : Nat), w.heap[g]? = some (.cells rowsA 103 (0, 0)) → w.cell? ⟨g, ((d + 2048) / 128).toNat, none⟩ = some (.int .i32 (rows.getD ((d + 2048) / 128).toNat 0)) ∧ w.cell? ⟨g, ((d + 2048) / 128 + 1).toNat, none⟩ = some (.int .i32 (rows.getD ((d + 2048) / 128 + 1).toNat 0))) :=
    Lib.hid fun w g hg => ⟨by rw [cell_of_row w g _ _ _ _ hg]; exact rowsA_get _ (by omega), by rw [cell_of_row w g _ _ _ _ hg]; exact rowsA_get _ (by omega)⟩
  generalize rows.getD ((d + 2048) / 128).toNat 0 = x at *
  generalize rows.getD ((d + 2048) / 128 + 1).toNat 0 = y at *
  have b11 := b1.1
  have b12 := b1.2
  have b21 := b2.1
  have b22 := b2.2
  have m1 : 0 ≤ x * (128 - (d + 2048) % 128) := Int.mul_nonneg (by omega) (by omega)
  have m2 : x * (128 - (d + 2048) % 128) ≤ 4094 * 128 := Int.mul_le_mul b12 (by omega) (by omega) (by omega)
  have m3 : 0 ≤ y * ((d + 2048) % 128) := Int.mul_nonneg (by omega) (by omega)
  have m4 : y * ((d + 2048) % 128) ≤ 4094 * 128 := Int.mul_le_mul b22 (by omega) (by omega) (by omega)
  have i1 : 0 ≤ (d + 2048) / 128 := by omega
  have i2 : (d + 2048) / 128 < 33 := by omega
  have i3 : 0 ≤ (d + 2048) / 128 + 1 := by omega
  have i4 : (d + 2048) / 128 + 1 < 33 := by omega
  have i5 : IntKind.i32.wrap ((d + 2048) / 128 + 1) = (d + 2048) / 128 + 1 := by rw [IntKind.wrap_i32]; omega
  have i6 : IntKind.i32.wrap (128 - (d + 2048) % 128) = 128 - (d + 2048) % 128 := by rw [IntKind.wrap_i32]; omega
  have i7 : IntKind.i32.wrap (x * (128 - (d + 2048) % 128)) = x * (128 - (d + 2048) % 128) := by rw [IntKind.wrap_i32]; omega
  have i8 : IntKind.i32.wrap (y * ((d + 2048) % 128)) = y * ((d + 2048) % 128) := by rw [IntKind.wrap_i32]; omega
  clear b1 b2
  go_enter Tryd.func55, Tryd.ntmps55
  go_wp2_with (first | (go_at_call 56; refine (rrow_any _).mono ?_; rintro e w' ⟨rfl, hb⟩) | (show wpList _ _ _ ({ dst := none, op := Op.store _ _ _, type := _, pos := _, after := _, guard := none } :: _) _ _; go_must (refine wpList_store_arr (P := Tryd.prog) rfl 103 (.tmp 4) (.tmp 13) rfl w'.heap.size ?c4 rowsA ?c0 103 ?o1 ?c1 ?c2 rowsA_one info33 ?_); (case c4 => rfl); (case c0 => rfl); (case c1 => exact heap_alloc_new _ _); (case c2 => rfl); intro w1 hg1 hb1 hs1; have k1 := (HC.out w1 w'.heap.size hg1).1; have k2 := (HC.out w1 w'.heap.size hg1).2))
  have acc : Below w0.heap.size w0 w1 := (hb.alloc hb.size _).trans (hb1.mono hb.size)
  clear hg1 hb1 hs1 hb
  go_quiet (fail)
  go_wp2
  go_ret
  exact ⟨ret1 (by rw [HM.out]), below_drewN acc _⟩

set_option maxHeartbeats 400000 in
theorem rsq_any (d : Int) (w : World) :
    Calls Tryd.prog 55 #[.int .i32 d] w fun e w' => e = .returned (.int .i32 (sq d)) ∧ Below w.heap.size w w' := by
  by_cases c1 : 2047 < d
  · have hs : sq d = 4095 := by unfold sq; rw [if_pos (by omega)]
    rw [hs]
    clear hs
    go_enter Tryd.func55, Tryd.ntmps55
    go_wp2
    go_ret
    exact ⟨rfl, Below.refl _ _⟩
  · by_cases c2 : d < -2047
    · have hs : sq d = 0 := by unfold sq; rw [if_neg (by omega), if_pos c2]
      rw [hs]
      clear hs
      go_enter Tryd.func55, Tryd.ntmps55
      go_wp2
      go_ret
      exact ⟨rfl, Below.refl _ _⟩
    · rw [sq_in (by omega) (by omega)]
      exact rsq_mid d w (by omega) (by omega)

end Go.Proofs.YtdmnaipngcldbaaDoor.sqW
