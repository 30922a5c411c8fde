/- More statements of layer 4 (squash), by walks: the places of the row. -/
import Derived.Test.YtnikphjhcicgbaaDoorSqLaws2
import Derived.Deep.DeepMust
namespace Go.Proofs.YtnikphjhcicgbaaDoor.sqL
open Go.RowKit Go.Proofs.YtnikphjhcicgbaaDoor.base Go.Proofs.YtnikphjhcicgbaaDoor.sqP Go.Proofs.YtnikphjhcicgbaaDoor.sqW
set_option linter.unusedVariables false

theorem rows_rise : ∀ i, i < 32 → rows.getD i 0 ≤ rows.getD (i + 1) 0 := by decide +kernel
theorem between (x y k : Int) (h : x ≤ y) (k1 : 0 ≤ k) (k2 : k ≤ 127) : x ≤ (x * (128 - k) + y * k + 64) / 128 ∧ (x * (128 - k) + y * k + 64) / 128 ≤ y := by
  obtain ⟨z, rfl⟩ : ∃ z, y = x + z := ⟨y - x, by omega⟩
  have hz : 0 ≤ z := by omega
  have e : x * (128 - k) + (x + z) * k = x * 128 + z * k := by rw [Int.mul_sub, Int.add_mul]; omega
  have m1 : 0 ≤ z * k := Int.mul_nonneg hz k1
  have m2 : z * k ≤ z * 127 := Int.mul_le_mul_of_nonneg_left k2 hz
  rw [e]
  omega
theorem at_place (i : Nat) (k : Int) (h1 : 1 ≤ i) (h2 : i ≤ 31) (k1 : 0 ≤ k) (k2 : k ≤ 127) : rows.getD i 0 ≤ sq (128 * ((i : Int) - 16) + k) ∧ sq (128 * ((i : Int) - 16) + k) ≤ rows.getD (i + 1) 0 := by
  rw [sq_in (by omega) (by omega)]
  unfold mid
  have e1 : ((128 * ((i : Int) - 16) + k) / 128 + 16).toNat = i := by omega
  have e2 : ((128 * ((i : Int) - 16) + k) / 128 + 17).toNat = i + 1 := by omega
  have e3 : (128 * ((i : Int) - 16) + k) % 128 = k := by omega
  rw [e1, e2, e3]
  exact between _ _ k (rows_rise i (by omega)) k1 k2
theorem at_place0 (i : Nat) (h1 : 1 ≤ i) (h2 : i ≤ 31) : sq (128 * ((i : Int) - 16)) = rows.getD i 0 := by
  rw [sq_in (by omega) (by omega)]
  unfold mid
  have e1 : (128 * ((i : Int) - 16) / 128 + 16).toNat = i := by omega
  have e3 : 128 * ((i : Int) - 16) % 128 = 0 := by omega
  rw [e1, e3]
  omega

set_option maxHeartbeats 2000000 in
theorem places_in (i : Nat) (k : Int) (w : World) (h1 : 1 ≤ i) (h2 : i ≤ 31) (k1 : 0 ≤ k) (k2 : k ≤ 127) (hF : TabF w) :
    Calls Tryd.prog 9 #[.int .i64 i, .int .i32 k] w fun e w' => e = .returned (.bool true) ∧ Below w.heap.size w w' := by
  have hT := hF.1
  have P0 := Lib.hid (at_place0 i h1 h2)
  have P1 := (at_place i k h1 h2 k1 k2).1
  have P2 := (at_place i k h1 h2 k1 k2).2
  have HC : Hid (∀ (w : World) (g : Nat), w.heap[g]? = some (.cells rowsA 22 (0, 0)) → w.cell? ⟨g, i, none⟩ = some (.int .i32 (rows.getD i 0)) ∧ w.cell? ⟨g, i + 1, none⟩ = some (.int .i32 (rows.getD (i + 1) 0))) :=
    Lib.hid fun w g hg => ⟨by rw [cell_of_row w g _ _ _ _ hg]; exact rowsA_get _ (by omega), by rw [cell_of_row w g _ _ _ _ hg]; exact rowsA_get _ (by omega)⟩
  generalize rows.getD i 0 = x at *
  generalize rows.getD (i + 1) 0 = y at *
  have i1 : (i : Int) < 33 := by omega
  have i3 : (i : Int) + 1 < 33 := by omega
  go_enter Tryd.func9, Tryd.ntmps9
  go_wp2_with (first | (go_at_call 10; refine (row_any _ hF).mono ?_; rintro e w' ⟨rfl, hb⟩) | (show wpList _ _ _ ({ dst := none, op := Op.store _ _ _, type := _, pos := _, after := _, guard := none } :: _) _ _; go_must (refine wpList_store_arr (P := Tryd.prog) rfl 22 (.tmp 5) (.tmp 23) rfl w'.heap.size ?c4 rowsA ?c0 22 ?o1 ?c1 ?c2 rowsA_one info33 ?_); (case c4 => rfl); (case c0 => rfl); (case c1 => exact heap_alloc_new _ _); (case c2 => rfl); intro w1 hg1 hb1 hs1))
  have hT1 : Tab w1 := (hT.below hb).below ((((Below.refl _ _).alloc (Nat.le_refl _) _).trans hb1))
  have acc : Below w.heap.size w w1 := (hb.alloc hb.size _).trans (hb1.mono hb.size)
  have HG := Lib.hid hg1
  have c1 := (HC.out w1 _ hg1).1
  have HQ := Lib.hid (fun n => sq_any (128 * ((i : Int) - 16)) (w1.drewN n) (hT1.drewN n))
  clear hT hF hb hb1 hs1 hg1
  have e0 : (sq (128 * ((i : Int) - 16)) != x) = false := by rw [P0.out]; simp
  have HT1 := Lib.hid (fun n => hT1.drewN n)
  have hlt : w'.heap.size < w1.heap.size := lt_of_block HG.out
  have HL := Lib.hid hlt
  clear hT1 hlt
  go_quiet ((go_at_call 11; exact Calls.quiet_of (HQ.out _)))
  clear HQ
  have HA := Lib.hid (fun n => below_drewN acc n)
  clear acc
  go_wp2_with (first | (go_at_call 11; refine (sq_b _ _ (HT1.out _)).mono ?_; rintro e w2 ⟨rfl, hb⟩; have hg2 : w2.heap[w'.heap.size]? = some (.cells rowsA 22 (0, 0)) := (hb.block w'.heap.size HL.out).trans HG.out; have c3 := (HC.out w2 _ hg2).1; have c4 := (HC.out w2 _ hg2).2; have acc := (HA.out _).trans (hb.mono (HA.out _).size); have hT := (HT1.out _).below hb; clear hb hg2) | (go_at_call 13; refine (alive _ hT).mono ?_; rintro e w' ⟨rfl, hb⟩; replace acc := acc.trans (hb.mono acc.size); clear hb))
  go_ret
  exact ⟨rfl, acc⟩

set_option maxHeartbeats 2000000 in
theorem places (i k : Int) (w : World) (i1 : -9223372036854775808 ≤ i) (i2 : i ≤ 9223372036854775807) (k1 : -2147483648 ≤ k) (k2 : k ≤ 2147483647) (hF : TabF w) :
    Calls Tryd.prog 9 #[.int .i64 i, .int .i32 k] w fun e w' => e = .returned (.bool true) ∧ Below w.heap.size w w' := by
  have hT := hF.1
  have acc := Below.refl w.heap.size w
  have hin : i < 1 ∨ 1 ≤ i ∧ 31 < i ∨ 1 ≤ i ∧ i ≤ 31 ∧ k < 0 ∨ 1 ≤ i ∧ i ≤ 31 ∧ 0 ≤ k ∧ 127 < k ∨ 1 ≤ i ∧ i ≤ 31 ∧ 0 ≤ k ∧ k ≤ 127 := by omega
  rcases hin with q | ⟨q0, q⟩ | ⟨q0, q1, q⟩ | ⟨q0, q1, q2, q⟩ | ⟨q0, q1, q2, q⟩
  · go_enter Tryd.func9, Tryd.ntmps9
    go_wp2_with (first | (go_at_call 13; refine (alive _ hT).mono ?_; rintro e w' ⟨rfl, hb⟩; replace acc := acc.trans (hb.mono acc.size); clear hb))
    go_ret
    exact ⟨rfl, acc⟩
  · go_enter Tryd.func9, Tryd.ntmps9
    go_wp2_with (first | (go_at_call 13; refine (alive _ hT).mono ?_; rintro e w' ⟨rfl, hb⟩; replace acc := acc.trans (hb.mono acc.size); clear hb))
    go_ret
    exact ⟨rfl, acc⟩
  · go_enter Tryd.func9, Tryd.ntmps9
    go_wp2_with (first | (go_at_call 13; refine (alive _ hT).mono ?_; rintro e w' ⟨rfl, hb⟩; replace acc := acc.trans (hb.mono acc.size); clear hb))
    go_ret
    exact ⟨rfl, acc⟩
  · go_enter Tryd.func9, Tryd.ntmps9
    go_wp2_with (first | (go_at_call 13; refine (alive _ hT).mono ?_; rintro e w' ⟨rfl, hb⟩; replace acc := acc.trans (hb.mono acc.size); clear hb))
    go_ret
    exact ⟨rfl, acc⟩
  · obtain ⟨m, rfl⟩ := Int.eq_ofNat_of_zero_le (by omega : 0 ≤ i)
    exact places_in m k w (by omega) (by omega) q2 q hF
end Go.Proofs.YtnikphjhcicgbaaDoor.sqL
