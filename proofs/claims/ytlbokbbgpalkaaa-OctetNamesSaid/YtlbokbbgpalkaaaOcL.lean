/- The examples, by walks. -/
import Derived.Test.YtlbokbbgpalkaaaOcW6
namespace Go.Proofs.Ytlbokbbgpalkaaa.ocL
open Go.RowKit Go.Proofs.Ytlbokbbgpalkaaa.base Go.Proofs.Ytlbokbbgpalkaaa.ocP Go.Proofs.Ytlbokbbgpalkaaa.ocW
set_option linter.unusedVariables false
set_option linter.unusedSimpArgs false
theorem has_mark {w : World} {e : TypeId} {zs : List Int} {g : Nat} {fr : Nat × Nat} (hg : w.heap.size = g) : Has .u8 (w.alloc (.cells (zs.map (Value.int .u8)).toArray e fr)) (some ⟨g, 0, none⟩) zs := by
  refine .inr ⟨g, 0, rfl, by rw [← hg]; simp, fun i hi => ?_⟩
  rw [Joins.cell_alloc_mark_at w _ e fr g _ hg.symm, Nat.zero_add]
  simp [List.getD_eq_getElem?_getD, List.getElem?_eq_getElem hi]
set_option maxRecDepth 100000 in
set_option maxHeartbeats 4000000 in
theorem alive (w : World) : Calls Try.prog 18 #[] w fun e w' => e = .returned (.bool true) ∧ Below w.heap.size w w' := by
  have V1 : Hid (numE 258 2 = 0 ∧ numV 258 2 = [1, 2]) := Lib.hid (by decide +kernel)
  have V2 : Hid (numE 258 3 = 0 ∧ numV 258 3 = [0, 1, 2]) := Lib.hid (by decide +kernel)
  have V3 : Hid (numE 258 1 = 16) := Lib.hid (by decide +kernel)
  have V4 : Hid (strE [97, 98] 1 = 0 ∧ strV [97, 98] 1 = [2, 97, 98]) := Lib.hid (by decide +kernel)
  have V5 : Hid (newE [1, 2, 3] = 0 ∧ newB [1, 2, 3] = [1, 2, 3]) := Lib.hid (by decide +kernel)
  have V6 : Hid (rdE ⟨[1, 2, 3], 0⟩ 2 1000 = 0 ∧ rdN ⟨[1, 2, 3], 0⟩ 2 1000 = 258 ∧ (rdC ⟨[1, 2, 3], 0⟩ 2 1000).a = 2 ∧ (rdC ⟨[1, 2, 3], 0⟩ 2 1000).b = [1, 2, 3]) := Lib.hid (by decide +kernel)
  have V7 : Hid (cuE ⟨[1, 2, 3], 2⟩ = 0 ∧ leftV ⟨[1, 2, 3], 2⟩ = 1) := Lib.hid (by decide +kernel)
  have kc := fun (w : World) (C : Array Value) (n c g : Nat) (hg : g = w.heap.size) => Joins.run_convert_bytes_const_at (P := Try.prog) w 22 5 C n c g hg Try.underlying22 Try.underlying5
  go_enter Try.func18, Try.ntmps18
  go_wp2_with fail
  refine (Number_any 258 2 _ (by omega) (by omega)).mono ?_
  rintro e w1 ⟨A1, n1, c1, rfl, hn1, ho1, hb1⟩
  rw [V1.out.1]
  rw [V1.out.2] at hn1 ho1
  obtain rfl : n1 = 2 := hn1
  have H1 := Lib.hid ho1.has
  clear ho1
  go_wp2_with fail
  refine (Number_any 258 3 _ (by omega) (by omega)).mono ?_
  rintro e w2 ⟨A2, n2, c2, rfl, hn2, ho2, hb2⟩
  rw [V2.out.1]
  rw [V2.out.2] at hn2 ho2
  obtain rfl : n2 = 3 := hn2
  have H2 := Lib.hid ho2.has
  clear ho2
  go_wp2_with fail
  refine (Number_any 258 1 _ (by omega) (by omega)).mono ?_
  rintro e w3 ⟨A3, n3, c3, rfl, -, -, hb3⟩
  rw [V3.out]
  go_wp2_with fail
  refine (String_any [97, 98] 1 _ 2 2 _ (has_mark (zs := [97, 98]) (by simp)) rfl (by omega) (by omega)).mono ?_
  rintro e w4 ⟨A4, n4, c4, rfl, hn4, ho4, hb4⟩
  rw [V4.out.1]
  rw [V4.out.2] at hn4 ho4
  obtain rfl : n4 = 3 := hn4
  have H4 := Lib.hid ho4.has
  clear ho4 kc
  go_wp2_with fail
  refine (New_any [1, 2, 3] _ 3 3 _ (has_lit (zs := [1, 2, 3]) rfl (by simp [maxLen])) rfl (by omega) (by omega)).mono ?_
  rintro e w5 ⟨A5, n5, c5, rfl, hn5, ho5, hb5⟩
  rw [V5.out.1]
  rw [V5.out.2] at hn5 ho5
  obtain rfl : n5 = 3 := hn5
  have H5 := Lib.hid ho5.has
  have hc5 : 3 ≤ c5 := by obtain ⟨_, _, e, _, h⟩ := ho5.val; cases e; exact h
  clear ho5
  go_wp2_with fail
  refine (Read_any ⟨[1, 2, 3], 0⟩ A5 3 c5 2 1000 _ ⟨by decide, by decide, H5.out.below (by (repeat' (first | (with_reducible exact Below.refl _ _) | (with_reducible assumption) | (with_reducible refine below_drewN ?_ _) | (with_reducible refine below_new ?_ _) | (with_reducible refine Below.alloc ?_ ?_ _) | (with_reducible refine Below.drew ?_) | (with_reducible refine Below.setCell ?_ ?_ _) | (with_reducible apply below_at; (case k => (with_reducible assumption)); (case hB => omega)) | (with_reducible apply below_on; (with_reducible assumption)) | (go_size; done) | (with_reducible apply size_of)))) (Nat.le_refl _), rfl, hc5, by omega, by decide⟩ (by omega) (by omega)).mono ?_
  rintro e w6 ⟨A6, n6, c6, rfl, hn6, ho6, hb6⟩
  rw [V6.out.1, V6.out.2.1, V6.out.2.2.1]
  rw [V6.out.2.2.2] at hn6 ho6
  obtain rfl : n6 = 3 := hn6
  have H6 := Lib.hid ho6.has
  have hc6 : 3 ≤ c6 := by obtain ⟨_, _, e, _, h⟩ := ho6.val; cases e; exact h
  have K5 : Lies w6 w5.heap.size 29 [.slice A5 3 c5, .int .i64 0] := by (repeat' (first | (with_reducible assumption) | (with_reducible exact Lies.fresh _ _ _) | (with_reducible apply Lies.fresh_at; (first | (with_reducible rfl) | (simp; done))) | (with_reducible refine Lies.drew ?_) | (with_reducible refine Lies.drewN ?_ _) | (with_reducible refine Lies.alloc ?_ _) | (with_reducible apply Lies.past; case hb => (with_reducible assumption)) | (with_reducible apply Lies.keeps; (case k => (with_reducible assumption)); (case ht => decide)) | (with_reducible apply Lies.store3) | (with_reducible apply Lies.other; case hp => (first | omega | (simp; done) | (simp; omega)))))
  have HK5 := Lib.hid K5
  have lt5 := K5.lt
  clear ho6 K5
  go_wp2_with fail
  refine (Left_any ⟨[1, 2, 3], 2⟩ A6 3 c6 _ ⟨by decide, by decide, H6.out.below (by (repeat' (first | (with_reducible exact Below.refl _ _) | (with_reducible assumption) | (with_reducible refine below_drewN ?_ _) | (with_reducible refine below_new ?_ _) | (with_reducible refine Below.alloc ?_ ?_ _) | (with_reducible refine Below.drew ?_) | (with_reducible refine Below.setCell ?_ ?_ _) | (with_reducible apply below_at; (case k => (with_reducible assumption)); (case hB => omega)) | (with_reducible apply below_on; (with_reducible assumption)) | (go_size; done) | (with_reducible apply size_of)))) (Nat.le_refl _), rfl, hc6, by omega, by decide⟩).mono ?_
  rintro e w7 ⟨rfl, hb7⟩
  rw [V7.out.1, V7.out.2]
  go_wp2_with fail
  refine (same8_any A1 _ 2 2 c1 _ [1, 2] [1, 2] _ (H1.out.below (by (repeat' (first | (with_reducible exact Below.refl _ _) | (with_reducible assumption) | (with_reducible refine below_drewN ?_ _) | (with_reducible refine below_new ?_ _) | (with_reducible refine Below.alloc ?_ ?_ _) | (with_reducible refine Below.drew ?_) | (with_reducible refine Below.setCell ?_ ?_ _) | (with_reducible apply below_at; (case k => (with_reducible assumption)); (case hB => omega)) | (with_reducible apply below_on; (with_reducible assumption)) | (go_size; done) | (with_reducible apply size_of)))) (Nat.le_refl _)) rfl (has_lit (zs := [1, 2]) rfl (by simp [maxLen])) rfl (by omega) (by omega)).mono ?_
  rintro e x0 ⟨rfl, hx0⟩
  rw [show decide (([1, 2] : List Int) = [1, 2]) = true from rfl]
  go_wp2_with fail
  refine (same8_any A2 _ 3 3 c2 _ [0, 1, 2] [0, 1, 2] _ (H2.out.below (by (repeat' (first | (with_reducible exact Below.refl _ _) | (with_reducible assumption) | (with_reducible refine below_drewN ?_ _) | (with_reducible refine below_new ?_ _) | (with_reducible refine Below.alloc ?_ ?_ _) | (with_reducible refine Below.drew ?_) | (with_reducible refine Below.setCell ?_ ?_ _) | (with_reducible apply below_at; (case k => (with_reducible assumption)); (case hB => omega)) | (with_reducible apply below_on; (with_reducible assumption)) | (go_size; done) | (with_reducible apply size_of)))) (Nat.le_refl _)) rfl (has_lit (zs := [0, 1, 2]) rfl (by simp [maxLen])) rfl (by omega) (by omega)).mono ?_
  rintro e x1 ⟨rfl, hx1⟩
  rw [show decide (([0, 1, 2] : List Int) = [0, 1, 2]) = true from rfl]
  go_wp2_with fail
  refine (same8_any A4 _ 3 3 c4 _ [2, 97, 98] [2, 97, 98] _ (H4.out.below (by (repeat' (first | (with_reducible exact Below.refl _ _) | (with_reducible assumption) | (with_reducible refine below_drewN ?_ _) | (with_reducible refine below_new ?_ _) | (with_reducible refine Below.alloc ?_ ?_ _) | (with_reducible refine Below.drew ?_) | (with_reducible refine Below.setCell ?_ ?_ _) | (with_reducible apply below_at; (case k => (with_reducible assumption)); (case hB => omega)) | (with_reducible apply below_on; (with_reducible assumption)) | (go_size; done) | (with_reducible apply size_of)))) (Nat.le_refl _)) rfl (has_lit (zs := [2, 97, 98]) rfl (by simp [maxLen])) rfl (by omega) (by omega)).mono ?_
  rintro e x2 ⟨rfl, hx2⟩
  rw [show decide (([2, 97, 98] : List Int) = [2, 97, 98]) = true from rfl]
  go_wp2_with fail
  go_ret
  exact ⟨rfl, by (repeat' (first | (with_reducible exact Below.refl _ _) | (with_reducible assumption) | (with_reducible refine below_drewN ?_ _) | (with_reducible refine below_new ?_ _) | (with_reducible refine Below.alloc ?_ ?_ _) | (with_reducible refine Below.drew ?_) | (with_reducible refine Below.setCell ?_ ?_ _) | (with_reducible apply below_at; (case k => (with_reducible assumption)); (case hB => omega)) | (with_reducible apply below_on; (with_reducible assumption)) | (go_size; done) | (with_reducible apply size_of)))⟩
end Go.Proofs.Ytlbokbbgpalkaaa.ocL
