/- OctetNames, call by call. -/
import Derived.Test.YtlbokbbgpalkaaaOcL
import Derived.Test.YtlbokbbgpalkaaaOcW9
import Derived.Test.YtlbokbbgpalkaaaOcW8
import Derived.Test.YtlbokbbgpalkaaaMk8
namespace Go.Proofs.Ytlbokbbgpalkaaa.ocL
open Go.RowKit Go.Proofs.Ytlbokbbgpalkaaa.base Go.Proofs.Ytlbokbbgpalkaaa.ocP Go.Proofs.Ytlbokbbgpalkaaa.ocW
set_option linter.unusedVariables false
set_option linter.unusedSimpArgs false
theorem mz20001 (w : World) : (Instr.makeSlice 22 (.int .i64 20001) (.int .i64 20001)).run Try.prog w = .ok (.slice (some ⟨w.heap.size, 0, none⟩) 20001 20001) (w.alloc (.cells (zC 20001) 5)) := mkz 20001 (by omega) w
theorem mz50001 (w : World) : (Instr.makeSlice 22 (.int .i64 50001) (.int .i64 50001)).run Try.prog w = .ok (.slice (some ⟨w.heap.size, 0, none⟩) 50001 50001) (w.alloc (.cells (zC 50001) 5)) := mkz 50001 (by omega) w
theorem mz256 (w : World) : (Instr.makeSlice 22 (.int .i64 256) (.int .i64 256)).run Try.prog w = .ok (.slice (some ⟨w.heap.size, 0, none⟩) 256 256) (w.alloc (.cells (zC 256) 5)) := mkz 256 (by omega) w
theorem mz3 (w : World) : (Instr.makeSlice 22 (.int .i64 3) (.int .i64 3)).run Try.prog w = .ok (.slice (some ⟨w.heap.size, 0, none⟩) 3 3) (w.alloc (.cells (zC 3) 5)) := mkz 3 (by omega) w
set_option maxRecDepth 100000 in
set_option maxHeartbeats 40000000 in
theorem names (w : World) : Calls Try.prog 3 #[] w fun e w' => e = .returned (.bool true) ∧ Below w.heap.size w w' := by
  have V1 : Hid (numE 18446744073709551615 8 = 0 ∧ numV 18446744073709551615 8 = [255, 255, 255, 255, 255, 255, 255, 255]) := Lib.hid (by decide +kernel)
  have V2 : Hid (numE 18446744073709551615 7 = 16) := Lib.hid (by decide +kernel)
  have V3 : Hid (numE 0 0 = 2) := Lib.hid (by decide +kernel)
  have V4 : Hid (numE 0 9 = 2) := Lib.hid (by decide +kernel)
  have V5 : Hid (strE (List.replicate 20001 (0 : Int)) 9 = 2) := Lib.hid (by rw [strE, List.length_replicate]; decide +kernel)
  have V6 : Hid (strE (List.replicate 20001 (0 : Int)) 1 = 4) := Lib.hid (by rw [strE, List.length_replicate]; decide +kernel)
  have V7 : Hid (strE (List.replicate 256 (0 : Int)) 1 = 16) := Lib.hid (by rw [strE, List.length_replicate]; decide +kernel)
  have V8 : Hid (strE [] 3 = 0 ∧ strV [] 3 = [0, 0, 0]) := Lib.hid (by decide +kernel)
  have V9 : Hid (newE (List.replicate 50001 (0 : Int)) = 4) := Lib.hid (by rw [newE, List.length_replicate]; decide +kernel)
  have V10 : Hid (rdE (⟨[1], 2⟩ : Cu) 0 0 = 8) := Lib.hid (by decide +kernel)
  have V11 : Hid (tkE (⟨[1], 2⟩ : Cu) (-1) = 8) := Lib.hid (by decide +kernel)
  have V12 : Hid (rsE (⟨[1], 2⟩ : Cu) 0 (-1) = 8) := Lib.hid (by decide +kernel)
  have V13 : Hid (cuE ⟨[], -1⟩ = 8 ∧ leftV ⟨[], -1⟩ = 0) := Lib.hid (by decide +kernel)
  have V14 : Hid (rdE (⟨[9, 1, 7], 1⟩ : Cu) 3 0 = 18) := Lib.hid (by decide +kernel)
  have V15 : Hid (rdE (⟨[9, 1, 7], 1⟩ : Cu) 9 0 = 2) := Lib.hid (by decide +kernel)
  have V16 : Hid (rdE (⟨[9, 1, 7], 1⟩ : Cu) 1 0 = 16) := Lib.hid (by decide +kernel)
  have V17 : Hid (tkE (⟨[9, 1, 7], 1⟩ : Cu) 3 = 18) := Lib.hid (by decide +kernel)
  have V18 : Hid (tkE (⟨[9, 1, 7], 1⟩ : Cu) (-1) = 2) := Lib.hid (by decide +kernel)
  have V19 : Hid (tkE (⟨[9, 1, 7], 1⟩ : Cu) 0 = 0 ∧ (tkC (⟨[9, 1, 7], 1⟩ : Cu) 0).a = 1 ∧ (tkC (⟨[9, 1, 7], 1⟩ : Cu) 0).b = [9, 1, 7] ∧ tkV (⟨[9, 1, 7], 1⟩ : Cu) 0 = []) := Lib.hid (by decide +kernel)
  have V20 : Hid (rsE (⟨[9, 1, 7], 1⟩ : Cu) 1 (-1) = 2) := Lib.hid (by decide +kernel)
  have V21 : Hid (rsE (⟨[9, 1, 7], 1⟩ : Cu) 3 9 = 18) := Lib.hid (by decide +kernel)
  have V22 : Hid (rsE (⟨[9, 1, 7], 1⟩ : Cu) 1 0 = 16) := Lib.hid (by decide +kernel)
  have V23 : Hid (rsE (⟨[9, 1, 7], 1⟩ : Cu) 2 999 = 18) := Lib.hid (by decide +kernel)
  have V24 : Hid (rsE (⟨[9, 1, 7], 1⟩ : Cu) 1 1 = 0 ∧ (rsC (⟨[9, 1, 7], 1⟩ : Cu) 1 1).a = 3 ∧ (rsC (⟨[9, 1, 7], 1⟩ : Cu) 1 1).b = [9, 1, 7] ∧ rsV (⟨[9, 1, 7], 1⟩ : Cu) 1 1 = [7]) := Lib.hid (by decide +kernel)
  have m1 := mz20001
  have m2 := mz50001
  have m3 := mz256
  have m4 := mz3
  go_enter Try.func3, Try.ntmps3
  go_wp2_with fail
  refine (Number_any 18446744073709551615 8 _ (by omega) (by omega)).mono ?_
  rintro e w1 ⟨A1, n1, c1, rfl, hn1, ho1, hb1⟩
  rw [V1.out.1]
  rw [V1.out.2] at hn1 ho1
  obtain rfl : n1 = 8 := hn1
  have H1 := Lib.hid ho1.has
  clear ho1
  go_wp2_with fail
  refine (Number_any 18446744073709551615 7 _ (by omega) (by omega)).mono ?_
  rintro e w2 ⟨A2, n2, c2, rfl, hn2, ho2, hb2⟩
  rw [V2.out]
  clear hn2 ho2
  go_wp2_with fail
  refine (Number_any 0 0 _ (by omega) (by omega)).mono ?_
  rintro e w3 ⟨A3, n3, c3, rfl, hn3, ho3, hb3⟩
  rw [V3.out]
  clear hn3 ho3
  go_wp2_with fail
  refine (Number_any 0 9 _ (by omega) (by omega)).mono ?_
  rintro e w4 ⟨A4, n4, c4, rfl, hn4, ho4, hb4⟩
  rw [V4.out]
  clear hn4 ho4
  go_wp2_with fail
  refine (String_any (List.replicate 20001 (0 : Int)) 9 _ 20001 20001 _ (has_zC _ _ 20001 (by simp [maxLen]) rfl) (List.length_replicate ..) (by omega) (by omega)).mono ?_
  rintro e w5 ⟨A5, n5, c5, rfl, hn5, ho5, hb5⟩
  rw [V5.out]
  clear hn5 ho5
  go_wp2_with fail
  refine (String_any (List.replicate 20001 (0 : Int)) 1 _ 20001 20001 _ (has_zC _ _ 20001 (by simp [maxLen]) rfl) (List.length_replicate ..) (by omega) (by omega)).mono ?_
  rintro e w6 ⟨A6, n6, c6, rfl, hn6, ho6, hb6⟩
  rw [V6.out]
  clear hn6 ho6
  go_wp2_with fail
  refine (String_any (List.replicate 256 (0 : Int)) 1 _ 256 256 _ (has_zC _ _ 256 (by simp [maxLen]) rfl) (List.length_replicate ..) (by omega) (by omega)).mono ?_
  rintro e w7 ⟨A7, n7, c7, rfl, hn7, ho7, hb7⟩
  rw [V7.out]
  clear hn7 ho7
  go_wp2_with fail
  refine (String_any [] 3 none 0 0 _ (.inl rfl) rfl (by omega) (by omega)).mono ?_
  rintro e w8 ⟨A8, n8, c8, rfl, hn8, ho8, hb8⟩
  rw [V8.out.1]
  rw [V8.out.2] at hn8 ho8
  obtain rfl : n8 = 3 := hn8
  have H8 := Lib.hid ho8.has
  clear ho8
  go_wp2_with fail
  refine (New_any (List.replicate 50001 (0 : Int)) _ 50001 50001 _ (has_zC _ _ 50001 (by simp [maxLen]) rfl) (List.length_replicate ..) (by omega) (by omega)).mono ?_
  rintro e w9 ⟨A9, n9, c9, rfl, hn9, ho9, hb9⟩
  rw [V9.out]
  clear hn9 ho9
  obtain ⟨wa, hwa⟩ : ∃ wa, w9.alloc (.cells #[.slice A9 n9 c9, .int .i64 0] 29) = wa := ⟨_, rfl⟩
  have ba : Below w9.heap.size w9 wa := by rw [← hwa]; exact (Below.refl _ _).alloc (Nat.le_refl _) _
  have HWA := Lib.hid hwa
  clear hwa
  go_wp2_with fail
  rw [HWA.out]
  have HB : Hid (Has .u8 (wa.alloc (.cells #[.int .u8 1] 5)) (some ⟨w9.heap.size + 1, 0, none⟩) [1]) := Lib.hid (has_lit (zs := [1]) (by rw [← HWA.out]; simp) (by simp [maxLen]))
  have LB : Hid (Lies ((wa.alloc (.cells #[.int .u8 1] 5)).alloc (.cells #[.slice (some ⟨w9.heap.size + 1, 0, none⟩) 1 1, .int .i64 2] 29)) (w9.heap.size + 2) 29 [.slice (some ⟨w9.heap.size + 1, 0, none⟩) 1 1, .int .i64 2]) := Lib.hid (Lies.fresh_at (by rw [← HWA.out]; simp))
  refine (Read_any ⟨[1], 2⟩ (some ⟨w9.heap.size + 1, 0, none⟩) 1 1 0 0 _ ⟨by decide, by decide, (HB.out.below (by (repeat' (first | (with_reducible exact Below.refl _ _) | (with_reducible assumption) | (with_reducible refine below_drewN ?_ _) | (with_reducible refine below_new ?_ _) | (with_reducible refine Below.alloc ?_ ?_ _) | (with_reducible refine Below.drew ?_) | (with_reducible refine Below.setCell ?_ ?_ _) | (with_reducible apply below_at; (case k => (with_reducible assumption)); (case hB => omega)) | (with_reducible apply below_on; (with_reducible assumption)) | (go_size; done) | (with_reducible apply size_of)))) (Nat.le_refl _)), rfl, by omega, by omega, by decide⟩ (by omega) (by omega)).mono ?_
  rintro e w10 ⟨A10, n10, c10, rfl, hn10, ho10, hb10⟩
  rw [V10.out]
  clear hn10 ho10
  generalize (rdC ⟨[1], 2⟩ 0 0).a = z10
  generalize rdN ⟨[1], 2⟩ 0 0 = y10
  have K10 : Lies w10 (w9.heap.size + 2) 29 [.slice (some ⟨w9.heap.size + 1, 0, none⟩) 1 1, .int .i64 2] := by have := LB.out; (repeat' (first | (with_reducible assumption) | (with_reducible exact Lies.fresh _ _ _) | (with_reducible apply Lies.fresh_at; (first | (with_reducible rfl) | (simp; done))) | (with_reducible refine Lies.drew ?_) | (with_reducible refine Lies.drewN ?_ _) | (with_reducible refine Lies.alloc ?_ _) | (with_reducible apply Lies.past; case hb => (with_reducible assumption)) | (with_reducible apply Lies.keeps; (case k => (with_reducible assumption)); (case ht => decide)) | (with_reducible apply Lies.store3) | (with_reducible apply Lies.other; case hp => (first | omega | (simp; done) | (simp; omega)))))
  have HK10 := Lib.hid K10
  obtain ⟨p10, q10, -, -⟩ := K10.two
  have lt10 := K10.lt
  clear K10
  go_wp2_with fail
  refine (Take_any ⟨[1], 2⟩ (some ⟨w9.heap.size + 1, 0, none⟩) 1 1 (-1) _ ⟨by decide, by decide, (HB.out.below (by (repeat' (first | (with_reducible exact Below.refl _ _) | (with_reducible assumption) | (with_reducible refine below_drewN ?_ _) | (with_reducible refine below_new ?_ _) | (with_reducible refine Below.alloc ?_ ?_ _) | (with_reducible refine Below.drew ?_) | (with_reducible refine Below.setCell ?_ ?_ _) | (with_reducible apply below_at; (case k => (with_reducible assumption)); (case hB => omega)) | (with_reducible apply below_on; (with_reducible assumption)) | (go_size; done) | (with_reducible apply size_of)))) (Nat.le_refl _)), rfl, by omega, by omega, by decide⟩ (by omega) (by omega)).mono ?_
  rintro e w11 ⟨A11, n11, c11, B11, m11, d11, rfl, hn11, hm11, ho11, hp11, hb11⟩
  rw [V11.out]
  clear hn11 hm11 ho11 hp11
  generalize (tkC ⟨[1], 2⟩ (-1)).a = z11
  have K11 : Lies w11 (w9.heap.size + 2) 29 [.slice (some ⟨w9.heap.size + 1, 0, none⟩) 1 1, .int .i64 2] := by have := HK10.out; (repeat' (first | (with_reducible assumption) | (with_reducible exact Lies.fresh _ _ _) | (with_reducible apply Lies.fresh_at; (first | (with_reducible rfl) | (simp; done))) | (with_reducible refine Lies.drew ?_) | (with_reducible refine Lies.drewN ?_ _) | (with_reducible refine Lies.alloc ?_ _) | (with_reducible apply Lies.past; case hb => (with_reducible assumption)) | (with_reducible apply Lies.keeps; (case k => (with_reducible assumption)); (case ht => decide)) | (with_reducible apply Lies.store3) | (with_reducible apply Lies.other; case hp => (first | omega | (simp; done) | (simp; omega)))))
  have HK11 := Lib.hid K11
  obtain ⟨p11, q11, -, -⟩ := K11.two
  have lt11 := K11.lt
  clear K11
  clear p10 q10 lt10
  go_wp2_with fail
  refine (ReadString_any ⟨[1], 2⟩ (some ⟨w9.heap.size + 1, 0, none⟩) 1 1 0 (-1) _ ⟨by decide, by decide, (HB.out.below (by (repeat' (first | (with_reducible exact Below.refl _ _) | (with_reducible assumption) | (with_reducible refine below_drewN ?_ _) | (with_reducible refine below_new ?_ _) | (with_reducible refine Below.alloc ?_ ?_ _) | (with_reducible refine Below.drew ?_) | (with_reducible refine Below.setCell ?_ ?_ _) | (with_reducible apply below_at; (case k => (with_reducible assumption)); (case hB => omega)) | (with_reducible apply below_on; (with_reducible assumption)) | (go_size; done) | (with_reducible apply size_of)))) (Nat.le_refl _)), rfl, by omega, by omega, by decide⟩ (by omega) (by omega)).mono ?_
  rintro e w12 ⟨A12, n12, c12, B12, m12, d12, rfl, hn12, hm12, ho12, hp12, hb12⟩
  rw [V12.out]
  clear hn12 hm12 ho12 hp12
  generalize (rsC ⟨[1], 2⟩ 0 (-1)).a = z12
  have K12 : Lies w12 (w9.heap.size + 2) 29 [.slice (some ⟨w9.heap.size + 1, 0, none⟩) 1 1, .int .i64 2] := by have := HK11.out; (repeat' (first | (with_reducible assumption) | (with_reducible exact Lies.fresh _ _ _) | (with_reducible apply Lies.fresh_at; (first | (with_reducible rfl) | (simp; done))) | (with_reducible refine Lies.drew ?_) | (with_reducible refine Lies.drewN ?_ _) | (with_reducible refine Lies.alloc ?_ _) | (with_reducible apply Lies.past; case hb => (with_reducible assumption)) | (with_reducible apply Lies.keeps; (case k => (with_reducible assumption)); (case ht => decide)) | (with_reducible apply Lies.store3) | (with_reducible apply Lies.other; case hp => (first | omega | (simp; done) | (simp; omega)))))
  have HK12 := Lib.hid K12
  obtain ⟨p12, q12, -, -⟩ := K12.two
  have lt12 := K12.lt
  clear K12
  clear p11 q11 lt11
  go_wp2_with fail
  refine (Left_any ⟨[], -1⟩ none 0 0 _ ⟨by decide, by decide, .inl rfl, rfl, by omega, by omega, by decide⟩).mono ?_
  rintro e w13 ⟨rfl, hb13⟩
  rw [V13.out.1, V13.out.2]
  clear p12 q12 lt12
  go_wp2_with fail
  have HT : Hid (Has .u8 (w13.alloc (.cells #[.int .u8 9, .int .u8 1, .int .u8 7] 5)) (some ⟨w13.heap.size, 0, none⟩) [9, 1, 7]) := Lib.hid (has_lit (zs := [9, 1, 7]) rfl (by simp [maxLen]))
  have LT : Hid (Lies ((w13.alloc (.cells #[.int .u8 9, .int .u8 1, .int .u8 7] 5)).alloc (.cells #[.slice (some ⟨w13.heap.size, 0, none⟩) 3 3, .int .i64 1] 29)) (w13.heap.size + 1) 29 [.slice (some ⟨w13.heap.size, 0, none⟩) 3 3, .int .i64 1]) := Lib.hid (Lies.fresh_at (by simp))
  refine (Read_any ⟨[9, 1, 7], 1⟩ (some ⟨w13.heap.size, 0, none⟩) 3 3 3 0 _ ⟨by decide, by decide, (HT.out.below (by (repeat' (first | (with_reducible exact Below.refl _ _) | (with_reducible assumption) | (with_reducible refine below_drewN ?_ _) | (with_reducible refine below_new ?_ _) | (with_reducible refine Below.alloc ?_ ?_ _) | (with_reducible refine Below.drew ?_) | (with_reducible refine Below.setCell ?_ ?_ _) | (with_reducible apply below_at; (case k => (with_reducible assumption)); (case hB => omega)) | (with_reducible apply below_on; (with_reducible assumption)) | (go_size; done) | (with_reducible apply size_of)))) (Nat.le_refl _)), rfl, by omega, by omega, by decide⟩ (by omega) (by omega)).mono ?_
  rintro e w14 ⟨A14, n14, c14, rfl, hn14, ho14, hb14⟩
  rw [V14.out]
  clear hn14 ho14
  generalize (rdC ⟨[9, 1, 7], 1⟩ 3 0).a = z14
  generalize rdN ⟨[9, 1, 7], 1⟩ 3 0 = y14
  have K14 : Lies w14 (w13.heap.size + 1) 29 [.slice (some ⟨w13.heap.size, 0, none⟩) 3 3, .int .i64 1] := by have := LT.out; (repeat' (first | (with_reducible assumption) | (with_reducible exact Lies.fresh _ _ _) | (with_reducible apply Lies.fresh_at; (first | (with_reducible rfl) | (simp; done))) | (with_reducible refine Lies.drew ?_) | (with_reducible refine Lies.drewN ?_ _) | (with_reducible refine Lies.alloc ?_ _) | (with_reducible apply Lies.past; case hb => (with_reducible assumption)) | (with_reducible apply Lies.keeps; (case k => (with_reducible assumption)); (case ht => decide)) | (with_reducible apply Lies.store3) | (with_reducible apply Lies.other; case hp => (first | omega | (simp; done) | (simp; omega)))))
  have HK14 := Lib.hid K14
  obtain ⟨p14, q14, -, -⟩ := K14.two
  have lt14 := K14.lt
  clear K14
  go_wp2_with fail
  refine (Read_any ⟨[9, 1, 7], 1⟩ (some ⟨w13.heap.size, 0, none⟩) 3 3 9 0 _ ⟨by decide, by decide, (HT.out.below (by (repeat' (first | (with_reducible exact Below.refl _ _) | (with_reducible assumption) | (with_reducible refine below_drewN ?_ _) | (with_reducible refine below_new ?_ _) | (with_reducible refine Below.alloc ?_ ?_ _) | (with_reducible refine Below.drew ?_) | (with_reducible refine Below.setCell ?_ ?_ _) | (with_reducible apply below_at; (case k => (with_reducible assumption)); (case hB => omega)) | (with_reducible apply below_on; (with_reducible assumption)) | (go_size; done) | (with_reducible apply size_of)))) (Nat.le_refl _)), rfl, by omega, by omega, by decide⟩ (by omega) (by omega)).mono ?_
  rintro e w15 ⟨A15, n15, c15, rfl, hn15, ho15, hb15⟩
  rw [V15.out]
  clear hn15 ho15
  generalize (rdC ⟨[9, 1, 7], 1⟩ 9 0).a = z15
  generalize rdN ⟨[9, 1, 7], 1⟩ 9 0 = y15
  have K15 : Lies w15 (w13.heap.size + 1) 29 [.slice (some ⟨w13.heap.size, 0, none⟩) 3 3, .int .i64 1] := by have := HK14.out; (repeat' (first | (with_reducible assumption) | (with_reducible exact Lies.fresh _ _ _) | (with_reducible apply Lies.fresh_at; (first | (with_reducible rfl) | (simp; done))) | (with_reducible refine Lies.drew ?_) | (with_reducible refine Lies.drewN ?_ _) | (with_reducible refine Lies.alloc ?_ _) | (with_reducible apply Lies.past; case hb => (with_reducible assumption)) | (with_reducible apply Lies.keeps; (case k => (with_reducible assumption)); (case ht => decide)) | (with_reducible apply Lies.store3) | (with_reducible apply Lies.other; case hp => (first | omega | (simp; done) | (simp; omega)))))
  have HK15 := Lib.hid K15
  obtain ⟨p15, q15, -, -⟩ := K15.two
  have lt15 := K15.lt
  clear K15
  clear p14 q14 lt14
  go_wp2_with fail
  refine (Read_any ⟨[9, 1, 7], 1⟩ (some ⟨w13.heap.size, 0, none⟩) 3 3 1 0 _ ⟨by decide, by decide, (HT.out.below (by (repeat' (first | (with_reducible exact Below.refl _ _) | (with_reducible assumption) | (with_reducible refine below_drewN ?_ _) | (with_reducible refine below_new ?_ _) | (with_reducible refine Below.alloc ?_ ?_ _) | (with_reducible refine Below.drew ?_) | (with_reducible refine Below.setCell ?_ ?_ _) | (with_reducible apply below_at; (case k => (with_reducible assumption)); (case hB => omega)) | (with_reducible apply below_on; (with_reducible assumption)) | (go_size; done) | (with_reducible apply size_of)))) (Nat.le_refl _)), rfl, by omega, by omega, by decide⟩ (by omega) (by omega)).mono ?_
  rintro e w16 ⟨A16, n16, c16, rfl, hn16, ho16, hb16⟩
  rw [V16.out]
  clear hn16 ho16
  generalize (rdC ⟨[9, 1, 7], 1⟩ 1 0).a = z16
  generalize rdN ⟨[9, 1, 7], 1⟩ 1 0 = y16
  have K16 : Lies w16 (w13.heap.size + 1) 29 [.slice (some ⟨w13.heap.size, 0, none⟩) 3 3, .int .i64 1] := by have := HK15.out; (repeat' (first | (with_reducible assumption) | (with_reducible exact Lies.fresh _ _ _) | (with_reducible apply Lies.fresh_at; (first | (with_reducible rfl) | (simp; done))) | (with_reducible refine Lies.drew ?_) | (with_reducible refine Lies.drewN ?_ _) | (with_reducible refine Lies.alloc ?_ _) | (with_reducible apply Lies.past; case hb => (with_reducible assumption)) | (with_reducible apply Lies.keeps; (case k => (with_reducible assumption)); (case ht => decide)) | (with_reducible apply Lies.store3) | (with_reducible apply Lies.other; case hp => (first | omega | (simp; done) | (simp; omega)))))
  have HK16 := Lib.hid K16
  obtain ⟨p16, q16, -, -⟩ := K16.two
  have lt16 := K16.lt
  clear K16
  clear p15 q15 lt15
  go_wp2_with fail
  refine (Take_any ⟨[9, 1, 7], 1⟩ (some ⟨w13.heap.size, 0, none⟩) 3 3 3 _ ⟨by decide, by decide, (HT.out.below (by (repeat' (first | (with_reducible exact Below.refl _ _) | (with_reducible assumption) | (with_reducible refine below_drewN ?_ _) | (with_reducible refine below_new ?_ _) | (with_reducible refine Below.alloc ?_ ?_ _) | (with_reducible refine Below.drew ?_) | (with_reducible refine Below.setCell ?_ ?_ _) | (with_reducible apply below_at; (case k => (with_reducible assumption)); (case hB => omega)) | (with_reducible apply below_on; (with_reducible assumption)) | (go_size; done) | (with_reducible apply size_of)))) (Nat.le_refl _)), rfl, by omega, by omega, by decide⟩ (by omega) (by omega)).mono ?_
  rintro e w17 ⟨A17, n17, c17, B17, m17, d17, rfl, hn17, hm17, ho17, hp17, hb17⟩
  rw [V17.out]
  clear hn17 hm17 ho17 hp17
  generalize (tkC ⟨[9, 1, 7], 1⟩ 3).a = z17
  have K17 : Lies w17 (w13.heap.size + 1) 29 [.slice (some ⟨w13.heap.size, 0, none⟩) 3 3, .int .i64 1] := by have := HK16.out; (repeat' (first | (with_reducible assumption) | (with_reducible exact Lies.fresh _ _ _) | (with_reducible apply Lies.fresh_at; (first | (with_reducible rfl) | (simp; done))) | (with_reducible refine Lies.drew ?_) | (with_reducible refine Lies.drewN ?_ _) | (with_reducible refine Lies.alloc ?_ _) | (with_reducible apply Lies.past; case hb => (with_reducible assumption)) | (with_reducible apply Lies.keeps; (case k => (with_reducible assumption)); (case ht => decide)) | (with_reducible apply Lies.store3) | (with_reducible apply Lies.other; case hp => (first | omega | (simp; done) | (simp; omega)))))
  have HK17 := Lib.hid K17
  obtain ⟨p17, q17, -, -⟩ := K17.two
  have lt17 := K17.lt
  clear K17
  clear p16 q16 lt16
  go_wp2_with fail
  refine (Take_any ⟨[9, 1, 7], 1⟩ (some ⟨w13.heap.size, 0, none⟩) 3 3 (-1) _ ⟨by decide, by decide, (HT.out.below (by (repeat' (first | (with_reducible exact Below.refl _ _) | (with_reducible assumption) | (with_reducible refine below_drewN ?_ _) | (with_reducible refine below_new ?_ _) | (with_reducible refine Below.alloc ?_ ?_ _) | (with_reducible refine Below.drew ?_) | (with_reducible refine Below.setCell ?_ ?_ _) | (with_reducible apply below_at; (case k => (with_reducible assumption)); (case hB => omega)) | (with_reducible apply below_on; (with_reducible assumption)) | (go_size; done) | (with_reducible apply size_of)))) (Nat.le_refl _)), rfl, by omega, by omega, by decide⟩ (by omega) (by omega)).mono ?_
  rintro e w18 ⟨A18, n18, c18, B18, m18, d18, rfl, hn18, hm18, ho18, hp18, hb18⟩
  rw [V18.out]
  clear hn18 hm18 ho18 hp18
  generalize (tkC ⟨[9, 1, 7], 1⟩ (-1)).a = z18
  have K18 : Lies w18 (w13.heap.size + 1) 29 [.slice (some ⟨w13.heap.size, 0, none⟩) 3 3, .int .i64 1] := by have := HK17.out; (repeat' (first | (with_reducible assumption) | (with_reducible exact Lies.fresh _ _ _) | (with_reducible apply Lies.fresh_at; (first | (with_reducible rfl) | (simp; done))) | (with_reducible refine Lies.drew ?_) | (with_reducible refine Lies.drewN ?_ _) | (with_reducible refine Lies.alloc ?_ _) | (with_reducible apply Lies.past; case hb => (with_reducible assumption)) | (with_reducible apply Lies.keeps; (case k => (with_reducible assumption)); (case ht => decide)) | (with_reducible apply Lies.store3) | (with_reducible apply Lies.other; case hp => (first | omega | (simp; done) | (simp; omega)))))
  have HK18 := Lib.hid K18
  obtain ⟨p18, q18, -, -⟩ := K18.two
  have lt18 := K18.lt
  clear K18
  clear p17 q17 lt17
  go_wp2_with fail
  refine (Take_any ⟨[9, 1, 7], 1⟩ (some ⟨w13.heap.size, 0, none⟩) 3 3 0 _ ⟨by decide, by decide, (HT.out.below (by (repeat' (first | (with_reducible exact Below.refl _ _) | (with_reducible assumption) | (with_reducible refine below_drewN ?_ _) | (with_reducible refine below_new ?_ _) | (with_reducible refine Below.alloc ?_ ?_ _) | (with_reducible refine Below.drew ?_) | (with_reducible refine Below.setCell ?_ ?_ _) | (with_reducible apply below_at; (case k => (with_reducible assumption)); (case hB => omega)) | (with_reducible apply below_on; (with_reducible assumption)) | (go_size; done) | (with_reducible apply size_of)))) (Nat.le_refl _)), rfl, by omega, by omega, by decide⟩ (by omega) (by omega)).mono ?_
  rintro e w19 ⟨A19, n19, c19, B19, m19, d19, rfl, hn19, hm19, ho19, hp19, hb19⟩
  rw [V19.out.1, V19.out.2.1]
  rw [V19.out.2.2.1] at hn19 ho19
  rw [V19.out.2.2.2] at hm19 hp19
  obtain rfl : n19 = 3 := hn19
  obtain rfl : m19 = 0 := hm19
  have H19 := Lib.hid ho19.has
  have G19 := Lib.hid hp19.has
  clear ho19 hp19
  have K19 : Lies w19 (w13.heap.size + 1) 29 [.slice (some ⟨w13.heap.size, 0, none⟩) 3 3, .int .i64 1] := by have := HK18.out; (repeat' (first | (with_reducible assumption) | (with_reducible exact Lies.fresh _ _ _) | (with_reducible apply Lies.fresh_at; (first | (with_reducible rfl) | (simp; done))) | (with_reducible refine Lies.drew ?_) | (with_reducible refine Lies.drewN ?_ _) | (with_reducible refine Lies.alloc ?_ _) | (with_reducible apply Lies.past; case hb => (with_reducible assumption)) | (with_reducible apply Lies.keeps; (case k => (with_reducible assumption)); (case ht => decide)) | (with_reducible apply Lies.store3) | (with_reducible apply Lies.other; case hp => (first | omega | (simp; done) | (simp; omega)))))
  have HK19 := Lib.hid K19
  obtain ⟨p19, q19, -, -⟩ := K19.two
  have lt19 := K19.lt
  clear K19
  clear p18 q18 lt18
  go_wp2_with fail
  refine (ReadString_any ⟨[9, 1, 7], 1⟩ (some ⟨w13.heap.size, 0, none⟩) 3 3 1 (-1) _ ⟨by decide, by decide, (HT.out.below (by (repeat' (first | (with_reducible exact Below.refl _ _) | (with_reducible assumption) | (with_reducible refine below_drewN ?_ _) | (with_reducible refine below_new ?_ _) | (with_reducible refine Below.alloc ?_ ?_ _) | (with_reducible refine Below.drew ?_) | (with_reducible refine Below.setCell ?_ ?_ _) | (with_reducible apply below_at; (case k => (with_reducible assumption)); (case hB => omega)) | (with_reducible apply below_on; (with_reducible assumption)) | (go_size; done) | (with_reducible apply size_of)))) (Nat.le_refl _)), rfl, by omega, by omega, by decide⟩ (by omega) (by omega)).mono ?_
  rintro e w20 ⟨A20, n20, c20, B20, m20, d20, rfl, hn20, hm20, ho20, hp20, hb20⟩
  rw [V20.out]
  clear hn20 hm20 ho20 hp20
  generalize (rsC ⟨[9, 1, 7], 1⟩ 1 (-1)).a = z20
  have K20 : Lies w20 (w13.heap.size + 1) 29 [.slice (some ⟨w13.heap.size, 0, none⟩) 3 3, .int .i64 1] := by have := HK19.out; (repeat' (first | (with_reducible assumption) | (with_reducible exact Lies.fresh _ _ _) | (with_reducible apply Lies.fresh_at; (first | (with_reducible rfl) | (simp; done))) | (with_reducible refine Lies.drew ?_) | (with_reducible refine Lies.drewN ?_ _) | (with_reducible refine Lies.alloc ?_ _) | (with_reducible apply Lies.past; case hb => (with_reducible assumption)) | (with_reducible apply Lies.keeps; (case k => (with_reducible assumption)); (case ht => decide)) | (with_reducible apply Lies.store3) | (with_reducible apply Lies.other; case hp => (first | omega | (simp; done) | (simp; omega)))))
  have HK20 := Lib.hid K20
  obtain ⟨p20, q20, -, -⟩ := K20.two
  have lt20 := K20.lt
  clear K20
  clear p19 q19 lt19
  go_wp2_with fail
  refine (ReadString_any ⟨[9, 1, 7], 1⟩ (some ⟨w13.heap.size, 0, none⟩) 3 3 3 9 _ ⟨by decide, by decide, (HT.out.below (by (repeat' (first | (with_reducible exact Below.refl _ _) | (with_reducible assumption) | (with_reducible refine below_drewN ?_ _) | (with_reducible refine below_new ?_ _) | (with_reducible refine Below.alloc ?_ ?_ _) | (with_reducible refine Below.drew ?_) | (with_reducible refine Below.setCell ?_ ?_ _) | (with_reducible apply below_at; (case k => (with_reducible assumption)); (case hB => omega)) | (with_reducible apply below_on; (with_reducible assumption)) | (go_size; done) | (with_reducible apply size_of)))) (Nat.le_refl _)), rfl, by omega, by omega, by decide⟩ (by omega) (by omega)).mono ?_
  rintro e w21 ⟨A21, n21, c21, B21, m21, d21, rfl, hn21, hm21, ho21, hp21, hb21⟩
  rw [V21.out]
  clear hn21 hm21 ho21 hp21
  generalize (rsC ⟨[9, 1, 7], 1⟩ 3 9).a = z21
  have K21 : Lies w21 (w13.heap.size + 1) 29 [.slice (some ⟨w13.heap.size, 0, none⟩) 3 3, .int .i64 1] := by have := HK20.out; (repeat' (first | (with_reducible assumption) | (with_reducible exact Lies.fresh _ _ _) | (with_reducible apply Lies.fresh_at; (first | (with_reducible rfl) | (simp; done))) | (with_reducible refine Lies.drew ?_) | (with_reducible refine Lies.drewN ?_ _) | (with_reducible refine Lies.alloc ?_ _) | (with_reducible apply Lies.past; case hb => (with_reducible assumption)) | (with_reducible apply Lies.keeps; (case k => (with_reducible assumption)); (case ht => decide)) | (with_reducible apply Lies.store3) | (with_reducible apply Lies.other; case hp => (first | omega | (simp; done) | (simp; omega)))))
  have HK21 := Lib.hid K21
  obtain ⟨p21, q21, -, -⟩ := K21.two
  have lt21 := K21.lt
  clear K21
  clear p20 q20 lt20
  go_wp2_with fail
  refine (ReadString_any ⟨[9, 1, 7], 1⟩ (some ⟨w13.heap.size, 0, none⟩) 3 3 1 0 _ ⟨by decide, by decide, (HT.out.below (by (repeat' (first | (with_reducible exact Below.refl _ _) | (with_reducible assumption) | (with_reducible refine below_drewN ?_ _) | (with_reducible refine below_new ?_ _) | (with_reducible refine Below.alloc ?_ ?_ _) | (with_reducible refine Below.drew ?_) | (with_reducible refine Below.setCell ?_ ?_ _) | (with_reducible apply below_at; (case k => (with_reducible assumption)); (case hB => omega)) | (with_reducible apply below_on; (with_reducible assumption)) | (go_size; done) | (with_reducible apply size_of)))) (Nat.le_refl _)), rfl, by omega, by omega, by decide⟩ (by omega) (by omega)).mono ?_
  rintro e w22 ⟨A22, n22, c22, B22, m22, d22, rfl, hn22, hm22, ho22, hp22, hb22⟩
  rw [V22.out]
  clear hn22 hm22 ho22 hp22
  generalize (rsC ⟨[9, 1, 7], 1⟩ 1 0).a = z22
  have K22 : Lies w22 (w13.heap.size + 1) 29 [.slice (some ⟨w13.heap.size, 0, none⟩) 3 3, .int .i64 1] := by have := HK21.out; (repeat' (first | (with_reducible assumption) | (with_reducible exact Lies.fresh _ _ _) | (with_reducible apply Lies.fresh_at; (first | (with_reducible rfl) | (simp; done))) | (with_reducible refine Lies.drew ?_) | (with_reducible refine Lies.drewN ?_ _) | (with_reducible refine Lies.alloc ?_ _) | (with_reducible apply Lies.past; case hb => (with_reducible assumption)) | (with_reducible apply Lies.keeps; (case k => (with_reducible assumption)); (case ht => decide)) | (with_reducible apply Lies.store3) | (with_reducible apply Lies.other; case hp => (first | omega | (simp; done) | (simp; omega)))))
  have HK22 := Lib.hid K22
  obtain ⟨p22, q22, -, -⟩ := K22.two
  have lt22 := K22.lt
  clear K22
  clear p21 q21 lt21
  go_wp2_with fail
  refine (ReadString_any ⟨[9, 1, 7], 1⟩ (some ⟨w13.heap.size, 0, none⟩) 3 3 2 999 _ ⟨by decide, by decide, (HT.out.below (by (repeat' (first | (with_reducible exact Below.refl _ _) | (with_reducible assumption) | (with_reducible refine below_drewN ?_ _) | (with_reducible refine below_new ?_ _) | (with_reducible refine Below.alloc ?_ ?_ _) | (with_reducible refine Below.drew ?_) | (with_reducible refine Below.setCell ?_ ?_ _) | (with_reducible apply below_at; (case k => (with_reducible assumption)); (case hB => omega)) | (with_reducible apply below_on; (with_reducible assumption)) | (go_size; done) | (with_reducible apply size_of)))) (Nat.le_refl _)), rfl, by omega, by omega, by decide⟩ (by omega) (by omega)).mono ?_
  rintro e w23 ⟨A23, n23, c23, B23, m23, d23, rfl, hn23, hm23, ho23, hp23, hb23⟩
  rw [V23.out]
  clear hn23 hm23 ho23 hp23
  generalize (rsC ⟨[9, 1, 7], 1⟩ 2 999).a = z23
  have K23 : Lies w23 (w13.heap.size + 1) 29 [.slice (some ⟨w13.heap.size, 0, none⟩) 3 3, .int .i64 1] := by have := HK22.out; (repeat' (first | (with_reducible assumption) | (with_reducible exact Lies.fresh _ _ _) | (with_reducible apply Lies.fresh_at; (first | (with_reducible rfl) | (simp; done))) | (with_reducible refine Lies.drew ?_) | (with_reducible refine Lies.drewN ?_ _) | (with_reducible refine Lies.alloc ?_ _) | (with_reducible apply Lies.past; case hb => (with_reducible assumption)) | (with_reducible apply Lies.keeps; (case k => (with_reducible assumption)); (case ht => decide)) | (with_reducible apply Lies.store3) | (with_reducible apply Lies.other; case hp => (first | omega | (simp; done) | (simp; omega)))))
  have HK23 := Lib.hid K23
  obtain ⟨p23, q23, -, -⟩ := K23.two
  have lt23 := K23.lt
  clear K23
  clear p22 q22 lt22
  go_wp2_with fail
  refine (ReadString_any ⟨[9, 1, 7], 1⟩ (some ⟨w13.heap.size, 0, none⟩) 3 3 1 1 _ ⟨by decide, by decide, (HT.out.below (by (repeat' (first | (with_reducible exact Below.refl _ _) | (with_reducible assumption) | (with_reducible refine below_drewN ?_ _) | (with_reducible refine below_new ?_ _) | (with_reducible refine Below.alloc ?_ ?_ _) | (with_reducible refine Below.drew ?_) | (with_reducible refine Below.setCell ?_ ?_ _) | (with_reducible apply below_at; (case k => (with_reducible assumption)); (case hB => omega)) | (with_reducible apply below_on; (with_reducible assumption)) | (go_size; done) | (with_reducible apply size_of)))) (Nat.le_refl _)), rfl, by omega, by omega, by decide⟩ (by omega) (by omega)).mono ?_
  rintro e w24 ⟨A24, n24, c24, B24, m24, d24, rfl, hn24, hm24, ho24, hp24, hb24⟩
  rw [V24.out.1, V24.out.2.1]
  rw [V24.out.2.2.1] at hn24 ho24
  rw [V24.out.2.2.2] at hm24 hp24
  obtain rfl : n24 = 3 := hn24
  obtain rfl : m24 = 1 := hm24
  have H24 := Lib.hid ho24.has
  have G24 := Lib.hid hp24.has
  clear ho24 hp24
  have K24 : Lies w24 (w13.heap.size + 1) 29 [.slice (some ⟨w13.heap.size, 0, none⟩) 3 3, .int .i64 1] := by have := HK23.out; (repeat' (first | (with_reducible assumption) | (with_reducible exact Lies.fresh _ _ _) | (with_reducible apply Lies.fresh_at; (first | (with_reducible rfl) | (simp; done))) | (with_reducible refine Lies.drew ?_) | (with_reducible refine Lies.drewN ?_ _) | (with_reducible refine Lies.alloc ?_ _) | (with_reducible apply Lies.past; case hb => (with_reducible assumption)) | (with_reducible apply Lies.keeps; (case k => (with_reducible assumption)); (case ht => decide)) | (with_reducible apply Lies.store3) | (with_reducible apply Lies.other; case hp => (first | omega | (simp; done) | (simp; omega)))))
  have HK24 := Lib.hid K24
  obtain ⟨p24, q24, -, -⟩ := K24.two
  have lt24 := K24.lt
  clear K24
  clear p23 q23 lt23
  go_wp2_with fail
  clear p24 q24 lt24
  refine (same8_any A1 _ 8 8 c1 _ [255, 255, 255, 255, 255, 255, 255, 255] [255, 255, 255, 255, 255, 255, 255, 255] _ (H1.out.below (by (repeat' (first | (with_reducible exact Below.refl _ _) | (with_reducible assumption) | (with_reducible refine below_drewN ?_ _) | (with_reducible refine below_new ?_ _) | (with_reducible refine Below.alloc ?_ ?_ _) | (with_reducible refine Below.drew ?_) | (with_reducible refine Below.setCell ?_ ?_ _) | (with_reducible apply below_at; (case k => (with_reducible assumption)); (case hB => omega)) | (with_reducible apply below_on; (with_reducible assumption)) | (go_size; done) | (with_reducible apply size_of)))) (Nat.le_refl _)) rfl (has_lit (zs := [255, 255, 255, 255, 255, 255, 255, 255]) (by simp) (by simp [maxLen])) rfl (by omega) (by omega)).mono ?_
  rintro e x0 ⟨rfl, hx0⟩
  rw [show decide (([255, 255, 255, 255, 255, 255, 255, 255] : List Int) = [255, 255, 255, 255, 255, 255, 255, 255]) = true from rfl]
  go_wp2_with fail
  refine (same8_any A8 _ 3 3 c8 _ [0, 0, 0] (List.replicate 3 0) _ (H8.out.below (by (repeat' (first | (with_reducible exact Below.refl _ _) | (with_reducible assumption) | (with_reducible refine below_drewN ?_ _) | (with_reducible refine below_new ?_ _) | (with_reducible refine Below.alloc ?_ ?_ _) | (with_reducible refine Below.drew ?_) | (with_reducible refine Below.setCell ?_ ?_ _) | (with_reducible apply below_at; (case k => (with_reducible assumption)); (case hB => omega)) | (with_reducible apply below_on; (with_reducible assumption)) | (go_size; done) | (with_reducible apply size_of)))) (Nat.le_refl _)) rfl (has_zC _ _ 3 (by simp [maxLen]) rfl) rfl (by omega) (by omega)).mono ?_
  rintro e x1 ⟨rfl, hx1⟩
  rw [show decide (([0, 0, 0] : List Int) = (List.replicate 3 0)) = true from rfl]
  have KT : Lies x1 w19.heap.size 29 [.slice A19 3 c19, .int .i64 1] := by (repeat' (first | (with_reducible assumption) | (with_reducible exact Lies.fresh _ _ _) | (with_reducible apply Lies.fresh_at; (first | (with_reducible rfl) | (simp; done))) | (with_reducible refine Lies.drew ?_) | (with_reducible refine Lies.drewN ?_ _) | (with_reducible refine Lies.alloc ?_ _) | (with_reducible apply Lies.past; case hb => (with_reducible assumption)) | (with_reducible apply Lies.keeps; (case k => (with_reducible assumption)); (case ht => decide)) | (with_reducible apply Lies.store3) | (with_reducible apply Lies.other; case hp => (first | omega | (simp; done) | (simp; omega)))))
  have KU : Lies x1 (w13.heap.size + 1) 29 [.slice (some ⟨w13.heap.size, 0, none⟩) 3 3, .int .i64 1] := by have := HK24.out; (repeat' (first | (with_reducible assumption) | (with_reducible exact Lies.fresh _ _ _) | (with_reducible apply Lies.fresh_at; (first | (with_reducible rfl) | (simp; done))) | (with_reducible refine Lies.drew ?_) | (with_reducible refine Lies.drewN ?_ _) | (with_reducible refine Lies.alloc ?_ _) | (with_reducible apply Lies.past; case hb => (with_reducible assumption)) | (with_reducible apply Lies.keeps; (case k => (with_reducible assumption)); (case ht => decide)) | (with_reducible apply Lies.store3) | (with_reducible apply Lies.other; case hp => (first | omega | (simp; done) | (simp; omega)))))
  obtain ⟨a0, a1, -, -⟩ := KT.two
  obtain ⟨a2, a3, -, -⟩ := KU.two
  have l0 := KT.lt
  have l1 := KU.lt
  go_wp2_with fail
  refine (rSame_any 1 1 [9, 1, 7] [9, 1, 7] A19 _ 3 3 c19 3 _ (H19.out.below (by (repeat' (first | (with_reducible exact Below.refl _ _) | (with_reducible assumption) | (with_reducible refine below_drewN ?_ _) | (with_reducible refine below_new ?_ _) | (with_reducible refine Below.alloc ?_ ?_ _) | (with_reducible refine Below.drew ?_) | (with_reducible refine Below.setCell ?_ ?_ _) | (with_reducible apply below_at; (case k => (with_reducible assumption)); (case hB => omega)) | (with_reducible apply below_on; (with_reducible assumption)) | (go_size; done) | (with_reducible apply size_of)))) (Nat.le_refl _)) rfl (HT.out.below (by (repeat' (first | (with_reducible exact Below.refl _ _) | (with_reducible assumption) | (with_reducible refine below_drewN ?_ _) | (with_reducible refine below_new ?_ _) | (with_reducible refine Below.alloc ?_ ?_ _) | (with_reducible refine Below.drew ?_) | (with_reducible refine Below.setCell ?_ ?_ _) | (with_reducible apply below_at; (case k => (with_reducible assumption)); (case hB => omega)) | (with_reducible apply below_on; (with_reducible assumption)) | (go_size; done) | (with_reducible apply size_of)))) (Nat.le_refl _)) rfl (by omega) (by omega)).mono ?_
  rintro e x2 ⟨rfl, hx2⟩
  rw [show (decide ((1 : Int) = 1) && decide (([9, 1, 7] : List Int) = [9, 1, 7])) = true from rfl]
  clear KT KU a0 a1 a2 a3 l0 l1
  have KZ : Lies x2 w24.heap.size 29 [.slice A24 3 c24, .int .i64 3] := by (repeat' (first | (with_reducible assumption) | (with_reducible exact Lies.fresh _ _ _) | (with_reducible apply Lies.fresh_at; (first | (with_reducible rfl) | (simp; done))) | (with_reducible refine Lies.drew ?_) | (with_reducible refine Lies.drewN ?_ _) | (with_reducible refine Lies.alloc ?_ _) | (with_reducible apply Lies.past; case hb => (with_reducible assumption)) | (with_reducible apply Lies.keeps; (case k => (with_reducible assumption)); (case ht => decide)) | (with_reducible apply Lies.store3) | (with_reducible apply Lies.other; case hp => (first | omega | (simp; done) | (simp; omega)))))
  obtain ⟨a0, a1, -, -⟩ := KZ.two
  have l0 := KZ.lt
  go_wp2_with fail
  refine (same8_any B24 _ 1 1 d24 _ [7] [7] _ (G24.out.below (by (repeat' (first | (with_reducible exact Below.refl _ _) | (with_reducible assumption) | (with_reducible refine below_drewN ?_ _) | (with_reducible refine below_new ?_ _) | (with_reducible refine Below.alloc ?_ ?_ _) | (with_reducible refine Below.drew ?_) | (with_reducible refine Below.setCell ?_ ?_ _) | (with_reducible apply below_at; (case k => (with_reducible assumption)); (case hB => omega)) | (with_reducible apply below_on; (with_reducible assumption)) | (go_size; done) | (with_reducible apply size_of)))) (Nat.le_refl _)) rfl (has_lit (zs := [7]) (by simp) (by simp [maxLen])) rfl (by omega) (by omega)).mono ?_
  rintro e x3 ⟨rfl, hx3⟩
  rw [show decide (([7] : List Int) = [7]) = true from rfl]
  clear KZ a0 a1 l0
  go_wp2_with fail
  refine (alive _).mono ?_
  rintro e x4 ⟨rfl, hx4⟩
  go_wp2_with fail
  go_ret
  have b9 : Below w9.heap.size w9 wa := ba
  exact ⟨rfl, by (repeat' (first | (with_reducible exact Below.refl _ _) | (with_reducible assumption) | (with_reducible refine below_drewN ?_ _) | (with_reducible refine below_new ?_ _) | (with_reducible refine Below.alloc ?_ ?_ _) | (with_reducible refine Below.drew ?_) | (with_reducible refine Below.setCell ?_ ?_ _) | (with_reducible apply below_at; (case k => (with_reducible assumption)); (case hB => omega)) | (with_reducible apply below_on; (with_reducible assumption)) | (go_size; done) | (with_reducible apply size_of)))⟩
end Go.Proofs.Ytlbokbbgpalkaaa.ocL
