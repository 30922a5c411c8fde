/- OctetBack, by a walk: a number that does not fit; the law. -/
import Derived.Test.YthdgoahfhcoccaaOcB1
import Derived.Test.YthdgoahfhcoccaaOcX1
import Derived.Test.YthdgoahfhcoccaaFar
namespace Go.Proofs.Ythdgoahfhcoccaa.ocL
open Go.RowKit Go.Proofs.Ythdgoahfhcoccaa.base Go.Proofs.Ythdgoahfhcoccaa.ocP Go.Proofs.Ythdgoahfhcoccaa.ocW
set_option linter.unusedVariables false
set_option linter.unusedSimpArgs false

set_option maxRecDepth 100000 in
set_option maxHeartbeats 4000000 in
theorem back_wide (x : Int) (A1 A2 : Option Addr) (d1 d2 : Nat) (s r : List Int) (n4 : Nat) (w : World) (x1 : 0 ≤ x) (x2 : x ≤ 18446744073709551615) (hD1 : Has .u8 w A1 s) (hC1 : s.length ≤ d1 ∧ d1 ≤ 9223372036854775807) (hD2 : Has .u8 w A2 r) (g1 : (s.length : Int) ≤ 900) (g2 : (r.length : Int) ≤ 900) (hbs : ∀ z ∈ s, 0 ≤ z ∧ z ≤ 255) (hbr : ∀ z ∈ r, 0 ≤ z ∧ z ≤ 255) (hq : 1 ≤ n4 ∧ n4 ≤ 8) (hs : (s.length : Int) < 256 ^ n4) (hf : ¬ x < 256 ^ n4) :
    Calls Try.prog 6 #[.int .u64 x, .slice A1 s.length d1, .slice A2 r.length d2, .int .i64 n4] w fun e w' => e = .returned (.bool true) ∧ Below w.heap.size w w' := by
  have HD1 := Lib.hid hD1
  have HD2 := Lib.hid hD2
  have HC1 := Lib.hid hC1
  have HQ := Lib.hid hq
  have hw : wdB n4 = true := (wdB_iff _).2 (by omega)
  have HW := Lib.hid hw
  have HL : Hid (s.length ≤ 900 ∧ r.length ≤ 900) := Lib.hid (by omega)
  have e1 : strE s n4 = 0 := by rw [strE, if_pos hw, if_pos (by omega), num_out rfl hq.1 hq.2, if_pos hs]
  have HSE : Hid (strE s n4 = 0 ∧ strV s n4 = digs s.length n4 ++ s) := Lib.hid ⟨e1, by rw [strV, if_pos e1, Int.toNat_natCast]⟩
  have e2 : numE x n4 = 16 := by rw [num_out rfl hq.1 hq.2, if_neg hf]
  have HE : Hid (numE x n4 = 16) := Lib.hid e2
  have HF : Hid ((x / 256 ^ n4 == 0) = false) := Lib.hid (by rw [fits_iff n4 x1, decide_eq_false hf])
  obtain ⟨B, hB⟩ : ∃ B, bB 0 s r n4 = B := ⟨_, rfl⟩
  have HB := Lib.hid hB
  have HFF := Lib.hid (back_facts hB hq.1 hq.2 (Int.le_refl 0) (pw_pos n4) HL.out.1 HL.out.2 hs)
  have HBB : Hid (B.length = n4 + (n4 + s.length) + r.length ∧ ∀ z ∈ B, 0 ≤ z ∧ z ≤ 255) := Lib.hid ⟨by rw [← hB, bB_len], by rw [← hB]; exact bB_b hbs hbr⟩
  have k1 : (n4 : Int) ≤ 8 := by omega
  have k2 : 1 ≤ (n4 : Int) := by omega
  clear hD1 hC1 hD2 hq hs hf hw e1 e2 hbs hbr hB
  go_enter Try.func6, Try.ntmps6
  go_wp2_with (first | (go_at_call 29; refine (rWidth_any _ _).mono ?_; rintro e w1 ⟨rfl, rfl⟩; rw [HW.out]))
  refine (Number_any x n4 _ x1 x2).mono ?_
  rintro e w4 ⟨A4, n0, c4, rfl, -, -, hb4⟩
  rw [HE.out]
  go_wp2_with fail
  refine (rFits_any x n4 _ x1 x2 HQ.out.2).mono ?_
  rintro e w5 ⟨rfl, rfl⟩
  rw [HF.out]
  go_wp2_with (first | (at_make; refine make8 rfl _ _ rfl _ _ n4 rfl rfl (by have := HQ.out; omega) w.heap.size (by have := hb4.size; omega) ?_; intro wm own hbm; have HO4 : Hid (OwnZ wm w.heap.size (.slice (some ⟨w4.heap.size, 0, none⟩) n4 n4) (digs 0 n4)) := Lib.hid (by rw [digs_zero]; exact .inl own); clear own))
  refine (String_any s n4 A1 s.length d1 _ (HD1.out.below (by (repeat' (first | (with_reducible exact Below.refl _ _) | (with_reducible assumption) | (with_reducible refine below_drewN ?_ _) | (with_reducible refine below_new ?_ _) | (with_reducible refine Below.alloc ?_ ?_ _) | (with_reducible refine Below.drew ?_) | (with_reducible refine Below.setCell ?_ ?_ _) | (with_reducible apply below_at; (case k => (with_reducible assumption)); (case hB => omega)) | (with_reducible apply below_on; (with_reducible assumption)) | (go_size; done) | (with_reducible apply size_of)))) (Nat.le_refl _)) rfl HC1.out.1 HC1.out.2).mono ?_
  rintro e w6 ⟨A6, n6, c6, rfl, hn6, ho6, hb6⟩
  rw [HSE.out.1]
  rw [HSE.out.2] at hn6 ho6
  have HO6 := Lib.hid ho6
  have HN6 : Hid (n6 = n4 + s.length) := Lib.hid (by rw [hn6, List.length_append, digs_len])
  have HN6' := Lib.hid hn6
  have HACC6 : Hid (Below w.heap.size w w6) := Lib.hid (by have := hb4.size; have := hbm.size; (repeat' (first | (with_reducible exact Below.refl _ _) | (with_reducible assumption) | (with_reducible refine below_drewN ?_ _) | (with_reducible refine below_new ?_ _) | (with_reducible refine Below.alloc ?_ ?_ _) | (with_reducible refine Below.drew ?_) | (with_reducible refine Below.setCell ?_ ?_ _) | (with_reducible apply below_at; (case k => (with_reducible assumption)); (case hB => omega)) | (with_reducible apply below_on; (with_reducible assumption)) | (go_size; done) | (with_reducible apply size_of))))
  have HZ6 : Hid (w.heap.size ≤ w6.heap.size) := Lib.hid (by have := hb6.size; have := hb4.size; have := hbm.size; omega)
  clear ho6 hn6
  go_wp2_with (first | (at_builtin; refine app8z rfl _ _ rfl (w6.heap.size + 1) _ [] rfl (.inr ⟨rfl, _, rfl⟩) (some ⟨w4.heap.size, 0, none⟩) n4 n4 (digs 0 n4) rfl (digs_len _ _) (HO4.out.has.below (by (repeat' (first | (with_reducible exact Below.refl _ _) | (with_reducible assumption) | (with_reducible refine below_drewN ?_ _) | (with_reducible refine below_new ?_ _) | (with_reducible refine Below.alloc ?_ ?_ _) | (with_reducible refine Below.drew ?_) | (with_reducible refine Below.setCell ?_ ?_ _) | (with_reducible apply below_at; (case k => (with_reducible assumption)); (case hB => omega)) | (with_reducible apply below_on; (with_reducible assumption)) | (go_size; done) | (with_reducible apply size_of)))) (Nat.le_refl _)) n4 (by simp) (by have := HQ.out; omega) (by simp) ?_; intro A7 c7 w7 ho7 hk7 hb7; rw [List.nil_append] at ho7; have HO7 := Lib.hid ho7; have HB7 : Hid (Below w6.heap.size w6 w7 ∧ w6.heap.size + 1 ≤ w7.heap.size) := Lib.hid ⟨((Below.refl _ _).alloc (Nat.le_refl _) _).trans (hb7.mono (by simp)), by have := hb7.size; simp at this; omega⟩; clear ho7 hk7 hb7) | (at_builtin; refine app8z rfl _ _ rfl (w6.heap.size + 1) _ (digs 0 n4) rfl HO7.out A6 n6 c6 (digs s.length n4 ++ s) rfl HN6'.out.symm ((HO6.out.below HB7.out.1 (Nat.le_refl _)).has) (n4 + n6) (by rw [digs_len]) (by have := HQ.out; have := HL.out; have := HN6.out; omega) HB7.out.2 ?_; intro A8 c8 w8 ho8 hk8 hb8; have HO8 := Lib.hid ho8; have HB8 : Hid (Below w6.heap.size w6 w8 ∧ w6.heap.size + 1 ≤ w8.heap.size) := Lib.hid ⟨HB7.out.1.trans (hb8.mono (Nat.le_succ _)), by have := hb8.size; have := HB7.out.2; omega⟩; clear ho8 hk8 hb8) | (at_builtin; refine app8z rfl _ _ rfl (w6.heap.size + 1) _ (digs 0 n4 ++ (digs s.length n4 ++ s)) rfl HO8.out A2 r.length d2 r rfl rfl (HD2.out.below (HACC6.out.trans (HB8.out.1.mono HZ6.out)) (Nat.le_refl _)) (n4 + n6 + r.length) (by rw [List.length_append, digs_len, ← HN6'.out]) (by have := HQ.out; have := HL.out; have := HN6.out; omega) HB8.out.2 ?_; intro A9 c9 w9 ho9 hk9 hb9; have HO9 : Hid (OwnZ w9 (w6.heap.size + 1) (.slice A9 (n4 + n6 + r.length) c9) B) := Lib.hid (by rw [← HB.out]; exact ho9); have HB9 : Hid (Below w6.heap.size w6 w9) := Lib.hid (HB8.out.1.trans (hb9.mono (Nat.le_succ _))); clear ho9 hk9 hb9) | (go_at_call 11; refine (New_any B A9 (n4 + n6 + r.length) c9 _ HO9.out.has HO9.out.bounds.1.symm HO9.out.bounds.2.1 HO9.out.bounds.2.2).mono ?_; rintro e w10 ⟨A10, n10, c10, rfl, hn10, ho10, hb10⟩; rw [HFF.out.1]; rw [HFF.out.2.1] at hn10 ho10; have HO10 := Lib.hid ho10; have HN10 := Lib.hid hn10; have HACC10 : Hid (Below w.heap.size w w10) := Lib.hid ((HACC6.out.trans (HB9.out.mono HZ6.out)).trans (hb10.mono (by have := HZ6.out; have := HB9.out.size; omega))); clear ho10 hn10 hb10))
  refine (Read_any ⟨B, 0⟩ A10 n10 c10 n4 0 _ (cu_in (c := ⟨B, 0⟩) (HO10.out.alloc _) (by show B.length ≤ 50000; have := HBB.out.1; have := HL.out; have := HQ.out; omega) HBB.out.2 (by simp; try omega) (by simp; try omega)) (by omega) (by omega)).mono ?_
  rintro e w11 ⟨A11, n11, c11, rfl, hn11, ho11, hb11⟩
  rw [HFF.out.2.2.1, HFF.out.2.2.2.1, HFF.out.2.2.2.2.1]
  rw [HFF.out.2.2.2.2.1] at hn11 ho11
  have HO11 := Lib.hid ho11
  have HN11 := Lib.hid hn11
  have HACC11 := Lib.hid ((HACC10.out.alloc HACC10.out.size _).trans (hb11.mono (by have := HACC10.out.size; simp; omega)))
  clear ho11 hn11 hb11
  go_wp2_with fail
  refine (ReadString_any ⟨B, n4⟩ A11 n11 c11 n4 s.length _ (cu_in (c := ⟨B, n4⟩) (HO11.out.alloc _) (by show B.length ≤ 50000; have := HBB.out.1; have := HL.out; have := HQ.out; omega) HBB.out.2 (by simp; try omega) (by simp; try omega)) (by omega) (by omega)).mono ?_
  rintro e w12 ⟨A12, n12, c12, B12, m12, e12, rfl, hn12, hm12, ho12, hp12, hb12⟩
  rw [HFF.out.2.2.2.2.2.1, HFF.out.2.2.2.2.2.2.1]
  rw [HFF.out.2.2.2.2.2.2.1] at hn12 ho12
  rw [HFF.out.2.2.2.2.2.2.2.1] at hm12 hp12
  have HO12 := Lib.hid ho12
  have HN12 := Lib.hid hn12
  have HP12 := Lib.hid hp12
  have HM12 := Lib.hid hm12
  have HACC12 := Lib.hid ((HACC11.out.alloc HACC11.out.size _).trans (hb12.mono (by have := HACC11.out.size; simp; omega)))
  clear ho12 hn12 hm12 hp12 hb12
  go_wp2_with fail
  refine (Left_any ⟨B, n4 + (n4 + s.length)⟩ A12 n12 c12 _ (cu_in (c := ⟨B, n4 + (n4 + s.length)⟩) (HO12.out.alloc _) (by show B.length ≤ 50000; have := HBB.out.1; have := HL.out; have := HQ.out; omega) HBB.out.2 (by simp; try omega) (by simp; try omega))).mono ?_
  rintro e w13 ⟨rfl, hb13⟩
  rw [HFF.out.2.2.2.2.2.2.2.2.1, HFF.out.2.2.2.2.2.2.2.2.2.1]
  have K12 : Lies (w13) (w12.heap.size) 29 [.slice (A12) (n12) (c12), .int .i64 (((n4 : Int) + (n4 + s.length)))] := by (repeat' (first | (with_reducible assumption) | (with_reducible exact Lies.fresh _ _ _) | (with_reducible apply Lies.fresh_at; (first | (with_reducible rfl) | (simp; done))) | (with_reducible refine Lies.drew ?_) | (with_reducible refine Lies.drewN ?_ _) | (with_reducible refine Lies.alloc ?_ _) | (with_reducible apply Lies.past; case hb => (with_reducible assumption)) | (with_reducible apply Lies.keeps; (case k => (with_reducible assumption)); (case ht => decide)) | (with_reducible apply Lies.store3) | (with_reducible apply Lies.other; case hp => (first | omega | (simp; done) | (simp; omega)))))
  obtain ⟨k0, k3, -, -⟩ := K12.two
  have lt12 := K12.lt
  have HO13 := Lib.hid ((HO12.out.alloc _).past hb13)
  have HP13 := Lib.hid ((HP12.out.alloc _).past hb13)
  have HACC13 := Lib.hid ((HACC12.out.alloc HACC12.out.size _).trans (hb13.mono (by have := HACC12.out.size; simp; omega)))
  clear K12 hb13
  go_wp2_with fail
  refine (Take_any ⟨B, n4 + (n4 + s.length)⟩ A12 n12 c12 r.length _ (cu_in (c := ⟨B, n4 + (n4 + s.length)⟩) HO13.out (by show B.length ≤ 50000; have := HBB.out.1; have := HL.out; have := HQ.out; omega) HBB.out.2 (by simp; try omega) (by simp; try omega)) (by omega) (by omega)).mono ?_
  rintro e w14 ⟨A14, n14, c14, B14, m14, e14, rfl, hn14, hm14, ho14, hp14, hb14⟩
  rw [HFF.out.2.2.2.2.2.2.2.2.2.2.1, HFF.out.2.2.2.2.2.2.2.2.2.2.2.1]
  rw [HFF.out.2.2.2.2.2.2.2.2.2.2.2.2] at hm14 hp14
  have HP14 := Lib.hid hp14
  have HM14 := Lib.hid hm14
  have HP13 := Lib.hid (HP13.out.past hb14)
  have HACC14 := Lib.hid (HACC13.out.trans (hb14.mono HACC13.out.size))
  have hsum : ((n4 : Int) + (n4 + s.length) + r.length == n4 + n6 + r.length) = true := by have := HN6.out; simp; omega
  have k6 : (n6 : Int) ≤ 1000 := by have := HN6.out; have := HQ.out; have := HL.out; omega
  have hrr : ((r.length : Int) == r.length) = true := by simp
  have hxx : ((0 : Int) == 0) = true := by simp
  have HNB : Hid (m12 ≤ 9223372036854775807 ∧ s.length ≤ 9223372036854775807 ∧ m14 ≤ 9223372036854775807 ∧ r.length ≤ 9223372036854775807) := Lib.hid (by have := HL.out; have := HM12.out; omega)
  clear ho14 hp14 hn14 hm14 hb14 k0 k3 lt12
  go_wp2_with fail
  refine (same8_any B12 A1 m12 s.length e12 d1 s s _ (HP13.out.alloc _).has HM12.out.symm (HD1.out.below (HACC14.out.alloc HACC14.out.size _) (Nat.le_refl _)) rfl HNB.out.1 HNB.out.2.1).mono ?_
  rintro e y1 ⟨rfl, hy1⟩
  rw [same_t]
  have K14 : Lies (y1) (w14.heap.size) 29 [.slice (A14) (n14) (c14), .int .i64 (((n4 : Int) + (n4 + s.length) + r.length))] := by (repeat' (first | (with_reducible assumption) | (with_reducible exact Lies.fresh _ _ _) | (with_reducible apply Lies.fresh_at; (first | (with_reducible rfl) | (simp; done))) | (with_reducible refine Lies.drew ?_) | (with_reducible refine Lies.drewN ?_ _) | (with_reducible refine Lies.alloc ?_ _) | (with_reducible apply Lies.past; case hb => (with_reducible assumption)) | (with_reducible apply Lies.keeps; (case k => (with_reducible assumption)); (case ht => decide)) | (with_reducible apply Lies.store3) | (with_reducible apply Lies.other; case hp => (first | omega | (simp; done) | (simp; omega)))))
  have HACC15 := Lib.hid ((HACC14.out.alloc HACC14.out.size _).trans (hy1.mono (by have := HACC14.out.size; simp; omega)))
  have HP15 := Lib.hid ((HP14.out.alloc _).past hy1)
  have HK14 := Lib.hid K14
  clear K14 hy1
  go_wp2_with fail
  refine (same8_any B14 A2 m14 r.length e14 d2 r r _ HP15.out.has HM14.out.symm (HD2.out.below HACC15.out (Nat.le_refl _)) rfl HNB.out.2.2.1 HNB.out.2.2.2).mono ?_
  rintro e y2 ⟨rfl, hy2⟩
  rw [same_t]
  have K15 := HK14.out.past hy2
  obtain ⟨k0, k3, -, -⟩ := K15.two
  have lt15 := K15.lt
  have HACC16 := Lib.hid (HACC15.out.trans (hy2.mono HACC15.out.size))
  clear K15 hy2
  go_wp2_with (first | (go_at_call 18; refine (alive _).mono ?_; rintro e y9 ⟨rfl, hy9⟩))
  go_ret
  exact ⟨rfl, HACC16.out.trans (hy9.mono HACC16.out.size)⟩
set_option maxRecDepth 100000 in
set_option maxHeartbeats 4000000 in
theorem back (x : Int) (A1 : Option Addr) (n1 d1 : Nat) (z1 : List Int) (A2 : Option Addr) (n2 d2 : Nat) (z2 : List Int) (l : Int) (w : World) (x1 : 0 ≤ x) (x2 : x ≤ 18446744073709551615) (r1 : IsRow .u8 w A1 n1 d1 z1) (r2 : IsRow .u8 w A2 n2 d2 z2) (l1 : -9223372036854775808 ≤ l) (l2 : l ≤ 9223372036854775807) :
    Calls Try.prog 6 #[.int .u64 x, .slice A1 n1 d1, .slice A2 n2 d2, .int .i64 l] w fun e w' => e = .returned (.bool true) ∧ Below w.heap.size w w' := by
  obtain ⟨hD1, hL1, hm1, hb1⟩ := has_of_row r1
  obtain ⟨hD2, hL2, hm2, hb2⟩ := has_of_row r2
  have hc1 := row_caps r1
  unfold maxLen at hc1 hm1 hm2
  generalize z1.take n1 = s at *
  generalize z2.take n2 = r at *
  subst hL1 hL2
  clear r1 r2
  have n9 : (s.length : Int) ≤ 9223372036854775807 := by omega
  have m9 : (r.length : Int) ≤ 9223372036854775807 := by omega
  by_cases g1 : (s.length : Int) ≤ 900
  · by_cases g2 : (r.length : Int) ≤ 900
    · cases hw : wdB l
      · have HW := Lib.hid hw
        clear hw hD1 hD2 hm1 hm2 hc1 hb1 hb2
        go_enter Try.func6, Try.ntmps6
        go_wp2_with (first | (go_at_call 29; refine (rWidth_any _ _).mono ?_; rintro e w1 ⟨rfl, rfl⟩; rw [HW.out]) | (go_at_call 18; refine (alive _).mono ?_; rintro e y9 ⟨rfl, hy9⟩))
        go_ret
        exact ⟨rfl, by (repeat' (first | (with_reducible exact Below.refl _ _) | (with_reducible assumption) | (with_reducible refine below_drewN ?_ _) | (with_reducible refine below_new ?_ _) | (with_reducible refine Below.alloc ?_ ?_ _) | (with_reducible refine Below.drew ?_) | (with_reducible refine Below.setCell ?_ ?_ _) | (with_reducible apply below_at; (case k => (with_reducible assumption)); (case hB => omega)) | (with_reducible apply below_on; (with_reducible assumption)) | (go_size; done) | (with_reducible apply size_of)))⟩
      · have hl := (wdB_iff l).1 hw
        obtain ⟨q, rfl⟩ := Int.eq_ofNat_of_zero_le (show 0 ≤ l by omega)
        have hq : 1 ≤ q ∧ q ≤ 8 := by omega
        by_cases hs : (s.length : Int) < 256 ^ q
        · by_cases hf : x < 256 ^ q
          · exact back_fits x A1 A2 d1 d2 s r q w x1 x2 hD1 hc1 hD2 g1 g2 (fun z h => bounds_u8 (hb1 z h)) (fun z h => bounds_u8 (hb2 z h)) hq hs hf
          · exact back_wide x A1 A2 d1 d2 s r q w x1 x2 hD1 hc1 hD2 g1 g2 (fun z h => bounds_u8 (hb1 z h)) (fun z h => bounds_u8 (hb2 z h)) hq hs hf
        · exact back_short x A1 A2 d1 d2 r.length s q w x1 x2 hD1 hc1 g1 g2 hq hs
    · clear hD1 hD2 hm1 hm2 hc1 hb1 hb2
      go_enter Try.func6, Try.ntmps6
      go_wp2_with (first | (go_at_call 18; refine (alive _).mono ?_; rintro e y9 ⟨rfl, hy9⟩))
      go_ret
      exact ⟨rfl, by (repeat' (first | (with_reducible exact Below.refl _ _) | (with_reducible assumption) | (with_reducible refine below_drewN ?_ _) | (with_reducible refine below_new ?_ _) | (with_reducible refine Below.alloc ?_ ?_ _) | (with_reducible refine Below.drew ?_) | (with_reducible refine Below.setCell ?_ ?_ _) | (with_reducible apply below_at; (case k => (with_reducible assumption)); (case hB => omega)) | (with_reducible apply below_on; (with_reducible assumption)) | (go_size; done) | (with_reducible apply size_of)))⟩
  · clear hD1 hD2 hm1 hm2 hc1 hb1 hb2
    go_enter Try.func6, Try.ntmps6
    go_wp2_with (first | (go_at_call 18; refine (alive _).mono ?_; rintro e y9 ⟨rfl, hy9⟩))
    go_ret
    exact ⟨rfl, by (repeat' (first | (with_reducible exact Below.refl _ _) | (with_reducible assumption) | (with_reducible refine below_drewN ?_ _) | (with_reducible refine below_new ?_ _) | (with_reducible refine Below.alloc ?_ ?_ _) | (with_reducible refine Below.drew ?_) | (with_reducible refine Below.setCell ?_ ?_ _) | (with_reducible apply below_at; (case k => (with_reducible assumption)); (case hB => omega)) | (with_reducible apply below_on; (with_reducible assumption)) | (go_size; done) | (with_reducible apply size_of)))⟩
end Go.Proofs.Ythdgoahfhcoccaa.ocL
