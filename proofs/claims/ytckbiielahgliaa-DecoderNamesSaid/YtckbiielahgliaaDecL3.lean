/- DecoderParts, by a walk. -/
import Derived.Test.YtckbiielahgliaaDecL2
namespace Go.Proofs.Ytckbiielahgliaa.decL
open Go.RowKit Go.Proofs.Ytckbiielahgliaa.base Go.Proofs.Ytckbiielahgliaa.encP Go.Proofs.Ytckbiielahgliaa.encW Go.Proofs.Ytckbiielahgliaa.decP Go.Proofs.Ytckbiielahgliaa.decW
set_option linter.unusedVariables false
set_option linter.unusedSimpArgs false

/-- Get of a valid state within the limits. -/
theorem Get_good (s : DS) (A : Option Addr) (n c : Nat) (p : Int) (zs : List Int) (w : World) (hg : DGood s) (h4 : 4 ≤ s.2.2.2) (ht : s.2.2.2 ≤ 999996) (hp : pOk p = true) (hA : Has .u8 w A zs) (hn : zs.length = n) (hc : n ≤ c) (m : n ≤ 20000) (hz : InB zs) :
    Calls Try.prog 11 #[.agg #[.int .u32 (s.1), .int .u32 (s.2.1), .int .u32 (s.2.2.1), .slice (A) (n) (c), .int .i64 (s.2.2.2)], .int .i64 p] w fun e w' => ∃ A' c', e = .returned (.tuple #[.agg #[.int .u32 ((gnx zs s p).1), .int .u32 ((gnx zs s p).2.1), .int .u32 ((gnx zs s p).2.2.1), .slice (A') (n) (c'), .int .i64 ((gnx zs s p).2.2.2)], .bool (sbit s p), .int .i64 0]) ∧ Has .u8 w' A' zs ∧ n ≤ c' ∧ c' ≤ 9223372036854775807 ∧ Below w.heap.size w w' := by
  subst hn
  obtain ⟨g1, g2, g3, g4, g5, g6⟩ := hg
  have hok : decOk s.1 s.2.1 s.2.2.1 zs.length (s.2.2.2 : Nat) = true := good_decOk ⟨g1, g2, g3, g4, g5, g6⟩ m h4 (by omega)
  obtain ⟨_, _, hl⟩ := gnx_ok hz ⟨g1, g2, g3, g4, g5, g6⟩ hp
  have he : dgE s.1 s.2.1 s.2.2.1 zs (s.2.2.2 : Nat) p = 0 := by
    rw [dgE_ok hok hp, Int.toNat_natCast]
    exact if_pos (by simp only [gnx] at hl; omega)
  obtain ⟨v1, v2⟩ := dgV_yes he
  rw [Int.toNat_natCast] at v1
  refine (Get_any s.1 s.2.1 s.2.2.1 A zs.length c s.2.2.2 p zs w g1 (by omega) (by omega) g3 (by omega) (by omega) hA rfl hc (by omega) hz).mono ?_
  rintro e w' ⟨A', c', rfl, k1, k2, k3, k4⟩
  rw [v1] at k1 k2
  rw [v1, v2, he]
  exact ⟨A', c', rfl, k1, k2, k3, k4⟩
set_option maxRecDepth 100000 in
set_option maxHeartbeats 4000000 in
theorem parts_in (A P : Option Addr) (n c lp cp : Nat) (zs ps : List Int) (a : Nat) (w : World) (hA : Has .u8 w A zs) (hn : zs.length = n) (hc : n ≤ c) (hz : InB zs) (hP : Has .i64 w P ps) (el : ps.length = lp) (hcp : lp ≤ cp) (hcm : cp ≤ 9223372036854775807) (m1 : n ≤ 60) (m2 : lp ≤ 60) (hr : rnE ps lp = 0) (ha : a ≤ lp) :
    Calls Try.prog 8 #[.slice A n c, .slice P lp cp, .int .i64 a] w fun e w' => e = .returned (.bool true) ∧ Below w.heap.size w w' := by
  subst hn el
  obtain ⟨_, e2⟩ := rnE_big (by omega) hr
  have hrt : (ps.take a).all pOk = true := List.all_eq_true.2 fun z hz => List.all_eq_true.1 e2 z (List.mem_of_mem_take hz)
  have hlt : (ps.take a).length = a := by rw [List.length_take]; omega
  have hd1 : drE zs.length ps = 0 := by rw [drE_all (by omega) (by omega), e2]; rfl
  have hd2 : drE zs.length (ps.take a) = 0 := by rw [drE_all (by omega) (by omega), hrt]; rfl
  have hv1 := drV_yes hd1
  have hv2 := drV_yes hd2
  rw [btD_take] at hv2
  have hl1 : (drV zs ps).length = ps.length := by rw [hv1, btD_len]
  have hv3 : drV zs (ps.take a) = (drV zs ps).take a := by rw [hv2, hv1]
  have HA := Lib.hid hA
  have HP := Lib.hid hP
  have HZ := Lib.hid hz
  have HR := Lib.hid hr
  have D1 := Lib.hid hd1
  have D2 := Lib.hid hd2
  have V1 := Lib.hid hv1
  have V3 := Lib.hid hv3
  have L1 := Lib.hid hl1
  have LT := Lib.hid hlt
  have E2 := Lib.hid e2
  have HPT := Lib.hid (hP.front a)
  have L3 : Hid (((drV zs ps).take a).length = a) := Lib.hid (by rw [List.length_take]; omega)
  clear hA hP hz hr hd1 hd2 hv1 hv2 hv3 hl1 hlt e2 hrt
  go_enter Try.func8, Try.ntmps8
  go_wp2_with (first | (go_at_call 21; refine (alive _).mono ?_; rintro e w1 ⟨rfl, hb1⟩; have W1 := Lib.hid hb1; clear hb1) | (go_at_call 22; refine (rProbs_any _ _ _ ps.length ps _ (HP.out.below W1.out (Nat.le_refl _)) rfl (by omega) (by omega)).mono ?_; rintro e w' ⟨rfl, rfl⟩; rw [HR.out]))
  refine (RunD_any A P _ c _ cp zs ps _ (HA.out.below W1.out (Nat.le_refl _)) rfl hc (by omega) HZ.out (HP.out.below W1.out (Nat.le_refl _)) rfl (by omega)).mono ?_
  rintro e w2 ⟨A2, c2, rfl, hh2, hc2, hb2⟩
  rw [L1.out] at hc2
  rw [L1.out, D1.out]
  have H2 := Lib.hid hh2
  have W2 : Hid (Below w.heap.size w w2) := Lib.hid (by have := W1.out; (repeat' (first | (with_reducible exact Below.refl _ _) | (with_reducible assumption) | (with_reducible refine below_drewN ?_ _) | (with_reducible refine below_new ?_ _) | (with_reducible refine Below.alloc ?_ ?_ _) | (with_reducible refine Below.drew ?_) | (with_reducible refine Below.setCell ?_ ?_ _) | (with_reducible apply below_at; (case k => (with_reducible assumption)); (case hB => omega)) | (with_reducible apply below_on; (with_reducible assumption)) | (go_size; done) | (with_reducible apply size_of))))
  clear hh2 hb2 W1
  go_wp2_with fail
  refine (RunD_any A P _ c _ cp zs (ps.take a) _ (HA.out.below W2.out (Nat.le_refl _)) rfl hc (by omega) HZ.out (HPT.out.below W2.out (Nat.le_refl _)) LT.out (by omega)).mono ?_
  rintro e w3 ⟨A3, c3, rfl, hh3, hc3, hb3⟩
  rw [V3.out] at hh3 hc3
  rw [V3.out, L3.out, D2.out]
  have H3 := Lib.hid hh3
  have H2' := Lib.hid (H2.out.below hb3 (Nat.le_refl _))
  have W3 : Hid (Below w.heap.size w w3) := Lib.hid (by have := W2.out; (repeat' (first | (with_reducible exact Below.refl _ _) | (with_reducible assumption) | (with_reducible refine below_drewN ?_ _) | (with_reducible refine below_new ?_ _) | (with_reducible refine Below.alloc ?_ ?_ _) | (with_reducible refine Below.drew ?_) | (with_reducible refine Below.setCell ?_ ?_ _) | (with_reducible apply below_at; (case k => (with_reducible assumption)); (case hB => omega)) | (with_reducible apply below_on; (with_reducible assumption)) | (go_size; done) | (with_reducible apply size_of))))
  clear hh3 hb3 W2 H2
  go_wp2_with fail
  refine (New_ok A _ c zs _ (HA.out.below W3.out (Nat.le_refl _)) rfl hc (by omega) HZ.out).mono ?_
  rintro e w4 ⟨A4, c4, rfl, hh4, hc4, hm4, hb4⟩
  have H4 := Lib.hid hh4
  have H2 := Lib.hid (H2'.out.below hb4 (Nat.le_refl _))
  have H3' := Lib.hid (H3.out.below hb4 (Nat.le_refl _))
  have W4 : Hid (Below w.heap.size w w4) := Lib.hid (by have := W3.out; (repeat' (first | (with_reducible exact Below.refl _ _) | (with_reducible assumption) | (with_reducible refine below_drewN ?_ _) | (with_reducible refine below_new ?_ _) | (with_reducible refine Below.alloc ?_ ?_ _) | (with_reducible refine Below.drew ?_) | (with_reducible refine Below.setCell ?_ ?_ _) | (with_reducible apply below_at; (case k => (with_reducible assumption)); (case hB => omega)) | (with_reducible apply below_on; (with_reducible assumption)) | (go_size; done) | (with_reducible apply size_of))))
  clear hh4 hb4 W3 H2' H3
  go_wp2_with fail
  refine (rSame_any A2 A3 _ _ _ _ ((drV zs ps).take a) ((drV zs ps).take a) _ ((H2.out.front a).below (by (repeat' (first | (with_reducible exact Below.refl _ _) | (with_reducible assumption) | (with_reducible refine below_drewN ?_ _) | (with_reducible refine below_new ?_ _) | (with_reducible refine Below.alloc ?_ ?_ _) | (with_reducible refine Below.drew ?_) | (with_reducible refine Below.setCell ?_ ?_ _) | (with_reducible apply below_at; (case k => (with_reducible assumption)); (case hB => omega)) | (with_reducible apply below_on; (with_reducible assumption)) | (go_size; done) | (with_reducible apply size_of)))) (Nat.le_refl _)) L3.out (H3'.out.below (by (repeat' (first | (with_reducible exact Below.refl _ _) | (with_reducible assumption) | (with_reducible refine below_drewN ?_ _) | (with_reducible refine below_new ?_ _) | (with_reducible refine Below.alloc ?_ ?_ _) | (with_reducible refine Below.drew ?_) | (with_reducible refine Below.setCell ?_ ?_ _) | (with_reducible apply below_at; (case k => (with_reducible assumption)); (case hB => omega)) | (with_reducible apply below_on; (with_reducible assumption)) | (go_size; done) | (with_reducible apply size_of)))) (Nat.le_refl _)) L3.out (by omega) (by omega)).mono ?_
  rintro e w5 ⟨rfl, hb5⟩
  rw [decide_eq_true rfl]
  have W45 : Hid (Below w4.heap.size w4 w5) := Lib.hid (by (repeat' (first | (with_reducible exact Below.refl _ _) | (with_reducible assumption) | (with_reducible refine below_drewN ?_ _) | (with_reducible refine below_new ?_ _) | (with_reducible refine Below.alloc ?_ ?_ _) | (with_reducible refine Below.drew ?_) | (with_reducible refine Below.setCell ?_ ?_ _) | (with_reducible apply below_at; (case k => (with_reducible assumption)); (case hB => omega)) | (with_reducible apply below_on; (with_reducible assumption)) | (go_size; done) | (with_reducible apply size_of))))
  have HX5 : Hid (Lies (w5) (w4.heap.size) 25 [.int .u32 (0), .int .u32 (4294967295), .int .u32 (win zs 0), .slice (A4) (zs.length) (c4), .int .i64 (4)]) := Lib.hid (by (repeat' (first | (with_reducible assumption) | (with_reducible exact Lies.fresh _ _ _) | (with_reducible apply Lies.fresh_at; (first | (with_reducible rfl) | (simp; done))) | (with_reducible refine Lies.drew ?_) | (with_reducible refine Lies.drewN ?_ _) | (with_reducible refine Lies.alloc ?_ _) | (with_reducible apply Lies.past; case hb => (with_reducible assumption)) | (with_reducible apply Lies.keeps; (case k => (with_reducible assumption)); (case ht => decide)) | (with_reducible apply Lies.store3) | (with_reducible apply Lies.other; case hp => (first | omega | (simp; done) | (simp; omega))))))
  clear hb5 H3'
  go_wp2_with fail
  have hs4 := W45.out.size
  go_loopw [14] (fun i wr => ∃ (k : Nat) (Ak : Option Addr) (ck : Nat), k ≤ ps.length ∧ i = .int .i64 k ∧ (Lies (wr) (w4.heap.size) 25 [.int .u32 ((stD zs (ps.take k) (sd0 zs)).1), .int .u32 ((stD zs (ps.take k) (sd0 zs)).2.1), .int .u32 ((stD zs (ps.take k) (sd0 zs)).2.2.1), .slice (Ak) (zs.length) (ck), .int .i64 ((stD zs (ps.take k) (sd0 zs)).2.2.2)]) ∧ Has .u8 wr Ak zs ∧ zs.length ≤ ck ∧ ck ≤ 9223372036854775807 ∧ Below w4.heap.size w4 wr) (fun i _ => ps.length - (intOf i).toNat)
  case atStart =>
    exact ⟨0, A4, c4, by omega, rfl, HX5.out, H4.out.below W45.out (Nat.le_refl _), hc4, hm4, W45.out⟩
  case round =>
    obtain ⟨k, Ak, ck, hk, rfl, K, H, hck, hckm, W⟩ := hrel
    have hall : (ps.take k).all pOk = true := List.all_eq_true.2 fun z hz => List.all_eq_true.1 E2.out z (List.mem_of_mem_take hz)
    obtain ⟨hgd, hg4, hgl⟩ := stD_good HZ.out ps k hk hall
    have HGD := Lib.hid hgd
    have HK := Lib.hid K
    have HH := Lib.hid H
    have HW := Lib.hid W
    have HWW := Lib.hid (W4.out.trans (W.mono W4.out.size))
    obtain ⟨⟨p0, p1, p2, p3, p4⟩, f0, f1, f2, f3, f4⟩ := five K
    have lt1 := K.lt
    clear hall hgd K H W
    by_cases hlt : k < ps.length
    · obtain ⟨b, off, rfl, hbl, hcl⟩ := has_some HP.out (by omega)
      have hcell : wr.cell? ⟨b, off + k, none⟩ = some (.int .i64 (ps.getD k 0)) := by rw [(bcell HWW.out).1 b _ hbl]; exact hcl k hlt
      obtain ⟨b2, off2, rfl, hbl2, hcl2⟩ := hasB_some H2.out (by rw [L1.out]; omega)
      have hgb : (drV zs ps).getD k false = sbit (stD zs (ps.take k) (sd0 zs)) (ps.getD k 0) := by rw [V1.out]; exact btD_getD zs ps (sd0 zs) k hlt
      have hcell2 : w4.cell? ⟨b2, off2 + k, none⟩ = some (.bool (sbit (stD zs (ps.take k) (sd0 zs)) (ps.getD k 0))) := by rw [← hgb]; exact hcl2 k (by rw [L1.out]; omega)
      have HC2 := Lib.hid hcell2
      have HS := Lib.hid (stD_snoc zs ps (sd0 zs) k hlt)
      have HX := Lib.hid (all_getD E2.out hlt)
      have hbw : b < wr.heap.size := by have := HWW.out.size; omega
      have hbw2 : b2 < wr.heap.size := by have := HW.out.size; omega
      have i1 : (0 : Int) ≤ (k : Int) := by omega
      have i2 : (k : Int) < ps.length := by omega
      clear hcl hcl2 hgb hcell2
      generalize ps.getD k 0 = x at *
      generalize stD zs (ps.take k) (sd0 zs) = s at *
      go_upto_region 12 with fail
      go_cut [15, 16, 17] (fun s15 s16 s17 wx => ∃ (g2 : Nat) (A5 : Option Addr) (c5 : Nat), s15 = .pointer (some ⟨g2, 0, none⟩) ∧ s16 = .bool (sbit s x) ∧ s17 = .int .i64 0 ∧ (Lies (wx) (g2) 25 [.int .u32 ((gnx zs s x).1), .int .u32 ((gnx zs s x).2.1), .int .u32 ((gnx zs s x).2.2.1), .slice (A5) (zs.length) (c5), .int .i64 ((gnx zs s x).2.2.2)]) ∧ (Lies (wx) (w4.heap.size) 25 [.int .u32 ((s).1), .int .u32 ((s).2.1), .int .u32 ((s).2.2.1), .slice (Ak) (zs.length) (ck), .int .i64 ((s).2.2.2)]) ∧ Has .u8 wx A5 zs ∧ zs.length ≤ c5 ∧ c5 ≤ 9223372036854775807 ∧ Below w4.heap.size w4 wx ∧ w4.heap.size < g2)
      case first =>
        go_region_law (first | (go_simp; go_at_call 11; refine (Get_good s Ak zs.length ck x zs _ HGD.out hg4 (by omega) HX.out (HH.out.below (by (repeat' (first | (with_reducible exact Below.refl _ _) | (with_reducible assumption) | (with_reducible refine below_drewN ?_ _) | (with_reducible refine below_new ?_ _) | (with_reducible refine Below.alloc ?_ ?_ _) | (with_reducible refine Below.drew ?_) | (with_reducible refine Below.setCell ?_ ?_ _) | (with_reducible apply below_at; (case k => (with_reducible assumption)); (case hB => omega)) | (with_reducible apply below_on; (with_reducible assumption)) | (go_size; done) | (with_reducible apply size_of)))) (Nat.le_refl _)) rfl hck (by omega) HZ.out).mono ?_; rintro e w6 ⟨A6, c6, rfl, hh6, hc6, hm6, hb6⟩; try (refine lay (P := Lies (w6) (wr.heap.size) 25 [.int .u32 (0), .int .u32 (0), .int .u32 (0), .slice (none) (0) (0), .int .i64 (0)]) ?_ ?_; (focus ((repeat' (first | (with_reducible assumption) | (with_reducible exact Lies.fresh _ _ _) | (with_reducible apply Lies.fresh_at; (first | (with_reducible rfl) | (simp; done))) | (with_reducible refine Lies.drew ?_) | (with_reducible refine Lies.drewN ?_ _) | (with_reducible refine Lies.alloc ?_ _) | (with_reducible apply Lies.past; case hb => (with_reducible assumption)) | (with_reducible apply Lies.keeps; (case k => (with_reducible assumption)); (case ht => decide)) | (with_reducible apply Lies.store3) | (with_reducible apply Lies.other; case hp => (first | omega | (simp; done) | (simp; omega))))); done)); intro L9; obtain ⟨⟨b0, b1, b2, b3, b4⟩, g0, g1, g2, g3, g4⟩ := five L9; have lb := L9.lt)))
        all_goals
          go_wp2_with fail
          go_meet
          have hs6 := hb6.size
          simp at hs6
          first
          | (refine ⟨w6.heap.size, A6, c6, ?_, ?_, ?_, ?_, ?_, ?_, hc6, hm6, ?_, ?_⟩; (with_reducible rfl); exact rfl; exact rfl; exact Lies.fresh _ _ _; (focus (have := HK.out; (repeat' (first | (with_reducible assumption) | (with_reducible exact Lies.fresh _ _ _) | (with_reducible apply Lies.fresh_at; (first | (with_reducible rfl) | (simp; done))) | (with_reducible refine Lies.drew ?_) | (with_reducible refine Lies.drewN ?_ _) | (with_reducible refine Lies.alloc ?_ _) | (with_reducible apply Lies.past; case hb => (with_reducible assumption)) | (with_reducible apply Lies.keeps; (case k => (with_reducible assumption)); (case ht => decide)) | (with_reducible apply Lies.store3) | (with_reducible apply Lies.other; case hp => (first | omega | (simp; done) | (simp; omega))))); done)); exact hh6.below ((Below.refl _ _).alloc (Nat.le_refl _) _) (Nat.le_refl _); (focus (have := HW.out; (repeat' (first | (with_reducible exact Below.refl _ _) | (with_reducible assumption) | (with_reducible refine below_drewN ?_ _) | (with_reducible refine below_new ?_ _) | (with_reducible refine Below.alloc ?_ ?_ _) | (with_reducible refine Below.drew ?_) | (with_reducible refine Below.setCell ?_ ?_ _) | (with_reducible apply below_at; (case k => (with_reducible assumption)); (case hB => omega)) | (with_reducible apply below_on; (with_reducible assumption)) | (go_size; done) | (with_reducible apply size_of))); done)); omega)
          | (refine ⟨wr.heap.size, A6, c6, ?_, ?_, ?_, ?_, ?_, ?_, hc6, hm6, ?_, ?_⟩; (with_reducible rfl); exact rfl; exact rfl; exact store5 L9; (focus (have := HK.out; (repeat' (first | (with_reducible assumption) | (with_reducible exact Lies.fresh _ _ _) | (with_reducible apply Lies.fresh_at; (first | (with_reducible rfl) | (simp; done))) | (with_reducible refine Lies.drew ?_) | (with_reducible refine Lies.drewN ?_ _) | (with_reducible refine Lies.alloc ?_ _) | (with_reducible apply Lies.past; case hb => (with_reducible assumption)) | (with_reducible apply Lies.keeps; (case k => (with_reducible assumption)); (case ht => decide)) | (with_reducible apply Lies.store3) | (with_reducible apply Lies.other; case hp => (first | omega | (simp; done) | (simp; omega))))); done)); exact has_off5 hh6 L9; exact below_store5 (by have := HW.out; (repeat' (first | (with_reducible exact Below.refl _ _) | (with_reducible assumption) | (with_reducible refine below_drewN ?_ _) | (with_reducible refine below_new ?_ _) | (with_reducible refine Below.alloc ?_ ?_ _) | (with_reducible refine Below.drew ?_) | (with_reducible refine Below.setCell ?_ ?_ _) | (with_reducible apply below_at; (case k => (with_reducible assumption)); (case hB => omega)) | (with_reducible apply below_on; (with_reducible assumption)) | (go_size; done) | (with_reducible apply size_of)))) (by omega); omega)
      case rest =>
        obtain ⟨g2, A5, c5, rfl, rfl, rfl, K5, K6, H5, hc5, hm5, W5, hg2⟩ := hcut
        have HK5 := Lib.hid K5
        have HK6 := Lib.hid K6
        have HH5 := Lib.hid H5
        have HW5 := Lib.hid W5
        have hcell2 : wc.cell? ⟨b2, off2 + k, none⟩ = some (.bool (sbit s x)) := by rw [(bcell HW5.out).1 b2 _ hbl2]; exact HC2.out
        clear p0 p1 p2 p3 p4 f0 f1 f2 f3 f4 hcell
        obtain ⟨⟨p0, p1, p2, p3, p4⟩, f0, f1, f2, f3, f4⟩ := five K5
        obtain ⟨⟨q0, q1, q2, q3, q4⟩, k0, k1, k2, k3, k4⟩ := five K6
        have lt5 := K5.lt
        have lt6 := K6.lt
        have hbb : (sbit s x == sbit s x) = true := by simp
        have hbn : (sbit s x != sbit s x) = false := by simp
        have hl2 := L1.out
        clear K5 K6 H5 W5
        go_wp2
        go_roundw
        case rel =>
          refine ⟨k + 1, A5, c5, by omega, by go_num, ?_, has_off5 HH5.out HK6.out, hc5, hm5, below_store5 HW5.out (Nat.le_refl _)⟩
          rw [HS.out]; exact store5 HK6.out
        case measure => simp [intOf]; omega
    · go_wp2
      go_ret
      exact ⟨rfl, HWW.out⟩
end Go.Proofs.Ytckbiielahgliaa.decL
