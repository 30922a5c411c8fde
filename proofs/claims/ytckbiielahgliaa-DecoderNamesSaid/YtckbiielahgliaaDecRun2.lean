/- What the reference's Run returns, by a walk. -/
import Derived.Test.YtckbiielahgliaaDecRun
namespace Go.Proofs.Ytckbiielahgliaa.decW
open Go.RowKit Go.Proofs.Ytckbiielahgliaa.base Go.Proofs.Ytckbiielahgliaa.encP Go.Proofs.Ytckbiielahgliaa.encW Go.Proofs.Ytckbiielahgliaa.decP
set_option linter.unusedVariables false
set_option linter.unusedSimpArgs false

theorem rnE_cases (ps : List Int) (n : Nat) : rnE ps n = 0 ∨ rnE ps n = 2 ∨ rnE ps n = 4 := by
  unfold rnE
  split
  · omega
  · split
    · split <;> omega
    · omega
theorem own_setBK {w : World} {B g : Nat} {v : Value} {zs : List Bool} {a b c d e : Value} (k : OwnB w B 4 v zs) (K : Lies w g 25 [a, b, c, d, e]) (i : Nat) (x : Value) : OwnB (w.setCell ⟨g, i, none⟩ x) B 4 v zs :=
  own_setB k (own_neB k K (by decide)) x
theorem own_store5 {w : World} {B g : Nat} {v : Value} {zs : List Bool} {a b c d e a' b' c' d' e' : Value} (k : OwnB w B 4 v zs) (K : Lies w g 25 [a, b, c, d, e]) :
    OwnB (((((w.setCell ⟨g, 0, none⟩ a').setCell ⟨g, 1, none⟩ b').setCell ⟨g, 2, none⟩ c').setCell ⟨g, 3, none⟩ d').setCell ⟨g, 4, none⟩ e') B 4 v zs :=
  own_setBK (own_setBK (own_setBK (own_setBK (own_setBK k K 0 _) (K.set 0 _) 1 _) ((K.set 0 _).set 1 _) 2 _) (((K.set 0 _).set 1 _).set 2 _) 3 _) ((((K.set 0 _).set 1 _).set 2 _).set 3 _) 4 _
theorem below_store5 {w w' : World} {B g : Nat} {a' b' c' d' e' : Value} (k : Below B w w') (hg : B ≤ g) : Below B w (((((w'.setCell ⟨g, 0, none⟩ a').setCell ⟨g, 1, none⟩ b').setCell ⟨g, 2, none⟩ c').setCell ⟨g, 3, none⟩ d').setCell ⟨g, 4, none⟩ e') :=
  ((((k.setCell hg _).setCell hg _).setCell hg _).setCell hg _).setCell hg _
set_option maxRecDepth 100000 in
set_option maxHeartbeats 4000000 in
theorem rRunD_any (A P : Option Addr) (n c lp cp : Nat) (zs ps : List Int) (w : World) (hA : Has .u8 w A zs) (hn : zs.length = n) (hc : n ≤ c) (hm : n ≤ 9223372036854775807) (hz : InB zs) (hP : Has .i64 w P ps) (el : ps.length = lp) (m1 : lp ≤ 9223372036854775807) :
    Calls Try.prog 19 #[.slice A n c, .slice P lp cp] w fun e w' => ∃ A' c', e = .returned (.tuple #[.slice A' (drV zs ps).length c', .int .i64 (drE n ps)]) ∧ HasB w' A' (drV zs ps) ∧ (drV zs ps).length ≤ c' ∧ Below w.heap.size w w' := by
  subst hn
  subst el
  have HA := Lib.hid hA
  have HZ := Lib.hid hz
  have HP := Lib.hid hP
  clear hA hz hP
  by_cases h1 : 20000 < zs.length
  · have HE : Hid (drE zs.length ps = 4) := Lib.hid (by rw [drE, if_pos h1])
    have HV := Lib.hid (drV_no (zs := zs) (ps := ps) (by rw [HE.out]; omega))
    go_enter Try.func19, Try.ntmps19
    go_wp2_with fail
    refine (rNew_bad A zs.length c _ h1 hm).mono ?_
    rintro e w1 ⟨rfl, hb1⟩
    go_wp2
    go_ret2
    rw [HV.out, HE.out]
    exact ⟨none, 0, rfl, .inl rfl, by simp, by (repeat' (first | (with_reducible exact Below.refl _ _) | (with_reducible assumption) | (with_reducible refine below_drewN ?_ _) | (with_reducible refine below_new ?_ _) | (with_reducible refine Below.alloc ?_ ?_ _) | (with_reducible refine Below.drew ?_) | (with_reducible refine Below.setCell ?_ ?_ _) | (with_reducible apply below_at; (case k => (with_reducible assumption)); (case hB => omega)) | (with_reducible apply below_on; (with_reducible assumption)) | (go_size; done) | (with_reducible apply size_of)))⟩
  · by_cases h0 : rnE ps ps.length = 0
    · have HRE : Hid (drE zs.length ps = 0) := Lib.hid (by rw [drE, if_neg h1]; exact h0)
      have HRV := Lib.hid (drV_yes HRE.out)
      have HPB := Lib.hid h0
      have h2 : ps.length ≤ 2000 ∧ ps.all pOk = true := by
        unfold rnE at h0
        by_cases c1 : 2000 < ps.length
        · rw [if_pos c1] at h0; omega
        · rw [if_neg c1, if_pos rfl] at h0
          cases c3 : ps.all pOk
          · rw [c3] at h0; simp at h0
          · exact ⟨by omega, rfl⟩
      have HPO := Lib.hid h2.2
      have HAK : Hid (∀ k, (ps.take k).all pOk = true) := Lib.hid (fun k => List.all_eq_true.2 fun z hz => List.all_eq_true.1 HPO.out z (List.mem_of_mem_take hz))
      have h22 := h2.1
      clear h2 h0
      go_enter Try.func19, Try.ntmps19
      go_wp2_with fail
      refine (rNew_okD A zs.length c zs _ HA.out rfl hc (by omega) HZ.out).mono ?_
      rintro e w1 ⟨A1, c1, rfl, hh1, hc1, hm1, hb1⟩
      have HH1 := Lib.hid hh1
      have HB1 := Lib.hid hb1
      have HM1 := Lib.hid hm1
      have HC1 := Lib.hid hc1
      clear hh1 hb1 hm1 hc1
      go_wp2_with (first | (go_at_call 22; refine (rProbs_any _ _ _ ps.length ps _ (HP.out.below (by have := HB1.out; (repeat' (first | (with_reducible exact Below.refl _ _) | (with_reducible assumption) | (with_reducible refine below_drewN ?_ _) | (with_reducible refine below_new ?_ _) | (with_reducible refine Below.alloc ?_ ?_ _) | (with_reducible refine Below.drew ?_) | (with_reducible refine Below.setCell ?_ ?_ _) | (with_reducible apply below_at; (case k => (with_reducible assumption)); (case hB => omega)) | (with_reducible apply below_on; (with_reducible assumption)) | (go_size; done) | (with_reducible apply size_of)))) (Nat.le_refl _)) rfl (by omega) (by omega)).mono ?_; rintro e w' ⟨rfl, rfl⟩; rw [HPB.out]))
      have hs1 := HB1.out.size
      go_loopw [8, 9] (fun o i wr => ∃ (k : Nat) (Ak : Option Addr) (ck : Nat), k ≤ ps.length ∧ i = .int .i64 k ∧ o = .slice Ak k ck ∧ (Lies (wr) (w1.heap.size) 25 [.int .u32 ((stD zs (ps.take k) (sd0 zs)).1), .int .u32 ((stD zs (ps.take k) (sd0 zs)).2.1), .int .u32 ((stD zs (ps.take k) (sd0 zs)).2.2.1), .slice (A1) (zs.length) (c1), .int .i64 ((stD zs (ps.take k) (sd0 zs)).2.2.2)]) ∧ OwnB wr w1.heap.size 4 (.slice Ak k ck) (btD zs (ps.take k) (sd0 zs)) ∧ Below w1.heap.size w1 wr) (fun _ i _ => ps.length - (intOf i).toNat)
      case atStart =>
        refine ⟨0, none, 0, by omega, rfl, rfl, ?_, OwnB.nil _ _ _, by (repeat' (first | (with_reducible exact Below.refl _ _) | (with_reducible assumption) | (with_reducible refine below_drewN ?_ _) | (with_reducible refine below_new ?_ _) | (with_reducible refine Below.alloc ?_ ?_ _) | (with_reducible refine Below.drew ?_) | (with_reducible refine Below.setCell ?_ ?_ _) | (with_reducible apply below_at; (case k => (with_reducible assumption)); (case hB => omega)) | (with_reducible apply below_on; (with_reducible assumption)) | (go_size; done) | (with_reducible apply size_of)))⟩
        have : Lies (w1.alloc (.cells #[.int .u32 0, .int .u32 4294967295, .int .u32 (win zs 0), .slice A1 zs.length c1, .int .i64 4] 25)) (w1.heap.size) 25 [.int .u32 (0), .int .u32 (4294967295), .int .u32 (win zs 0), .slice (A1) (zs.length) (c1), .int .i64 (4)] := by (repeat' (first | (with_reducible assumption) | (with_reducible exact Lies.fresh _ _ _) | (with_reducible apply Lies.fresh_at; (first | (with_reducible rfl) | (simp; done))) | (with_reducible refine Lies.drew ?_) | (with_reducible refine Lies.drewN ?_ _) | (with_reducible refine Lies.alloc ?_ _) | (with_reducible apply Lies.past; case hb => (with_reducible assumption)) | (with_reducible apply Lies.keeps; (case k => (with_reducible assumption)); (case ht => decide)) | (with_reducible apply Lies.store3) | (with_reducible apply Lies.other; case hp => (first | omega | (simp; done) | (simp; omega)))))
        exact this
      case round =>
        obtain ⟨k, Ak, ck, hk, rfl, rfl, K, O, W1⟩ := hrel
        obtain ⟨hgd, hg4, hgl⟩ := stD_good HZ.out ps k hk (HAK.out k)
        have HGD := Lib.hid hgd
        have HK := Lib.hid K
        have HO := Lib.hid O
        have HW1 := Lib.hid W1
        have HW := Lib.hid (HB1.out.trans (W1.mono hs1))
        obtain ⟨⟨p0, p1, p2, p3, p4⟩, f0, f1, f2, f3, f4⟩ := five K
        have lt1 := K.lt
        have HLB : Hid ((btD zs (ps.take k) (sd0 zs)).length = k) := Lib.hid (by rw [btD_len, List.length_take]; omega)
        clear hgd K O W1
        by_cases hlt : k < ps.length
        · obtain ⟨b, off, rfl, hbl, hcl⟩ := has_some HP.out (by omega)
          have hcell : wr.cell? ⟨b, off + k, none⟩ = some (.int .i64 (ps.getD k 0)) := by rw [(bcell HW.out).1 b _ hbl]; exact hcl k hlt
          have HS := Lib.hid (stD_snoc zs ps (sd0 zs) k hlt)
          have HT := Lib.hid (btD_snoc zs ps (sd0 zs) k hlt)
          have HX := Lib.hid (all_getD HPO.out hlt)
          have hbw : b < wr.heap.size := by have := HW.out.size; omega
          have i1 : (0 : Int) ≤ (k : Int) := by omega
          have i2 : (k : Int) < ps.length := by omega
          clear hcl
          generalize ps.getD k 0 = x at *
          generalize stD zs (ps.take k) (sd0 zs) = s at *
          generalize btD zs (ps.take k) (sd0 zs) = bt at *
          have hgo : DGood s := HGD.out
          obtain ⟨s1, s2, s3, s4, s5, s6⟩ := hgo
          clear s4
          go_upto_region 10 with fail
          go_cut [10, 11] (fun s10 s11 wx => ∃ g2 : Nat, s10 = .pointer (some ⟨g2, 0, none⟩) ∧ s11 = .bool (sbit s x) ∧ (Lies (wx) (g2) 25 [.int .u32 ((gnx zs s x).1), .int .u32 ((gnx zs s x).2.1), .int .u32 ((gnx zs s x).2.2.1), .slice (A1) (zs.length) (c1), .int .i64 ((gnx zs s x).2.2.2)]) ∧ (Lies (wx) (w1.heap.size) 25 [.int .u32 ((s).1), .int .u32 ((s).2.1), .int .u32 ((s).2.2.1), .slice (A1) (zs.length) (c1), .int .i64 ((s).2.2.2)]) ∧ OwnB wx w1.heap.size 4 (.slice Ak k ck) bt ∧ Below w1.heap.size w1 wx ∧ w1.heap.size < g2)
          case first =>
            go_region_law (first | (go_simp; go_at_call 31; refine (rDid_any s.1 s.2.1 s.2.2.1 A1 zs.length c1 s.2.2.2 zs x _ s1 s2 s3 s5 s6 HX.out (HH1.out.below (by have := HW1.out; (repeat' (first | (with_reducible exact Below.refl _ _) | (with_reducible assumption) | (with_reducible refine below_drewN ?_ _) | (with_reducible refine below_new ?_ _) | (with_reducible refine Below.alloc ?_ ?_ _) | (with_reducible refine Below.drew ?_) | (with_reducible refine Below.setCell ?_ ?_ _) | (with_reducible apply below_at; (case k => (with_reducible assumption)); (case hB => omega)) | (with_reducible apply below_on; (with_reducible assumption)) | (go_size; done) | (with_reducible apply size_of)))) (Nat.le_refl _)) rfl (by omega) (by omega) HZ.out).mono ?_; rintro e w4 ⟨rfl, hb4⟩; try (refine lay (P := Lies (w4) (wr.heap.size) 25 [.int .u32 (0), .int .u32 (0), .int .u32 (0), .slice (none) (0) (0), .int .i64 (0)]) ?_ ?_; (focus ((repeat' (first | (with_reducible assumption) | (with_reducible exact Lies.fresh _ _ _) | (with_reducible apply Lies.fresh_at; (first | (with_reducible rfl) | (simp; done))) | (with_reducible refine Lies.drew ?_) | (with_reducible refine Lies.drewN ?_ _) | (with_reducible refine Lies.alloc ?_ _) | (with_reducible apply Lies.past; case hb => (with_reducible assumption)) | (with_reducible apply Lies.keeps; (case k => (with_reducible assumption)); (case ht => decide)) | (with_reducible apply Lies.store3) | (with_reducible apply Lies.other; case hp => (first | omega | (simp; done) | (simp; omega))))); done)); intro L9; obtain ⟨⟨b0, b1, b2, b3, b4⟩, g0, g1, g2, g3, g4⟩ := five L9; have lb := L9.lt)))
            all_goals
              go_wp2_with fail
              go_meet
              have hs4 := hb4.size
              simp at hs4
              first
              | (refine ⟨w4.heap.size, ?_, ?_, ?_, ?_, ?_, ?_, ?_⟩; (with_reducible rfl); exact rfl; exact Lies.fresh _ _ _; (focus (have := HK.out; (repeat' (first | (with_reducible assumption) | (with_reducible exact Lies.fresh _ _ _) | (with_reducible apply Lies.fresh_at; (first | (with_reducible rfl) | (simp; done))) | (with_reducible refine Lies.drew ?_) | (with_reducible refine Lies.drewN ?_ _) | (with_reducible refine Lies.alloc ?_ _) | (with_reducible apply Lies.past; case hb => (with_reducible assumption)) | (with_reducible apply Lies.keeps; (case k => (with_reducible assumption)); (case ht => decide)) | (with_reducible apply Lies.store3) | (with_reducible apply Lies.other; case hp => (first | omega | (simp; done) | (simp; omega))))); done)); exact HO.out.below (by (repeat' (first | (with_reducible exact Below.refl _ _) | (with_reducible assumption) | (with_reducible refine below_drewN ?_ _) | (with_reducible refine below_new ?_ _) | (with_reducible refine Below.alloc ?_ ?_ _) | (with_reducible refine Below.drew ?_) | (with_reducible refine Below.setCell ?_ ?_ _) | (with_reducible apply below_at; (case k => (with_reducible assumption)); (case hB => omega)) | (with_reducible apply below_on; (with_reducible assumption)) | (go_size; done) | (with_reducible apply size_of)))) (Nat.le_refl _); (focus (have := HW1.out; (repeat' (first | (with_reducible exact Below.refl _ _) | (with_reducible assumption) | (with_reducible refine below_drewN ?_ _) | (with_reducible refine below_new ?_ _) | (with_reducible refine Below.alloc ?_ ?_ _) | (with_reducible refine Below.drew ?_) | (with_reducible refine Below.setCell ?_ ?_ _) | (with_reducible apply below_at; (case k => (with_reducible assumption)); (case hB => omega)) | (with_reducible apply below_on; (with_reducible assumption)) | (go_size; done) | (with_reducible apply size_of))); done)); omega)
              | (refine ⟨wr.heap.size, ?_, ?_, ?_, ?_, ?_, ?_, ?_⟩; (with_reducible rfl); exact rfl; exact store5 L9; (focus (have := HK.out; (repeat' (first | (with_reducible assumption) | (with_reducible exact Lies.fresh _ _ _) | (with_reducible apply Lies.fresh_at; (first | (with_reducible rfl) | (simp; done))) | (with_reducible refine Lies.drew ?_) | (with_reducible refine Lies.drewN ?_ _) | (with_reducible refine Lies.alloc ?_ _) | (with_reducible apply Lies.past; case hb => (with_reducible assumption)) | (with_reducible apply Lies.keeps; (case k => (with_reducible assumption)); (case ht => decide)) | (with_reducible apply Lies.store3) | (with_reducible apply Lies.other; case hp => (first | omega | (simp; done) | (simp; omega))))); done)); exact own_store5 (HO.out.below (w' := w4) (C := wr.heap.size) (by (repeat' (first | (with_reducible exact Below.refl _ _) | (with_reducible assumption) | (with_reducible refine below_drewN ?_ _) | (with_reducible refine below_new ?_ _) | (with_reducible refine Below.alloc ?_ ?_ _) | (with_reducible refine Below.drew ?_) | (with_reducible refine Below.setCell ?_ ?_ _) | (with_reducible apply below_at; (case k => (with_reducible assumption)); (case hB => omega)) | (with_reducible apply below_on; (with_reducible assumption)) | (go_size; done) | (with_reducible apply size_of)))) (Nat.le_refl _)) L9; exact below_store5 (by have := HW1.out; (repeat' (first | (with_reducible exact Below.refl _ _) | (with_reducible assumption) | (with_reducible refine below_drewN ?_ _) | (with_reducible refine below_new ?_ _) | (with_reducible refine Below.alloc ?_ ?_ _) | (with_reducible refine Below.drew ?_) | (with_reducible refine Below.setCell ?_ ?_ _) | (with_reducible apply below_at; (case k => (with_reducible assumption)); (case hB => omega)) | (with_reducible apply below_on; (with_reducible assumption)) | (go_size; done) | (with_reducible apply size_of)))) (by omega); omega)
          case rest =>
            obtain ⟨g2, rfl, rfl, K5, K6, O5, W5, hg2⟩ := hcut
            have HK5 := Lib.hid K5
            have HK6 := Lib.hid K6
            have HO5 := Lib.hid O5
            have HW5 := Lib.hid W5
            clear p0 p1 p2 p3 p4 f0 f1 f2 f3 f4 hcell
            obtain ⟨⟨p0, p1, p2, p3, p4⟩, f0, f1, f2, f3, f4⟩ := five K5
            obtain ⟨⟨q0, q1, q2, q3, q4⟩, k0, k1, k2, k3, k4⟩ := five K6
            have lt5 := K5.lt
            have lt6 := K6.lt
            clear K5 K6 O5 W5
            go_upto_region 11 with fail
            go_region_law (refine step_appB (by rfl) _ _ (by rfl) w1.heap.size _ bt (by rfl) (OwnB.below (w := wc) HO5.out (by (repeat' (first | (with_reducible exact Below.refl _ _) | (with_reducible assumption) | (with_reducible refine below_drewN ?_ _) | (with_reducible refine below_new ?_ _) | (with_reducible refine Below.alloc ?_ ?_ _) | (with_reducible refine Below.drew ?_) | (with_reducible refine Below.setCell ?_ ?_ _) | (with_reducible apply below_at; (case k => (with_reducible assumption)); (case hB => omega)) | (with_reducible apply below_on; (with_reducible assumption)) | (go_size; done) | (with_reducible apply size_of)))) (Nat.le_refl _)) (some ⟨wc.heap.size, 0, none⟩) 1 1 [sbit s x] (by rfl) rfl (by first | exact hasB_lit (zs := [sbit s x]) (by simp) (by simp [maxLen])) (k + 1) (by rw [HLB.out]) (by omega) (by simp; omega) ?_; intro A5 c5 w5 o5 k5 b5; have L9 : Lies (w5) (w1.heap.size) 25 [.int .u32 ((s).1), .int .u32 ((s).2.1), .int .u32 ((s).2.2.1), .slice (A1) (zs.length) (c1), .int .i64 ((s).2.2.2)] := k5 _ _ _ (by have := HK6.out; (repeat' (first | (with_reducible assumption) | (with_reducible exact Lies.fresh _ _ _) | (with_reducible apply Lies.fresh_at; (first | (with_reducible rfl) | (simp; done))) | (with_reducible refine Lies.drew ?_) | (with_reducible refine Lies.drewN ?_ _) | (with_reducible refine Lies.alloc ?_ _) | (with_reducible apply Lies.past; case hb => (with_reducible assumption)) | (with_reducible apply Lies.keeps; (case k => (with_reducible assumption)); (case ht => decide)) | (with_reducible apply Lies.store3) | (with_reducible apply Lies.other; case hp => (first | omega | (simp; done) | (simp; omega)))))) (by decide); have L8 : Lies (w5) (g2) 25 [.int .u32 ((gnx zs s x).1), .int .u32 ((gnx zs s x).2.1), .int .u32 ((gnx zs s x).2.2.1), .slice (A1) (zs.length) (c1), .int .i64 ((gnx zs s x).2.2.2)] := k5 _ _ _ (by have := HK5.out; (repeat' (first | (with_reducible assumption) | (with_reducible exact Lies.fresh _ _ _) | (with_reducible apply Lies.fresh_at; (first | (with_reducible rfl) | (simp; done))) | (with_reducible refine Lies.drew ?_) | (with_reducible refine Lies.drewN ?_ _) | (with_reducible refine Lies.alloc ?_ _) | (with_reducible apply Lies.past; case hb => (with_reducible assumption)) | (with_reducible apply Lies.keeps; (case k => (with_reducible assumption)); (case ht => decide)) | (with_reducible apply Lies.store3) | (with_reducible apply Lies.other; case hp => (first | omega | (simp; done) | (simp; omega)))))) (by decide); obtain ⟨⟨b0, b1, b2, b3, b4⟩, g0, g1, g2, g3, g4⟩ := five L9; obtain ⟨⟨e0, e1, e2, e3, e4⟩, h0, h1, h2, h3, h4⟩ := five L8; have lb := L9.lt)
            all_goals
              go_wp2_with fail
              go_roundw
              case rel =>
                refine ⟨k + 1, A5, c5, by omega, by go_num, rfl, ?_, ?_, ?_⟩
                · rw [HS.out]; exact store5 L9
                · rw [HT.out]; exact own_store5 o5 L9
                · exact below_store5 (by have := HW5.out; (repeat' (first | (with_reducible exact Below.refl _ _) | (with_reducible assumption) | (with_reducible refine below_drewN ?_ _) | (with_reducible refine below_new ?_ _) | (with_reducible refine Below.alloc ?_ ?_ _) | (with_reducible refine Below.drew ?_) | (with_reducible refine Below.setCell ?_ ?_ _) | (with_reducible apply below_at; (case k => (with_reducible assumption)); (case hB => omega)) | (with_reducible apply below_on; (with_reducible assumption)) | (go_size; done) | (with_reducible apply size_of)))) (Nat.le_refl _)
              case measure => simp [intOf]; omega
        · have hke : k = ps.length := by omega
          have HT : Hid (ps.take k = ps) := Lib.hid (List.take_of_length_le (by omega))
          rw [HT.out] at HO
          have HL : Hid ((drV zs ps).length = ps.length) := Lib.hid (by rw [HRV.out, btD_len])
          have HOB : Hid (HasB wr Ak (drV zs ps)) := Lib.hid (by
            have := HO.out.has
            rw [← HRV.out] at this
            exact this)
          have HCK : Hid (ps.length ≤ ck) := Lib.hid (by
            obtain ⟨A5, c5, e5, _, h5, _⟩ := HO.out.val
            injection e5 with _ _ e6
            rw [btD_len] at h5
            rw [e6]; exact h5)
          subst hke
          go_wp2
          go_ret2
          rw [HL.out, HRE.out]
          exact ⟨_, _, rfl, HOB.out, HCK.out, by have := HW.out; (repeat' (first | (with_reducible exact Below.refl _ _) | (with_reducible assumption) | (with_reducible refine below_drewN ?_ _) | (with_reducible refine below_new ?_ _) | (with_reducible refine Below.alloc ?_ ?_ _) | (with_reducible refine Below.drew ?_) | (with_reducible refine Below.setCell ?_ ?_ _) | (with_reducible apply below_at; (case k => (with_reducible assumption)); (case hB => omega)) | (with_reducible apply below_on; (with_reducible assumption)) | (go_size; done) | (with_reducible apply size_of)))⟩
    · have HE : Hid (drE zs.length ps = rnE ps ps.length) := Lib.hid (by rw [drE, if_neg h1])
      have HV := Lib.hid (drV_no (zs := zs) (ps := ps) (by rw [HE.out]; exact h0))
      have hc0 := rnE_cases ps ps.length
      have hne : ¬ (rnE ps ps.length) = 0 := h0
      rcases hc0 with hc0 | hc0 | hc0
      · exact absurd hc0 h0
      all_goals
        have HPB := Lib.hid hc0
        clear hc0 h0 hne
        go_enter Try.func19, Try.ntmps19
        go_wp2_with fail
        refine (rNew_okD A zs.length c zs _ HA.out rfl hc (by omega) HZ.out).mono ?_
        rintro e w1 ⟨A1, c1, rfl, hh1, hc1, hm1, hb1⟩
        have HB1 := Lib.hid hb1
        clear hh1
        go_wp2_with (first | (go_at_call 22; refine (rProbs_any _ _ _ ps.length ps _ (HP.out.below (by have := HB1.out; (repeat' (first | (with_reducible exact Below.refl _ _) | (with_reducible assumption) | (with_reducible refine below_drewN ?_ _) | (with_reducible refine below_new ?_ _) | (with_reducible refine Below.alloc ?_ ?_ _) | (with_reducible refine Below.drew ?_) | (with_reducible refine Below.setCell ?_ ?_ _) | (with_reducible apply below_at; (case k => (with_reducible assumption)); (case hB => omega)) | (with_reducible apply below_on; (with_reducible assumption)) | (go_size; done) | (with_reducible apply size_of)))) (Nat.le_refl _)) rfl (by omega) (by omega)).mono ?_; rintro e w' ⟨rfl, rfl⟩; rw [HPB.out]))
        go_ret2
        rw [HV.out, HE.out, HPB.out]
        exact ⟨none, 0, rfl, .inl rfl, by simp, by have := HB1.out; (repeat' (first | (with_reducible exact Below.refl _ _) | (with_reducible assumption) | (with_reducible refine below_drewN ?_ _) | (with_reducible refine below_new ?_ _) | (with_reducible refine Below.alloc ?_ ?_ _) | (with_reducible refine Below.drew ?_) | (with_reducible refine Below.setCell ?_ ?_ _) | (with_reducible apply below_at; (case k => (with_reducible assumption)); (case hB => omega)) | (with_reducible apply below_on; (with_reducible assumption)) | (go_size; done) | (with_reducible apply size_of)))⟩
end Go.Proofs.Ytckbiielahgliaa.decW
