/- What the decoder's Run returns, by a walk. -/
import Derived.Test.YtckbiielahgliaaDecSame
import Derived.Test.YtckbiielahgliaaEncR3
namespace Go.Proofs.Ytckbiielahgliaa.decW
open Go.RowKit Go.Proofs.Ytckbiielahgliaa.base Go.Proofs.Ytckbiielahgliaa.encP Go.Proofs.Ytckbiielahgliaa.encW Go.Proofs.Ytckbiielahgliaa.decP
set_option linter.unusedVariables false
set_option linter.unusedSimpArgs false

set_option maxRecDepth 100000 in
set_option maxHeartbeats 4000000 in
theorem RunD_any (A P : Option Addr) (n c lp cp : Nat) (zs ps : List Int) (w : World) (hA : Has .u8 w A zs) (hn : zs.length = n) (hc : n ≤ c) (hm : n ≤ 9223372036854775807) (hz : InB zs) (hP : Has .i64 w P ps) (el : ps.length = lp) (m1 : lp ≤ 9223372036854775807) :
    Calls Try.prog 18 #[.slice A n c, .slice P lp cp] w fun e w' => ∃ A' c', e = .returned (.tuple #[.slice A' (drV zs ps).length c', .int .i64 (drE n ps)]) ∧ HasB w' A' (drV zs ps) ∧ (drV zs ps).length ≤ c' ∧ Below w.heap.size w w' := by
  subst hn
  subst el
  have HA := Lib.hid hA
  have HZ := Lib.hid hz
  have HP := Lib.hid hP
  clear hA hz hP
  by_cases h1 : 20000 < zs.length
  · have HE : Hid (drE zs.length ps = 4) := Lib.hid (by rw [drE, if_pos h1])
    have HV := Lib.hid (drV_no (zs := zs) (ps := ps) (by rw [HE.out]; omega))
    go_enter Try.func18, Try.ntmps18
    go_wp2_with fail
    refine (New_bad A zs.length c _ h1 hm).mono ?_
    rintro e w1 ⟨rfl, hb1⟩
    go_wp2
    go_ret2
    rw [HV.out, HE.out]
    exact ⟨none, 0, rfl, .inl rfl, by simp, by (repeat' (first | (with_reducible exact Below.refl _ _) | (with_reducible assumption) | (with_reducible refine below_drewN ?_ _) | (with_reducible refine below_new ?_ _) | (with_reducible refine Below.alloc ?_ ?_ _) | (with_reducible refine Below.drew ?_) | (with_reducible refine Below.setCell ?_ ?_ _) | (with_reducible apply below_at; (case k => (with_reducible assumption)); (case hB => omega)) | (with_reducible apply below_on; (with_reducible assumption)) | (go_size; done) | (with_reducible apply size_of)))⟩
  · by_cases h2 : 2000 < ps.length
    · have HE : Hid (drE zs.length ps = 4) := Lib.hid (by rw [drE, if_neg h1, rnE, if_pos h2])
      have HV := Lib.hid (drV_no (zs := zs) (ps := ps) (by rw [HE.out]; omega))
      have g2 : (2000 : Int) < ps.length := by omega
      go_enter Try.func18, Try.ntmps18
      go_wp2_with fail
      refine (New_ok A zs.length c zs _ HA.out rfl hc (by omega) HZ.out).mono ?_
      rintro e w1 ⟨A1, c1, rfl, hh1, hc1, hm1, hb1⟩
      go_wp2
      go_ret2
      rw [HV.out, HE.out]
      exact ⟨none, 0, rfl, .inl rfl, by simp, by (repeat' (first | (with_reducible exact Below.refl _ _) | (with_reducible assumption) | (with_reducible refine below_drewN ?_ _) | (with_reducible refine below_new ?_ _) | (with_reducible refine Below.alloc ?_ ?_ _) | (with_reducible refine Below.drew ?_) | (with_reducible refine Below.setCell ?_ ?_ _) | (with_reducible apply below_at; (case k => (with_reducible assumption)); (case hB => omega)) | (with_reducible apply below_on; (with_reducible assumption)) | (go_size; done) | (with_reducible apply size_of)))⟩
    · have HC : Hid (drE zs.length ps = if ps.all pOk then 0 else 2) := Lib.hid (drE_all (by omega) (by omega))
      have g2 : ¬ (2000 : Int) < ps.length := by omega
      have hmk := mkB ps.length (by omega)
      go_enter Try.func18, Try.ntmps18
      go_wp2_with fail
      refine (New_ok A zs.length c zs _ HA.out rfl hc (by omega) HZ.out).mono ?_
      rintro e w1 ⟨A1, c1, rfl, hh1, hc1, hm1, hb1⟩
      have HH1 := Lib.hid hh1
      have HB1 := Lib.hid hb1
      have HM1 := Lib.hid hm1
      have HC1 := Lib.hid hc1
      clear hh1 hb1 hm1 hc1
      go_wp2
      have hs1 := HB1.out.size
      go_loopw [26] (fun i wr => ∃ k : Nat, k ≤ ps.length ∧ i = .int .i64 k ∧ (ps.take k).all pOk = true ∧ (Lies (wr) (w1.heap.size) 25 [.int .u32 ((stD zs (ps.take k) (sd0 zs)).1), .int .u32 ((stD zs (ps.take k) (sd0 zs)).2.1), .int .u32 ((stD zs (ps.take k) (sd0 zs)).2.2.1), .slice (A1) (zs.length) (c1), .int .i64 ((stD zs (ps.take k) (sd0 zs)).2.2.2)]) ∧ OwnB wr w.heap.size 4 (.slice (some ⟨w1.heap.size + 1, 0, none⟩) ps.length ps.length) (btD zs (ps.take k) (sd0 zs) ++ List.replicate (ps.length - k) false) ∧ Below w1.heap.size w1 wr) (fun i _ => ps.length - (intOf i).toNat)
      case atStart =>
        refine ⟨0, by omega, rfl, rfl, ?_, ?_, by (repeat' (first | (with_reducible exact Below.refl _ _) | (with_reducible assumption) | (with_reducible refine below_drewN ?_ _) | (with_reducible refine below_new ?_ _) | (with_reducible refine Below.alloc ?_ ?_ _) | (with_reducible refine Below.drew ?_) | (with_reducible refine Below.setCell ?_ ?_ _) | (with_reducible apply below_at; (case k => (with_reducible assumption)); (case hB => omega)) | (with_reducible apply below_on; (with_reducible assumption)) | (go_size; done) | (with_reducible apply size_of)))⟩
        · have : Lies ((w1.alloc (.cells #[.int .u32 0, .int .u32 4294967295, .int .u32 (win zs 0), .slice A1 zs.length c1, .int .i64 4] 25)).alloc (.cells (bCells ps.length) 4)) (w1.heap.size) 25 [.int .u32 (0), .int .u32 (4294967295), .int .u32 (win zs 0), .slice (A1) (zs.length) (c1), .int .i64 (4)] := by (repeat' (first | (with_reducible assumption) | (with_reducible exact Lies.fresh _ _ _) | (with_reducible apply Lies.fresh_at; (first | (with_reducible rfl) | (simp; done))) | (with_reducible refine Lies.drew ?_) | (with_reducible refine Lies.drewN ?_ _) | (with_reducible refine Lies.alloc ?_ _) | (with_reducible apply Lies.past; case hb => (with_reducible assumption)) | (with_reducible apply Lies.keeps; (case k => (with_reducible assumption)); (case ht => decide)) | (with_reducible apply Lies.store3) | (with_reducible apply Lies.other; case hp => (first | omega | (simp; done) | (simp; omega)))))
          exact this
        simpa [btD] using own_b (w1.alloc _) 4 ps.length w.heap.size (by unfold maxLen; omega) (by simp; omega) (by simp)
      case round =>
        obtain ⟨k, hk, rfl, hal, K, O, W1⟩ := hrel
        have HW1 := Lib.hid W1
        have W := HB1.out.trans (W1.mono hs1)
        have H := HH1.out.below W1 (Nat.le_refl _)
        obtain ⟨hgd, hg4, hgl⟩ := stD_good HZ.out ps k hk hal
        have HAL := Lib.hid hal
        have HGD := Lib.hid hgd
        have HK := Lib.hid K
        have HH := Lib.hid H
        have HO := Lib.hid O
        have HW := Lib.hid W
        obtain ⟨⟨p0, p1, p2, p3, p4⟩, f0, f1, f2, f3, f4⟩ := five K
        have lt1 := K.lt
        clear hal hgd K H O W W1
        by_cases hlt : k < ps.length
        · obtain ⟨b, off, rfl, hbl, hcl⟩ := has_some HP.out (by omega)
          have hcell : wr.cell? ⟨b, off + k, none⟩ = some (.int .i64 (ps.getD k 0)) := by rw [(bcell HW.out).1 b _ hbl]; exact hcl k hlt
          have HBD := Lib.hid (allP_bad (ps := ps) (k := k) hlt)
          have HN := Lib.hid (allP_next (ps := ps) (k := k) hlt HAL.out)
          have HS := Lib.hid (stD_snoc zs ps (sd0 zs) k hlt)
          have HT := Lib.hid (btD_snoc zs ps (sd0 zs) k hlt)
          have HLB : Hid ((btD zs (ps.take k) (sd0 zs)).length = k) := Lib.hid (by rw [btD_len, List.length_take]; omega)
          have HLR : Hid (k < (btD zs (ps.take k) (sd0 zs) ++ List.replicate (ps.length - k) false).length) := Lib.hid (by rw [List.length_append, HLB.out, List.length_replicate]; omega)
          clear hcl
          generalize ps.getD k 0 = x at *
          generalize stD zs (ps.take k) (sd0 zs) = s at *
          generalize btD zs (ps.take k) (sd0 zs) = bt at *
          have hgo : DGood s := HGD.out
          obtain ⟨s1, s2, s3, s4, s5, s6⟩ := hgo
          clear s4
          cases hx : pOk x
          · have HX := Lib.hid hx
            have HV := Lib.hid (drV_no (zs := zs) (ps := ps) (by rw [HC.out, HBD.out hx]; simp))
            clear hx
            go_wp2_with fail
            refine (get_bad s.1 s.2.1 s.2.2.1 x A1 zs.length c1 s.2.2.2 _ _ s1 s2 s3 HX.out HK.out).mono ?_
            rintro e w4 ⟨rfl, n4, rfl⟩
            have hc4 := (HO.out.below (below_drewN (Below.refl _ _) n4) (Nat.le_refl _)).cell k HLR.out
            have hf4 := (HO.out.below (below_drewN (Below.refl _ _) n4) (Nat.le_refl _)).frozen k
            go_wp2
            go_ret2
            rw [HV.out, HC.out, HBD.out HX.out]
            exact ⟨none, 0, rfl, .inl rfl, by simp, by have := HW.out; (repeat' (first | (with_reducible exact Below.refl _ _) | (with_reducible assumption) | (with_reducible refine below_drewN ?_ _) | (with_reducible refine below_new ?_ _) | (with_reducible refine Below.alloc ?_ ?_ _) | (with_reducible refine Below.drew ?_) | (with_reducible refine Below.setCell ?_ ?_ _) | (with_reducible apply below_at; (case k => (with_reducible assumption)); (case hB => omega)) | (with_reducible apply below_on; (with_reducible assumption)) | (go_size; done) | (with_reducible apply size_of)))⟩
          · have HX := Lib.hid hx
            have hgn := (gnx_ok HZ.out HGD.out hx).2.2
            simp only [gnx] at hgn
            clear hx
            go_wp2_with fail
            refine (get_any (fun W => OwnB W w.heap.size 4 (.slice (some ⟨w1.heap.size + 1, 0, none⟩) ps.length ps.length) (bt ++ List.replicate (ps.length - k) false)) s.1 s.2.1 s.2.2.1 A1 zs.length c1 s.2.2.2 zs x w1.heap.size w1.heap.size _ s1 s2 s3 s5 s6 HX.out HK.out HH.out rfl HC1.out HM1.out (by omega) HZ.out (by omega) (by omega) HO.out (fun W i v k => own_setBg k (by omega) i v) (fun W W' k h => k.below h (Nat.le_refl _))).mono ?_
            rintro e w4 ⟨rfl, hb4, h4, hh4, ho4⟩
            have hl : (gt zs s.1 s.2.1 s.2.2.1 s.2.2.2 x).2.2.2 ≤ 1000000 := by omega
            rw [if_pos hl, if_pos hl]
            have HK4 := Lib.hid (h4 hl)
            have HH4 := Lib.hid hh4
            have HO4 := Lib.hid ho4
            have hc4 := ho4.cell k HLR.out
            have hf4 := ho4.frozen k
            have lt4 := HK4.out.lt
            clear h4 hh4 ho4 p0 p1 p2 p3 p4 f0 f1 f2 f3 f4
            go_wp2
            go_roundw
            case rel =>
              refine ⟨k + 1, by omega, by go_num, HN.out HX.out, ?_, ?_, by have := HW1.out; (repeat' (first | (with_reducible exact Below.refl _ _) | (with_reducible assumption) | (with_reducible refine below_drewN ?_ _) | (with_reducible refine below_new ?_ _) | (with_reducible refine Below.alloc ?_ ?_ _) | (with_reducible refine Below.drew ?_) | (with_reducible refine Below.setCell ?_ ?_ _) | (with_reducible apply below_at; (case k => (with_reducible assumption)); (case hB => omega)) | (with_reducible apply below_on; (with_reducible assumption)) | (go_size; done) | (with_reducible apply size_of)))⟩
              · rw [HS.out]; exact HK4.out.other (by simp) _
              · rw [HT.out]
                have := HO4.out.store k (sbit s x)
                rw [row_next HLB.out hlt] at this
                exact this
            case measure => simp [intOf]; omega
        · have hke : k = ps.length := by omega
          have HT : Hid (ps.take k = ps) := Lib.hid (List.take_of_length_le (by omega))
          rw [HT.out] at HAL HO
          have HRE : Hid (drE zs.length ps = 0) := Lib.hid (by rw [HC.out, HAL.out]; rfl)
          have HRV := Lib.hid (drV_yes HRE.out)
          have HL : Hid ((drV zs ps).length = ps.length) := Lib.hid (by rw [HRV.out, btD_len])
          have HOB : Hid (HasB wr (some ⟨w1.heap.size + 1, 0, none⟩) (drV zs ps)) := Lib.hid (by
            have := HO.out.has
            rw [hke, Nat.sub_self, List.replicate_zero, List.append_nil, ← HRV.out] at this
            exact this)
          clear hke
          go_wp2
          go_ret2
          rw [HL.out, HRE.out]
          exact ⟨_, _, rfl, HOB.out, Nat.le_refl _, by have := HW.out; (repeat' (first | (with_reducible exact Below.refl _ _) | (with_reducible assumption) | (with_reducible refine below_drewN ?_ _) | (with_reducible refine below_new ?_ _) | (with_reducible refine Below.alloc ?_ ?_ _) | (with_reducible refine Below.drew ?_) | (with_reducible refine Below.setCell ?_ ?_ _) | (with_reducible apply below_at; (case k => (with_reducible assumption)); (case hB => omega)) | (with_reducible apply below_on; (with_reducible assumption)) | (go_size; done) | (with_reducible apply size_of)))⟩
end Go.Proofs.Ytckbiielahgliaa.decW
