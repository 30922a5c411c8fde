/- EncoderStays, by a walk. -/
import Derived.Test.YtaehjhjbbkblbaaEncL5
import Derived.Deep.DeepCutAuto
namespace Go.Proofs.Ytaehjhjbbkblbaa.encL
open Go.RowKit Go.Proofs.Ytaehjhjbbkblbaa.base Go.Proofs.Ytaehjhjbbkblbaa.encP Go.Proofs.Ytaehjhjbbkblbaa.encW
set_option linter.unusedVariables false
set_option linter.unusedSimpArgs false

set_option maxRecDepth 100000 in
set_option maxHeartbeats 4000000 in
theorem stays_in (A Bb : Option Addr) (cp cb : Nat) (ps : List Int) (bs : List Bool) (w : World) (hA : Has .i64 w A ps) (hB : HasB w Bb bs) (m2 : bs.length ≤ 100) (h0 : rnE ps bs.length = 0) :
    Calls Try.prog 7 #[.slice A ps.length cp, .slice Bb bs.length cb] w fun e w' => e = .returned (.bool true) ∧ Below w.heap.size w w' := by
  have HA := Lib.hid hA
  have HB := Lib.hid hB
  have HRE := Lib.hid h0
  have HRV := Lib.hid (rnV_yes h0)
  have hall : ps.length = bs.length ∧ ps.all pOk = true := by
    unfold rnE at h0
    by_cases c1 : 2000 < bs.length
    · omega
    · rw [if_neg c1] at h0
      by_cases c2 : ps.length = bs.length
      · rw [if_pos c2] at h0
        cases c3 : ps.all pOk
        · rw [c3] at h0; simp at h0
        · exact ⟨c2, rfl⟩
      · rw [if_neg c2] at h0; omega
  have HL := Lib.hid hall.1
  have HP := Lib.hid hall.2
  have HAK : Hid (∀ k, (ps.take k).all pOk = true) := Lib.hid (fun k => List.all_eq_true.2 fun z hz => List.all_eq_true.1 HP.out z (List.mem_of_mem_take hz))
  have hle : ps.length ≤ bs.length := by omega
  have HEND : Hid (EGood (runS ps bs s0) ∧ (runS ps bs s0).2.2.length ≤ 4 * bs.length) := Lib.hid (by
    obtain ⟨e1, e2⟩ := run_good ps bs HL.out ps.length (Nat.le_refl _) (HAK.out _)
    rw [List.take_of_length_le (Nat.le_refl _), List.take_of_length_le (by omega)] at e1 e2
    exact ⟨e1, by omega⟩)
  clear hA hB h0 hall
  go_enter Try.func7, Try.ntmps7
  go_wp2_with (first | (go_at_call 29; refine (alive _).mono ?_; rintro e w1 ⟨rfl, hb1⟩) | (go_at_call 31; refine (rProbs_any _ _ _ bs.length ps _ (HA.out.below hb1 (Nat.le_refl _)) rfl (by omega) (by omega)).mono ?_; rintro e w' ⟨rfl, rfl⟩; rw [HRE.out]))
  refine (Run_any _ _ _ _ _ _ ps bs _ (HA.out.below hb1 (Nat.le_refl _)) rfl (by omega) (HB.out.below hb1 (Nat.le_refl _)) rfl (by omega)).mono ?_
  rintro e w2 ⟨A2, c2, rfl, hh2, hc2, hb2⟩
  rw [HRE.out]
  have H2 := Lib.hid hh2
  have HW2 := Lib.hid (hb1.trans (hb2.mono hb1.size))
  clear hh2 hb2 hb1
  go_wp2_with fail
  refine (New_any _).mono ?_
  rintro e w3 ⟨rfl, hb3⟩
  have HW3 := Lib.hid (HW2.out.trans (hb3.mono HW2.out.size))
  have H3 := Lib.hid (H2.out.below hb3 (Nat.le_refl _))
  have hs3 := HW3.out.size
  clear hb3 H2 HW2
  generalize hal : rnV ps bs = al at *
  have HALL := Lib.hid hal
  clear hal
  go_wp2_with fail
  go_loopw [9] (fun i wr => ∃ (k : Nat) (Ak : Option Addr) (ck : Nat), k ≤ bs.length ∧ i = .int .i64 k ∧ (Lies (wr) (w3.heap.size) 25 [.int .u32 ((runS (ps.take k) (bs.take k) s0).1), .int .u32 ((runS (ps.take k) (bs.take k) s0).2.1), .slice (Ak) ((runS (ps.take k) (bs.take k) s0).2.2.length) (ck)]) ∧ Has .u8 wr Ak (runS (ps.take k) (bs.take k) s0).2.2 ∧ (runS (ps.take k) (bs.take k) s0).2.2.length ≤ ck ∧ Has .u8 wr A2 al ∧ Below w.heap.size w wr) (fun i _ => bs.length - (intOf i).toNat)
  case atStart => exact ⟨0, none, 0, by omega, rfl, Lies.fresh _ _ _, .inl rfl, Nat.le_refl _, H3.out.below ((Below.refl _ _).alloc (Nat.le_refl _) _) (Nat.le_refl _), HW3.out.alloc hs3 _⟩
  case round =>
    obtain ⟨k, Ak, ck, hk, rfl, K, H, hck, HAL, W⟩ := hrel
    obtain ⟨hgd, hln⟩ := run_good ps bs HL.out k (by have := HL.out; omega) (HAK.out k)
    have HGD := Lib.hid hgd
    obtain ⟨p0, p1, p2, f0, f1, f2⟩ := K.three
    have lt1 := K.lt
    have HK := Lib.hid K
    have HH := Lib.hid H
    have HHA := Lib.hid HAL
    have HW := Lib.hid W
    clear hgd K H HAL W
    by_cases hlt : k < bs.length
    · have hkp : k < ps.length := by have := HL.out; omega
      obtain ⟨b, off, rfl, hbl, hc⟩ := has_some HA.out (by omega)
      have hcell : wr.cell? ⟨b, off + k, none⟩ = some (.int .i64 (ps.getD k 0)) := by rw [(bcell HW.out).1 b _ hbl]; exact hc k hkp
      obtain ⟨b2, off2, rfl, hbl2, hc2⟩ : ∃ b off, Bb = some ⟨b, off, none⟩ ∧ b < w.heap.size ∧ ∀ i, i < bs.length → w.cell? ⟨b, off + i, none⟩ = some (.bool (bs.getD i false)) := by
        rcases HB.out with h | h
        · rw [h] at hlt; simp at hlt
        · exact h
      have hcell2 : wr.cell? ⟨b2, off2 + k, none⟩ = some (.bool (bs.getD k false)) := by rw [(bcell HW.out).1 b2 _ hbl2]; exact hc2 k hlt
      have HN := Lib.hid (all_getD HP.out hkp)
      have HS := Lib.hid (runS_snoc ps bs s0 k hkp hlt)
      have HF := Lib.hid (runS_front (k + 1) ps bs)
      have i1 : (0 : Int) ≤ (k : Int) := by omega
      have i2 : (k : Int) < ps.length := by omega
      have i3 : (k : Int) < bs.length := by omega
      have HC1 := Lib.hid hcell
      have HC2 := Lib.hid hcell2
      clear hc hc2
      generalize ps.getD k 0 = x at *
      generalize bs.getD k false = bt at *
      generalize runS (ps.take k) (bs.take k) s0 = s at *
      have hgo : EGood s := HGD.out
      obtain ⟨s1, s2, s3, s4⟩ := hgo
      clear s4
      obtain ⟨k1, k2, k3, k4, k5, k6⟩ := pu_ok (b := bt) s1 s2 s3 HN.out
      have HR1 : Hid (ckV (pu s.1 s.2.1 x bt).1 (pu s.1 s.2.1 x bt).2.1 (s.2.2.length + (pu s.1 s.2.1 x bt).2.2.length) = 0) := Lib.hid (by rw [ckV, if_pos ((encOk_iff _ _ _).2 ⟨k4, k2, by omega⟩)])
      clear k4 k6
      go_wp2_with fail
      go_upto_region 10 with fail
      go_cut [10, 11] (fun s10 s11 wx => ∃ (g2 : Nat) (A4 : Option Addr) (c4 : Nat), s10 = .pointer (some ⟨g2, 0, none⟩) ∧ s11 = .int .i64 0 ∧ (Lies (wx) (g2) 25 [.int .u32 ((pu s.1 s.2.1 x bt).1), .int .u32 ((pu s.1 s.2.1 x bt).2.1), .slice (A4) (s.2.2.length + (pu s.1 s.2.1 x bt).2.2.length) (c4)]) ∧ (Lies (wx) (w3.heap.size) 25 [.int .u32 (s.1), .int .u32 (s.2.1), .slice (Ak) (s.2.2.length) (ck)]) ∧ Has .u8 wx A4 (s.2.2 ++ (pu s.1 s.2.1 x bt).2.2) ∧ s.2.2.length + (pu s.1 s.2.1 x bt).2.2.length ≤ c4 ∧ Has .u8 wx Ak s.2.2 ∧ Has .u8 wx A2 al ∧ Below w.heap.size w wx)
      case first =>
        clear p0 p1 p2 f0 f1 f2 hcell hcell2
        have hwz := HW.out.size
        go_region_held3 (fun x' => (x'.cell? ⟨w3.heap.size, 0, none⟩ = some (.int .u32 s.1) ∧ x'.cell? ⟨w3.heap.size, 1, none⟩ = some (.int .u32 s.2.1) ∧ x'.cell? ⟨w3.heap.size, 2, none⟩ = some (.slice Ak s.2.2.length ck)) ∧ x'.cell? ⟨b, off + k, none⟩ = some (.int .i64 x) ∧ x'.cell? ⟨b2, off2 + k, none⟩ = some (.bool bt))
          ((exact ⟨Lies.cells3 (t := 25) (by have := HK.out; (repeat' (first | (with_reducible assumption) | (with_reducible exact Lies.fresh _ _ _) | (with_reducible apply Lies.fresh_at; (first | (with_reducible rfl) | (simp; done))) | (with_reducible refine Lies.drew ?_) | (with_reducible refine Lies.drewN ?_ _) | (with_reducible refine Lies.alloc ?_ _) | (with_reducible apply Lies.past; case hb => (with_reducible assumption)) | (with_reducible apply Lies.keeps; (case k => (with_reducible assumption)); (case ht => decide)) | (with_reducible apply Lies.store3) | (with_reducible apply Lies.other; case hp => (first | omega | (simp; done) | (simp; omega)))))), cell_on HC1.out (by (repeat' (first | (with_reducible exact Below.refl _ _) | (with_reducible assumption) | (with_reducible refine below_drewN ?_ _) | (with_reducible refine below_new ?_ _) | (with_reducible refine Below.alloc ?_ ?_ _) | (with_reducible refine Below.drew ?_) | (with_reducible refine Below.setCell ?_ ?_ _) | (with_reducible apply below_at; (case k => (with_reducible assumption)); (case hB => omega)) | (with_reducible apply below_on; (with_reducible assumption)) | (go_size; done) | (with_reducible apply size_of)))), cell_on HC2.out (by (repeat' (first | (with_reducible exact Below.refl _ _) | (with_reducible assumption) | (with_reducible refine below_drewN ?_ _) | (with_reducible refine below_new ?_ _) | (with_reducible refine Below.alloc ?_ ?_ _) | (with_reducible refine Below.drew ?_) | (with_reducible refine Below.setCell ?_ ?_ _) | (with_reducible apply below_at; (case k => (with_reducible assumption)); (case hB => omega)) | (with_reducible apply below_on; (with_reducible assumption)) | (go_size; done) | (with_reducible apply size_of))))⟩))
          (first | (go_at_call 18; refine (Put_ok s.1 s.2.1 x bt Ak s.2.2.length ck s.2.2 _ s1 s3 (HH.out.below (by (repeat' (first | (with_reducible exact Below.refl _ _) | (with_reducible assumption) | (with_reducible refine below_drewN ?_ _) | (with_reducible refine below_new ?_ _) | (with_reducible refine Below.alloc ?_ ?_ _) | (with_reducible refine Below.drew ?_) | (with_reducible refine Below.setCell ?_ ?_ _) | (with_reducible apply below_at; (case k => (with_reducible assumption)); (case hB => omega)) | (with_reducible apply below_on; (with_reducible assumption)) | (go_size; done) | (with_reducible apply size_of)))) (Nat.le_refl _)) rfl hck (good_ok HGD.out (by omega)) HN.out (by omega)).mono ?_; rintro e w4 ⟨A4, c4, rfl, hh4, hc4, hb4⟩; try (refine lay (P := Lies (w4) (wr.heap.size) 25 [.int .u32 (0), .int .u32 (0), .slice (none) (0) (0)]) ?_ ?_; (focus ((repeat' (first | (with_reducible assumption) | (with_reducible exact Lies.fresh _ _ _) | (with_reducible apply Lies.fresh_at; (first | (with_reducible rfl) | (simp; done))) | (with_reducible refine Lies.drew ?_) | (with_reducible refine Lies.drewN ?_ _) | (with_reducible refine Lies.alloc ?_ _) | (with_reducible apply Lies.past; case hb => (with_reducible assumption)) | (with_reducible apply Lies.keeps; (case k => (with_reducible assumption)); (case ht => decide)) | (with_reducible apply Lies.store3) | (with_reducible apply Lies.other; case hp => (first | omega | (simp; done) | (simp; omega))))); done)); intro L9; obtain ⟨b0, b1, b9, g0, g1, g2⟩ := L9.three; have lb := L9.lt)))
        all_goals
          go_wp2_with fail
          go_meet
          have hs4 := hb4.size
          simp at hs4
        · exact ⟨w4.heap.size, A4, c4, rfl, rfl, by (repeat' (first | (with_reducible assumption) | (with_reducible exact Lies.fresh _ _ _) | (with_reducible apply Lies.fresh_at; (first | (with_reducible rfl) | (simp; done))) | (with_reducible refine Lies.drew ?_) | (with_reducible refine Lies.drewN ?_ _) | (with_reducible refine Lies.alloc ?_ _) | (with_reducible apply Lies.past; case hb => (with_reducible assumption)) | (with_reducible apply Lies.keeps; (case k => (with_reducible assumption)); (case ht => decide)) | (with_reducible apply Lies.store3) | (with_reducible apply Lies.other; case hp => (first | omega | (simp; done) | (simp; omega))))), by have := HK.out; (repeat' (first | (with_reducible assumption) | (with_reducible exact Lies.fresh _ _ _) | (with_reducible apply Lies.fresh_at; (first | (with_reducible rfl) | (simp; done))) | (with_reducible refine Lies.drew ?_) | (with_reducible refine Lies.drewN ?_ _) | (with_reducible refine Lies.alloc ?_ _) | (with_reducible apply Lies.past; case hb => (with_reducible assumption)) | (with_reducible apply Lies.keeps; (case k => (with_reducible assumption)); (case ht => decide)) | (with_reducible apply Lies.store3) | (with_reducible apply Lies.other; case hp => (first | omega | (simp; done) | (simp; omega))))), hh4.below ((Below.refl _ _).alloc (Nat.le_refl _) _) (Nat.le_refl _), hc4, HH.out.below (by (repeat' (first | (with_reducible exact Below.refl _ _) | (with_reducible assumption) | (with_reducible refine below_drewN ?_ _) | (with_reducible refine below_new ?_ _) | (with_reducible refine Below.alloc ?_ ?_ _) | (with_reducible refine Below.drew ?_) | (with_reducible refine Below.setCell ?_ ?_ _) | (with_reducible apply below_at; (case k => (with_reducible assumption)); (case hB => omega)) | (with_reducible apply below_on; (with_reducible assumption)) | (go_size; done) | (with_reducible apply size_of)))) (Nat.le_refl _), HHA.out.below (by (repeat' (first | (with_reducible exact Below.refl _ _) | (with_reducible assumption) | (with_reducible refine below_drewN ?_ _) | (with_reducible refine below_new ?_ _) | (with_reducible refine Below.alloc ?_ ?_ _) | (with_reducible refine Below.drew ?_) | (with_reducible refine Below.setCell ?_ ?_ _) | (with_reducible apply below_at; (case k => (with_reducible assumption)); (case hB => omega)) | (with_reducible apply below_on; (with_reducible assumption)) | (go_size; done) | (with_reducible apply size_of)))) (Nat.le_refl _), by have := HW.out; (repeat' (first | (with_reducible exact Below.refl _ _) | (with_reducible assumption) | (with_reducible refine below_drewN ?_ _) | (with_reducible refine below_new ?_ _) | (with_reducible refine Below.alloc ?_ ?_ _) | (with_reducible refine Below.drew ?_) | (with_reducible refine Below.setCell ?_ ?_ _) | (with_reducible apply below_at; (case k => (with_reducible assumption)); (case hB => omega)) | (with_reducible apply below_on; (with_reducible assumption)) | (go_size; done) | (with_reducible apply size_of)))⟩
        · exact ⟨wr.heap.size, A4, c4, rfl, rfl, Lies.store3 L9, by have := HK.out; (repeat' (first | (with_reducible assumption) | (with_reducible exact Lies.fresh _ _ _) | (with_reducible apply Lies.fresh_at; (first | (with_reducible rfl) | (simp; done))) | (with_reducible refine Lies.drew ?_) | (with_reducible refine Lies.drewN ?_ _) | (with_reducible refine Lies.alloc ?_ _) | (with_reducible apply Lies.past; case hb => (with_reducible assumption)) | (with_reducible apply Lies.keeps; (case k => (with_reducible assumption)); (case ht => decide)) | (with_reducible apply Lies.store3) | (with_reducible apply Lies.other; case hp => (first | omega | (simp; done) | (simp; omega))))), has_store3 hh4 L9, hc4, has_store3 (HH.out.below (by (repeat' (first | (with_reducible exact Below.refl _ _) | (with_reducible assumption) | (with_reducible refine below_drewN ?_ _) | (with_reducible refine below_new ?_ _) | (with_reducible refine Below.alloc ?_ ?_ _) | (with_reducible refine Below.drew ?_) | (with_reducible refine Below.setCell ?_ ?_ _) | (with_reducible apply below_at; (case k => (with_reducible assumption)); (case hB => omega)) | (with_reducible apply below_on; (with_reducible assumption)) | (go_size; done) | (with_reducible apply size_of)))) (Nat.le_refl _)) L9, has_store3 (HHA.out.below (by (repeat' (first | (with_reducible exact Below.refl _ _) | (with_reducible assumption) | (with_reducible refine below_drewN ?_ _) | (with_reducible refine below_new ?_ _) | (with_reducible refine Below.alloc ?_ ?_ _) | (with_reducible refine Below.drew ?_) | (with_reducible refine Below.setCell ?_ ?_ _) | (with_reducible apply below_at; (case k => (with_reducible assumption)); (case hB => omega)) | (with_reducible apply below_on; (with_reducible assumption)) | (go_size; done) | (with_reducible apply size_of)))) (Nat.le_refl _)) L9, by have := HW.out; (repeat' (first | (with_reducible exact Below.refl _ _) | (with_reducible assumption) | (with_reducible refine below_drewN ?_ _) | (with_reducible refine below_new ?_ _) | (with_reducible refine Below.alloc ?_ ?_ _) | (with_reducible refine Below.drew ?_) | (with_reducible refine Below.setCell ?_ ?_ _) | (with_reducible apply below_at; (case k => (with_reducible assumption)); (case hB => omega)) | (with_reducible apply below_on; (with_reducible assumption)) | (go_size; done) | (with_reducible apply size_of)))⟩
      case rest =>
        obtain ⟨g2, A4, c4, rfl, rfl, M4, L4, H4, hc4, HX, HY, W4⟩ := hcut
        have HM4 := Lib.hid M4
        have HL4 := Lib.hid L4
        have HH4 := Lib.hid H4
        have HHX := Lib.hid HX
        have HHY := Lib.hid HY
        have HW4 := Lib.hid W4
        obtain ⟨r0, r1, r2, g0, g1, g3⟩ := M4.three
        have R1 := HR1.out
        have hw4 := W4.size
        clear M4 L4 H4 HX HY W4 p0 p1 p2 f0 f1 f2 hcell hcell2
        go_wp2_with fail
        refine (rCheck_any _ _ _ _ _ _ k1 (by omega) (by omega) k3 (by omega)).mono ?_
        rintro e w5 ⟨rfl, hb5⟩
        obtain ⟨r0, r1, r2, g0, g1, g3⟩ := (HM4.out.past hb5).three
        obtain ⟨p0, p1, p2, f0, f1, f2⟩ := (HL4.out.past hb5).three
        have HX5 := Lib.hid (HHX.out.below hb5 (Nat.le_refl _))
        have HY5 := Lib.hid (HHY.out.below hb5 (Nat.le_refl _))
        have HH5 := Lib.hid (HH4.out.below hb5 (Nat.le_refl _))
        have HM5 := Lib.hid (HM4.out.past hb5)
        have HL5 := Lib.hid (HL4.out.past hb5)
        have HW5 := Lib.hid (HW4.out.trans (hb5.mono hw4))
        have lt5 := HL5.out.lt
        clear hb5 HHX HHY HH4 HM4 HL4 HW4
        go_wp2_with fail
        refine (Begins_yes A4 Ak _ _ c4 ck _ s.2.2 (pu s.1 s.2.1 x bt).2.2 _ HH5.out (by simp) hc4 (by omega) HX5.out rfl rfl).mono ?_
        rintro e w6 ⟨rfl, n6, rfl⟩
        go_wp2_with fail
        obtain ⟨t, ht⟩ := HF.out
        refine (Begins_yes A2 A4 _ _ c2 c4 al (s.2.2 ++ (pu s.1 s.2.1 x bt).2.2) (t ++ b4 (runS ps bs s0).1) _ (HY5.out.below (below_drewN (Below.refl _ _) _) (Nat.le_refl _)) rfl hc2 (by rw [HRV.out, List.length_append, b4_len]; have := HEND.out.2; omega) (HH5.out.below (below_drewN (Below.refl _ _) _) (Nat.le_refl _)) (by simp) (by rw [HRV.out, ht, HS.out]; simp [nxt])).mono ?_
        rintro e w7 ⟨rfl, n7, rfl⟩
        clear ht
        go_wp2
        go_roundw
        case rel =>
          refine ⟨k + 1, A4, c4, by omega, by go_num, ?_, ?_, ?_, ?_, ?_⟩
          · rw [HS.out]
            simp only [nxt, List.length_append]
            exact (HL5.out.drewN _).store3
          · rw [HS.out]
            exact has_store3 (HH5.out.below (below_drewN (Below.refl _ _) _) (Nat.le_refl _)) (HL5.out.drewN _)
          · rw [HS.out]
            simpa only [nxt, List.length_append] using hc4
          · exact has_store3 (HY5.out.below (below_drewN (Below.refl _ _) _) (Nat.le_refl _)) (HL5.out.drewN _)
          · have := HW5.out; (repeat' (first | (with_reducible exact Below.refl _ _) | (with_reducible assumption) | (with_reducible refine below_drewN ?_ _) | (with_reducible refine below_new ?_ _) | (with_reducible refine Below.alloc ?_ ?_ _) | (with_reducible refine Below.drew ?_) | (with_reducible refine Below.setCell ?_ ?_ _) | (with_reducible apply below_at; (case k => (with_reducible assumption)); (case hB => omega)) | (with_reducible apply below_on; (with_reducible assumption)) | (go_size; done) | (with_reducible apply size_of)))
        case measure => simp [intOf]; omega
    · have hke : k = bs.length := by omega
      have HT : Hid (ps.take k = ps ∧ bs.take k = bs) := Lib.hid ⟨List.take_of_length_le (by omega), List.take_of_length_le (by omega)⟩
      rw [HT.out.1, HT.out.2] at HGD HK HH hln hck p0 p1 p2
      generalize runS ps bs s0 = s at *
      have hgo : EGood s := HGD.out
      obtain ⟨s1, s2, s3, s4⟩ := hgo
      clear s4
      obtain ⟨e1, e2⟩ := good_end HGD.out (by omega)
      have HE1 := Lib.hid e1
      have HE2 := Lib.hid e2
      have hw := HW.out.size
      clear e1 e2 hke
      go_wp2_with fail
      refine (End_any s.1 s.2.1 Ak s.2.2.length ck s.2.2 _ s1 (by omega) (by omega) s3 HH.out rfl hck (by omega)).mono ?_
      rintro e w4 ⟨A4, c4, rfl, hh4, hc4, hb4⟩
      rw [HE1.out]
      rw [HE2.out, ← HRV.out] at hh4 hc4
      rw [HE2.out, ← HRV.out]
      have hal : al.length = s.2.2.length + 4 := by rw [HRV.out, List.length_append, b4_len]
      have cv1 := conv8 (n := al.length) (c := c4) hh4 rfl
      have cv2 := conv8 (n := al.length) (c := c2) (HHA.out.below hb4 (Nat.le_refl _)) rfl
      obtain ⟨p0, p1, p2, f0, f1, f2⟩ := (HK.out.past hb4).three
      generalize bstr al = sb at *
      have HAL := Lib.hid hal
      have t1 : ((al.length : Int) == (s.2.2.length : Int) + 4) = true := by rw [hal]; simp
      have t2 : (al.length : Int) ≤ 4 * bs.length + 4 := by omega
      clear hh4 hal
      go_wp2
      go_ret
      exact ⟨by simp, by have := HW.out; (repeat' (first | (with_reducible exact Below.refl _ _) | (with_reducible assumption) | (with_reducible refine below_drewN ?_ _) | (with_reducible refine below_new ?_ _) | (with_reducible refine Below.alloc ?_ ?_ _) | (with_reducible refine Below.drew ?_) | (with_reducible refine Below.setCell ?_ ?_ _) | (with_reducible apply below_at; (case k => (with_reducible assumption)); (case hB => omega)) | (with_reducible apply below_on; (with_reducible assumption)) | (go_size; done) | (with_reducible apply size_of)))⟩
set_option maxRecDepth 100000 in
set_option maxHeartbeats 2000000 in
theorem stays (A : Option Addr) (lp cp : Nat) (pz : List Int) (Bb : Option Addr) (lb cb : Nat) (bs : List Bool) (w : World) (hA : IsRow .i64 w A lp cp pz) (hB : IsRowB w Bb lb cb bs) :
    Calls Try.prog 7 #[.slice A lp cp, .slice Bb lb cb] w fun e w' => e = .returned (.bool true) ∧ Below w.heap.size w w' := by
  obtain ⟨hA1, hA2, hA3, _⟩ := has_of_row hA
  obtain ⟨hB1, hB2, _, hB3, _⟩ := hB
  unfold maxLen at hA3
  generalize pz.take lp = ps at *
  subst hB2
  subst hA2
  have HA := Lib.hid hA1
  clear hA1 hA
  by_cases c1 : bs.length ≤ 100
  · by_cases c2 : rnE ps bs.length = 0
    · exact stays_in A Bb cp cb ps bs w HA.out hB1 c1 c2
    · have c3 : (rnE ps bs.length != 0) = true := by simpa using c2
      have HRE : Hid (rnE ps bs.length = rnE ps bs.length) := Lib.hid rfl
      clear c2 hB1
      go_enter Try.func7, Try.ntmps7
      go_wp2_with (first | (go_at_call 29; refine (alive _).mono ?_; rintro e w1 ⟨rfl, hb1⟩) | (go_at_call 31; refine (rProbs_any _ _ _ bs.length ps _ (HA.out.below hb1 (Nat.le_refl _)) rfl (by omega) (by omega)).mono ?_; rintro e w' ⟨rfl, rfl⟩))
      go_ret
      exact ⟨rfl, by (repeat' (first | (with_reducible exact Below.refl _ _) | (with_reducible assumption) | (with_reducible refine below_drewN ?_ _) | (with_reducible refine below_new ?_ _) | (with_reducible refine Below.alloc ?_ ?_ _) | (with_reducible refine Below.drew ?_) | (with_reducible refine Below.setCell ?_ ?_ _) | (with_reducible apply below_at; (case k => (with_reducible assumption)); (case hB => omega)) | (with_reducible apply below_on; (with_reducible assumption)) | (go_size; done) | (with_reducible apply size_of)))⟩
  · clear hB1
    go_enter Try.func7, Try.ntmps7
    go_wp2_with (first | (go_at_call 29; refine (alive _).mono ?_; rintro e w1 ⟨rfl, hb1⟩))
    go_ret
    exact ⟨rfl, by (repeat' (first | (with_reducible exact Below.refl _ _) | (with_reducible assumption) | (with_reducible refine below_drewN ?_ _) | (with_reducible refine below_new ?_ _) | (with_reducible refine Below.alloc ?_ ?_ _) | (with_reducible refine Below.drew ?_) | (with_reducible refine Below.setCell ?_ ?_ _) | (with_reducible apply below_at; (case k => (with_reducible assumption)); (case hB => omega)) | (with_reducible apply below_on; (with_reducible assumption)) | (go_size; done) | (with_reducible apply size_of)))⟩
end Go.Proofs.Ytaehjhjbbkblbaa.encL
