/- What the reference's Run returns. -/
import Derived.Test.YtdnccnaihkajmaaEncR3
namespace Go.Proofs.Ytdnccnaihkajmaa.encW
open Go.RowKit Go.Proofs.Ytdnccnaihkajmaa.base Go.Proofs.Ytdnccnaihkajmaa.encP
set_option linter.unusedVariables false
set_option linter.unusedSimpArgs false

set_option maxRecDepth 100000 in
set_option maxHeartbeats 2000000 in
theorem rRun_any (A Bb : Option Addr) (lp cp lb cb : Nat) (ps : List Int) (bs : List Bool) (w : World) (hA : Has .i64 w A ps) (el : ps.length = lp) (m1 : lp ≤ 9223372036854775807) (hB : HasB w Bb bs) (eb : bs.length = lb) (m2 : lb ≤ 9223372036854775807) :
    Calls Try.prog 21 #[.slice A lp cp, .slice Bb lb cb] w fun e w' => ∃ A' c', e = .returned (.tuple #[.slice A' (rnV ps bs).length c', .int .i64 (rnE ps lb)]) ∧ Has .u8 w' A' (rnV ps bs) ∧ (rnV ps bs).length ≤ c' ∧ Below w.heap.size w w' := by
  subst eb
  subst el
  have HA := Lib.hid hA
  have HB := Lib.hid hB
  clear hA hB
  by_cases h0 : rnE ps bs.length = 0
  · have HRE := Lib.hid h0
    have HRV := Lib.hid (rnV_yes h0)
    have hall : ps.length = bs.length ∧ ps.all pOk = true ∧ bs.length ≤ 2000 := by
      unfold rnE at h0
      by_cases c1 : 2000 < bs.length
      · rw [if_pos c1] at h0; omega
      · rw [if_neg c1] at h0
        by_cases c2 : ps.length = bs.length
        · rw [if_pos c2] at h0
          cases c3 : ps.all pOk
          · rw [c3] at h0; simp at h0
          · exact ⟨c2, rfl, by omega⟩
        · rw [if_neg c2] at h0; omega
    have HL := Lib.hid hall.1
    have HP := Lib.hid hall.2.1
    have h2k := hall.2.2
    have HAK : Hid (∀ k, (ps.take k).all pOk = true) := Lib.hid (fun k => List.all_eq_true.2 fun z hz => List.all_eq_true.1 HP.out z (List.mem_of_mem_take hz))
    clear h0 hall
    go_enter Try.func21, Try.ntmps21
    go_wp2_with (first | (go_at_call 24; refine (rProbs_any _ _ _ bs.length ps _ HA.out rfl (by omega) (by omega)).mono ?_; rintro e w' ⟨rfl, rfl⟩; rw [HRE.out]) | (go_at_call 17; refine (rNew_any _).mono ?_; rintro e w1 ⟨rfl, hb1⟩))
    have hs1 := hb1.size
    have HB1 := Lib.hid hb1
    clear hb1
    go_loopw [7] (fun i wr => ∃ (k : Nat) (Ak : Option Addr) (ck : Nat), k ≤ bs.length ∧ i = .int .i64 k ∧ (Lies (wr) (w1.heap.size) 25 [.int .u32 ((runS (ps.take k) (bs.take k) s0).1), .int .u32 ((runS (ps.take k) (bs.take k) s0).2.1), .slice (Ak) ((runS (ps.take k) (bs.take k) s0).2.2.length) (ck)]) ∧ OwnZ wr w.heap.size (.slice Ak (runS (ps.take k) (bs.take k) s0).2.2.length ck) (runS (ps.take k) (bs.take k) s0).2.2 ∧ Below w.heap.size w wr) (fun i _ => bs.length - (intOf i).toNat)
    case atStart => exact ⟨0, none, 0, by omega, rfl, Lies.fresh _ _ _, .inr ⟨rfl, _, rfl⟩, by have := HB1.out; (repeat' (first | (with_reducible exact Below.refl _ _) | (with_reducible assumption) | (with_reducible refine below_drewN ?_ _) | (with_reducible refine below_new ?_ _) | (with_reducible refine Below.alloc ?_ ?_ _) | (with_reducible refine Below.drew ?_) | (with_reducible refine Below.setCell ?_ ?_ _) | (with_reducible apply below_at; (case k => (with_reducible assumption)); (case hB => omega)) | (with_reducible apply below_on; (with_reducible assumption)) | (go_size; done) | (with_reducible apply size_of)))⟩
    case round =>
      obtain ⟨k, Ak, ck, hk, rfl, K, O, W⟩ := hrel
      obtain ⟨hgd, hln⟩ := run_good ps bs HL.out k (by have := HL.out; omega) (HAK.out k)
      have HGD := Lib.hid hgd
      obtain ⟨p0, p1, p2, f0, f1, f2⟩ := K.three
      have lt1 := K.lt
      have HK := Lib.hid K
      have HO := Lib.hid O
      have HW := Lib.hid W
      clear hgd K O W
      by_cases hlt : k < bs.length
      · have hkp : k < ps.length := by have := HL.out; omega
        obtain ⟨b, off, rfl, hbl, hc⟩ := has_some HA.out (by omega)
        have hcell : wr.cell? ⟨b, off + k, none⟩ = some (.int .i64 (ps.getD k 0)) := by rw [(bcell HW.out).1 b _ hbl]; exact hc k hkp
        obtain ⟨b2, off2, rfl, hbl2, hc2⟩ : ∃ b off, Bb = some ⟨b, off, none⟩ ∧ b < w.heap.size ∧ ∀ i, i < bs.length → w.cell? ⟨b, off + i, none⟩ = some (.bool (bs.getD i false)) := by
          rcases HB.out with h | h
          · rw [h] at hlt; simp at hlt
          · exact h
        have hcell2 : wr.cell? ⟨b2, off2 + k, none⟩ = some (.bool (bs.getD k false)) := by rw [(bcell HW.out).1 b2 _ hbl2]; exact hc2 k hlt
        have HN := Lib.hid (all_getD HP.out hkp)
        have HS := Lib.hid (runS_snoc ps bs s0 k hkp hlt)
        have i1 : (0 : Int) ≤ (k : Int) := by omega
        have i2 : (k : Int) < ps.length := by omega
        have i3 : (k : Int) < bs.length := by omega
        clear hc hc2
        generalize ps.getD k 0 = x at *
        generalize bs.getD k false = bt at *
        generalize runS (ps.take k) (bs.take k) s0 = s at *
        have hgo : EGood s := HGD.out
        obtain ⟨s1, s2, s3, s4⟩ := hgo
        clear s4
        have HCL : Hid (s.2.2.length ≤ ck) := Lib.hid (by
          obtain ⟨A5, c5, e5, _, h5⟩ := HO.out.val
          injection e5 with _ _ e6
          rw [e6]; exact h5)
        go_wp2
        refine region_still_tail 9 (by kernel_rfl) (by kernel_rfl) ?_; simp only [List.take_succ_cons, List.take_zero, List.drop_succ_cons, List.drop_zero]
        still_step
        still_step
        still_step
        still_step
        still_step
        still_step
        still_step
        still_step
        still_step
        refine wpStill_nil ?_
        go_wp2_with fail
        refine (rDid_any s.1 s.2.1 x bt Ak s.2.2.length ck s.2.2 _ s1 s2 s3 HN.out (HO.out.drew).has rfl HCL.out (by omega)).mono ?_
        rintro e w4 ⟨A4, c4, rfl, O4, hb4⟩
        have HK4 := Lib.hid ((HK.out.drew).past hb4)
        have HO4 := Lib.hid O4
        obtain ⟨q0, q1, q2, g0, g1, g2⟩ := HK4.out.three
        clear O4 p0 p1 p2 f0 f1 f2
        go_wp2
        go_roundw
        case rel =>
          refine ⟨k + 1, A4, c4, by omega, by go_num, ?_, ?_, by have := HW.out; (repeat' (first | (with_reducible exact Below.refl _ _) | (with_reducible assumption) | (with_reducible refine below_drewN ?_ _) | (with_reducible refine below_new ?_ _) | (with_reducible refine Below.alloc ?_ ?_ _) | (with_reducible refine Below.drew ?_) | (with_reducible refine Below.setCell ?_ ?_ _) | (with_reducible apply below_at; (case k => (with_reducible assumption)); (case hB => omega)) | (with_reducible apply below_on; (with_reducible assumption)) | (go_size; done) | (with_reducible apply size_of)))⟩
          · rw [HS.out]
            simp only [nxt, List.length_append]
            exact HK4.out.store3
          · rw [HS.out]
            simp only [nxt, List.length_append]
            exact (HO4.out.store3 HK4.out (by decide)).mono (by have := HW.out.size; simpa using this)
        case measure => simp [intOf]; omega
      · have hke : k = bs.length := by omega
        have HT : Hid (ps.take k = ps ∧ bs.take k = bs) := Lib.hid ⟨List.take_of_length_le (by have := HL.out; omega), List.take_of_length_le (by omega)⟩
        rw [HT.out.1, HT.out.2] at HGD HK HO hln p0 p1 p2
        generalize runS ps bs s0 = s at *
        have hgo : EGood s := HGD.out
        obtain ⟨s1, s2, s3, s4⟩ := hgo
        clear s4
        have HCL : Hid (s.2.2.length ≤ ck) := Lib.hid (by
          obtain ⟨A5, c5, e5, _, h5⟩ := HO.out.val
          injection e5 with _ _ e6
          rw [e6]; exact h5)
        clear hke
        go_wp2_with fail
        refine (rEnded_any s.1 s.2.1 Ak s.2.2.length ck s.2.2 _ s1 (by omega) HO.out.has rfl HCL.out (by omega)).mono ?_
        rintro e w4 ⟨A4, c4, rfl, ho4, hb4⟩
        have HH4 := Lib.hid ho4.has
        have HC4 : Hid (s.2.2.length + 4 ≤ c4) := Lib.hid (by
          obtain ⟨A5, c5, e5, _, h5⟩ := ho4.val
          injection e5 with _ _ e6
          rw [e6]; simpa [b4] using h5)
        clear ho4
        go_wp2
        go_ret2
        rw [HRV.out, HRE.out]
        exact ⟨A4, c4, by rw [List.length_append]; rfl, HH4.out, by rw [List.length_append]; exact HC4.out, by have := HW.out; (repeat' (first | (with_reducible exact Below.refl _ _) | (with_reducible assumption) | (with_reducible refine below_drewN ?_ _) | (with_reducible refine below_new ?_ _) | (with_reducible refine Below.alloc ?_ ?_ _) | (with_reducible refine Below.drew ?_) | (with_reducible refine Below.setCell ?_ ?_ _) | (with_reducible apply below_at; (case k => (with_reducible assumption)); (case hB => omega)) | (with_reducible apply below_on; (with_reducible assumption)) | (go_size; done) | (with_reducible apply size_of)))⟩
  · have HV := Lib.hid (rnV_no (ps := ps) (bs := bs) h0)
    have hc : rnE ps bs.length = 2 ∨ rnE ps bs.length = 4 := by
      unfold rnE at h0 ⊢
      by_cases c1 : 2000 < bs.length
      · rw [if_pos c1]; omega
      · rw [if_neg c1] at h0 ⊢
        by_cases c2 : ps.length = bs.length
        · rw [if_pos c2] at h0 ⊢
          cases c3 : ps.all pOk
          · simp
          · rw [c3] at h0; simp at h0
        · rw [if_neg c2]; omega
    clear h0
    rcases hc with hc | hc
    all_goals
      have HE := Lib.hid hc
      clear hc
      go_enter Try.func21, Try.ntmps21
      go_wp2_with (first | (go_at_call 24; refine (rProbs_any _ _ _ bs.length ps _ HA.out rfl (by omega) (by omega)).mono ?_; rintro e w' ⟨rfl, rfl⟩; rw [HE.out]))
      go_ret2
      rw [HV.out, HE.out]
      exact ⟨none, 0, rfl, .inl rfl, by simp, by (repeat' (first | (with_reducible exact Below.refl _ _) | (with_reducible assumption) | (with_reducible refine below_drewN ?_ _) | (with_reducible refine below_new ?_ _) | (with_reducible refine Below.alloc ?_ ?_ _) | (with_reducible refine Below.drew ?_) | (with_reducible refine Below.setCell ?_ ?_ _) | (with_reducible apply below_at; (case k => (with_reducible assumption)); (case hB => omega)) | (with_reducible apply below_on; (with_reducible assumption)) | (go_size; done) | (with_reducible apply size_of)))⟩
end Go.Proofs.Ytdnccnaihkajmaa.encW
