/- What the reference's Probs, Same and both New return; both runs. -/
import Derived.Test.YtdnccnaihkajmaaEncR2
import Derived.Test.YtdnccnaihkajmaaBool
namespace Go.Proofs.Ytdnccnaihkajmaa.encW
open Go.RowKit Go.Proofs.Ytdnccnaihkajmaa.base Go.Proofs.Ytdnccnaihkajmaa.encP
set_option linter.unusedVariables false
set_option linter.unusedSimpArgs false

set_option maxHeartbeats 400000 in
theorem New_any (w : World) : Calls Try.prog 15 #[] w fun e w' => e = .returned (.agg #[.int .u32 (0), .int .u32 (4294967295), .slice (none) (0) (0)]) ∧ Below w.heap.size w w' := by
  go_enter Try.func15, Try.ntmps15
  go_wp2
  refine bodyPost_ret (by simp [results, Try.results15, go_sem, ]; try rfl) rfl ?_
  exact ⟨rfl, by (repeat' (first | (with_reducible exact Below.refl _ _) | (with_reducible assumption) | (with_reducible refine below_drewN ?_ _) | (with_reducible refine below_new ?_ _) | (with_reducible refine Below.alloc ?_ ?_ _) | (with_reducible refine Below.drew ?_) | (with_reducible refine Below.setCell ?_ ?_ _) | (with_reducible apply below_at; (case k => (with_reducible assumption)); (case hB => omega)) | (with_reducible apply below_on; (with_reducible assumption)) | (go_size; done) | (with_reducible apply size_of)))⟩
set_option maxHeartbeats 400000 in
theorem rNew_any (w : World) : Calls Try.prog 17 #[] w fun e w' => e = .returned (.agg #[.int .u32 (0), .int .u32 (4294967295), .slice (none) (0) (0)]) ∧ Below w.heap.size w w' := by
  go_enter Try.func17, Try.ntmps17
  go_wp2
  refine bodyPost_ret (by simp [results, Try.results17, go_sem, ]; try rfl) rfl ?_
  exact ⟨rfl, by (repeat' (first | (with_reducible exact Below.refl _ _) | (with_reducible assumption) | (with_reducible refine below_drewN ?_ _) | (with_reducible refine below_new ?_ _) | (with_reducible refine Below.alloc ?_ ?_ _) | (with_reducible refine Below.drew ?_) | (with_reducible refine Below.setCell ?_ ?_ _) | (with_reducible apply below_at; (case k => (with_reducible assumption)); (case hB => omega)) | (with_reducible apply below_on; (with_reducible assumption)) | (go_size; done) | (with_reducible apply size_of)))⟩
set_option maxHeartbeats 1000000 in
theorem Same_yes (x y : Int) (A B : Option Addr) (n c d : Nat) (zs : List Int) (w : World) (hA : Has .u8 w A zs) (hB : Has .u8 w B zs) (hn : zs.length = n) (hm : n ≤ 9223372036854775807) :
    Calls Try.prog 16 #[.agg #[.int .u32 (x), .int .u32 (y), .slice (A) (n) (c)], .agg #[.int .u32 (x), .int .u32 (y), .slice (B) (n) (d)]] w fun e w' => e = .returned (.bool true) ∧ Below w.heap.size w w' := by
  have W2 : Below w.heap.size w ((w.alloc (.cells #[.int .u32 x, .int .u32 y, .slice A n c] 25)).alloc (.cells #[.int .u32 x, .int .u32 y, .slice B n d] 25)) := by (repeat' (first | (with_reducible exact Below.refl _ _) | (with_reducible assumption) | (with_reducible refine below_drewN ?_ _) | (with_reducible refine below_new ?_ _) | (with_reducible refine Below.alloc ?_ ?_ _) | (with_reducible refine Below.drew ?_) | (with_reducible refine Below.setCell ?_ ?_ _) | (with_reducible apply below_at; (case k => (with_reducible assumption)); (case hB => omega)) | (with_reducible apply below_on; (with_reducible assumption)) | (go_size; done) | (with_reducible apply size_of)))
  have cv1 := conv8 (n := n) (c := c) (hA.below W2 (Nat.le_refl _)) hn
  have cv2 := conv8 (n := n) (c := d) (hB.below W2 (Nat.le_refl _)) hn
  have h1 : (x == x) = true := by simp
  have h2 : (y == y) = true := by simp
  generalize bstr zs = s at *
  clear hA hB W2 hn
  go_enter Try.func16, Try.ntmps16
  go_wp2
  go_ret
  exact ⟨by simp, by (repeat' (first | (with_reducible exact Below.refl _ _) | (with_reducible assumption) | (with_reducible refine below_drewN ?_ _) | (with_reducible refine below_new ?_ _) | (with_reducible refine Below.alloc ?_ ?_ _) | (with_reducible refine Below.drew ?_) | (with_reducible refine Below.setCell ?_ ?_ _) | (with_reducible apply below_at; (case k => (with_reducible assumption)); (case hB => omega)) | (with_reducible apply below_on; (with_reducible assumption)) | (go_size; done) | (with_reducible apply size_of)))⟩
theorem allP_bad {ps : List Int} {k : Nat} (hk : k < ps.length) (h : pOk (ps.getD k 0) = false) : ps.all pOk = false := by
  rw [Bool.eq_false_iff]
  intro ha
  have := all_getD ha hk
  rw [h] at this; cases this
theorem allP_next {ps : List Int} {k : Nat} (hk : k < ps.length) (h : (ps.take k).all pOk = true) (h2 : pOk (ps.getD k 0) = true) : (ps.take (k + 1)).all pOk = true := by
  rw [take_snoc 0 ps k hk, List.all_append, h]
  simp only [List.all_cons, List.all_nil, Bool.and_true, Bool.true_and]
  exact h2
set_option maxHeartbeats 1000000 in
theorem rProbs_any (A : Option Addr) (lp cp : Nat) (lb : Nat) (ps : List Int) (w : World) (hA : Has .i64 w A ps) (el : ps.length = lp) (m1 : lp ≤ 9223372036854775807) (m2 : lb ≤ 9223372036854775807) :
    Calls Try.prog 24 #[.slice A lp cp, .int .i64 lb] w fun e w' => e = .returned (.int .i64 (rnE ps lb)) ∧ w = w' := by
  by_cases h1 : 2000 < lb
  · have g : (2000 : Int) < lb := by omega
    go_enter Try.func24, Try.ntmps24
    go_wp2
    go_ret
    exact ⟨ret1 (by simp [rnE, h1]), rfl⟩
  · have g : ¬ (2000 : Int) < lb := by omega
    by_cases h2 : lp = lb
    · have HA := Lib.hid hA
      have HL := Lib.hid el
      have HC : Hid (rnE ps lb = if ps.all pOk then 0 else 2) := Lib.hid (by rw [rnE, if_neg h1, if_pos (by omega)])
      subst h2
      clear hA el
      go_enter Try.func24, Try.ntmps24
      go_wp2
      go_loop [5] (fun i => ∃ k : Nat, k ≤ lp ∧ i = .int .i64 k ∧ (ps.take k).all pOk = true) (fun i => lp - (intOf i).toNat)
      case atStart => exact ⟨0, by omega, rfl, rfl⟩
      case round =>
        obtain ⟨k, hk, rfl, hal⟩ := hrel
        have HE := Lib.hid hal
        clear hal
        by_cases hlt : k < lp
        · obtain ⟨b, off, rfl, hb, hc⟩ := has_some HA.out (by have := HL.out; omega)
          have hcell : w.cell? ⟨b, off + k, none⟩ = some (.int .i64 (ps.getD k 0)) := hc k (by have := HL.out; omega)
          have HB := Lib.hid (allP_bad (ps := ps) (k := k) (by have := HL.out; omega))
          have HN := Lib.hid (allP_next (ps := ps) (k := k) (by have := HL.out; omega) HE.out)
          clear hc
          generalize ps.getD k 0 = x at *
          cases hx : pOk x
          · have HX := Lib.hid hx
            clear hx
            go_wp2_with (go_at_call 23; refine (rProb_any x _).mono ?_; rintro e w' ⟨rfl, rfl⟩; rw [HX.out])
            go_ret
            exact ⟨ret1 (by rw [HC.out, HB.out HX.out]; rfl), rfl⟩
          · have HX := Lib.hid hx
            clear hx
            go_wp2_with (go_at_call 23; refine (rProb_any x _).mono ?_; rintro e w' ⟨rfl, rfl⟩; rw [HX.out])
            go_round
            case rel => exact ⟨k + 1, by omega, by go_num, HN.out HX.out⟩
            case measure => simp [intOf]; omega
        · have HT : Hid (ps.all pOk = true) := Lib.hid (by have := HE.out; rwa [List.take_of_length_le (by have := HL.out; omega)] at this)
          go_wp2
          go_ret
          exact ⟨ret1 (by rw [HC.out, HT.out]; rfl), rfl⟩
    · have g2 : ¬ (lp : Int) = lb := by omega
      have g3 : ((lp : Int) == lb) = false := by simpa using g2
      go_enter Try.func24, Try.ntmps24
      go_wp2
      go_ret
      exact ⟨ret1 (by rw [rnE, if_neg h1, if_neg (by omega)]), rfl⟩
theorem rnV_no {ps : List Int} {bs : List Bool} (h : rnE ps bs.length ≠ 0) : rnV ps bs = [] := by rw [rnV, if_neg h]
theorem rnV_yes {ps : List Int} {bs : List Bool} (h : rnE ps bs.length = 0) : rnV ps bs = (runS ps bs s0).2.2 ++ b4 (runS ps bs s0).1 := by rw [rnV, if_pos h]
theorem good_ok {s : Int × Int × List Int} {n : Nat} (h : EGood s) (hn : n ≤ 20000) : encOk s.1 s.2.1 n = true := (encOk_iff _ _ _).2 ⟨h.2.2.2, h.2.1, hn⟩
theorem good_end {s : Int × Int × List Int} (h : EGood s) (hn : s.2.2.length ≤ 19996) : enE s.1 s.2.1 s.2.2.length = 0 ∧ enV s.1 s.2.1 s.2.2 = s.2.2 ++ b4 s.1 := by
  have h1 := enE_ok (good_ok (n := s.2.2.length) h (by omega)) hn
  exact ⟨h1, enV_yes h1⟩
set_option maxRecDepth 100000 in
set_option maxHeartbeats 2000000 in
theorem Run_any (A Bb : Option Addr) (lp cp lb cb : Nat) (ps : List Int) (bs : List Bool) (w : World) (hA : Has .i64 w A ps) (el : ps.length = lp) (m1 : lp ≤ 9223372036854775807) (hB : HasB w Bb bs) (eb : bs.length = lb) (m2 : lb ≤ 9223372036854775807) :
    Calls Try.prog 20 #[.slice A lp cp, .slice Bb lb cb] w fun e w' => ∃ A' c', e = .returned (.tuple #[.slice A' (rnV ps bs).length c', .int .i64 (rnE ps lb)]) ∧ Has .u8 w' A' (rnV ps bs) ∧ (rnV ps bs).length ≤ c' ∧ Below w.heap.size w w' := by
  subst eb
  subst el
  have HA := Lib.hid hA
  have HB := Lib.hid hB
  clear hA hB
  by_cases h1 : 2000 < bs.length
  · have g : (2000 : Int) < bs.length := by omega
    have HE : Hid (rnE ps bs.length = 4) := Lib.hid (by simp [rnE, h1])
    have HV := Lib.hid (rnV_no (ps := ps) (bs := bs) (by rw [HE.out]; omega))
    go_enter Try.func20, Try.ntmps20
    go_wp2
    go_ret2
    rw [HV.out, HE.out]
    exact ⟨none, 0, rfl, .inl rfl, by simp, by (repeat' (first | (with_reducible exact Below.refl _ _) | (with_reducible assumption) | (with_reducible refine below_drewN ?_ _) | (with_reducible refine below_new ?_ _) | (with_reducible refine Below.alloc ?_ ?_ _) | (with_reducible refine Below.drew ?_) | (with_reducible refine Below.setCell ?_ ?_ _) | (with_reducible apply below_at; (case k => (with_reducible assumption)); (case hB => omega)) | (with_reducible apply below_on; (with_reducible assumption)) | (go_size; done) | (with_reducible apply size_of)))⟩
  · have g : ¬ (2000 : Int) < bs.length := by omega
    by_cases h2 : ps.length = bs.length
    · have HL := Lib.hid h2
      have HC : Hid (rnE ps bs.length = if ps.all pOk then 0 else 2) := Lib.hid (by rw [rnE, if_neg h1, if_pos h2])
      have g2 : ((ps.length : Int) == bs.length) = true := by simp [h2]
      clear h2
      go_enter Try.func20, Try.ntmps20
      go_wp2_with (first | (go_at_call 15; refine (New_any _).mono ?_; rintro e w1 ⟨rfl, hb1⟩))
      have hs1 := hb1.size
      have HB1 := Lib.hid hb1
      clear hb1 g2
      go_loopw [21] (fun i wr => ∃ (k : Nat) (Ak : Option Addr) (ck : Nat), k ≤ bs.length ∧ i = .int .i64 k ∧ (ps.take k).all pOk = true ∧ (Lies (wr) (w1.heap.size) 25 [.int .u32 ((runS (ps.take k) (bs.take k) s0).1), .int .u32 ((runS (ps.take k) (bs.take k) s0).2.1), .slice (Ak) ((runS (ps.take k) (bs.take k) s0).2.2.length) (ck)]) ∧ OwnZ wr w.heap.size (.slice Ak (runS (ps.take k) (bs.take k) s0).2.2.length ck) (runS (ps.take k) (bs.take k) s0).2.2 ∧ Below w.heap.size w wr) (fun i _ => bs.length - (intOf i).toNat)
      case atStart => exact ⟨0, none, 0, by omega, rfl, rfl, Lies.fresh _ _ _, .inr ⟨rfl, _, rfl⟩, by have := HB1.out; (repeat' (first | (with_reducible exact Below.refl _ _) | (with_reducible assumption) | (with_reducible refine below_drewN ?_ _) | (with_reducible refine below_new ?_ _) | (with_reducible refine Below.alloc ?_ ?_ _) | (with_reducible refine Below.drew ?_) | (with_reducible refine Below.setCell ?_ ?_ _) | (with_reducible apply below_at; (case k => (with_reducible assumption)); (case hB => omega)) | (with_reducible apply below_on; (with_reducible assumption)) | (go_size; done) | (with_reducible apply size_of)))⟩
      case round =>
        obtain ⟨k, Ak, ck, hk, rfl, hal, K, O, W⟩ := hrel
        obtain ⟨hgd, hln⟩ := run_good ps bs HL.out k (by have := HL.out; omega) hal
        have HAL := Lib.hid hal
        have HGD := Lib.hid hgd
        obtain ⟨p0, p1, p2, f0, f1, f2⟩ := K.three
        have lt1 := K.lt
        have HK := Lib.hid K
        have HO := Lib.hid O
        have HW := Lib.hid W
        clear hal hgd K O W
        by_cases hlt : k < bs.length
        · have hkp : k < ps.length := by have := HL.out; omega
          obtain ⟨b, off, rfl, hbl, hc⟩ := has_some HA.out (by omega)
          have hcell : wr.cell? ⟨b, off + k, none⟩ = some (.int .i64 (ps.getD k 0)) := by rw [(bcell HW.out).1 b _ hbl]; exact hc k hkp
          obtain ⟨b2, off2, rfl, hbl2, hc2⟩ : ∃ b off, Bb = some ⟨b, off, none⟩ ∧ b < w.heap.size ∧ ∀ i, i < bs.length → w.cell? ⟨b, off + i, none⟩ = some (.bool (bs.getD i false)) := by
            rcases HB.out with h | h
            · rw [h] at hlt; simp at hlt
            · exact h
          have hcell2 : wr.cell? ⟨b2, off2 + k, none⟩ = some (.bool (bs.getD k false)) := by rw [(bcell HW.out).1 b2 _ hbl2]; exact hc2 k hlt
          have HBD := Lib.hid (allP_bad (ps := ps) (k := k) hkp)
          have HN := Lib.hid (allP_next (ps := ps) (k := k) hkp HAL.out)
          have HS := Lib.hid (runS_snoc ps bs s0 k hkp hlt)
          clear hc hc2
          generalize ps.getD k 0 = x at *
          generalize bs.getD k false = bt at *
          generalize runS (ps.take k) (bs.take k) s0 = s at *
          have hgo : EGood s := HGD.out
          obtain ⟨s1, s2, s3, s4⟩ := hgo
          clear s4
          cases hx : pOk x
          · have HX := Lib.hid hx
            have HV := Lib.hid (rnV_no (ps := ps) (bs := bs) (by rw [HC.out, HBD.out hx]; simp))
            clear hx
            go_wp2_with (first | (go_at_call 29; refine (put_bad s.1 s.2.1 x bt _ _ _ s1 s2 s3 HX.out HK.out).mono ?_; rintro e w4 ⟨rfl, n4, rfl⟩))
            go_ret2
            rw [HV.out, HC.out, HBD.out HX.out]
            exact ⟨none, 0, rfl, .inl rfl, by simp, by have := HW.out; (repeat' (first | (with_reducible exact Below.refl _ _) | (with_reducible assumption) | (with_reducible refine below_drewN ?_ _) | (with_reducible refine below_new ?_ _) | (with_reducible refine Below.alloc ?_ ?_ _) | (with_reducible refine Below.drew ?_) | (with_reducible refine Below.setCell ?_ ?_ _) | (with_reducible apply below_at; (case k => (with_reducible assumption)); (case hB => omega)) | (with_reducible apply below_on; (with_reducible assumption)) | (go_size; done) | (with_reducible apply size_of)))⟩
          · have HX := Lib.hid hx
            have hpl := (good_nxt HGD.out hx bt).2
            simp only [nxt, List.length_append] at hpl
            clear hx
            go_wp2_with fail
            refine (put_any s.1 s.2.1 x bt _ w.heap.size _ s.2.2 _ s1 s2 s3 HX.out HK.out HO.out (by have := HW.out.size; omega) (by omega) (by omega)).mono ?_
            rintro e w4 ⟨rfl, hb4, h4⟩
            have hl : s.2.2.length + (pu s.1 s.2.1 x bt).2.2.length ≤ 20000 := by omega
            rw [if_pos hl]
            obtain ⟨A4, c4, K4, O4⟩ := h4 hl
            have HK4 := Lib.hid K4
            have HO4 := Lib.hid O4
            clear h4 K4 O4 p0 p1 p2 f0 f1 f2
            go_wp2
            go_roundw
            case rel =>
              refine ⟨k + 1, A4, c4, by omega, by go_num, HN.out HX.out, ?_, ?_, HW.out.trans hb4⟩
              · rw [HS.out]; simpa only [nxt, List.length_append] using HK4.out
              · rw [HS.out]; simpa only [nxt, List.length_append] using HO4.out
            case measure => simp [intOf]; omega
        · have hke : k = bs.length := by omega
          have HT : Hid (ps.take k = ps ∧ bs.take k = bs) := Lib.hid ⟨List.take_of_length_le (by have := HL.out; omega), List.take_of_length_le (by omega)⟩
          rw [HT.out.1] at HAL
          rw [HT.out.1, HT.out.2] at HGD HK HO hln p0 p1 p2
          have HRE : Hid (rnE ps bs.length = 0) := Lib.hid (by rw [HC.out, HAL.out]; rfl)
          have HRV := Lib.hid (rnV_yes HRE.out)
          generalize runS ps bs s0 = s at *
          have hgo : EGood s := HGD.out
          obtain ⟨s1, s2, s3, s4⟩ := hgo
          clear s4
          obtain ⟨e1, e2⟩ := good_end HGD.out (by omega)
          have HE1 := Lib.hid e1
          have HE2 := Lib.hid e2
          have HCL : Hid (s.2.2.length ≤ ck) := Lib.hid (by
            obtain ⟨A5, c5, e5, _, h5⟩ := HO.out.val
            injection e5 with _ _ e6
            rw [e6]; exact h5)
          clear e1 e2 hke
          go_wp2_with fail
          refine (End_any s.1 s.2.1 Ak s.2.2.length ck s.2.2 _ s1 (by omega) (by omega) s3 HO.out.has rfl HCL.out (by omega)).mono ?_
          rintro e w4 ⟨A4, c4, rfl, hh4, hc4, hb4⟩
          rw [HE1.out]
          rw [HE2.out] at hh4 hc4
          rw [HE2.out]
          have HH4 := Lib.hid hh4
          clear hh4
          go_wp2
          go_ret2
          rw [HRV.out, HRE.out]
          exact ⟨A4, c4, by rw [List.length_append]; rfl, HH4.out, hc4, by have := HW.out; (repeat' (first | (with_reducible exact Below.refl _ _) | (with_reducible assumption) | (with_reducible refine below_drewN ?_ _) | (with_reducible refine below_new ?_ _) | (with_reducible refine Below.alloc ?_ ?_ _) | (with_reducible refine Below.drew ?_) | (with_reducible refine Below.setCell ?_ ?_ _) | (with_reducible apply below_at; (case k => (with_reducible assumption)); (case hB => omega)) | (with_reducible apply below_on; (with_reducible assumption)) | (go_size; done) | (with_reducible apply size_of)))⟩
    · have g2 : ¬ (ps.length : Int) = bs.length := by omega
      have g3 : ((ps.length : Int) == bs.length) = false := by simpa using g2
      have HE : Hid (rnE ps bs.length = 2) := Lib.hid (by rw [rnE, if_neg h1, if_neg h2])
      have HV := Lib.hid (rnV_no (ps := ps) (bs := bs) (by rw [HE.out]; omega))
      clear h2
      go_enter Try.func20, Try.ntmps20
      go_wp2
      go_ret2
      rw [HV.out, HE.out]
      exact ⟨none, 0, rfl, .inl rfl, by simp, by (repeat' (first | (with_reducible exact Below.refl _ _) | (with_reducible assumption) | (with_reducible refine below_drewN ?_ _) | (with_reducible refine below_new ?_ _) | (with_reducible refine Below.alloc ?_ ?_ _) | (with_reducible refine Below.drew ?_) | (with_reducible refine Below.setCell ?_ ?_ _) | (with_reducible apply below_at; (case k => (with_reducible assumption)); (case hB => omega)) | (with_reducible apply below_on; (with_reducible assumption)) | (go_size; done) | (with_reducible apply size_of)))⟩
end Go.Proofs.Ytdnccnaihkajmaa.encW
