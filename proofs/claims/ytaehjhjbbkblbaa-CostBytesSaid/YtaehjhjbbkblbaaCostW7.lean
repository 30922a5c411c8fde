/- What the reference's Run, Real and Bytes return, by walks. -/
import Derived.Test.YtaehjhjbbkblbaaCostW6
import Derived.Test.YtaehjhjbbkblbaaEncR4
namespace Go.Proofs.Ytaehjhjbbkblbaa.costW
open Go.RowKit Go.Proofs.Ytaehjhjbbkblbaa.base Go.Proofs.Ytaehjhjbbkblbaa.encP Go.Proofs.Ytaehjhjbbkblbaa.costP
open Go.Proofs.Ytaehjhjbbkblbaa.encW (rDid_any)
set_option linter.unusedVariables false
set_option linter.unusedSimpArgs false

set_option maxRecDepth 100000 in
set_option maxHeartbeats 2000000 in
theorem rRun_ok (A Bb : Option Addr) (cp cb : Nat) (ps : List Int) (bs : List Bool) (w : World) (hA : Has .i64 w A ps) (hB : HasB w Bb bs) (hl : ps.length = bs.length) (h2k : bs.length ≤ 2000) (hal : ps.all cOk = true) :
    Calls Try.prog 59 #[.slice A ps.length cp, .slice Bb bs.length cb] w fun e w' => e = .returned (.tuple #[.int .i64 (cS ps bs).2.2.1, .int .i64 (cS ps bs).2.2.2, .int .u64 ((cS ps bs).2.1 - (cS ps bs).1 + 1)]) ∧ Below w.heap.size w w' := by
  have HA := Lib.hid hA
  have HB := Lib.hid hB
  have HL := Lib.hid hl
  have HP := Lib.hid hal
  clear hA hB hl hal
  go_enter Try.func59, Try.ntmps59
  go_wp2_with (first | (go_at_call 24; refine (Go.Proofs.Ytaehjhjbbkblbaa.encW.rNew_any _).mono ?_; rintro e w1 ⟨rfl, hb1⟩))
  have HB1 := Lib.hid hb1
  have hs1 := hb1.size
  clear hb1
  go_loopw [8, 9, 10] (fun s n i wr => ∃ k : Nat, k ≤ bs.length ∧ i = .int .i64 k ∧ s = .int .i64 (cS (ps.take k) (bs.take k)).2.2.1 ∧ n = .int .i64 (cS (ps.take k) (bs.take k)).2.2.2 ∧ (0 ≤ (cS (ps.take k) (bs.take k)).2.2.1 ∧ (cS (ps.take k) (bs.take k)).2.2.1 ≤ 3000000 * k ∧ 0 ≤ (cS (ps.take k) (bs.take k)).2.2.2 ∧ (cS (ps.take k) (bs.take k)).2.2.2 ≤ 4 * k) ∧ (Lies (wr) (w1.heap.size) 25 [.int .u32 ((cS (ps.take k) (bs.take k)).1), .int .u32 ((cS (ps.take k) (bs.take k)).2.1), .slice (none) (0) (0)]) ∧ Below w.heap.size w wr) (fun _ _ i _ => bs.length - (intOf i).toNat)
  case atStart => exact ⟨0, by omega, rfl, rfl, rfl, by simp [cS, fold2, c0], Lies.fresh _ _ _, by have := HB1.out; (repeat' (first | (with_reducible exact Below.refl _ _) | (with_reducible assumption) | (with_reducible refine below_drewN ?_ _) | (with_reducible refine below_new ?_ _) | (with_reducible refine Below.alloc ?_ ?_ _) | (with_reducible refine Below.drew ?_) | (with_reducible refine Below.setCell ?_ ?_ _) | (with_reducible apply below_at; (case k => (with_reducible assumption)); (case hB => omega)) | (with_reducible apply below_on; (with_reducible assumption)) | (go_size; done) | (with_reducible apply size_of)))⟩
  case round =>
    obtain ⟨k, hk, rfl, rfl, rfl, ⟨z1, z2, z3, z4⟩, K, W⟩ := hrel
    have HGD := Lib.hid (cgood_all (ps := ps.take k) (bs := bs.take k) (all_take HP.out k))
    have HK := Lib.hid K
    have HW := Lib.hid W
    obtain ⟨p0, p1, p2, f0, f1, f2⟩ := K.three
    have lt1 := K.lt
    have hwz := W.size
    clear K W
    by_cases hlt : k < bs.length
    · have hkp : k < ps.length := by have := HL.out; omega
      obtain ⟨b, off, rfl, hbl, hc⟩ := has_some HA.out (by omega)
      have hcell : wr.cell? ⟨b, off + k, none⟩ = some (.int .i64 (ps.getD k 0)) := by rw [(bcell HW.out).1 b _ hbl]; exact hc k hkp
      obtain ⟨b2, off2, rfl, hbl2, hc2⟩ := hasB_some' HB.out hlt
      have hcell2 : wr.cell? ⟨b2, off2 + k, none⟩ = some (.bool (bs.getD k false)) := by rw [(bcell HW.out).1 b2 _ hbl2]; exact hc2 k hlt
      have HX := Lib.hid (all_getD HP.out hkp)
      have HS : Hid (cS (ps.take (k + 1)) (bs.take (k + 1)) = cN (cS (ps.take k) (bs.take k)) (ps.getD k 0) (bs.getD k false)) := Lib.hid (fold2_snoc cN ps bs c0 k hkp hlt)
      have i1 : (0 : Int) ≤ (k : Int) := by omega
      have i2 : (k : Int) < ps.length := by omega
      have i3 : (k : Int) < bs.length := by omega
      clear hc hc2
      generalize ps.getD k 0 = x at *
      generalize bs.getD k false = bt at *
      generalize cS (ps.take k) (bs.take k) = s at *
      have hgo : CGood s := HGD.out
      obtain ⟨s1, s2, s3, s4⟩ := hgo
      obtain ⟨k1, k2, k3, k4, k5, k6⟩ := pu_ok (b := bt) s1 s2 s3 (cOk_pOk HX.out)
      obtain ⟨r1, r2, e0⟩ := ctR (b := bt) s1 s2 s3 HX.out
      clear s4 k4 k6
      have HST := Lib.hid (fun W => rStep_any s.1 s.2.1 x bt W s1 (by omega) (by omega) s3)
      go_wp2_with fail
      go_quiet ((go_at_call 38; exact Calls.quiet_of_same (turned (HST.out _))))
      go_wp2_with fail
      refine region_still_tail 9 (by kernel_rfl) (by kernel_rfl) ?_; simp only [List.take_succ_cons, List.take_zero, List.drop_succ_cons, List.drop_zero]
      still_step
      still_step
      still_step
      still_step
      still_step
      still_step
      still_step
      still_step
      still_step
      refine wpStill_nil ?_
      go_wp2_with fail
      refine (rDid_any s.1 s.2.1 x bt none 0 0 [] _ s1 s2 s3 (cOk_pOk HX.out) (.inl rfl) rfl (Nat.le_refl _) (by omega)).mono ?_
      rintro e w4 ⟨A4, c4, rfl, ho4, hb4⟩
      have HK4 := Lib.hid (Lies.past ((HK.out.drewN nq).drew) hb4)
      have HW4 : Hid (Below w.heap.size w w4) := Lib.hid (by have := HW.out; (repeat' (first | (with_reducible exact Below.refl _ _) | (with_reducible assumption) | (with_reducible refine below_drewN ?_ _) | (with_reducible refine below_new ?_ _) | (with_reducible refine Below.alloc ?_ ?_ _) | (with_reducible refine Below.drew ?_) | (with_reducible refine Below.setCell ?_ ?_ _) | (with_reducible apply below_at; (case k => (with_reducible assumption)); (case hB => omega)) | (with_reducible apply below_on; (with_reducible assumption)) | (go_size; done) | (with_reducible apply size_of))))
      obtain ⟨p0, p1, p2, f0, f1, f2⟩ := HK4.out.three
      have hz4 := HK4.out.lt
      clear ho4 hb4 hcell hcell2
      go_wp2_with fail
      have KF := HK4.out.store3 (a := .int .u32 (pu s.1 s.2.1 x bt).1) (b := .int .u32 (pu s.1 s.2.1 x bt).2.1) (c := .slice A4 (0 + (pu s.1 s.2.1 x bt).2.2.length) c4)
      have W5 : Below w.heap.size w _ := ((HW4.out.setCell (p := ⟨w1.heap.size, 0, none⟩) (by simp; omega) (.int .u32 (pu s.1 s.2.1 x bt).1)).setCell (p := ⟨w1.heap.size, 1, none⟩) (by simp; omega) (.int .u32 (pu s.1 s.2.1 x bt).2.1)).setCell (p := ⟨w1.heap.size, 2, none⟩) (by simp; omega) (.slice A4 (0 + (pu s.1 s.2.1 x bt).2.2.length) c4)
      rw [Nat.zero_add] at KF W5
      generalize ((w4.setCell ⟨w1.heap.size, 0, none⟩ (.int .u32 (pu s.1 s.2.1 x bt).1)).setCell ⟨w1.heap.size, 1, none⟩ (.int .u32 (pu s.1 s.2.1 x bt).2.1)).setCell ⟨w1.heap.size, 2, none⟩ (.slice A4 (pu s.1 s.2.1 x bt).2.2.length c4) = wq at *
      obtain ⟨q0, q1, q2, g0, g1, g2⟩ := KF.three
      have HKF := Lib.hid KF
      have HW5 := Lib.hid W5
      have hz5 := KF.lt
      have v1 : IntKind.i64.wrap (s.2.2.1 + ctV s.1 s.2.1 x bt) = s.2.2.1 + ctV s.1 s.2.1 x bt := IntWalk.i64_in _ (by omega)
      have v2 : IntKind.i64.wrap (s.2.2.2 + ((pu s.1 s.2.1 x bt).2.2.length : Int)) = s.2.2.2 + ((pu s.1 s.2.1 x bt).2.2.length : Int) := IntWalk.i64_in _ (by omega)
      clear KF W5 p0 p1 p2 f0 f1 f2
      go_quiet (fail)
      clear v1 v2
      go_wp2
      go_roundw
      case rel =>
        refine ⟨k + 1, by omega, by go_num, by rw [HS.out]; rfl, by rw [HS.out]; rfl, ?_, ?_, by have := HW5.out; (repeat' (first | (with_reducible exact Below.refl _ _) | (with_reducible assumption) | (with_reducible refine below_drewN ?_ _) | (with_reducible refine below_new ?_ _) | (with_reducible refine Below.alloc ?_ ?_ _) | (with_reducible refine Below.drew ?_) | (with_reducible refine Below.setCell ?_ ?_ _) | (with_reducible apply below_at; (case k => (with_reducible assumption)); (case hB => omega)) | (with_reducible apply below_on; (with_reducible assumption)) | (go_size; done) | (with_reducible apply size_of)))⟩
        · rw [HS.out]; simp only [cN]; omega
        · rw [HS.out]; exact (HKF.out.drewN _).set 2 _
      case measure => simp [intOf]; omega
    · have HT : Hid (cS (ps.take k) (bs.take k) = cS ps bs) := Lib.hid (by rw [List.take_of_length_le (by have := HL.out; omega), List.take_of_length_le (by omega)])
      have hkl : ¬ k < ps.length := by have := HL.out; omega
      have hgo : CGood _ := HGD.out
      obtain ⟨s1, s2, s3, s4⟩ := hgo
      rw [HT.out] at s1 s2 s3 p0 p1
      rw [HT.out]
      clear s4
      clear HGD HK HT f0 f1 f2 p2 z1 z2 z3 z4
      go_wp2
      have v1 : IntKind.u64.wrap ((cS ps bs).2.1 - (cS ps bs).1) = (cS ps bs).2.1 - (cS ps bs).1 := IntWalk.u64_in _ (by omega)
      have v2 : IntKind.u64.wrap ((cS ps bs).2.1 - (cS ps bs).1 + 1) = (cS ps bs).2.1 - (cS ps bs).1 + 1 := IntWalk.u64_in _ (by omega)
      go_quiet (fail)
      go_wp2
      go_ret3
      exact ⟨rfl, below_drewN HW.out _⟩
set_option maxHeartbeats 1000000 in
theorem rReal_any (A Bb : Option Addr) (cp cb : Nat) (ps : List Int) (bs : List Bool) (w : World) (hA : Has .i64 w A ps) (hB : HasB w Bb bs) (m1 : ps.length ≤ 9223372036854775807) (m2 : bs.length ≤ 9223372036854775807) :
    Calls Try.prog 42 #[.slice A ps.length cp, .slice Bb bs.length cb] w fun e w' => e = .returned (.tuple #[.int .i64 (reV ps bs), .int .i64 (ckE ps bs.length)]) ∧ Below w.heap.size w w' := by
  have HA := Lib.hid hA
  by_cases h : ckE ps bs.length = 0
  · obtain ⟨h1, h2, h3⟩ := ck_zero h
    rw [reV, if_pos h, h]
    have HK := Lib.hid h
    have K := Lib.hid (rRun_ok A Bb cp cb ps bs w hA hB h1 h2 h3)
    clear hA hB h h1
    go_enter Try.func42, Try.ntmps42
    go_wp2_with (first | (go_at_call 47; refine (rLists_any _ _ _ _ bs.length ps _ HA.out m1 m2).mono ?_; rintro e w' ⟨rfl, rfl⟩; rw [HK.out]) | (go_at_call 59; refine (K.out).mono ?_; rintro e w' ⟨rfl, hb⟩))
    go_ret2
    exact ⟨rfl, hb⟩
  · rw [reV, if_neg h]
    rcases ck_bad h with hc | hc
    all_goals
      have HE := Lib.hid hc
      clear hc h hA hB
      go_enter Try.func42, Try.ntmps42
      go_wp2_with (go_at_call 47; refine (rLists_any _ _ _ _ bs.length ps _ HA.out m1 m2).mono ?_; rintro e w' ⟨rfl, rfl⟩; rw [HE.out])
      go_ret2
      rw [HE.out]
      exact ⟨rfl, Below.refl _ _⟩
set_option maxHeartbeats 1000000 in
theorem rBytes_any (A Bb : Option Addr) (cp cb : Nat) (ps : List Int) (bs : List Bool) (w : World) (hA : Has .i64 w A ps) (hB : HasB w Bb bs) (m1 : ps.length ≤ 9223372036854775807) (m2 : bs.length ≤ 9223372036854775807) :
    Calls Try.prog 44 #[.slice A ps.length cp, .slice Bb bs.length cb] w fun e w' => e = .returned (.tuple #[.int .i64 (byV ps bs), .int .i64 (ckE ps bs.length)]) ∧ Below w.heap.size w w' := by
  have HA := Lib.hid hA
  by_cases h : ckE ps bs.length = 0
  · obtain ⟨h1, h2, h3⟩ := ck_zero h
    rw [byV, if_pos h, h]
    have HK := Lib.hid h
    have K := Lib.hid (rRun_ok A Bb cp cb ps bs w hA hB h1 h2 h3)
    clear hA hB h h1
    go_enter Try.func44, Try.ntmps44
    go_wp2_with (first | (go_at_call 47; refine (rLists_any _ _ _ _ bs.length ps _ HA.out m1 m2).mono ?_; rintro e w' ⟨rfl, rfl⟩; rw [HK.out]) | (go_at_call 59; refine (K.out).mono ?_; rintro e w' ⟨rfl, hb⟩))
    go_ret2
    exact ⟨rfl, hb⟩
  · rw [byV, if_neg h]
    rcases ck_bad h with hc | hc
    all_goals
      have HE := Lib.hid hc
      clear hc h hA hB
      go_enter Try.func44, Try.ntmps44
      go_wp2_with (go_at_call 47; refine (rLists_any _ _ _ _ bs.length ps _ HA.out m1 m2).mono ?_; rintro e w' ⟨rfl, rfl⟩; rw [HE.out])
      go_ret2
      rw [HE.out]
      exact ⟨rfl, Below.refl _ _⟩
end Go.Proofs.Ytaehjhjbbkblbaa.costW
