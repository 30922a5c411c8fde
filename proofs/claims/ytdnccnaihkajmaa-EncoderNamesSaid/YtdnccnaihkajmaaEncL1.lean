/- EncoderSplits, EncoderRuns, EncoderPuts, by walks. -/
import Derived.Test.YtdnccnaihkajmaaEncL
import Derived.Test.YtdnccnaihkajmaaEncBase
namespace Go.Proofs.Ytdnccnaihkajmaa.encL
open Go.RowKit Go.Proofs.Ytdnccnaihkajmaa.base Go.Proofs.Ytdnccnaihkajmaa.encP Go.Proofs.Ytdnccnaihkajmaa.encW
set_option linter.unusedVariables false
set_option linter.unusedSimpArgs false

set_option maxRecDepth 100000 in
set_option maxHeartbeats 2000000 in
theorem splits (x1 x2 p q : Int) (w : World) (a1 : 0 ≤ x1) (a2 : x1 ≤ 4294967295) (b1 : 0 ≤ x2) (b2 : x2 ≤ 4294967295) (_ : -9223372036854775808 ≤ p) (_ : p ≤ 9223372036854775807) (_ : -9223372036854775808 ≤ q) (_ : q ≤ 9223372036854775807) :
    Calls Try.prog 6 #[.int .u32 x1, .int .u32 x2, .int .i64 p, .int .i64 q] w fun e w' => e = .returned (.bool true) ∧ Below w.heap.size w w' := by
  by_cases h : x1 < x2
  · cases hp : pOk p
    · go_enter Try.func6, Try.ntmps6
      go_wp2_with (first | (go_at_call 22; refine (alive _).mono ?_; rintro e w1 ⟨rfl, hb1⟩) | (go_at_call 23; refine (rProb_any _ _).mono ?_; rintro e w' ⟨rfl, rfl⟩))
      go_ret
      exact ⟨rfl, by (repeat' (first | (with_reducible exact Below.refl _ _) | (with_reducible assumption) | (with_reducible refine below_drewN ?_ _) | (with_reducible refine below_new ?_ _) | (with_reducible refine Below.alloc ?_ ?_ _) | (with_reducible refine Below.drew ?_) | (with_reducible refine Below.setCell ?_ ?_ _) | (with_reducible apply below_at; (case k => (with_reducible assumption)); (case hB => omega)) | (with_reducible apply below_on; (with_reducible assumption)) | (go_size; done) | (with_reducible apply size_of)))⟩
    · cases hq : pOk q
      · go_enter Try.func6, Try.ntmps6
        go_wp2_with (first | (go_at_call 22; refine (alive _).mono ?_; rintro e w1 ⟨rfl, hb1⟩) | (go_at_call 23; refine (rProb_any _ _).mono ?_; rintro e w' ⟨rfl, rfl⟩))
        go_ret
        exact ⟨rfl, by (repeat' (first | (with_reducible exact Below.refl _ _) | (with_reducible assumption) | (with_reducible refine below_drewN ?_ _) | (with_reducible refine below_new ?_ _) | (with_reducible refine Below.alloc ?_ ?_ _) | (with_reducible refine Below.drew ?_) | (with_reducible refine Below.setCell ?_ ?_ _) | (with_reducible apply below_at; (case k => (with_reducible assumption)); (case hB => omega)) | (with_reducible apply below_on; (with_reducible assumption)) | (go_size; done) | (with_reducible apply size_of)))⟩
      · by_cases hpq : p ≤ q
        · have HP := Lib.hid hp
          have HQ := Lib.hid hq
          obtain ⟨p1, p2⟩ := (pOk_iff p).1 hp
          obtain ⟨q1, q2⟩ := (pOk_iff q).1 hq
          obtain ⟨m1, m2⟩ := mid_bd h p1 p2
          obtain ⟨n1, n2⟩ := mid_bd h q1 q2
          have mo := mid_mono h hpq
          have hz : pOk 0 = true := by decide
          have HZ := Lib.hid hz
          have h1 : (x1 == x1) = true := by simp
          clear hz
          go_enter Try.func6, Try.ntmps6
          go_wp2_with (first | (go_at_call 22; refine (alive _).mono ?_; rintro e w1 ⟨rfl, hb1⟩) | (go_at_call 23; refine (rProb_any _ _).mono ?_; rintro e w' ⟨rfl, rfl⟩))
          refine (Split_ok x1 x2 p _ a1 h b2 HP.out).mono ?_
          rintro e w' ⟨rfl, rfl⟩
          go_wp2_with fail
          refine (Split_ok x1 x2 q _ a1 h b2 HQ.out).mono ?_
          rintro e w' ⟨rfl, rfl⟩
          go_wp2_with fail
          refine (Split_ok x1 x2 0 _ a1 h b2 HZ.out).mono ?_
          rintro e w' ⟨rfl, rfl⟩
          rw [mid_zero]
          go_wp2
          go_ret
          exact ⟨rfl, by (repeat' (first | (with_reducible exact Below.refl _ _) | (with_reducible assumption) | (with_reducible refine below_drewN ?_ _) | (with_reducible refine below_new ?_ _) | (with_reducible refine Below.alloc ?_ ?_ _) | (with_reducible refine Below.drew ?_) | (with_reducible refine Below.setCell ?_ ?_ _) | (with_reducible apply below_at; (case k => (with_reducible assumption)); (case hB => omega)) | (with_reducible apply below_on; (with_reducible assumption)) | (go_size; done) | (with_reducible apply size_of)))⟩
        · go_enter Try.func6, Try.ntmps6
          go_wp2_with (first | (go_at_call 22; refine (alive _).mono ?_; rintro e w1 ⟨rfl, hb1⟩) | (go_at_call 23; refine (rProb_any _ _).mono ?_; rintro e w' ⟨rfl, rfl⟩))
          go_ret
          exact ⟨rfl, by (repeat' (first | (with_reducible exact Below.refl _ _) | (with_reducible assumption) | (with_reducible refine below_drewN ?_ _) | (with_reducible refine below_new ?_ _) | (with_reducible refine Below.alloc ?_ ?_ _) | (with_reducible refine Below.drew ?_) | (with_reducible refine Below.setCell ?_ ?_ _) | (with_reducible apply below_at; (case k => (with_reducible assumption)); (case hB => omega)) | (with_reducible apply below_on; (with_reducible assumption)) | (go_size; done) | (with_reducible apply size_of)))⟩
  · go_enter Try.func6, Try.ntmps6
    go_wp2_with (first | (go_at_call 22; refine (alive _).mono ?_; rintro e w1 ⟨rfl, hb1⟩) | (go_at_call 23; refine (rProb_any _ _).mono ?_; rintro e w' ⟨rfl, rfl⟩))
    go_ret
    exact ⟨rfl, by (repeat' (first | (with_reducible exact Below.refl _ _) | (with_reducible assumption) | (with_reducible refine below_drewN ?_ _) | (with_reducible refine below_new ?_ _) | (with_reducible refine Below.alloc ?_ ?_ _) | (with_reducible refine Below.drew ?_) | (with_reducible refine Below.setCell ?_ ?_ _) | (with_reducible apply below_at; (case k => (with_reducible assumption)); (case hB => omega)) | (with_reducible apply below_on; (with_reducible assumption)) | (go_size; done) | (with_reducible apply size_of)))⟩
set_option maxRecDepth 100000 in
set_option maxHeartbeats 2000000 in
theorem runs_in (A Bb : Option Addr) (lp cp lb cb : Nat) (ps : List Int) (bs : List Bool) (w : World) (hA : Has .i64 w A ps) (el : ps.length = lp) (m1 : lp ≤ 2100) (hB : HasB w Bb bs) (eb : bs.length = lb) (m2 : lb ≤ 300 ∨ 2000 < lb ∧ lb ≤ 2100) :
    Calls Try.prog 4 #[.slice A lp cp, .slice Bb lb cb] w fun e w' => e = .returned (.bool true) ∧ Below w.heap.size w w' := by
  have HA := Lib.hid hA
  have HB := Lib.hid hB
  have HL := Lib.hid el
  have HM := Lib.hid eb
  clear hA hB el eb
  rcases m2 with m2 | m2
  all_goals
    go_enter Try.func4, Try.ntmps4
    go_wp2_with (first | (go_at_call 20; refine (Run_any _ _ _ _ _ _ ps bs _ HA.out HL.out (by omega) HB.out HM.out (by omega)).mono ?_; rintro e w1 ⟨A1, c1, rfl, hh1, hc1, hb1⟩; have H1 := Lib.hid hh1; clear hh1))
    refine (rRun_any _ _ _ _ _ _ ps bs _ (HA.out.below hb1 (Nat.le_refl _)) HL.out (by omega) (HB.out.below hb1 (Nat.le_refl _)) HM.out (by omega)).mono ?_
    rintro e w2 ⟨A2, c2, rfl, hh2, hc2, hb2⟩
    have cv1 := conv8 (n := (rnV ps bs).length) (c := c1) (H1.out.below hb2 (Nat.le_refl _)) rfl
    have cv2 := conv8 (n := (rnV ps bs).length) (c := c2) hh2 rfl
    clear hh2
    generalize bstr (rnV ps bs) = s at *
    have he : (rnE ps lb == rnE ps lb) = true := by simp
    go_wp2
    go_ret
    exact ⟨by simp, by (repeat' (first | (with_reducible exact Below.refl _ _) | (with_reducible assumption) | (with_reducible refine below_drewN ?_ _) | (with_reducible refine below_new ?_ _) | (with_reducible refine Below.alloc ?_ ?_ _) | (with_reducible refine Below.drew ?_) | (with_reducible refine Below.setCell ?_ ?_ _) | (with_reducible apply below_at; (case k => (with_reducible assumption)); (case hB => omega)) | (with_reducible apply below_on; (with_reducible assumption)) | (go_size; done) | (with_reducible apply size_of)))⟩
set_option maxRecDepth 100000 in
set_option maxHeartbeats 2000000 in
theorem runs (A : Option Addr) (lp cp : Nat) (pz : List Int) (Bb : Option Addr) (lb cb : Nat) (bs : List Bool) (w : World) (hA : IsRow .i64 w A lp cp pz) (hB : IsRowB w Bb lb cb bs) :
    Calls Try.prog 4 #[.slice A lp cp, .slice Bb lb cb] w fun e w' => e = .returned (.bool true) ∧ Below w.heap.size w w' := by
  obtain ⟨hA1, hA2, hA3, _⟩ := has_of_row hA
  obtain ⟨hB1, hB2, _, hB3, _⟩ := hB
  unfold maxLen at hA3
  by_cases c1 : lp ≤ 2100 ∧ (lb ≤ 300 ∨ 2000 < lb ∧ lb ≤ 2100)
  · exact runs_in A Bb lp cp lb cb _ bs w hA1 hA2 c1.1 hB1 hB2 c1.2
  · clear hA1 hA2 hB1 hB2 hA
    rcases (show lb ≤ 300 ∧ 2100 < lp ∨ (300 < lb ∧ lb ≤ 2000) ∨ (2000 < lb ∧ lb ≤ 2100 ∧ 2100 < lp) ∨ 2100 < lb by omega) with h | h | h | h
    all_goals
      clear c1
      go_enter Try.func4, Try.ntmps4
      go_wp2
      go_ret
      exact ⟨rfl, by (repeat' (first | (with_reducible exact Below.refl _ _) | (with_reducible assumption) | (with_reducible refine below_drewN ?_ _) | (with_reducible refine below_new ?_ _) | (with_reducible refine Below.alloc ?_ ?_ _) | (with_reducible refine Below.drew ?_) | (with_reducible refine Below.setCell ?_ ?_ _) | (with_reducible apply below_at; (case k => (with_reducible assumption)); (case hB => omega)) | (with_reducible apply below_on; (with_reducible assumption)) | (go_size; done) | (with_reducible apply size_of)))⟩
end Go.Proofs.Ytdnccnaihkajmaa.encL
