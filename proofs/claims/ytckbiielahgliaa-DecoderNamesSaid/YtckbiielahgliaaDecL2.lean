/- DecoderBack, by a walk. -/
import Derived.Test.YtckbiielahgliaaDecL1
namespace Go.Proofs.Ytckbiielahgliaa.decL
open Go.RowKit Go.Proofs.Ytckbiielahgliaa.base Go.Proofs.Ytckbiielahgliaa.encP Go.Proofs.Ytckbiielahgliaa.encW Go.Proofs.Ytckbiielahgliaa.decP Go.Proofs.Ytckbiielahgliaa.decW
set_option linter.unusedVariables false
set_option linter.unusedSimpArgs false

theorem rnE_big {ps : List Int} {n : Nat} (h : n ≤ 100) (hz : rnE ps n = 0) : ps.length = n ∧ ps.all pOk = true := by
  unfold rnE at hz
  rw [if_neg (by omega)] at hz
  by_cases e : ps.length = n
  · rw [if_pos e] at hz
    cases c : ps.all pOk
    · rw [c] at hz; simp at hz
    · exact ⟨e, rfl⟩
  · rw [if_neg e] at hz; omega
theorem runS_bytes : ∀ (ps : List Int) (bs : List Bool) (y : Int × Int × List Int), ps.length = bs.length → ps.all pOk = true → EGood y → InB y.2.2 → InB (runS ps bs y).2.2
  | [], bs, y, _, _, _, h => by simpa [runS] using h
  | _ :: _, [], y, hl, _, _, _ => by simp at hl
  | p :: ps, b :: bs, y, hl, ha, hg, h => by
    rw [List.all_cons] at ha
    have hp : pOk p = true := by revert ha; cases pOk p <;> simp
    have hps : ps.all pOk = true := by revert ha; rw [hp]; simp
    obtain ⟨g1, g2, g3, g4⟩ := hg
    obtain ⟨_, _, _, _, _, k6⟩ := pu_ok (b := b) g1 g2 g3 hp
    exact runS_bytes ps bs (nxt y p b) (by simpa using hl) hps (good_nxt ⟨g1, g2, g3, g4⟩ hp b).1 (by
      intro z hz
      simp only [nxt] at hz
      rcases List.mem_append.1 hz with hz | hz
      · exact h z hz
      · exact k6 z hz)
theorem b4_bytes {x : Int} (h0 : 0 ≤ x) (h1 : x ≤ 4294967295) : InB (b4 x) := by
  intro z hz
  simp only [b4, List.mem_cons, List.not_mem_nil, or_false] at hz
  rcases hz with rfl | rfl | rfl | rfl <;> omega
/-- Of the bytes of a run, with whatever behind them. -/
theorem back_plain {ps : List Int} {bs : List Bool} (hl : ps.length = bs.length) (ha : ps.all pOk = true) (hb : bs.length ≤ 100) {more : List Int} (hm : InB more) (hml : more.length ≤ 20) :
    InB (rnV ps bs ++ more) ∧ (rnV ps bs).length ≤ 404 ∧ drE (rnV ps bs ++ more).length ps = 0 ∧ drV (rnV ps bs ++ more) ps = bs := by
  have hrn : rnE ps bs.length = 0 := by rw [rnE, if_neg (by omega), if_pos hl, ha]; rfl
  have hrv : rnV ps bs = (runS ps bs s0).2.2 ++ b4 (runS ps bs s0).1 := rnV_yes hrn
  have hg := run_good ps bs hl ps.length (Nat.le_refl _) (by rw [List.take_of_length_le (Nat.le_refl _)]; exact ha)
  rw [List.take_of_length_le (Nat.le_refl _), List.take_of_length_le (by omega)] at hg
  obtain ⟨⟨g1, g2, g3, g4⟩, gl⟩ := hg
  have hlen : (rnV ps bs).length ≤ 404 := by rw [hrv, List.length_append, b4_len]; omega
  have hin : InB (rnV ps bs ++ more) := by
    rw [hrv]
    intro z hz
    rcases List.mem_append.1 hz with hz | hz
    · rcases List.mem_append.1 hz with hz | hz
      · exact runS_bytes ps bs s0 hl ha good_s0 (by intro z hz; simp [s0] at hz) z hz
      · exact b4_bytes g1 (by omega) z hz
    · exact hm z hz
  have hd : drE (rnV ps bs ++ more).length ps = 0 := by
    rw [drE_all (by rw [List.length_append]; omega) (by omega), ha]; rfl
  refine ⟨hin, hlen, hd, ?_⟩
  rw [drV_yes hd]
  rw [hrv] at hin ⊢
  exact back_all hl ha hin
set_option maxRecDepth 100000 in
set_option maxHeartbeats 2000000 in
theorem back_in (P Bb A : Option Addr) (lp cp lb cb n c : Nat) (ps : List Int) (bs : List Bool) (zs : List Int) (w : World) (hP : Has .i64 w P ps) (el : ps.length = lp) (m1 : lp ≤ 9223372036854775807) (hB : HasB w Bb bs) (eb : bs.length = lb) (m2 : lb ≤ 100)
    (hA : Has .u8 w A zs) (hn : zs.length = n) (hz : InB zs) (hr : rnE ps lb = 0) (m3 : n ≤ 20) :
    Calls Try.prog 6 #[.slice P lp cp, .slice Bb lb cb, .slice A n c] w fun e w' => e = .returned (.bool true) ∧ Below w.heap.size w w' := by
  subst el eb hn
  obtain ⟨e1, e2⟩ := rnE_big m2 hr
  obtain ⟨q1, q2, q3, q4⟩ := back_plain e1 e2 m2 hz m3
  obtain ⟨p1, p2, p3, p4⟩ := back_plain (more := []) e1 e2 m2 (by intro z h; simp at h) (by simp)
  rw [List.append_nil] at p1 p3 p4
  have HP := Lib.hid hP
  have HB := Lib.hid hB
  have HA := Lib.hid hA
  have HR := Lib.hid hr
  have Q1 := Lib.hid q1
  have Q3 := Lib.hid q3
  have Q4 := Lib.hid q4
  have P1 := Lib.hid p1
  have P3 := Lib.hid p3
  have P4 := Lib.hid p4
  have E1 := Lib.hid e1
  have HZ := Lib.hid hz
  clear hP hB hA hr q1 q3 q4 p1 p3 p4 e1 e2 hz
  generalize hrv : rnV ps bs = rv at *
  have HRV := Lib.hid hrv
  clear hrv
  go_enter Try.func6, Try.ntmps6
  go_wp2_with (first | (go_at_call 21; refine (alive _).mono ?_; rintro e w1 ⟨rfl, hb1⟩; have W1 := Lib.hid hb1; clear hb1) | (go_at_call 22; refine (rProbs_any _ _ _ bs.length ps _ (HP.out.below W1.out (Nat.le_refl _)) rfl m1 (by omega)).mono ?_; rintro e w' ⟨rfl, rfl⟩; rw [HR.out]))
  refine (Run_any P Bb _ _ _ _ ps bs _ (HP.out.below W1.out (Nat.le_refl _)) rfl m1 (HB.out.below W1.out (Nat.le_refl _)) rfl (by omega)).mono ?_
  rintro e w2 ⟨A2, c2, rfl, hh2, hc2, hb2⟩
  rw [HRV.out] at hh2 hc2
  rw [HRV.out, HR.out]
  have H2 := Lib.hid hh2
  have W2 : Hid (Below w.heap.size w w2) := Lib.hid (by have := W1.out; (repeat' (first | (with_reducible exact Below.refl _ _) | (with_reducible assumption) | (with_reducible refine below_drewN ?_ _) | (with_reducible refine below_new ?_ _) | (with_reducible refine Below.alloc ?_ ?_ _) | (with_reducible refine Below.drew ?_) | (with_reducible refine Below.setCell ?_ ?_ _) | (with_reducible apply below_at; (case k => (with_reducible assumption)); (case hB => omega)) | (with_reducible apply below_on; (with_reducible assumption)) | (go_size; done) | (with_reducible apply size_of))))
  clear hh2 hb2 W1
  go_wp2_with fail
  refine (RunD_any A2 P _ c2 _ _ rv ps _ H2.out rfl hc2 (by omega) P1.out (HP.out.below W2.out (Nat.le_refl _)) rfl m1).mono ?_
  rintro e w3 ⟨A3, c3, rfl, hh3, hc3, hb3⟩
  rw [P4.out] at hh3 hc3
  rw [P4.out, P3.out]
  have H3 := Lib.hid hh3
  have H2' := Lib.hid (H2.out.below hb3 (Nat.le_refl _))
  have W3 : Hid (Below w.heap.size w w3) := Lib.hid (by have := W2.out; (repeat' (first | (with_reducible exact Below.refl _ _) | (with_reducible assumption) | (with_reducible refine below_drewN ?_ _) | (with_reducible refine below_new ?_ _) | (with_reducible refine Below.alloc ?_ ?_ _) | (with_reducible refine Below.drew ?_) | (with_reducible refine Below.setCell ?_ ?_ _) | (with_reducible apply below_at; (case k => (with_reducible assumption)); (case hB => omega)) | (with_reducible apply below_on; (with_reducible assumption)) | (go_size; done) | (with_reducible apply size_of))))
  clear hh3 hb3 W2 H2
  go_wp2_with (first
    | (at_builtin; refine app8z rfl _ _ rfl w3.heap.size _ [] rfl (.inr ⟨rfl, _, rfl⟩) A2 rv.length c2 rv rfl rfl (H2'.out.below (by (repeat' (first | (with_reducible exact Below.refl _ _) | (with_reducible assumption) | (with_reducible refine below_drewN ?_ _) | (with_reducible refine below_new ?_ _) | (with_reducible refine Below.alloc ?_ ?_ _) | (with_reducible refine Below.drew ?_) | (with_reducible refine Below.setCell ?_ ?_ _) | (with_reducible apply below_at; (case k => (with_reducible assumption)); (case hB => omega)) | (with_reducible apply below_on; (with_reducible assumption)) | (go_size; done) | (with_reducible apply size_of)))) (Nat.le_refl _)) rv.length (by simp) (by omega) (by simp; try omega) ?_; intro A4 c4 w4 ho4 hl4 hb4; have W34 : Hid (Below w3.heap.size w3 w4) := Lib.hid (by (repeat' (first | (with_reducible exact Below.refl _ _) | (with_reducible assumption) | (with_reducible refine below_drewN ?_ _) | (with_reducible refine below_new ?_ _) | (with_reducible refine Below.alloc ?_ ?_ _) | (with_reducible refine Below.drew ?_) | (with_reducible refine Below.setCell ?_ ?_ _) | (with_reducible apply below_at; (case k => (with_reducible assumption)); (case hB => omega)) | (with_reducible apply below_on; (with_reducible assumption)) | (go_size; done) | (with_reducible apply size_of)))); have HO4 : Hid (OwnZ w4 w3.heap.size (.slice A4 rv.length c4) rv) := Lib.hid (by simpa using ho4); clear hl4 hb4 ho4)
    | (at_builtin; refine app8z rfl _ _ rfl w3.heap.size _ rv rfl HO4.out A zs.length c zs rfl rfl (HA.out.below (by have := W3.out; have := W34.out; (repeat' (first | (with_reducible exact Below.refl _ _) | (with_reducible assumption) | (with_reducible refine below_drewN ?_ _) | (with_reducible refine below_new ?_ _) | (with_reducible refine Below.alloc ?_ ?_ _) | (with_reducible refine Below.drew ?_) | (with_reducible refine Below.setCell ?_ ?_ _) | (with_reducible apply below_at; (case k => (with_reducible assumption)); (case hB => omega)) | (with_reducible apply below_on; (with_reducible assumption)) | (go_size; done) | (with_reducible apply size_of)))) (Nat.le_refl _)) (rv.length + zs.length) (by rfl) (by omega) (by have := W34.out.size; omega) ?_; intro A5 c5 w5 ho5 hl5 hb5; have W35 : Hid (Below w3.heap.size w3 w5) := Lib.hid (W34.out.trans hb5); have HO5 := Lib.hid ho5; clear hl5 hb5 ho5))
  have HC5 : Hid (rv.length + zs.length ≤ c5) := Lib.hid (by
    obtain ⟨A6, c6, e6, _, h6⟩ := HO5.out.val
    injection e6 with _ _ e7
    rw [e7, ← List.length_append]; exact h6)
  refine (RunD_any A5 P _ c5 _ _ (rv ++ zs) ps _ HO5.out.has (by rw [List.length_append]) HC5.out (by omega) Q1.out (HP.out.below (by have := W3.out; have := W35.out; (repeat' (first | (with_reducible exact Below.refl _ _) | (with_reducible assumption) | (with_reducible refine below_drewN ?_ _) | (with_reducible refine below_new ?_ _) | (with_reducible refine Below.alloc ?_ ?_ _) | (with_reducible refine Below.drew ?_) | (with_reducible refine Below.setCell ?_ ?_ _) | (with_reducible apply below_at; (case k => (with_reducible assumption)); (case hB => omega)) | (with_reducible apply below_on; (with_reducible assumption)) | (go_size; done) | (with_reducible apply size_of)))) (Nat.le_refl _)) rfl m1).mono ?_
  rintro e w6 ⟨A6, c6, rfl, hh6, hc6, hb6⟩
  rw [Q4.out] at hh6 hc6
  have Q3' := Q3.out
  rw [List.length_append] at Q3'
  rw [Q4.out, Q3']
  have H6 := Lib.hid hh6
  have H3' := Lib.hid ((H3.out.below W35.out (Nat.le_refl _)).below hb6 (Nat.le_refl _))
  have W6 : Hid (Below w.heap.size w w6) := Lib.hid (by have := W3.out; have := W35.out; (repeat' (first | (with_reducible exact Below.refl _ _) | (with_reducible assumption) | (with_reducible refine below_drewN ?_ _) | (with_reducible refine below_new ?_ _) | (with_reducible refine Below.alloc ?_ ?_ _) | (with_reducible refine Below.drew ?_) | (with_reducible refine Below.setCell ?_ ?_ _) | (with_reducible apply below_at; (case k => (with_reducible assumption)); (case hB => omega)) | (with_reducible apply below_on; (with_reducible assumption)) | (go_size; done) | (with_reducible apply size_of))))
  clear hh6 hb6 H3 W35 W34 HO4 HO5
  go_wp2_with fail
  refine (rSame_any A3 Bb _ _ _ _ bs bs _ H3'.out rfl (HB.out.below W6.out (Nat.le_refl _)) rfl (by omega) (by omega)).mono ?_
  rintro e w7 ⟨rfl, hb7⟩
  rw [decide_eq_true rfl]
  have H6' := Lib.hid (H6.out.below hb7 (Nat.le_refl _))
  have W7 : Hid (Below w.heap.size w w7) := Lib.hid (by have := W6.out; (repeat' (first | (with_reducible exact Below.refl _ _) | (with_reducible assumption) | (with_reducible refine below_drewN ?_ _) | (with_reducible refine below_new ?_ _) | (with_reducible refine Below.alloc ?_ ?_ _) | (with_reducible refine Below.drew ?_) | (with_reducible refine Below.setCell ?_ ?_ _) | (with_reducible apply below_at; (case k => (with_reducible assumption)); (case hB => omega)) | (with_reducible apply below_on; (with_reducible assumption)) | (go_size; done) | (with_reducible apply size_of))))
  clear hb7
  go_wp2_with fail
  refine (rSame_any A6 Bb _ _ _ _ bs bs _ H6'.out rfl (HB.out.below W7.out (Nat.le_refl _)) rfl (by omega) (by omega)).mono ?_
  rintro e w8 ⟨rfl, hb8⟩
  rw [decide_eq_true rfl]
  go_wp2
  go_ret
  exact ⟨rfl, by have := W7.out; (repeat' (first | (with_reducible exact Below.refl _ _) | (with_reducible assumption) | (with_reducible refine below_drewN ?_ _) | (with_reducible refine below_new ?_ _) | (with_reducible refine Below.alloc ?_ ?_ _) | (with_reducible refine Below.drew ?_) | (with_reducible refine Below.setCell ?_ ?_ _) | (with_reducible apply below_at; (case k => (with_reducible assumption)); (case hB => omega)) | (with_reducible apply below_on; (with_reducible assumption)) | (go_size; done) | (with_reducible apply size_of)))⟩
set_option maxRecDepth 100000 in
set_option maxHeartbeats 2000000 in
theorem back (P : Option Addr) (lp cp : Nat) (pz : List Int) (Bb : Option Addr) (lb cb : Nat) (bs : List Bool) (A : Option Addr) (n c : Nat) (zz : List Int) (w : World) (hP : IsRow .i64 w P lp cp pz) (hB : IsRowB w Bb lb cb bs) (hA : IsRow .u8 w A n c zz) :
    Calls Try.prog 6 #[.slice P lp cp, .slice Bb lb cb, .slice A n c] w fun e w' => e = .returned (.bool true) ∧ Below w.heap.size w w' := by
  obtain ⟨hA1, hA2, hA3, hA4⟩ := has_of_row hA
  obtain ⟨hP1, hP2, hP3, _⟩ := has_of_row hP
  obtain ⟨hB1, hB2, _, hB3, _⟩ := hB
  unfold maxLen at hA3 hP3
  have HP := Lib.hid hP1
  have HPL := Lib.hid hP2
  by_cases g1 : lb ≤ 100
  · by_cases g2 : rnE (pz.take lp) lb = 0
    · by_cases g3 : n ≤ 20
      · exact back_in P Bb A lp cp lb cb n c _ bs _ w hP1 hP2 (by omega) hB1 hB2 g1 hA1 hA2 (inB_of hA4) g2 g3
      · clear hA1 hA2 hP1 hP2 hB1 hB2 hA hP hA4
        have HR := Lib.hid g2
        clear g2
        go_enter Try.func6, Try.ntmps6
        go_wp2_with (first | (go_at_call 21; refine (alive _).mono ?_; rintro e w1 ⟨rfl, hb1⟩; have W1 := Lib.hid hb1; clear hb1) | (go_at_call 22; refine (rProbs_any _ _ _ lb _ _ (HP.out.below W1.out (Nat.le_refl _)) HPL.out (by omega) (by omega)).mono ?_; rintro e w' ⟨rfl, rfl⟩; rw [HR.out]))
        go_ret
        exact ⟨rfl, W1.out⟩
    · clear hA1 hA2 hP1 hP2 hB1 hB2 hA hP hA4
      have hne : (rnE (pz.take lp) lb == 0) = false := by simpa using g2
      have hne2 : (rnE (pz.take lp) lb != 0) = true := by simpa using g2
      generalize hr : rnE (pz.take lp) lb = r at *
      have HR := Lib.hid hr
      clear hr
      go_enter Try.func6, Try.ntmps6
      go_wp2_with (first | (go_at_call 21; refine (alive _).mono ?_; rintro e w1 ⟨rfl, hb1⟩; have W1 := Lib.hid hb1; clear hb1) | (go_at_call 22; refine (rProbs_any _ _ _ lb _ _ (HP.out.below W1.out (Nat.le_refl _)) HPL.out (by omega) (by omega)).mono ?_; rintro e w' ⟨rfl, rfl⟩; rw [HR.out]))
      go_ret
      exact ⟨rfl, W1.out⟩
  · clear hA1 hA2 hP1 hP2 hB1 hB2 hA hP hA4
    go_enter Try.func6, Try.ntmps6
    go_wp2_with (first | (go_at_call 21; refine (alive _).mono ?_; rintro e w1 ⟨rfl, hb1⟩; have W1 := Lib.hid hb1; clear hb1))
    go_ret
    exact ⟨rfl, W1.out⟩
end Go.Proofs.Ytckbiielahgliaa.decL
