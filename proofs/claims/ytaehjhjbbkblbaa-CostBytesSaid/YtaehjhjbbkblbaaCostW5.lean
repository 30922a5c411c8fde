/- What Ideal, Real and Bytes return for lists that are taken, by walks. -/
import Derived.Test.YtaehjhjbbkblbaaCostW4
import Derived.Test.YtaehjhjbbkblbaaCostPlain2
import Derived.Test.YtaehjhjbbkblbaaEncL2
import Derived.Test.YtaehjhjbbkblbaaCostL2
import Derived.Deep.RegionLaw
import Derived.Deep.QuietTactic
import Derived.BigQuiet
namespace Go.Proofs.Ytaehjhjbbkblbaa.costW
open Go.RowKit Go.Proofs.Ytaehjhjbbkblbaa.base Go.Proofs.Ytaehjhjbbkblbaa.encP Go.Proofs.Ytaehjhjbbkblbaa.costP
open Go.Proofs.Ytaehjhjbbkblbaa.encL (Put_ok)
set_option linter.unusedVariables false
set_option linter.unusedSimpArgs false

theorem hasB_some' {w : World} {Bb : Option Addr} {bs : List Bool} (h : HasB w Bb bs) {k : Nat} (hk : k < bs.length) : ∃ b off, Bb = some ⟨b, off, none⟩ ∧ b < w.heap.size ∧ ∀ i, i < bs.length → w.cell? ⟨b, off + i, none⟩ = some (.bool (bs.getD i false)) := by
  rcases h with h | h
  · rw [h] at hk; simp at hk
  · exact h
theorem btR {p : Int} {b : Bool} (h : cOk p = true) : 0 ≤ btV p b ∧ btV p b ≤ 786432 ∧ btE p = 0 := by
  obtain ⟨a, c⟩ := (cOk_iff p).1 h
  obtain ⟨_, h2, _, _, _, h6, _, h8⟩ := Go.Proofs.Ytaehjhjbbkblbaa.costL.ideal_facts (x1 := 0) (x2 := 1) (p := p) (b := b) (by omega) (by omega) (by omega) a c
  exact ⟨h2, h6, h8⟩
theorem ctR {x1 x2 p : Int} {b : Bool} (a1 : 0 ≤ x1) (h : x1 < x2) (b2 : x2 ≤ 4294967295) (hp : cOk p = true) : 0 ≤ ctV x1 x2 p b ∧ ctV x1 x2 p b < 2162688 ∧ ctE x1 x2 p = 0 := by
  obtain ⟨a, c⟩ := (cOk_iff p).1 hp
  obtain ⟨h1, _, _, _, h5, _, h7, _⟩ := Go.Proofs.Ytaehjhjbbkblbaa.costL.ideal_facts (b := b) a1 b2 h a c
  exact ⟨h1, h5, h7⟩
set_option maxRecDepth 100000 in
set_option maxHeartbeats 2000000 in
theorem Ideal_ok (A Bb : Option Addr) (cp cb : Nat) (ps : List Int) (bs : List Bool) (w : World) (hA : Has .i64 w A ps) (hB : HasB w Bb bs) (h0 : ckE ps bs.length = 0) (hl : ps.length = bs.length) (h2k : bs.length ≤ 2000) (hal : ps.all cOk = true) :
    Calls Try.prog 39 #[.slice A ps.length cp, .slice Bb bs.length cb] w fun e w' => e = .returned (.tuple #[.int .i64 (idS ps bs), .int .i64 0]) ∧ w = w' := by
  have K := check_any A Bb ps.length bs.length cp cb ps w hA rfl (by omega) (by omega)
  rw [h0] at K
  have HK := Lib.hid K
  have HA := Lib.hid hA
  have HB := Lib.hid hB
  have HL := Lib.hid hl
  have HP := Lib.hid hal
  clear hA hB h0 hl hal K
  go_enter Try.func39, Try.ntmps39
  go_wp2_with (go_at_call 57; refine (HK.out).mono ?_; rintro e w' ⟨rfl, rfl⟩)
  go_loop [7, 20] (fun s i => ∃ k : Nat, k ≤ bs.length ∧ i = .int .i64 k ∧ s = .int .i64 (idS (ps.take k) (bs.take k)) ∧ 0 ≤ idS (ps.take k) (bs.take k) ∧ idS (ps.take k) (bs.take k) ≤ 3000000 * k) (fun _ i => bs.length - (intOf i).toNat)
  case atStart => exact ⟨0, by omega, rfl, rfl, by simp [idS, fold2], by simp [idS, fold2]⟩
  case round =>
    obtain ⟨k, hk, rfl, rfl, z1, z2⟩ := hrel
    by_cases hlt : k < bs.length
    · have hkp : k < ps.length := by have := HL.out; omega
      obtain ⟨b, off, rfl, hbl, hc⟩ := has_some HA.out (by omega)
      have hcell : w.cell? ⟨b, off + k, none⟩ = some (.int .i64 (ps.getD k 0)) := hc k hkp
      obtain ⟨b2, off2, rfl, hbl2, hc2⟩ := hasB_some' HB.out hlt
      have hcell2 : w.cell? ⟨b2, off2 + k, none⟩ = some (.bool (bs.getD k false)) := hc2 k hlt
      have hx := all_getD HP.out hkp
      have HS : Hid (idS (ps.take (k + 1)) (bs.take (k + 1)) = idS (ps.take k) (bs.take k) + btV (ps.getD k 0) (bs.getD k false)) := Lib.hid (fold2_snoc idN ps bs 0 k hkp hlt)
      obtain ⟨r1, r2, e0⟩ := btR (b := bs.getD k false) hx
      clear hc hc2 hx
      generalize ps.getD k 0 = x at *
      generalize bs.getD k false = bt at *
      generalize idS (ps.take k) (bs.take k) = s at *
      go_wp2_with (go_at_call 35; refine (Bit_any x bt _).mono ?_; rintro e w' ⟨rfl, rfl⟩)
      go_round
      case rel => exact ⟨k + 1, by omega, by go_num, by rw [HS.out], by rw [HS.out]; omega, by rw [HS.out]; omega⟩
      case measure => simp [intOf]; omega
    · have HT : Hid (idS (ps.take k) (bs.take k) = idS ps bs) := Lib.hid (by rw [List.take_of_length_le (by have := HL.out; omega), List.take_of_length_le (by omega)])
      go_wp2
      go_ret2
      exact ⟨by rw [← HT.out]; rfl, rfl⟩
set_option maxRecDepth 100000 in
set_option maxHeartbeats 2000000 in
theorem coded_ok (A Bb : Option Addr) (cp cb : Nat) (ps : List Int) (bs : List Bool) (w : World) (hA : Has .i64 w A ps) (hB : HasB w Bb bs) (h0 : ckE ps bs.length = 0) (hl : ps.length = bs.length) (h2k : bs.length ≤ 2000) (hal : ps.all cOk = true) :
    Calls Try.prog 58 #[.slice A ps.length cp, .slice Bb bs.length cb] w fun e w' => e = .returned (.tuple #[.int .i64 (cS ps bs).2.2.1, .int .i64 (cS ps bs).2.2.2, .int .i64 0]) ∧ Below w.heap.size w w' := by
  have K := check_any A Bb ps.length bs.length cp cb ps w hA rfl (by omega) (by omega)
  rw [h0] at K
  have HK := Lib.hid K
  have HA := Lib.hid hA
  have HB := Lib.hid hB
  have HL := Lib.hid hl
  have HP := Lib.hid hal
  clear hA hB h0 hl hal K
  go_enter Try.func58, Try.ntmps58
  go_wp2_with (first | (go_at_call 57; refine (HK.out).mono ?_; rintro e w' ⟨rfl, rfl⟩) | (go_at_call 22; refine (New_any _).mono ?_; rintro e w1 ⟨rfl, hb1⟩))
  have HB1 := Lib.hid hb1
  have hs1 := hb1.size
  clear hb1
  go_loopw [4, 5, 22] (fun s n i wr => ∃ k : Nat, k ≤ bs.length ∧ i = .int .i64 k ∧ s = .int .i64 (cS (ps.take k) (bs.take k)).2.2.1 ∧ n = .int .i64 (cS (ps.take k) (bs.take k)).2.2.2 ∧ (0 ≤ (cS (ps.take k) (bs.take k)).2.2.1 ∧ (cS (ps.take k) (bs.take k)).2.2.1 ≤ 3000000 * k ∧ 0 ≤ (cS (ps.take k) (bs.take k)).2.2.2 ∧ (cS (ps.take k) (bs.take k)).2.2.2 ≤ 4 * k) ∧ (Lies (wr) (w1.heap.size) 25 [.int .u32 ((cS (ps.take k) (bs.take k)).1), .int .u32 ((cS (ps.take k) (bs.take k)).2.1), .slice (none) (0) (0)]) ∧ Below w.heap.size w wr) (fun _ _ i _ => bs.length - (intOf i).toNat)
  case atStart => exact ⟨0, by omega, rfl, rfl, rfl, by simp [cS, fold2, c0], Lies.fresh _ _ _, by have := HB1.out; (repeat' (first | (with_reducible exact Below.refl _ _) | (with_reducible assumption) | (with_reducible refine below_drewN ?_ _) | (with_reducible refine below_new ?_ _) | (with_reducible refine Below.alloc ?_ ?_ _) | (with_reducible refine Below.drew ?_) | (with_reducible refine Below.setCell ?_ ?_ _) | (with_reducible apply below_at; (case k => (with_reducible assumption)); (case hB => omega)) | (with_reducible apply below_on; (with_reducible assumption)) | (go_size; done) | (with_reducible apply size_of)))⟩
  case round =>
    obtain ⟨k, hk, rfl, rfl, rfl, ⟨z1, z2, z3, z4⟩, K, W⟩ := hrel
    have HGD := Lib.hid (cgood_all (ps := ps.take k) (bs := bs.take k) (all_take HP.out k))
    have HK := Lib.hid K
    have HW := Lib.hid W
    obtain ⟨p0, p1, p2, f0, f1, f2⟩ := K.three
    have lt1 := K.lt
    have hwz := W.size
    clear K W
    by_cases hlt : k < bs.length
    · have hkp : k < ps.length := by have := HL.out; omega
      obtain ⟨b, off, rfl, hbl, hc⟩ := has_some HA.out (by omega)
      have hcell : wr.cell? ⟨b, off + k, none⟩ = some (.int .i64 (ps.getD k 0)) := by rw [(bcell HW.out).1 b _ hbl]; exact hc k hkp
      obtain ⟨b2, off2, rfl, hbl2, hc2⟩ := hasB_some' HB.out hlt
      have hcell2 : wr.cell? ⟨b2, off2 + k, none⟩ = some (.bool (bs.getD k false)) := by rw [(bcell HW.out).1 b2 _ hbl2]; exact hc2 k hlt
      have HX := Lib.hid (all_getD HP.out hkp)
      have HS : Hid (cS (ps.take (k + 1)) (bs.take (k + 1)) = cN (cS (ps.take k) (bs.take k)) (ps.getD k 0) (bs.getD k false)) := Lib.hid (fold2_snoc cN ps bs c0 k hkp hlt)
      have i1 : (0 : Int) ≤ (k : Int) := by omega
      have i2 : (k : Int) < ps.length := by omega
      clear hc hc2
      generalize ps.getD k 0 = x at *
      generalize bs.getD k false = bt at *
      generalize cS (ps.take k) (bs.take k) = s at *
      have hgo : CGood s := HGD.out
      obtain ⟨s1, s2, s3, s4⟩ := hgo
      have HOK : Hid (encOk s.1 s.2.1 0 = true) := Lib.hid ((encOk_iff _ _ _).2 ⟨s4, s2, by omega⟩)
      obtain ⟨k1, k2, k3, k4, k5, k6⟩ := pu_ok (b := bt) s1 s2 s3 (cOk_pOk HX.out)
      obtain ⟨r1, r2, e0⟩ := ctR (b := bt) s1 s2 s3 HX.out
      clear s4 k4 k6
      have HST := Lib.hid (fun W => Step_any s.1 s.2.1 x bt W s1 (by omega) (by omega) s3)
      go_wp2_with fail
      go_quiet ((go_at_call 37; exact Calls.quiet_of_same (turned (HST.out _))))
      go_wp2_with fail
      have HKq := Lib.hid (HK.out.drewN nq)
      have HWq := Lib.hid (below_drewN HW.out nq)
      have hcq : (wr.drewN nq).cell? ⟨b, off + k, none⟩ = some (.int .i64 x) := hcell
      clear hcell hcell2 p0 p1 p2 f0 f1 f2 HK HW
      obtain ⟨p0, p1, p2, f0, f1, f2⟩ := HKq.out.three
      generalize wr.drewN nq = wq at *
      go_upto_region 12 with fail
      go_cut [12] (fun s12 wx => ∃ (A4 : Option Addr) (c4 : Nat), s12 = .int .i64 0 ∧ (Lies (wx) (w1.heap.size) 25 [.int .u32 ((pu s.1 s.2.1 x bt).1), .int .u32 ((pu s.1 s.2.1 x bt).2.1), .slice (A4) ((pu s.1 s.2.1 x bt).2.2.length) (c4)]) ∧ Below w.heap.size w wx)
      case first =>
        go_region_law (first | (go_simp; go_at_call 18; refine (Put_ok s.1 s.2.1 x bt none 0 0 [] _ s1 s3 (.inl rfl) rfl (Nat.le_refl _) HOK.out (cOk_pOk HX.out) (by omega)).mono ?_; rintro e w4 ⟨A4, c4, rfl, hh4, hc4, hb4⟩; have HK4 := Lib.hid (Lies.past (HKq.out.drew) hb4); obtain ⟨p0, p1, p2, f0, f1, f2⟩ := HK4.out.three; have hz4 := HK4.out.lt; clear hh4 hc4))
        all_goals
          go_wp2_with fail
          go_meet
        all_goals exact ⟨A4, c4, rfl, HK4.out.store3, by have := HWq.out; (repeat' (first | (with_reducible exact Below.refl _ _) | (with_reducible assumption) | (with_reducible refine below_drewN ?_ _) | (with_reducible refine below_new ?_ _) | (with_reducible refine Below.alloc ?_ ?_ _) | (with_reducible refine Below.drew ?_) | (with_reducible refine Below.setCell ?_ ?_ _) | (with_reducible apply below_at; (case k => (with_reducible assumption)); (case hB => omega)) | (with_reducible apply below_on; (with_reducible assumption)) | (go_size; done) | (with_reducible apply size_of)))⟩
      case rest =>
        obtain ⟨A4, c4, rfl, K4, W4⟩ := hcut
        have HK4 := Lib.hid K4
        have HW4 := Lib.hid W4
        obtain ⟨p0, p1, p2, f0, f1, f2⟩ := K4.three
        have hz4 := K4.lt
        clear K4 W4 HKq HWq hcq
        go_wp2
        go_roundw
        case rel =>
          refine ⟨k + 1, by omega, by go_num, by rw [HS.out]; rfl, by rw [HS.out]; rfl, ?_, ?_, by have := HW4.out; (repeat' (first | (with_reducible exact Below.refl _ _) | (with_reducible assumption) | (with_reducible refine below_drewN ?_ _) | (with_reducible refine below_new ?_ _) | (with_reducible refine Below.alloc ?_ ?_ _) | (with_reducible refine Below.drew ?_) | (with_reducible refine Below.setCell ?_ ?_ _) | (with_reducible apply below_at; (case k => (with_reducible assumption)); (case hB => omega)) | (with_reducible apply below_on; (with_reducible assumption)) | (go_size; done) | (with_reducible apply size_of)))⟩
          · rw [HS.out]; simp only [cN]; omega
          · rw [HS.out]; exact HK4.out.set 2 _
        case measure => simp [intOf]; omega
    · have HT : Hid (cS (ps.take k) (bs.take k) = cS ps bs) := Lib.hid (by rw [List.take_of_length_le (by have := HL.out; omega), List.take_of_length_le (by omega)])
      go_wp2
      go_ret3
      exact ⟨by rw [← HT.out]; rfl, by have := HW.out; (repeat' (first | (with_reducible exact Below.refl _ _) | (with_reducible assumption) | (with_reducible refine below_drewN ?_ _) | (with_reducible refine below_new ?_ _) | (with_reducible refine Below.alloc ?_ ?_ _) | (with_reducible refine Below.drew ?_) | (with_reducible refine Below.setCell ?_ ?_ _) | (with_reducible apply below_at; (case k => (with_reducible assumption)); (case hB => omega)) | (with_reducible apply below_on; (with_reducible assumption)) | (go_size; done) | (with_reducible apply size_of)))⟩
theorem ck_zero {ps : List Int} {nb : Nat} (h : ckE ps nb = 0) : ps.length = nb ∧ nb ≤ 2000 ∧ ps.all cOk = true := by
  unfold ckE at h
  by_cases c1 : 2000 < nb
  · rw [if_pos c1] at h; omega
  · rw [if_neg c1] at h
    by_cases c2 : ps.length = nb
    · rw [if_pos c2] at h
      cases c3 : allC ps
      · rw [c3] at h; simp at h
      · exact ⟨c2, by omega, c3⟩
    · rw [if_neg c2] at h; omega
theorem ck_bad {ps : List Int} {nb : Nat} (h : ckE ps nb ≠ 0) : ckE ps nb = 2 ∨ ckE ps nb = 4 := by
  unfold ckE at h ⊢
  by_cases c1 : 2000 < nb
  · rw [if_pos c1]; omega
  · rw [if_neg c1] at h ⊢
    by_cases c2 : ps.length = nb
    · rw [if_pos c2] at h ⊢
      cases c3 : allC ps
      · simp
      · rw [c3] at h; simp at h
    · rw [if_neg c2]; omega
def idV (ps : List Int) (bs : List Bool) : Int := if ckE ps bs.length = 0 then idS ps bs else 0
def reV (ps : List Int) (bs : List Bool) : Int := if ckE ps bs.length = 0 then (cS ps bs).2.2.1 else 0
def byV (ps : List Int) (bs : List Bool) : Int := if ckE ps bs.length = 0 then (cS ps bs).2.2.2 else 0
theorem Ideal_any (A Bb : Option Addr) (cp cb : Nat) (ps : List Int) (bs : List Bool) (w : World) (hA : Has .i64 w A ps) (hB : HasB w Bb bs) (m1 : ps.length ≤ 9223372036854775807) (m2 : bs.length ≤ 9223372036854775807) :
    Calls Try.prog 39 #[.slice A ps.length cp, .slice Bb bs.length cb] w fun e w' => e = .returned (.tuple #[.int .i64 (idV ps bs), .int .i64 (ckE ps bs.length)]) ∧ w = w' := by
  by_cases h : ckE ps bs.length = 0
  · obtain ⟨h1, h2, h3⟩ := ck_zero h
    rw [idV, if_pos h, h]
    exact Ideal_ok A Bb cp cb ps bs w hA hB h h1 h2 h3
  · rw [idV, if_neg h]
    exact Ideal_bad A Bb ps.length bs.length cp cb ps w hA rfl m1 m2 _ rfl (by simpa using h)
set_option maxHeartbeats 1000000 in
theorem Real_any (A Bb : Option Addr) (cp cb : Nat) (ps : List Int) (bs : List Bool) (w : World) (hA : Has .i64 w A ps) (hB : HasB w Bb bs) (m1 : ps.length ≤ 9223372036854775807) (m2 : bs.length ≤ 9223372036854775807) :
    Calls Try.prog 41 #[.slice A ps.length cp, .slice Bb bs.length cb] w fun e w' => e = .returned (.tuple #[.int .i64 (reV ps bs), .int .i64 (ckE ps bs.length)]) ∧ Below w.heap.size w w' := by
  by_cases h : ckE ps bs.length = 0
  · obtain ⟨h1, h2, h3⟩ := ck_zero h
    rw [reV, if_pos h, h]
    have K := Lib.hid (coded_ok A Bb cp cb ps bs w hA hB h h1 h2 h3)
    clear hA hB h h1
    go_enter Try.func41, Try.ntmps41
    go_wp2_with (go_at_call 58; refine (K.out).mono ?_; rintro e w' ⟨rfl, hb⟩)
    go_ret2
    exact ⟨rfl, hb⟩
  · rw [reV, if_neg h]
    refine (Real_bad A Bb ps.length bs.length cp cb ps w hA rfl m1 m2 _ rfl (by simpa using h)).mono ?_
    rintro e w' ⟨rfl, rfl⟩
    exact ⟨rfl, Below.refl _ _⟩
set_option maxHeartbeats 1000000 in
theorem Bytes_any (A Bb : Option Addr) (cp cb : Nat) (ps : List Int) (bs : List Bool) (w : World) (hA : Has .i64 w A ps) (hB : HasB w Bb bs) (m1 : ps.length ≤ 9223372036854775807) (m2 : bs.length ≤ 9223372036854775807) :
    Calls Try.prog 43 #[.slice A ps.length cp, .slice Bb bs.length cb] w fun e w' => e = .returned (.tuple #[.int .i64 (byV ps bs), .int .i64 (ckE ps bs.length)]) ∧ Below w.heap.size w w' := by
  by_cases h : ckE ps bs.length = 0
  · obtain ⟨h1, h2, h3⟩ := ck_zero h
    rw [byV, if_pos h, h]
    have K := Lib.hid (coded_ok A Bb cp cb ps bs w hA hB h h1 h2 h3)
    clear hA hB h h1
    go_enter Try.func43, Try.ntmps43
    go_wp2_with (go_at_call 58; refine (K.out).mono ?_; rintro e w' ⟨rfl, hb⟩)
    go_ret2
    exact ⟨rfl, hb⟩
  · rw [byV, if_neg h]
    refine (Bytes_bad A Bb ps.length bs.length cp cb ps w hA rfl m1 m2 _ rfl (by simpa using h)).mono ?_
    rintro e w' ⟨rfl, rfl⟩
    exact ⟨rfl, Below.refl _ _⟩
end Go.Proofs.Ytaehjhjbbkblbaa.costW
