/- CostBytes, by a walk. -/
import Derived.Test.YtaehjhjbbkblbaaCostL4
import Derived.Test.YtaehjhjbbkblbaaCostMath3
import Derived.Test.YtaehjhjbbkblbaaEncL5
import Derived.Deep.DeepCutAuto
namespace Go.Proofs.Ytaehjhjbbkblbaa.costL
open Go.RowKit Go.Proofs.Ytaehjhjbbkblbaa.base Go.Proofs.Ytaehjhjbbkblbaa.encP Go.Proofs.Ytaehjhjbbkblbaa.costP Go.Proofs.Ytaehjhjbbkblbaa.costW
open Go.Proofs.Ytaehjhjbbkblbaa.encL (cell_on has_other has_store3 Put_ok)
open Go.Proofs.Ytaehjhjbbkblbaa.encW (rCheck_any good_ok Lies.cells3)
set_option linter.unusedVariables false
set_option linter.unusedSimpArgs false

set_option maxRecDepth 100000 in
set_option maxHeartbeats 4000000 in
theorem bytes_in (A Bb : Option Addr) (cp cb : Nat) (ps : List Int) (bs : List Bool) (w : World) (hA : Has .i64 w A ps) (hB : HasB w Bb bs) (m2 : bs.length ≤ 200) (hck : ckE ps bs.length = 0) :
    Calls Try.prog 12 #[.slice A ps.length cp, .slice Bb bs.length cb] w fun e w' => e = .returned (.bool true) ∧ Below w.heap.size w w' := by
  obtain ⟨hl, h2k, hal⟩ := ck_zero hck
  have HA := Lib.hid hA
  have HB := Lib.hid hB
  have HK := Lib.hid hck
  have HL := Lib.hid hl
  have HC := Lib.hid hal
  have HP : Hid (ps.all pOk = true) := Lib.hid (List.all_eq_true.2 fun z hz => cOk_pOk (List.all_eq_true.1 hal z hz))
  have HBF := Lib.hid (bytes_facts (bs := bs) hal)
  have hle : ps.length ≤ bs.length := by omega
  have HRV : Hid (reV ps bs = (cS ps bs).2.2.1 ∧ byV ps bs = (cS ps bs).2.2.2) := Lib.hid ⟨by rw [reV, if_pos hck], by rw [byV, if_pos hck]⟩
  clear hA hB hck hal hl
  go_enter Try.func12, Try.ntmps12
  go_wp2_with (first | (go_at_call 45; refine (alive _).mono ?_; rintro e w' ⟨rfl, rfl⟩) | (go_at_call 47; refine (rLists_any _ _ _ _ bs.length ps _ HA.out (by omega) (by omega)).mono ?_; rintro e w' ⟨rfl, rfl⟩; rw [HK.out]))
  refine (Real_any _ _ _ _ ps bs _ HA.out HB.out (by omega) (by omega)).mono ?_
  rintro e w1 ⟨rfl, hb1⟩
  rw [HK.out, HRV.out.1]
  have B1 := Lib.hid hb1
  clear hb1
  go_wp2_with fail
  refine (Bytes_any _ _ _ _ ps bs _ (HA.out.below B1.out (Nat.le_refl _)) (HB.out.below B1.out (Nat.le_refl _)) (by omega) (by omega)).mono ?_
  rintro e w2 ⟨rfl, hb2⟩
  rw [HK.out, HRV.out.2]
  have B2 := Lib.hid (B1.out.trans (hb2.mono B1.out.size))
  clear hb2
  go_wp2_with fail
  refine (Go.Proofs.Ytaehjhjbbkblbaa.encW.New_any _).mono ?_
  rintro e w3 ⟨rfl, hb3⟩
  have HW3 := Lib.hid (B2.out.trans (hb3.mono B2.out.size))
  have hs3 := HW3.out.size
  clear hb3 B2 B1
  go_wp2_with fail
  go_loopw [11] (fun i wr => ∃ (k : Nat) (Ak : Option Addr) (ck : Nat), k ≤ bs.length ∧ i = .int .i64 k ∧ (Lies (wr) (w3.heap.size) 25 [.int .u32 ((runS (ps.take k) (bs.take k) s0).1), .int .u32 ((runS (ps.take k) (bs.take k) s0).2.1), .slice (Ak) ((runS (ps.take k) (bs.take k) s0).2.2.length) (ck)]) ∧ Has .u8 wr Ak (runS (ps.take k) (bs.take k) s0).2.2 ∧ (runS (ps.take k) (bs.take k) s0).2.2.length ≤ ck ∧ Below w.heap.size w wr) (fun i _ => bs.length - (intOf i).toNat)
  case atStart => exact ⟨0, none, 0, by omega, rfl, Lies.fresh _ _ _, .inl rfl, Nat.le_refl _, HW3.out.alloc hs3 _⟩
  case round =>
    obtain ⟨k, Ak, ck, hk, rfl, K, H, hck, W⟩ := hrel
    obtain ⟨hgd, hln⟩ := run_good ps bs HL.out k (by have := HL.out; omega) (all_take HP.out k)
    have HGD := Lib.hid hgd
    obtain ⟨p0, p1, p2, f0, f1, f2⟩ := K.three
    have lt1 := K.lt
    have HKK := Lib.hid K
    have HH := Lib.hid H
    have HW := Lib.hid W
    clear hgd K H W
    by_cases hlt : k < bs.length
    · have hkp : k < ps.length := by have := HL.out; omega
      obtain ⟨b, off, rfl, hbl, hc⟩ := has_some HA.out (by omega)
      have hcell : wr.cell? ⟨b, off + k, none⟩ = some (.int .i64 (ps.getD k 0)) := by rw [(bcell HW.out).1 b _ hbl]; exact hc k hkp
      obtain ⟨b2, off2, rfl, hbl2, hc2⟩ := hasB_some' HB.out hlt
      have hcell2 : wr.cell? ⟨b2, off2 + k, none⟩ = some (.bool (bs.getD k false)) := by rw [(bcell HW.out).1 b2 _ hbl2]; exact hc2 k hlt
      have HN := Lib.hid (all_getD HP.out hkp)
      have HS := Lib.hid (runS_snoc ps bs s0 k hkp hlt)
      have i1 : (0 : Int) ≤ (k : Int) := by omega
      have i2 : (k : Int) < ps.length := by omega
      have i3 : (k : Int) < bs.length := by omega
      have HC1 := Lib.hid hcell
      have HC2 := Lib.hid hcell2
      clear hc hc2
      generalize ps.getD k 0 = x at *
      generalize bs.getD k false = bt at *
      generalize runS (ps.take k) (bs.take k) s0 = s at *
      have hgo : EGood s := HGD.out
      obtain ⟨s1, s2, s3, s4⟩ := hgo
      clear s4
      obtain ⟨k1, k2, k3, k4, k5, k6⟩ := pu_ok (b := bt) s1 s2 s3 HN.out
      have HR1 : Hid (ckV (pu s.1 s.2.1 x bt).1 (pu s.1 s.2.1 x bt).2.1 (s.2.2.length + (pu s.1 s.2.1 x bt).2.2.length) = 0) := Lib.hid (by rw [ckV, if_pos ((encOk_iff _ _ _).2 ⟨k4, k2, by omega⟩)])
      clear k4 k6
      go_wp2_with fail
      go_upto_region 11 with fail
      go_cut [12, 13] (fun s10 s11 wx => ∃ (g2 : Nat) (A4 : Option Addr) (c4 : Nat), s10 = .pointer (some ⟨g2, 0, none⟩) ∧ s11 = .int .i64 0 ∧ (Lies (wx) (g2) 25 [.int .u32 ((pu s.1 s.2.1 x bt).1), .int .u32 ((pu s.1 s.2.1 x bt).2.1), .slice (A4) (s.2.2.length + (pu s.1 s.2.1 x bt).2.2.length) (c4)]) ∧ (Lies (wx) (w3.heap.size) 25 [.int .u32 (s.1), .int .u32 (s.2.1), .slice (Ak) (s.2.2.length) (ck)]) ∧ Has .u8 wx A4 (s.2.2 ++ (pu s.1 s.2.1 x bt).2.2) ∧ s.2.2.length + (pu s.1 s.2.1 x bt).2.2.length ≤ c4 ∧ Below w.heap.size w wx)
      case first =>
        clear p0 p1 p2 f0 f1 f2 hcell hcell2
        have hwz := HW.out.size
        go_region_held3 (fun x' => (x'.cell? ⟨w3.heap.size, 0, none⟩ = some (.int .u32 s.1) ∧ x'.cell? ⟨w3.heap.size, 1, none⟩ = some (.int .u32 s.2.1) ∧ x'.cell? ⟨w3.heap.size, 2, none⟩ = some (.slice Ak s.2.2.length ck)) ∧ x'.cell? ⟨b, off + k, none⟩ = some (.int .i64 x) ∧ x'.cell? ⟨b2, off2 + k, none⟩ = some (.bool bt))
          ((exact ⟨Lies.cells3 (t := 25) (by have := HKK.out; (repeat' (first | (with_reducible assumption) | (with_reducible exact Lies.fresh _ _ _) | (with_reducible apply Lies.fresh_at; (first | (with_reducible rfl) | (simp; done))) | (with_reducible refine Lies.drew ?_) | (with_reducible refine Lies.drewN ?_ _) | (with_reducible refine Lies.alloc ?_ _) | (with_reducible apply Lies.past; case hb => (with_reducible assumption)) | (with_reducible apply Lies.keeps; (case k => (with_reducible assumption)); (case ht => decide)) | (with_reducible apply Lies.store3) | (with_reducible apply Lies.other; case hp => (first | omega | (simp; done) | (simp; omega)))))), cell_on HC1.out (by (repeat' (first | (with_reducible exact Below.refl _ _) | (with_reducible assumption) | (with_reducible refine below_drewN ?_ _) | (with_reducible refine below_new ?_ _) | (with_reducible refine Below.alloc ?_ ?_ _) | (with_reducible refine Below.drew ?_) | (with_reducible refine Below.setCell ?_ ?_ _) | (with_reducible apply below_at; (case k => (with_reducible assumption)); (case hB => omega)) | (with_reducible apply below_on; (with_reducible assumption)) | (go_size; done) | (with_reducible apply size_of)))), cell_on HC2.out (by (repeat' (first | (with_reducible exact Below.refl _ _) | (with_reducible assumption) | (with_reducible refine below_drewN ?_ _) | (with_reducible refine below_new ?_ _) | (with_reducible refine Below.alloc ?_ ?_ _) | (with_reducible refine Below.drew ?_) | (with_reducible refine Below.setCell ?_ ?_ _) | (with_reducible apply below_at; (case k => (with_reducible assumption)); (case hB => omega)) | (with_reducible apply below_on; (with_reducible assumption)) | (go_size; done) | (with_reducible apply size_of))))⟩))
          (first | (go_at_call 18; refine (Put_ok s.1 s.2.1 x bt Ak s.2.2.length ck s.2.2 _ s1 s3 (HH.out.below (by (repeat' (first | (with_reducible exact Below.refl _ _) | (with_reducible assumption) | (with_reducible refine below_drewN ?_ _) | (with_reducible refine below_new ?_ _) | (with_reducible refine Below.alloc ?_ ?_ _) | (with_reducible refine Below.drew ?_) | (with_reducible refine Below.setCell ?_ ?_ _) | (with_reducible apply below_at; (case k => (with_reducible assumption)); (case hB => omega)) | (with_reducible apply below_on; (with_reducible assumption)) | (go_size; done) | (with_reducible apply size_of)))) (Nat.le_refl _)) rfl hck (good_ok HGD.out (by omega)) HN.out (by omega)).mono ?_; rintro e w4 ⟨A4, c4, rfl, hh4, hc4, hb4⟩; try (refine lay (P := Lies (w4) (wr.heap.size) 25 [.int .u32 (0), .int .u32 (0), .slice (none) (0) (0)]) ?_ ?_; (focus ((repeat' (first | (with_reducible assumption) | (with_reducible exact Lies.fresh _ _ _) | (with_reducible apply Lies.fresh_at; (first | (with_reducible rfl) | (simp; done))) | (with_reducible refine Lies.drew ?_) | (with_reducible refine Lies.drewN ?_ _) | (with_reducible refine Lies.alloc ?_ _) | (with_reducible apply Lies.past; case hb => (with_reducible assumption)) | (with_reducible apply Lies.keeps; (case k => (with_reducible assumption)); (case ht => decide)) | (with_reducible apply Lies.store3) | (with_reducible apply Lies.other; case hp => (first | omega | (simp; done) | (simp; omega))))); done)); intro L9; obtain ⟨b0, b1, b9, g0, g1, g2⟩ := L9.three; have lb := L9.lt)))
        all_goals
          go_wp2_with fail
          go_meet
          have hs4 := hb4.size
          simp at hs4
        · exact ⟨w4.heap.size, A4, c4, rfl, rfl, by (repeat' (first | (with_reducible assumption) | (with_reducible exact Lies.fresh _ _ _) | (with_reducible apply Lies.fresh_at; (first | (with_reducible rfl) | (simp; done))) | (with_reducible refine Lies.drew ?_) | (with_reducible refine Lies.drewN ?_ _) | (with_reducible refine Lies.alloc ?_ _) | (with_reducible apply Lies.past; case hb => (with_reducible assumption)) | (with_reducible apply Lies.keeps; (case k => (with_reducible assumption)); (case ht => decide)) | (with_reducible apply Lies.store3) | (with_reducible apply Lies.other; case hp => (first | omega | (simp; done) | (simp; omega))))), by have := HKK.out; (repeat' (first | (with_reducible assumption) | (with_reducible exact Lies.fresh _ _ _) | (with_reducible apply Lies.fresh_at; (first | (with_reducible rfl) | (simp; done))) | (with_reducible refine Lies.drew ?_) | (with_reducible refine Lies.drewN ?_ _) | (with_reducible refine Lies.alloc ?_ _) | (with_reducible apply Lies.past; case hb => (with_reducible assumption)) | (with_reducible apply Lies.keeps; (case k => (with_reducible assumption)); (case ht => decide)) | (with_reducible apply Lies.store3) | (with_reducible apply Lies.other; case hp => (first | omega | (simp; done) | (simp; omega))))), hh4.below ((Below.refl _ _).alloc (Nat.le_refl _) _) (Nat.le_refl _), hc4, by have := HW.out; (repeat' (first | (with_reducible exact Below.refl _ _) | (with_reducible assumption) | (with_reducible refine below_drewN ?_ _) | (with_reducible refine below_new ?_ _) | (with_reducible refine Below.alloc ?_ ?_ _) | (with_reducible refine Below.drew ?_) | (with_reducible refine Below.setCell ?_ ?_ _) | (with_reducible apply below_at; (case k => (with_reducible assumption)); (case hB => omega)) | (with_reducible apply below_on; (with_reducible assumption)) | (go_size; done) | (with_reducible apply size_of)))⟩
        · exact ⟨wr.heap.size, A4, c4, rfl, rfl, Lies.store3 L9, by have := HKK.out; (repeat' (first | (with_reducible assumption) | (with_reducible exact Lies.fresh _ _ _) | (with_reducible apply Lies.fresh_at; (first | (with_reducible rfl) | (simp; done))) | (with_reducible refine Lies.drew ?_) | (with_reducible refine Lies.drewN ?_ _) | (with_reducible refine Lies.alloc ?_ _) | (with_reducible apply Lies.past; case hb => (with_reducible assumption)) | (with_reducible apply Lies.keeps; (case k => (with_reducible assumption)); (case ht => decide)) | (with_reducible apply Lies.store3) | (with_reducible apply Lies.other; case hp => (first | omega | (simp; done) | (simp; omega))))), has_store3 hh4 L9, hc4, by have := HW.out; (repeat' (first | (with_reducible exact Below.refl _ _) | (with_reducible assumption) | (with_reducible refine below_drewN ?_ _) | (with_reducible refine below_new ?_ _) | (with_reducible refine Below.alloc ?_ ?_ _) | (with_reducible refine Below.drew ?_) | (with_reducible refine Below.setCell ?_ ?_ _) | (with_reducible apply below_at; (case k => (with_reducible assumption)); (case hB => omega)) | (with_reducible apply below_on; (with_reducible assumption)) | (go_size; done) | (with_reducible apply size_of)))⟩
      case rest =>
        obtain ⟨g2, A4, c4, rfl, rfl, M4, L4, H4, hc4, W4⟩ := hcut
        have HM4 := Lib.hid M4
        have HL4 := Lib.hid L4
        have HH4 := Lib.hid H4
        have HW4 := Lib.hid W4
        obtain ⟨r0, r1, r2, g0, g1, g3⟩ := M4.three
        have R1 := HR1.out
        have hw4 := W4.size
        clear M4 L4 H4 W4 p0 p1 p2 f0 f1 f2 hcell hcell2
        go_wp2_with fail
        refine (rCheck_any _ _ _ _ _ _ k1 (by omega) (by omega) k3 (by omega)).mono ?_
        rintro e w5 ⟨rfl, hb5⟩
        obtain ⟨r0, r1, r2, g0, g1, g3⟩ := (HM4.out.past hb5).three
        obtain ⟨p0, p1, p2, f0, f1, f2⟩ := (HL4.out.past hb5).three
        have HH5 := Lib.hid (HH4.out.below hb5 (Nat.le_refl _))
        have HL5 := Lib.hid (HL4.out.past hb5)
        have HW5 := Lib.hid (HW4.out.trans (hb5.mono hw4))
        have lt5 := HL5.out.lt
        clear hb5 HH4 HM4 HL4 HW4
        go_wp2
        go_roundw
        case rel =>
          refine ⟨k + 1, A4, c4, by omega, by go_num, ?_, ?_, ?_, ?_⟩
          · rw [HS.out]
            simp only [nxt, List.length_append]
            exact HL5.out.store3
          · rw [HS.out]
            exact has_store3 HH5.out HL5.out
          · rw [HS.out]
            simpa only [nxt, List.length_append] using hc4
          · have := HW5.out; (repeat' (first | (with_reducible exact Below.refl _ _) | (with_reducible assumption) | (with_reducible refine below_drewN ?_ _) | (with_reducible refine below_new ?_ _) | (with_reducible refine Below.alloc ?_ ?_ _) | (with_reducible refine Below.drew ?_) | (with_reducible refine Below.setCell ?_ ?_ _) | (with_reducible apply below_at; (case k => (with_reducible assumption)); (case hB => omega)) | (with_reducible apply below_on; (with_reducible assumption)) | (go_size; done) | (with_reducible apply size_of)))
        case measure => simp [intOf]; omega
    · have hke : k = bs.length := by omega
      have HT : Hid (ps.take k = ps ∧ bs.take k = bs) := Lib.hid ⟨List.take_of_length_le (by omega), List.take_of_length_le (by omega)⟩
      obtain ⟨q1, q2, q3⟩ := run_cs0 ps bs
      rw [HT.out.1, HT.out.2] at HGD HKK HH hln hck p0 p1 p2
      have HGG : EGood (runS ps bs s0) := HGD.out
      obtain ⟨s1, s2, s3, s4⟩ := HGG
      rw [q1] at p0 s1 s2
      rw [q2] at p1 s2 s3
      obtain ⟨b1, b2, b3, b4', b5, b6⟩ := HBF.out
      have HQ3 := Lib.hid q3
      have HB1 := Lib.hid b1
      have HB2 := Lib.hid b2
      clear q1 q2 q3 s4 HGD HKK b1 b2
      have t1 : ((cS ps bs).2.2.2 == ((runS ps bs s0).2.2.length : Int)) = true := by rw [HQ3.out]; simp
      have t2 : (524288 * (cS ps bs).2.2.2 == (cS ps bs).2.2.1 - 2097152 + lgV ((cS ps bs).2.1 - (cS ps bs).1 + 1)) = true := by rw [HB2.out]; simp
      have t3 : 0 ≤ (cS ps bs).2.2.2 := by rw [← HQ3.out]; omega
      have t4 : (cS ps bs).2.2.2 ≤ 800 := by rw [← HQ3.out]; omega
      have t5 : 0 ≤ (cS ps bs).2.2.1 := by omega
      have t6 : (cS ps bs).2.2.1 ≤ 524288 * 804 := by omega
      clear hke
      go_wp2_with fail
      refine (log_any ((cS ps bs).2.1 - (cS ps bs).1 + 1) _ (by omega)).mono ?_
      rintro e w' ⟨rfl, rfl⟩
      rw [HB1.out]
      go_wp2
      go_ret
      exact ⟨rfl, by have := HW.out; (repeat' (first | (with_reducible exact Below.refl _ _) | (with_reducible assumption) | (with_reducible refine below_drewN ?_ _) | (with_reducible refine below_new ?_ _) | (with_reducible refine Below.alloc ?_ ?_ _) | (with_reducible refine Below.drew ?_) | (with_reducible refine Below.setCell ?_ ?_ _) | (with_reducible apply below_at; (case k => (with_reducible assumption)); (case hB => omega)) | (with_reducible apply below_on; (with_reducible assumption)) | (go_size; done) | (with_reducible apply size_of)))⟩
end Go.Proofs.Ytaehjhjbbkblbaa.costL
