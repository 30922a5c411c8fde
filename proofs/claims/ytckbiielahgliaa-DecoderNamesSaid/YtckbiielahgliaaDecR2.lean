/- What the reference's New and Get return, and Same of equal decoders, by walks. -/
import Derived.Test.YtckbiielahgliaaDecR
namespace Go.Proofs.Ytckbiielahgliaa.decW
open Go.RowKit Go.Proofs.Ytckbiielahgliaa.base Go.Proofs.Ytckbiielahgliaa.encP Go.Proofs.Ytckbiielahgliaa.encW Go.Proofs.Ytckbiielahgliaa.decP
set_option linter.unusedVariables false
set_option linter.unusedSimpArgs false

set_option maxRecDepth 100000 in
set_option maxHeartbeats 2000000 in
theorem rNew_bad (A : Option Addr) (n c : Nat) (w : World) (h : 20000 < n) (hm : n ≤ 9223372036854775807) :
    Calls Try.prog 10 #[.slice A n c] w fun e w' => e = .returned (.tuple #[.agg #[.int .u32 (0), .int .u32 (0), .int .u32 (0), .slice (none) (0) (0), .int .i64 (0)], .int .i64 4]) ∧ Below w.heap.size w w' := by
  have h' : (20000 : Int) < n := by omega
  go_enter Try.func10, Try.ntmps10
  go_wp2
  refine bodyPost_ret (by simp [results, Try.results10, go_sem, ]; try rfl) rfl ?_
  exact ⟨rfl, by (repeat' (first | (with_reducible exact Below.refl _ _) | (with_reducible assumption) | (with_reducible refine below_drewN ?_ _) | (with_reducible refine below_new ?_ _) | (with_reducible refine Below.alloc ?_ ?_ _) | (with_reducible refine Below.drew ?_) | (with_reducible refine Below.setCell ?_ ?_ _) | (with_reducible apply below_at; (case k => (with_reducible assumption)); (case hB => omega)) | (with_reducible apply below_on; (with_reducible assumption)) | (go_size; done) | (with_reducible apply size_of)))⟩
set_option maxRecDepth 100000 in
set_option maxHeartbeats 2000000 in
theorem rNew_okD (A : Option Addr) (n c : Nat) (zs : List Int) (w : World) (hA : Has .u8 w A zs) (hn : zs.length = n) (hc : n ≤ c) (hl : n ≤ 20000) (hz : InB zs) :
    Calls Try.prog 10 #[.slice A n c] w fun e w' => ∃ A' c', e = .returned (.tuple #[.agg #[.int .u32 (0), .int .u32 (4294967295), .int .u32 (win zs 0), .slice (A') (n) (c'), .int .i64 (4)], .int .i64 0]) ∧ Has .u8 w' A' zs ∧ n ≤ c' ∧ c' ≤ 9223372036854775807 ∧ Below w.heap.size w w' := by
  have HA := Lib.hid hA
  have HZ := Lib.hid hz
  have HN := Lib.hid hn
  clear hA hz hn
  go_enter Try.func10, Try.ntmps10
  go_wp2
  have HR0 : Hid (Lies (w.alloc (.cells #[.int .u32 0, .int .u32 0, .int .u32 0, .slice none 0 0, .int .i64 0] 25)) (w.heap.size) 25 [.int .u32 (0), .int .u32 (0), .int .u32 (0), .slice (none) (0) (0), .int .i64 (0)]) := Lib.hid (by (repeat' (first | (with_reducible assumption) | (with_reducible exact Lies.fresh _ _ _) | (with_reducible apply Lies.fresh_at; (first | (with_reducible rfl) | (simp; done))) | (with_reducible refine Lies.drew ?_) | (with_reducible refine Lies.drewN ?_ _) | (with_reducible refine Lies.alloc ?_ _) | (with_reducible apply Lies.past; case hb => (with_reducible assumption)) | (with_reducible apply Lies.keeps; (case k => (with_reducible assumption)); (case ht => decide)) | (with_reducible apply Lies.store3) | (with_reducible apply Lies.other; case hp => (first | omega | (simp; done) | (simp; omega))))))
  go_loopw [4, 5] (fun v i wr => ∃ k : Nat, k ≤ 4 ∧ v = .int .u32 (pv zs k) ∧ i = .int .i64 k ∧ (Lies (wr) (w.heap.size) 25 [.int .u32 (0), .int .u32 (0), .int .u32 (0), .slice (none) (0) (0), .int .i64 (0)]) ∧ Below w.heap.size w wr) (fun _ i _ => 4 - (intOf i).toNat)
  case atStart => exact ⟨0, by omega, rfl, rfl, HR0.out, by (repeat' (first | (with_reducible exact Below.refl _ _) | (with_reducible assumption) | (with_reducible refine below_drewN ?_ _) | (with_reducible refine below_new ?_ _) | (with_reducible refine Below.alloc ?_ ?_ _) | (with_reducible refine Below.drew ?_) | (with_reducible refine Below.setCell ?_ ?_ _) | (with_reducible apply below_at; (case k => (with_reducible assumption)); (case hB => omega)) | (with_reducible apply below_on; (with_reducible assumption)) | (go_size; done) | (with_reducible apply size_of)))⟩
  case round =>
    obtain ⟨k, hk, rfl, rfl, R, W⟩ := hrel
    have HR := Lib.hid R
    have HW := Lib.hid W
    have lt2 := R.lt
    clear R W
    by_cases hlt : k < 4
    · obtain ⟨v0, v1⟩ := byt_bd HZ.out k
      obtain ⟨u0, u1⟩ := pv_bd' HZ.out hlt
      have HPV : Hid (pv zs (k + 1) = pv zs k * 256 + byt zs k) := Lib.hid rfl
      go_wp2_with (go_at_call 26; refine (rByte_any A n c k zs _ (HA.out.below (by have := HW.out; (repeat' (first | (with_reducible exact Below.refl _ _) | (with_reducible assumption) | (with_reducible refine below_drewN ?_ _) | (with_reducible refine below_new ?_ _) | (with_reducible refine Below.alloc ?_ ?_ _) | (with_reducible refine Below.drew ?_) | (with_reducible refine Below.setCell ?_ ?_ _) | (with_reducible apply below_at; (case k => (with_reducible assumption)); (case hB => omega)) | (with_reducible apply below_on; (with_reducible assumption)) | (go_size; done) | (with_reducible apply size_of)))) (Nat.le_refl _)) HN.out (by omega) (by omega)).mono ?_; rintro e w' ⟨rfl, rfl⟩)
      go_roundw
      case rel => exact ⟨k + 1, by omega, by rw [HPV.out], by go_num, HR.out, HW.out⟩
      case measure => simp [intOf]; omega
    · obtain rfl : k = 4 := by omega
      have HPW := Lib.hid (pv_win zs)
      obtain ⟨⟨r0, r1, r2, r3, r4⟩, g0, g1, g2, g3, g4⟩ := five HR.out
      go_wp2_with (at_builtin; refine app8z rfl _ _ rfl w.heap.size _ [] rfl (.inr ⟨rfl, _, rfl⟩) A n c zs rfl HN.out (HA.out.below (by have := HW.out; (repeat' (first | (with_reducible exact Below.refl _ _) | (with_reducible assumption) | (with_reducible refine below_drewN ?_ _) | (with_reducible refine below_new ?_ _) | (with_reducible refine Below.alloc ?_ ?_ _) | (with_reducible refine Below.drew ?_) | (with_reducible refine Below.setCell ?_ ?_ _) | (with_reducible apply below_at; (case k => (with_reducible assumption)); (case hB => omega)) | (with_reducible apply below_on; (with_reducible assumption)) | (go_size; done) | (with_reducible apply size_of)))) (Nat.le_refl _)) n (by simp) (by omega) (by simp; try omega) ?_; intro A3 c3 w3 ho3 hl3 hb3; have L3 : Lies (w3) (w.heap.size) 25 [.int .u32 (0), .int .u32 (0), .int .u32 (0), .slice (none) (0) (0), .int .i64 (0)] := (by have := HR.out; (repeat' (first | (with_reducible assumption) | (with_reducible exact Lies.fresh _ _ _) | (with_reducible apply Lies.fresh_at; (first | (with_reducible rfl) | (simp; done))) | (with_reducible refine Lies.drew ?_) | (with_reducible refine Lies.drewN ?_ _) | (with_reducible refine Lies.alloc ?_ _) | (with_reducible apply Lies.past; case hb => (with_reducible assumption)) | (with_reducible apply Lies.keeps; (case k => (with_reducible assumption)); (case ht => decide)) | (with_reducible apply Lies.store3) | (with_reducible apply Lies.other; case hp => (first | omega | (simp; done) | (simp; omega)))))); obtain ⟨⟨r0, r1, r2, r3, r4⟩, g0, g1, g2, g3, g4⟩ := five L3)
      have HL3 := Lib.hid L3
      have ho : OwnZ w3 w.heap.size (.slice A3 n c3) zs := by simpa using ho3
      have HC3 : Hid (n ≤ c3 ∧ c3 ≤ 9223372036854775807) := Lib.hid ⟨by
        obtain ⟨A5, c5, e5, _, h5⟩ := ho.val
        injection e5 with _ _ e6
        rw [e6, ← HN.out]; exact h5, ownZ_cap ho⟩
      have HH3 := Lib.hid ho.has
      have KF := five (store5 L3 (a' := .int .u32 0) (b' := .int .u32 4294967295) (c' := .int .u32 (pv zs 4)) (d' := .slice A3 n c3) (e' := .int .i64 4))
      obtain ⟨⟨r0, r1, r2, r3, r4⟩, _⟩ := KF
      clear ho
      refine bodyPost_ret (by simp [results, Try.results10, go_sem, r0, r1, r2, r3, r4]; try rfl) rfl ?_
      rw [← HPW.out]
      exact ⟨A3, c3, rfl, has_off5 HH3.out HL3.out, HC3.out.1, HC3.out.2, by have := HW.out; (repeat' (first | (with_reducible exact Below.refl _ _) | (with_reducible assumption) | (with_reducible refine below_drewN ?_ _) | (with_reducible refine below_new ?_ _) | (with_reducible refine Below.alloc ?_ ?_ _) | (with_reducible refine Below.drew ?_) | (with_reducible refine Below.setCell ?_ ?_ _) | (with_reducible apply below_at; (case k => (with_reducible assumption)); (case hB => omega)) | (with_reducible apply below_on; (with_reducible assumption)) | (go_size; done) | (with_reducible apply size_of)))⟩
set_option maxRecDepth 100000 in
set_option maxHeartbeats 2000000 in
theorem rGet_any (x1 x2 x : Int) (A : Option Addr) (n c : Nat) (t p : Int) (zs : List Int) (w : World) (a1 : 0 ≤ x1) (a2 : x1 ≤ 4294967295) (b1 : 0 ≤ x2) (b2 : x2 ≤ 4294967295) (c1 : 0 ≤ x) (c2 : x ≤ 4294967295) (hA : Has .u8 w A zs) (hn : zs.length = n) (hc : n ≤ c) (m : n ≤ 140737488355328) (hz : InB zs) :
    Calls Try.prog 12 #[.agg #[.int .u32 (x1), .int .u32 (x2), .int .u32 (x), .slice (A) (n) (c), .int .i64 (t)], .int .i64 p] w fun e w' => ∃ A' c', e = .returned (.tuple #[.agg #[.int .u32 ((dgV x1 x2 x zs t p).1), .int .u32 ((dgV x1 x2 x zs t p).2.1), .int .u32 ((dgV x1 x2 x zs t p).2.2.1), .slice (A') ((dgV x1 x2 x zs t p).2.2.2.1.length) (c'), .int .i64 ((dgV x1 x2 x zs t p).2.2.2.2)], .bool (dgB x1 x2 x zs t p), .int .i64 (dgE x1 x2 x zs t p)]) ∧ Has .u8 w' A' (dgV x1 x2 x zs t p).2.2.2.1 ∧ (dgV x1 x2 x zs t p).2.2.2.1.length ≤ c' ∧ c' ≤ 9223372036854775807 ∧ Below w.heap.size w w' := by
  have HA := Lib.hid hA
  have HZ := Lib.hid hz
  subst hn
  clear hA hz
  cases hok : decOk x1 x2 x zs.length t
  · have E' : dcV x1 x2 x zs.length t = 8 := by simp [dcV, hok]
    have HE := Lib.hid (dgE_bad (x1 := x1) (x2 := x2) (x := x) (zs := zs) (t := t) p hok)
    have HVV := Lib.hid (dgV_no (x1 := x1) (x2 := x2) (x := x) (zs := zs) (t := t) (p := p) (by rw [HE.out]; omega))
    clear hok
    go_enter Try.func12, Try.ntmps12
    go_wp2_with fail
    refine (rCheckD_any _ _ _ _ _ _ _ _ a1 a2 b1 b2 c1 c2 (by omega)).mono ?_
    rintro e w1 ⟨rfl, hb⟩
    have HL1 : Hid (Lies (w1) (w.heap.size) 25 [.int .u32 (x1), .int .u32 (x2), .int .u32 (x), .slice (A) (zs.length) (c), .int .i64 (t)]) := Lib.hid (by (repeat' (first | (with_reducible assumption) | (with_reducible exact Lies.fresh _ _ _) | (with_reducible apply Lies.fresh_at; (first | (with_reducible rfl) | (simp; done))) | (with_reducible refine Lies.drew ?_) | (with_reducible refine Lies.drewN ?_ _) | (with_reducible refine Lies.alloc ?_ _) | (with_reducible apply Lies.past; case hb => (with_reducible assumption)) | (with_reducible apply Lies.keeps; (case k => (with_reducible assumption)); (case ht => decide)) | (with_reducible apply Lies.store3) | (with_reducible apply Lies.other; case hp => (first | omega | (simp; done) | (simp; omega))))))
    have HL2 : Hid (Lies (w1) (w.heap.size + 1) 25 [.int .u32 (0), .int .u32 (0), .int .u32 (0), .slice (none) (0) (0), .int .i64 (0)]) := Lib.hid (by (repeat' (first | (with_reducible assumption) | (with_reducible exact Lies.fresh _ _ _) | (with_reducible apply Lies.fresh_at; (first | (with_reducible rfl) | (simp; done))) | (with_reducible refine Lies.drew ?_) | (with_reducible refine Lies.drewN ?_ _) | (with_reducible refine Lies.alloc ?_ _) | (with_reducible apply Lies.past; case hb => (with_reducible assumption)) | (with_reducible apply Lies.keeps; (case k => (with_reducible assumption)); (case ht => decide)) | (with_reducible apply Lies.store3) | (with_reducible apply Lies.other; case hp => (first | omega | (simp; done) | (simp; omega))))))
    obtain ⟨⟨p0, p1, p2, p3, p4⟩, f0, f1, f2, f3, f4⟩ := five HL1.out
    have lt2 := HL2.out.lt
    go_wp2_with fail
    refine (rCheckD_any _ _ _ _ _ _ _ _ a1 a2 b1 b2 c1 c2 (by omega)).mono ?_
    rintro e w2 ⟨rfl, hb2⟩
    have HL3 : Hid (Lies (w2) (w.heap.size + 1) 25 [.int .u32 (0), .int .u32 (0), .int .u32 (0), .slice (none) (0) (0), .int .i64 (0)]) := Lib.hid (by have := HL2.out; (repeat' (first | (with_reducible assumption) | (with_reducible exact Lies.fresh _ _ _) | (with_reducible apply Lies.fresh_at; (first | (with_reducible rfl) | (simp; done))) | (with_reducible refine Lies.drew ?_) | (with_reducible refine Lies.drewN ?_ _) | (with_reducible refine Lies.alloc ?_ _) | (with_reducible apply Lies.past; case hb => (with_reducible assumption)) | (with_reducible apply Lies.keeps; (case k => (with_reducible assumption)); (case ht => decide)) | (with_reducible apply Lies.store3) | (with_reducible apply Lies.other; case hp => (first | omega | (simp; done) | (simp; omega))))))
    obtain ⟨⟨r0, r1, r2, r3, r4⟩, g0, g1, g2, g3, g4⟩ := five HL3.out
    go_wp2
    refine bodyPost_ret (by simp [results, Try.results12, go_sem, r0, r1, r2, r3, r4]; try rfl) rfl ?_
    rw [HVV.out.1, HVV.out.2, HE.out]
    exact ⟨none, 0, rfl, .inl rfl, by simp, by omega, by (repeat' (first | (with_reducible exact Below.refl _ _) | (with_reducible assumption) | (with_reducible refine below_drewN ?_ _) | (with_reducible refine below_new ?_ _) | (with_reducible refine Below.alloc ?_ ?_ _) | (with_reducible refine Below.drew ?_) | (with_reducible refine Below.setCell ?_ ?_ _) | (with_reducible apply below_at; (case k => (with_reducible assumption)); (case hB => omega)) | (with_reducible apply below_on; (with_reducible assumption)) | (go_size; done) | (with_reducible apply size_of)))⟩
  · obtain ⟨G0, t4, tm, nm⟩ := decOk_good hok a1 b2
    obtain ⟨T, rfl⟩ : ∃ T : Nat, t = T := ⟨t.toNat, by omega⟩
    have E' : dcV x1 x2 x zs.length T = 0 := by simp [dcV, hok]
    have HOK := Lib.hid hok
    obtain ⟨_, q2, _, _, q3, q4⟩ := G0
    simp only at q2 q3 q4
    clear hok
    go_enter Try.func12, Try.ntmps12
    go_wp2_with fail
    refine (rCheckD_any _ _ _ _ _ _ _ _ a1 a2 b1 b2 c1 c2 (by omega)).mono ?_
    rintro e w1 ⟨rfl, hb⟩
    have HL1 : Hid (Lies (w1) (w.heap.size) 25 [.int .u32 (x1), .int .u32 (x2), .int .u32 (x), .slice (A) (zs.length) (c), .int .i64 (T)]) := Lib.hid (by (repeat' (first | (with_reducible assumption) | (with_reducible exact Lies.fresh _ _ _) | (with_reducible apply Lies.fresh_at; (first | (with_reducible rfl) | (simp; done))) | (with_reducible refine Lies.drew ?_) | (with_reducible refine Lies.drewN ?_ _) | (with_reducible refine Lies.alloc ?_ _) | (with_reducible apply Lies.past; case hb => (with_reducible assumption)) | (with_reducible apply Lies.keeps; (case k => (with_reducible assumption)); (case ht => decide)) | (with_reducible apply Lies.store3) | (with_reducible apply Lies.other; case hp => (first | omega | (simp; done) | (simp; omega))))))
    have HL2 : Hid (Lies (w1) (w.heap.size + 1) 25 [.int .u32 (0), .int .u32 (0), .int .u32 (0), .slice (none) (0) (0), .int .i64 (0)]) := Lib.hid (by (repeat' (first | (with_reducible assumption) | (with_reducible exact Lies.fresh _ _ _) | (with_reducible apply Lies.fresh_at; (first | (with_reducible rfl) | (simp; done))) | (with_reducible refine Lies.drew ?_) | (with_reducible refine Lies.drewN ?_ _) | (with_reducible refine Lies.alloc ?_ _) | (with_reducible apply Lies.past; case hb => (with_reducible assumption)) | (with_reducible apply Lies.keeps; (case k => (with_reducible assumption)); (case ht => decide)) | (with_reducible apply Lies.store3) | (with_reducible apply Lies.other; case hp => (first | omega | (simp; done) | (simp; omega))))))
    have HW1 : Hid (Below w.heap.size w w1) := Lib.hid (by (repeat' (first | (with_reducible exact Below.refl _ _) | (with_reducible assumption) | (with_reducible refine below_drewN ?_ _) | (with_reducible refine below_new ?_ _) | (with_reducible refine Below.alloc ?_ ?_ _) | (with_reducible refine Below.drew ?_) | (with_reducible refine Below.setCell ?_ ?_ _) | (with_reducible apply below_at; (case k => (with_reducible assumption)); (case hB => omega)) | (with_reducible apply below_on; (with_reducible assumption)) | (go_size; done) | (with_reducible apply size_of))))
    obtain ⟨⟨p0, p1, p2, p3, p4⟩, f0, f1, f2, f3, f4⟩ := five HL1.out
    have lt2 := HL2.out.lt
    clear hb
    cases hp : pOk p
    · have HE := Lib.hid (dgE_arg (x1 := x1) (x2 := x2) (x := x) (zs := zs) (t := T) (p := p) HOK.out hp)
      have HVV := Lib.hid (dgV_no (x1 := x1) (x2 := x2) (x := x) (zs := zs) (t := T) (p := p) (by rw [HE.out]; omega))
      obtain ⟨⟨r0, r1, r2, r3, r4⟩, g0, g1, g2, g3, g4⟩ := five HL2.out
      go_wp2_with (first | (go_at_call 30; refine (rProb_any _ _).mono ?_; rintro e w' ⟨rfl, rfl⟩))
      refine bodyPost_ret (by simp [results, Try.results12, go_sem, r0, r1, r2, r3, r4]; try rfl) rfl ?_
      rw [HVV.out.1, HVV.out.2, HE.out]
      exact ⟨none, 0, rfl, .inl rfl, by simp, by omega, by have := HW1.out; (repeat' (first | (with_reducible exact Below.refl _ _) | (with_reducible assumption) | (with_reducible refine below_drewN ?_ _) | (with_reducible refine below_new ?_ _) | (with_reducible refine Below.alloc ?_ ?_ _) | (with_reducible refine Below.drew ?_) | (with_reducible refine Below.setCell ?_ ?_ _) | (with_reducible apply below_at; (case k => (with_reducible assumption)); (case hB => omega)) | (with_reducible apply below_on; (with_reducible assumption)) | (go_size; done) | (with_reducible apply size_of)))⟩
    · have HE := Lib.hid (dgE_ok (x1 := x1) (x2 := x2) (x := x) (zs := zs) (t := T) (p := p) HOK.out hp)
      have HP := Lib.hid hp
      have hgl : (gt zs x1 x2 x T p).2.2.2 ≤ 1000004 := by
        have := (gnx_ok HZ.out (s := (x1, x2, x, T)) ((decOk_good HOK.out a1 b2).1) hp).2.2
        simp only [gnx] at this
        omega
      go_wp2_with (first | (go_at_call 30; refine (rProb_any _ _).mono ?_; rintro e w' ⟨rfl, rfl⟩))
      refine (rDid_any x1 x2 x A zs.length c T zs p _ a1 q2 b2 q3 q4 HP.out (HA.out.below HW1.out (Nat.le_refl _)) rfl (by omega) (by omega) HZ.out).mono ?_
      rintro e w3 ⟨rfl, hb3⟩
      have HL3 := Lib.hid (HL2.out.past hb3)
      have HM3 := Lib.hid (HL1.out.past hb3)
      have HW3 := Lib.hid (HW1.out.trans (hb3.mono HW1.out.size))
      have lt3 := HL3.out.lt
      have lm3 := HM3.out.lt
      obtain ⟨⟨p0, p1, p2, p3, p4⟩, f0, f1, f2, f3, f4⟩ := five HM3.out
      clear hb3
      by_cases hl : (gt zs x1 x2 x T p).2.2.2 ≤ 1000000
      · have HE0 : Hid (dgE x1 x2 x zs T p = 0) := Lib.hid (by rw [HE.out]; exact if_pos hl)
        have hvv := dgV_yes HE0.out
        rw [Int.toNat_natCast] at hvv
        have HVV := Lib.hid hvv
        clear HE hvv hp
        generalize gt zs x1 x2 x T p = G at *
        have hl' : (G.2.2.2 : Int) ≤ 1000000 := by omega
        go_wp2_with (at_builtin; refine app8z rfl _ _ rfl w.heap.size _ [] rfl (.inr ⟨rfl, _, rfl⟩) A zs.length c zs rfl rfl (HA.out.below (by have := HW3.out; (repeat' (first | (with_reducible exact Below.refl _ _) | (with_reducible assumption) | (with_reducible refine below_drewN ?_ _) | (with_reducible refine below_new ?_ _) | (with_reducible refine Below.alloc ?_ ?_ _) | (with_reducible refine Below.drew ?_) | (with_reducible refine Below.setCell ?_ ?_ _) | (with_reducible apply below_at; (case k => (with_reducible assumption)); (case hB => omega)) | (with_reducible apply below_on; (with_reducible assumption)) | (go_size; done) | (with_reducible apply size_of)))) (Nat.le_refl _)) zs.length (by simp) (by omega) (by simp; try omega) ?_; intro A3 c3 w4 ho4 hl4 hb4; have L4 : Lies (w4) (w.heap.size + 1) 25 [.int .u32 (0), .int .u32 (0), .int .u32 (0), .slice (none) (0) (0), .int .i64 (0)] := (by have := HL3.out; (repeat' (first | (with_reducible assumption) | (with_reducible exact Lies.fresh _ _ _) | (with_reducible apply Lies.fresh_at; (first | (with_reducible rfl) | (simp; done))) | (with_reducible refine Lies.drew ?_) | (with_reducible refine Lies.drewN ?_ _) | (with_reducible refine Lies.alloc ?_ _) | (with_reducible apply Lies.past; case hb => (with_reducible assumption)) | (with_reducible apply Lies.keeps; (case k => (with_reducible assumption)); (case ht => decide)) | (with_reducible apply Lies.store3) | (with_reducible apply Lies.other; case hp => (first | omega | (simp; done) | (simp; omega)))))); have L5 : Lies (w4) (w3.heap.size) 25 [.int .u32 (G.1), .int .u32 (G.2.1), .int .u32 (G.2.2.1), .slice (A) (zs.length) (c), .int .i64 (G.2.2.2)] := (by (repeat' (first | (with_reducible assumption) | (with_reducible exact Lies.fresh _ _ _) | (with_reducible apply Lies.fresh_at; (first | (with_reducible rfl) | (simp; done))) | (with_reducible refine Lies.drew ?_) | (with_reducible refine Lies.drewN ?_ _) | (with_reducible refine Lies.alloc ?_ _) | (with_reducible apply Lies.past; case hb => (with_reducible assumption)) | (with_reducible apply Lies.keeps; (case k => (with_reducible assumption)); (case ht => decide)) | (with_reducible apply Lies.store3) | (with_reducible apply Lies.other; case hp => (first | omega | (simp; done) | (simp; omega)))))); obtain ⟨⟨r0, r1, r2, r3, r4⟩, g0, g1, g2, g3, g4⟩ := five L4; obtain ⟨⟨s0, s1, s2, s3, s4⟩, k0, k1, k2, k3, k4⟩ := five L5; have lt4 := L4.lt; have lt5 := L5.lt)
        have ho : OwnZ w4 w.heap.size (.slice A3 zs.length c3) zs := by simpa using ho4
        have HC3 : Hid (zs.length ≤ c3 ∧ c3 ≤ 9223372036854775807) := Lib.hid ⟨by
          obtain ⟨A5, c5, e5, _, h5⟩ := ho.val
          injection e5 with _ _ e6
          rw [e6]; exact h5, ownZ_cap ho⟩
        have HH4 := Lib.hid (has_off ho.has L5 3 (.slice A3 zs.length c3))
        have K4 := L4.other (p := ⟨w3.heap.size, 3, none⟩) (by simp; omega) (.slice A3 zs.length c3)
        have HK4 := Lib.hid K4
        have HW4 : Hid (Below w.heap.size w w4) := Lib.hid (by have := HW3.out; (repeat' (first | (with_reducible exact Below.refl _ _) | (with_reducible assumption) | (with_reducible refine below_drewN ?_ _) | (with_reducible refine below_new ?_ _) | (with_reducible refine Below.alloc ?_ ?_ _) | (with_reducible refine Below.drew ?_) | (with_reducible refine Below.setCell ?_ ?_ _) | (with_reducible apply below_at; (case k => (with_reducible assumption)); (case hB => omega)) | (with_reducible apply below_on; (with_reducible assumption)) | (go_size; done) | (with_reducible apply size_of))))
        have KF := five (store5 K4 (a' := .int .u32 G.1) (b' := .int .u32 G.2.1) (c' := .int .u32 G.2.2.1) (d' := .slice A3 zs.length c3) (e' := .int .i64 G.2.2.2))
        obtain ⟨⟨k0, k1, k2, k3, k4⟩, _⟩ := KF
        clear ho ho4 hb4 hl4 r0 r1 r2 r3 r4
        refine bodyPost_ret (by simp [results, Try.results12, go_sem, k0, k1, k2, k3, k4]; try rfl) rfl ?_
        rw [HVV.out.1, HVV.out.2, HE0.out]
        exact ⟨A3, c3, rfl, has_off5 HH4.out HK4.out, HC3.out.1, HC3.out.2, by have := HW4.out; (repeat' (first | (with_reducible exact Below.refl _ _) | (with_reducible assumption) | (with_reducible refine below_drewN ?_ _) | (with_reducible refine below_new ?_ _) | (with_reducible refine Below.alloc ?_ ?_ _) | (with_reducible refine Below.drew ?_) | (with_reducible refine Below.setCell ?_ ?_ _) | (with_reducible apply below_at; (case k => (with_reducible assumption)); (case hB => omega)) | (with_reducible apply below_on; (with_reducible assumption)) | (go_size; done) | (with_reducible apply size_of)))⟩
      · have HE4 : Hid (dgE x1 x2 x zs T p = 4) := Lib.hid (by rw [HE.out]; exact if_neg hl)
        have HVV := Lib.hid (dgV_no (x1 := x1) (x2 := x2) (x := x) (zs := zs) (t := T) (p := p) (by rw [HE4.out]; omega))
        have hl' : (1000000 : Int) < (gt zs x1 x2 x T p).2.2.2 := by omega
        generalize gt zs x1 x2 x T p = G at *
        obtain ⟨⟨r0, r1, r2, r3, r4⟩, g0, g1, g2, g3, g4⟩ := five HL3.out
        go_wp2
        have KF := five ((store5 HL3.out (a' := .int .u32 0) (b' := .int .u32 0) (c' := .int .u32 0) (d' := .slice none 0 0) (e' := .int .i64 0)).alloc (.cells #[.int .u32 G.1, .int .u32 G.2.1, .int .u32 G.2.2.1, .slice A zs.length c, .int .i64 G.2.2.2] 25))
        obtain ⟨⟨k0, k1, k2, k3, k4⟩, _⟩ := KF
        refine bodyPost_ret (by simp [results, Try.results12, go_sem, k0, k1, k2, k3, k4]; try rfl) rfl ?_
        rw [HVV.out.1, HVV.out.2, HE4.out]
        exact ⟨none, 0, rfl, .inl rfl, by simp, by omega, by have := HW3.out; (repeat' (first | (with_reducible exact Below.refl _ _) | (with_reducible assumption) | (with_reducible refine below_drewN ?_ _) | (with_reducible refine below_new ?_ _) | (with_reducible refine Below.alloc ?_ ?_ _) | (with_reducible refine Below.drew ?_) | (with_reducible refine Below.setCell ?_ ?_ _) | (with_reducible apply below_at; (case k => (with_reducible assumption)); (case hB => omega)) | (with_reducible apply below_on; (with_reducible assumption)) | (go_size; done) | (with_reducible apply size_of)))⟩
set_option maxHeartbeats 1000000 in
theorem SameD_yes (x y v t : Int) (A B : Option Addr) (n c d : Nat) (zs : List Int) (w : World) (hA : Has .u8 w A zs) (hB : Has .u8 w B zs) (hn : zs.length = n) (hm : n ≤ 9223372036854775807) :
    Calls Try.prog 15 #[.agg #[.int .u32 (x), .int .u32 (y), .int .u32 (v), .slice (A) (n) (c), .int .i64 (t)], .agg #[.int .u32 (x), .int .u32 (y), .int .u32 (v), .slice (B) (n) (d), .int .i64 (t)]] w fun e w' => e = .returned (.bool true) ∧ Below w.heap.size w w' := by
  have W2 : Below w.heap.size w ((w.alloc (.cells #[.int .u32 x, .int .u32 y, .int .u32 v, .slice A n c, .int .i64 t] 25)).alloc (.cells #[.int .u32 x, .int .u32 y, .int .u32 v, .slice B n d, .int .i64 t] 25)) := by (repeat' (first | (with_reducible exact Below.refl _ _) | (with_reducible assumption) | (with_reducible refine below_drewN ?_ _) | (with_reducible refine below_new ?_ _) | (with_reducible refine Below.alloc ?_ ?_ _) | (with_reducible refine Below.drew ?_) | (with_reducible refine Below.setCell ?_ ?_ _) | (with_reducible apply below_at; (case k => (with_reducible assumption)); (case hB => omega)) | (with_reducible apply below_on; (with_reducible assumption)) | (go_size; done) | (with_reducible apply size_of)))
  have cv1 := conv8 (n := n) (c := c) (hA.below W2 (Nat.le_refl _)) hn
  have cv2 := conv8 (n := n) (c := d) (hB.below W2 (Nat.le_refl _)) hn
  have h1 : (x == x) = true := by simp
  have h2 : (y == y) = true := by simp
  have h3 : (v == v) = true := by simp
  have h4 : (t == t) = true := by simp
  generalize bstr zs = s at *
  clear hA hB W2 hn
  go_enter Try.func15, Try.ntmps15
  go_wp2
  go_ret
  exact ⟨by simp, by (repeat' (first | (with_reducible exact Below.refl _ _) | (with_reducible assumption) | (with_reducible refine below_drewN ?_ _) | (with_reducible refine below_new ?_ _) | (with_reducible refine Below.alloc ?_ ?_ _) | (with_reducible refine Below.drew ?_) | (with_reducible refine Below.setCell ?_ ?_ _) | (with_reducible apply below_at; (case k => (with_reducible assumption)); (case hB => omega)) | (with_reducible apply below_on; (with_reducible assumption)) | (go_size; done) | (with_reducible apply size_of)))⟩
end Go.Proofs.Ytckbiielahgliaa.decW
