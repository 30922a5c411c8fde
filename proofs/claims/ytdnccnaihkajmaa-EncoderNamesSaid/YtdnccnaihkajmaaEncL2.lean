/- EncoderPuts, EncoderRange, by walks. -/
import Derived.Test.YtdnccnaihkajmaaEncL1
namespace Go.Proofs.Ytdnccnaihkajmaa.encL
open Go.RowKit Go.Proofs.Ytdnccnaihkajmaa.base Go.Proofs.Ytdnccnaihkajmaa.encP Go.Proofs.Ytdnccnaihkajmaa.encW
set_option linter.unusedVariables false
set_option linter.unusedSimpArgs false

set_option maxHeartbeats 1000000 in
theorem rSplit_any (x1 x2 p : Int) (w : World) (a1 : 0 ≤ x1) (a2 : x1 ≤ 4294967295) (b1 : 0 ≤ x2) (b2 : x2 ≤ 4294967295) :
    Calls Try.prog 10 #[.int .u32 x1, .int .u32 x2, .int .i64 p] w fun e w' => e = .returned (.tuple #[.int .u32 (spV x1 x2 p), .int .i64 (spE x1 x2 p)]) ∧ w = w' := by
  by_cases h : x1 < x2
  · cases hp : pOk p
    · have HE : Hid (spV x1 x2 p = 0 ∧ spE x1 x2 p = 2) := Lib.hid (by simp [spV, spE, spOk, hp])
      go_enter Try.func10, Try.ntmps10
      go_wp2_with (go_at_call 23; refine (rProb_any _ _).mono ?_; rintro e w' ⟨rfl, rfl⟩)
      go_ret2
      exact ⟨ret2 HE.out.1.symm HE.out.2.symm, rfl⟩
    · have HE : Hid (spV x1 x2 p = mid x1 x2 p ∧ spE x1 x2 p = 0) := Lib.hid (by simp [spV, spE, spOk, hp, h])
      obtain ⟨p1, p2⟩ := (pOk_iff p).1 hp
      go_enter Try.func10, Try.ntmps10
      go_wp2_with (first | (go_at_call 23; refine (rProb_any _ _).mono ?_; rintro e w' ⟨rfl, rfl⟩) | (go_at_call 27; refine (rMiddle_any _ _ _ _ a1 b2 h p1 p2).mono ?_; rintro e w' ⟨rfl, rfl⟩))
      go_ret2
      exact ⟨ret2 HE.out.1.symm HE.out.2.symm, rfl⟩
  · have HE : Hid (spV x1 x2 p = 0 ∧ spE x1 x2 p = 2) := Lib.hid (by simp [spV, spE, spOk, h])
    go_enter Try.func10, Try.ntmps10
    go_wp2
    go_ret2
    exact ⟨ret2 HE.out.1.symm HE.out.2.symm, rfl⟩
theorem Put_ok (x1 x2 p : Int) (b : Bool) (A : Option Addr) (n c : Nat) (zs : List Int) (w : World) (a1 : 0 ≤ x1) (b2 : x2 ≤ 4294967295) (hA : Has .u8 w A zs) (hn : zs.length = n) (hc : n ≤ c) (hok : encOk x1 x2 n = true) (hp : pOk p = true) (hl : n ≤ 19996) :
    Calls Try.prog 11 #[.agg #[.int .u32 (x1), .int .u32 (x2), .slice (A) (n) (c)], .int .i64 p, .bool b] w fun e w' => ∃ A' c', e = .returned (.tuple #[.agg #[.int .u32 ((pu x1 x2 p b).1), .int .u32 ((pu x1 x2 p b).2.1), .slice (A') (n + (pu x1 x2 p b).2.2.length) (c')], .int .i64 0]) ∧ Has .u8 w' A' (zs ++ (pu x1 x2 p b).2.2) ∧ n + (pu x1 x2 p b).2.2.length ≤ c' ∧ Below w.heap.size w w' := by
  obtain ⟨q1, q2, q3⟩ := (encOk_iff _ _ _).1 hok
  have hk := (pu_ok (b := b) a1 q2 b2 hp).2.2.2.2.1
  subst hn
  have he : puE x1 x2 zs.length p b = 0 := by rw [puE_ok hok hp, if_pos (by omega)]
  have hv := puV_yes he
  refine (Put_any x1 x2 p b A zs.length c zs w a1 (by omega) (by omega) b2 hA rfl hc (by omega)).mono ?_
  rintro e w' ⟨A', c', rfl, h1, h2, h3⟩
  rw [hv] at h1 h2
  rw [hv, he]
  refine ⟨A', c', ?_, h1, by simpa using h2, h3⟩
  simp
theorem given_none : ∀ (f : Nat) (a b : Int), (given f a b).2.2.length = 0 → given f a b = (a, b, [])
  | 0, a, b, _ => rfl
  | f + 1, a, b, h => by
    by_cases e : a / 16777216 = b / 16777216
    · rw [given, if_pos e] at h; simp at h
    · rw [given, if_neg e]
theorem pu_none {x1 x2 p : Int} {b : Bool} (h : (pu x1 x2 p b).2.2.length = 0) : (pu x1 x2 p b).1 = (nx x1 x2 p b).1 ∧ (pu x1 x2 p b).2.1 = (nx x1 x2 p b).2 := by
  have := given_none 4 _ _ h
  unfold pu; rw [this]; exact ⟨rfl, rfl⟩
set_option maxRecDepth 100000 in
set_option maxHeartbeats 4000000 in
theorem range_in (x1 x2 : Int) (A : Option Addr) (n c : Nat) (zs : List Int) (p : Int) (w : World) (a1 : 0 ≤ x1) (b2 : x2 ≤ 4294967295) (hA : Has .u8 w A zs) (hn : zs.length = n) (hc : n ≤ c) (hok : encOk x1 x2 n = true) (hp : pOk p = true) (hl : n ≤ 100) :
    Calls Try.prog 8 #[.agg #[.int .u32 (x1), .int .u32 (x2), .slice (A) (n) (c)], .int .i64 p] w fun e w' => e = .returned (.bool true) ∧ Below w.heap.size w w' := by
  have HA := Lib.hid hA
  have HN := Lib.hid hn
  have HOK := Lib.hid hok
  have HP := Lib.hid hp
  obtain ⟨q1, q2, q3⟩ := (encOk_iff _ _ _).1 hok
  have E' : ckV x1 x2 n = 0 := by simp [ckV, hok]
  obtain ⟨k1, k2, k3, k4, k5, k6⟩ := pu_ok (b := true) a1 q2 b2 hp
  obtain ⟨j1, j2, j3, j4, j5, j6⟩ := pu_ok (b := false) a1 q2 b2 hp
  have HR1 : Hid (ckV (pu x1 x2 p true).1 (pu x1 x2 p true).2.1 (n + (pu x1 x2 p true).2.2.length) = 0) := Lib.hid (by rw [ckV, if_pos ((encOk_iff _ _ _).2 ⟨k4, k2, by omega⟩)])
  have HR0 : Hid (ckV (pu x1 x2 p false).1 (pu x1 x2 p false).2.1 (n + (pu x1 x2 p false).2.2.length) = 0) := Lib.hid (by rw [ckV, if_pos ((encOk_iff _ _ _).2 ⟨j4, j2, by omega⟩)])
  have HZ1 := Lib.hid (pu_none (x1 := x1) (x2 := x2) (p := p) (b := true))
  have HZ0 := Lib.hid (pu_none (x1 := x1) (x2 := x2) (p := p) (b := false))
  obtain ⟨m1, m2⟩ := mid_bd q2 ((pOk_iff p).1 hp).1 ((pOk_iff p).1 hp).2
  clear hA hn hok q1 k4 k6 j4 j6
  go_enter Try.func8, Try.ntmps8
  go_wp2_with (first | (go_at_call 22; refine (alive _).mono ?_; rintro e w1 ⟨rfl, hb1⟩; have L1 : Lies (w1) (w.heap.size) 25 [.int .u32 (x1), .int .u32 (x2), .slice (A) (n) (c)] := (by (repeat' (first | (with_reducible assumption) | (with_reducible exact Lies.fresh _ _ _) | (with_reducible apply Lies.fresh_at; (first | (with_reducible rfl) | (simp; done))) | (with_reducible refine Lies.drew ?_) | (with_reducible refine Lies.drewN ?_ _) | (with_reducible refine Lies.alloc ?_ _) | (with_reducible apply Lies.past; case hb => (with_reducible assumption)) | (with_reducible apply Lies.keeps; (case k => (with_reducible assumption)); (case ht => decide)) | (with_reducible apply Lies.store3) | (with_reducible apply Lies.other; case hp => (first | omega | (simp; done) | (simp; omega)))))); obtain ⟨p0, p1, p2, f0, f1, f2⟩ := L1.three; have HL1 := Lib.hid L1; have HW1 : Hid (Below w.heap.size w w1) := Lib.hid (by (repeat' (first | (with_reducible exact Below.refl _ _) | (with_reducible assumption) | (with_reducible refine below_drewN ?_ _) | (with_reducible refine below_new ?_ _) | (with_reducible refine Below.alloc ?_ ?_ _) | (with_reducible refine Below.drew ?_) | (with_reducible refine Below.setCell ?_ ?_ _) | (with_reducible apply below_at; (case k => (with_reducible assumption)); (case hB => omega)) | (with_reducible apply below_on; (with_reducible assumption)) | (go_size; done) | (with_reducible apply size_of)))); clear L1 hb1) | (go_at_call 19; refine (rCheck_any _ _ _ _ _ _ a1 (by omega) (by omega) b2 (by omega)).mono ?_; rintro e w2 ⟨rfl, hb2⟩; have L2 := HL1.out.past hb2; obtain ⟨p0, p1, p2, f0, f1, f2⟩ := L2.three; have HL2 := Lib.hid L2; have HW2 := Lib.hid (HW1.out.trans (hb2.mono HW1.out.size)); clear L2 hb2) | (go_at_call 23; refine (rProb_any _ _).mono ?_; rintro e w' ⟨rfl, rfl⟩))
  refine (Put_ok x1 x2 p true A n c zs _ a1 b2 (HA.out.below HW2.out (Nat.le_refl _)) HN.out hc HOK.out HP.out (by omega)).mono ?_
  rintro e w3 ⟨A3, c3, rfl, hh3, hc3, hb3⟩
  have L3 := HL2.out.past hb3
  obtain ⟨p0, p1, p2, f0, f1, f2⟩ := L3.three
  have HL3 := Lib.hid L3
  have HW3 := Lib.hid (HW2.out.trans (hb3.mono HW2.out.size))
  have hlt3 := L3.lt
  clear L3 hb3 hh3 HL1 HL2 HW1 HW2
  go_wp2_with fail
  refine (Put_ok x1 x2 p false A n c zs _ a1 b2 (HA.out.below (by have := HW3.out; (repeat' (first | (with_reducible exact Below.refl _ _) | (with_reducible assumption) | (with_reducible refine below_drewN ?_ _) | (with_reducible refine below_new ?_ _) | (with_reducible refine Below.alloc ?_ ?_ _) | (with_reducible refine Below.drew ?_) | (with_reducible refine Below.setCell ?_ ?_ _) | (with_reducible apply below_at; (case k => (with_reducible assumption)); (case hB => omega)) | (with_reducible apply below_on; (with_reducible assumption)) | (go_size; done) | (with_reducible apply size_of)))) (Nat.le_refl _)) HN.out hc HOK.out HP.out (by omega)).mono ?_
  rintro e w4 ⟨A4, c4, rfl, hh4, hc4, hb4⟩
  have L4 : Lies (w4) (w.heap.size) 25 [.int .u32 (x1), .int .u32 (x2), .slice (A) (n) (c)] := by have := HL3.out; (repeat' (first | (with_reducible assumption) | (with_reducible exact Lies.fresh _ _ _) | (with_reducible apply Lies.fresh_at; (first | (with_reducible rfl) | (simp; done))) | (with_reducible refine Lies.drew ?_) | (with_reducible refine Lies.drewN ?_ _) | (with_reducible refine Lies.alloc ?_ _) | (with_reducible apply Lies.past; case hb => (with_reducible assumption)) | (with_reducible apply Lies.keeps; (case k => (with_reducible assumption)); (case ht => decide)) | (with_reducible apply Lies.store3) | (with_reducible apply Lies.other; case hp => (first | omega | (simp; done) | (simp; omega)))))
  have M4 : Lies (w4) (w3.heap.size) 25 [.int .u32 ((pu x1 x2 p true).1), .int .u32 ((pu x1 x2 p true).2.1), .slice (A3) (n + (pu x1 x2 p true).2.2.length) (c3)] := by (repeat' (first | (with_reducible assumption) | (with_reducible exact Lies.fresh _ _ _) | (with_reducible apply Lies.fresh_at; (first | (with_reducible rfl) | (simp; done))) | (with_reducible refine Lies.drew ?_) | (with_reducible refine Lies.drewN ?_ _) | (with_reducible refine Lies.alloc ?_ _) | (with_reducible apply Lies.past; case hb => (with_reducible assumption)) | (with_reducible apply Lies.keeps; (case k => (with_reducible assumption)); (case ht => decide)) | (with_reducible apply Lies.store3) | (with_reducible apply Lies.other; case hp => (first | omega | (simp; done) | (simp; omega)))))
  have HW4 : Hid (Below w.heap.size w w4) := Lib.hid (by have := HW3.out; (repeat' (first | (with_reducible exact Below.refl _ _) | (with_reducible assumption) | (with_reducible refine below_drewN ?_ _) | (with_reducible refine below_new ?_ _) | (with_reducible refine Below.alloc ?_ ?_ _) | (with_reducible refine Below.drew ?_) | (with_reducible refine Below.setCell ?_ ?_ _) | (with_reducible apply below_at; (case k => (with_reducible assumption)); (case hB => omega)) | (with_reducible apply below_on; (with_reducible assumption)) | (go_size; done) | (with_reducible apply size_of))))
  obtain ⟨p0, p1, p2, f0, f1, f2⟩ := L4.three
  obtain ⟨r0, r1, r2, g0, g1, g2⟩ := M4.three
  have HL4 := Lib.hid L4
  have HM4 := Lib.hid M4
  have hlt4 := M4.lt
  clear L4 M4 hb4 hh4 HW3 HL3
  generalize pu x1 x2 p true = s1 at *
  generalize pu x1 x2 p false = s0 at *
  obtain ⟨y1, y2, o1⟩ := s1
  obtain ⟨v1, v2, o0⟩ := s0
  simp only at *
  have R1 := HR1.out
  have R0 := HR0.out
  have X1 : Hid (o1.length = 0 → y1 = x1 ∧ y2 = mid x1 x2 p) := Lib.hid (fun h => HZ1.out h)
  have X0 : Hid (o0.length = 0 → v1 = mid x1 x2 p + 1 ∧ v2 = x2) := Lib.hid (fun h => HZ0.out h)
  clear HZ1 HZ0 HR1 HR0
  generalize o1.length = l1 at *
  generalize o0.length = l0 at *
  by_cases z1 : l1 = 0 <;> by_cases z0 : l0 = 0
  · obtain ⟨rfl, rfl⟩ := X1.out z1
    obtain ⟨rfl, rfl⟩ := X0.out z0
    subst z1 z0
    simp only [Nat.add_zero] at R1 R0
    have t1 : ((n : Int) == n) = true := by simp
    have t2 : (y1 == y1) = true := by simp
    have t3 : (v2 == v2) = true := by simp
    have t4 : (y1 != y1) = false := by simp
    have t5 : (v2 != v2) = false := by simp
    have t6 : (mid y1 v2 p + 1 == mid y1 v2 p + 1) = true := by simp
    (go_wp2_with fail); (refine (rCheck_any _ _ _ _ _ _ (by omega) (by omega) (by omega) (by omega) (by omega)).mono ?_); (rintro e w5 ⟨rfl, hb5⟩); (have L5 : Hid (Lies w5 w.heap.size 25 _) := Lib.hid (Lies.past (HL4.out.alloc _) hb5)); (have M5 := Lib.hid (Lies.past (HM4.out.alloc _) hb5)); (have N5 := Lib.hid (Lies.past (Lies.fresh w4 25 _) hb5)); (have HW5 := Lib.hid ((HW4.out.alloc HW4.out.size _).trans (hb5.mono (by have := HW4.out.size; simp; omega)))); (obtain ⟨p0, p1, p2, f0, f1, f2⟩ := N5.out.three); (have zl := N5.out.lt); (clear hb5); (go_wp2_with fail); (refine (rCheck_any _ _ _ _ _ _ (by omega) (by omega) (by omega) (by omega) (by omega)).mono ?_); (rintro e w6 ⟨rfl, hb6⟩); (obtain ⟨p0, p1, p2, f0, f1, f2⟩ := (L5.out.past hb6).three); (obtain ⟨r0, r1, r2, g0, g1, g2⟩ := (M5.out.past hb6).three); (obtain ⟨u0, u1, u2, g0, g1, g2⟩ := (N5.out.past hb6).three); (go_wp2_with fail); (all_goals (go_ret; exact ⟨rfl, by have := HW5.out; (repeat' (first | (with_reducible exact Below.refl _ _) | (with_reducible assumption) | (with_reducible refine below_drewN ?_ _) | (with_reducible refine below_new ?_ _) | (with_reducible refine Below.alloc ?_ ?_ _) | (with_reducible refine Below.drew ?_) | (with_reducible refine Below.setCell ?_ ?_ _) | (with_reducible apply below_at; (case k => (with_reducible assumption)); (case hB => omega)) | (with_reducible apply below_on; (with_reducible assumption)) | (go_size; done) | (with_reducible apply size_of)))⟩))
  · obtain ⟨rfl, rfl⟩ := X1.out z1
    subst z1
    simp only [Nat.add_zero] at R1
    have t1 : ((n : Int) == n) = true := by simp
    have t4 : (y1 != y1) = false := by simp
    have t2 : ((n : Int) + l0 == n) = false := by simp; omega
    (go_wp2_with fail); (refine (rCheck_any _ _ _ _ _ _ (by omega) (by omega) (by omega) (by omega) (by omega)).mono ?_); (rintro e w5 ⟨rfl, hb5⟩); (have L5 : Hid (Lies w5 w.heap.size 25 _) := Lib.hid (Lies.past (HL4.out.alloc _) hb5)); (have M5 := Lib.hid (Lies.past (HM4.out.alloc _) hb5)); (have N5 := Lib.hid (Lies.past (Lies.fresh w4 25 _) hb5)); (have HW5 := Lib.hid ((HW4.out.alloc HW4.out.size _).trans (hb5.mono (by have := HW4.out.size; simp; omega)))); (obtain ⟨p0, p1, p2, f0, f1, f2⟩ := N5.out.three); (have zl := N5.out.lt); (clear hb5); (go_wp2_with fail); (refine (rCheck_any _ _ _ _ _ _ (by omega) (by omega) (by omega) (by omega) (by omega)).mono ?_); (rintro e w6 ⟨rfl, hb6⟩); (obtain ⟨p0, p1, p2, f0, f1, f2⟩ := (L5.out.past hb6).three); (obtain ⟨r0, r1, r2, g0, g1, g2⟩ := (M5.out.past hb6).three); (obtain ⟨u0, u1, u2, g0, g1, g2⟩ := (N5.out.past hb6).three); (go_wp2_with fail); (all_goals (go_ret; exact ⟨rfl, by have := HW5.out; (repeat' (first | (with_reducible exact Below.refl _ _) | (with_reducible assumption) | (with_reducible refine below_drewN ?_ _) | (with_reducible refine below_new ?_ _) | (with_reducible refine Below.alloc ?_ ?_ _) | (with_reducible refine Below.drew ?_) | (with_reducible refine Below.setCell ?_ ?_ _) | (with_reducible apply below_at; (case k => (with_reducible assumption)); (case hB => omega)) | (with_reducible apply below_on; (with_reducible assumption)) | (go_size; done) | (with_reducible apply size_of)))⟩))
  · obtain ⟨rfl, rfl⟩ := X0.out z0
    subst z0
    simp only [Nat.add_zero] at R0
    have t1 : ((n : Int) == n) = true := by simp
    have t5 : (v2 != v2) = false := by simp
    have t2 : ((n : Int) + l1 == n) = false := by simp; omega
    (go_wp2_with fail); (refine (rCheck_any _ _ _ _ _ _ (by omega) (by omega) (by omega) (by omega) (by omega)).mono ?_); (rintro e w5 ⟨rfl, hb5⟩); (have L5 : Hid (Lies w5 w.heap.size 25 _) := Lib.hid (Lies.past (HL4.out.alloc _) hb5)); (have M5 := Lib.hid (Lies.past (HM4.out.alloc _) hb5)); (have N5 := Lib.hid (Lies.past (Lies.fresh w4 25 _) hb5)); (have HW5 := Lib.hid ((HW4.out.alloc HW4.out.size _).trans (hb5.mono (by have := HW4.out.size; simp; omega)))); (obtain ⟨p0, p1, p2, f0, f1, f2⟩ := N5.out.three); (have zl := N5.out.lt); (clear hb5); (go_wp2_with fail); (refine (rCheck_any _ _ _ _ _ _ (by omega) (by omega) (by omega) (by omega) (by omega)).mono ?_); (rintro e w6 ⟨rfl, hb6⟩); (obtain ⟨p0, p1, p2, f0, f1, f2⟩ := (L5.out.past hb6).three); (obtain ⟨r0, r1, r2, g0, g1, g2⟩ := (M5.out.past hb6).three); (obtain ⟨u0, u1, u2, g0, g1, g2⟩ := (N5.out.past hb6).three); (go_wp2_with fail); (all_goals (go_ret; exact ⟨rfl, by have := HW5.out; (repeat' (first | (with_reducible exact Below.refl _ _) | (with_reducible assumption) | (with_reducible refine below_drewN ?_ _) | (with_reducible refine below_new ?_ _) | (with_reducible refine Below.alloc ?_ ?_ _) | (with_reducible refine Below.drew ?_) | (with_reducible refine Below.setCell ?_ ?_ _) | (with_reducible apply below_at; (case k => (with_reducible assumption)); (case hB => omega)) | (with_reducible apply below_on; (with_reducible assumption)) | (go_size; done) | (with_reducible apply size_of)))⟩))
  · have t2 : ((n : Int) + l1 == n) = false := by simp; omega
    have t3 : ((n : Int) + l0 == n) = false := by simp; omega
    (go_wp2_with fail); (refine (rCheck_any _ _ _ _ _ _ (by omega) (by omega) (by omega) (by omega) (by omega)).mono ?_); (rintro e w5 ⟨rfl, hb5⟩); (have L5 : Hid (Lies w5 w.heap.size 25 _) := Lib.hid (Lies.past (HL4.out.alloc _) hb5)); (have M5 := Lib.hid (Lies.past (HM4.out.alloc _) hb5)); (have N5 := Lib.hid (Lies.past (Lies.fresh w4 25 _) hb5)); (have HW5 := Lib.hid ((HW4.out.alloc HW4.out.size _).trans (hb5.mono (by have := HW4.out.size; simp; omega)))); (obtain ⟨p0, p1, p2, f0, f1, f2⟩ := N5.out.three); (have zl := N5.out.lt); (clear hb5); (go_wp2_with fail); (refine (rCheck_any _ _ _ _ _ _ (by omega) (by omega) (by omega) (by omega) (by omega)).mono ?_); (rintro e w6 ⟨rfl, hb6⟩); (obtain ⟨p0, p1, p2, f0, f1, f2⟩ := (L5.out.past hb6).three); (obtain ⟨r0, r1, r2, g0, g1, g2⟩ := (M5.out.past hb6).three); (obtain ⟨u0, u1, u2, g0, g1, g2⟩ := (N5.out.past hb6).three); (go_wp2_with fail); (all_goals (go_ret; exact ⟨rfl, by have := HW5.out; (repeat' (first | (with_reducible exact Below.refl _ _) | (with_reducible assumption) | (with_reducible refine below_drewN ?_ _) | (with_reducible refine below_new ?_ _) | (with_reducible refine Below.alloc ?_ ?_ _) | (with_reducible refine Below.drew ?_) | (with_reducible refine Below.setCell ?_ ?_ _) | (with_reducible apply below_at; (case k => (with_reducible assumption)); (case hB => omega)) | (with_reducible apply below_on; (with_reducible assumption)) | (go_size; done) | (with_reducible apply size_of)))⟩))
set_option maxRecDepth 100000 in
set_option maxHeartbeats 2000000 in
theorem range (x1 x2 : Int) (A : Option Addr) (n c : Nat) (z : List Int) (p : Int) (w : World) (hr : EncIn w x1 x2 A n c z) (_ : -9223372036854775808 ≤ p) (_ : p ≤ 9223372036854775807) :
    Calls Try.prog 8 #[.agg #[.int .u32 (x1), .int .u32 (x2), .slice (A) (n) (c)], .int .i64 p] w fun e w' => e = .returned (.bool true) ∧ Below w.heap.size w w' := by
  obtain ⟨a1, a2, b1, b2, row⟩ := hr
  obtain ⟨h1, h2, h3, _⟩ := has_of_row row
  have hc : n ≤ c := by
    rcases row with ⟨_, rfl, rfl, _⟩ | ⟨x, _, hl, _⟩
    · exact Nat.le_refl _
    · exact hl
  unfold maxLen at h3
  by_cases g1 : n ≤ 100
  · cases g2 : encOk x1 x2 n
    · have E' : ckV x1 x2 n = 8 := by simp [ckV, g2]
      clear g2
      go_enter Try.func8, Try.ntmps8
      go_wp2_with (first | (go_at_call 22; refine (alive _).mono ?_; rintro e w1 ⟨rfl, hb1⟩; have L1 : Lies (w1) (w.heap.size) 25 [.int .u32 (x1), .int .u32 (x2), .slice (A) (n) (c)] := (by (repeat' (first | (with_reducible assumption) | (with_reducible exact Lies.fresh _ _ _) | (with_reducible apply Lies.fresh_at; (first | (with_reducible rfl) | (simp; done))) | (with_reducible refine Lies.drew ?_) | (with_reducible refine Lies.drewN ?_ _) | (with_reducible refine Lies.alloc ?_ _) | (with_reducible apply Lies.past; case hb => (with_reducible assumption)) | (with_reducible apply Lies.keeps; (case k => (with_reducible assumption)); (case ht => decide)) | (with_reducible apply Lies.store3) | (with_reducible apply Lies.other; case hp => (first | omega | (simp; done) | (simp; omega)))))); obtain ⟨p0, p1, p2, f0, f1, f2⟩ := L1.three; have lt1 := L1.lt; clear L1) | (go_at_call 19; refine (rCheck_any _ _ _ _ _ _ a1 a2 b1 b2 (by omega)).mono ?_; rintro e w2 ⟨rfl, hb2⟩))
      go_ret
      exact ⟨rfl, by (repeat' (first | (with_reducible exact Below.refl _ _) | (with_reducible assumption) | (with_reducible refine below_drewN ?_ _) | (with_reducible refine below_new ?_ _) | (with_reducible refine Below.alloc ?_ ?_ _) | (with_reducible refine Below.drew ?_) | (with_reducible refine Below.setCell ?_ ?_ _) | (with_reducible apply below_at; (case k => (with_reducible assumption)); (case hB => omega)) | (with_reducible apply below_on; (with_reducible assumption)) | (go_size; done) | (with_reducible apply size_of)))⟩
    · cases g3 : pOk p
      · have E' : ckV x1 x2 n = 0 := by simp [ckV, g2]
        clear g2
        go_enter Try.func8, Try.ntmps8
        go_wp2_with (first | (go_at_call 22; refine (alive _).mono ?_; rintro e w1 ⟨rfl, hb1⟩; have L1 : Lies (w1) (w.heap.size) 25 [.int .u32 (x1), .int .u32 (x2), .slice (A) (n) (c)] := (by (repeat' (first | (with_reducible assumption) | (with_reducible exact Lies.fresh _ _ _) | (with_reducible apply Lies.fresh_at; (first | (with_reducible rfl) | (simp; done))) | (with_reducible refine Lies.drew ?_) | (with_reducible refine Lies.drewN ?_ _) | (with_reducible refine Lies.alloc ?_ _) | (with_reducible apply Lies.past; case hb => (with_reducible assumption)) | (with_reducible apply Lies.keeps; (case k => (with_reducible assumption)); (case ht => decide)) | (with_reducible apply Lies.store3) | (with_reducible apply Lies.other; case hp => (first | omega | (simp; done) | (simp; omega)))))); obtain ⟨p0, p1, p2, f0, f1, f2⟩ := L1.three; have lt1 := L1.lt; clear L1) | (go_at_call 19; refine (rCheck_any _ _ _ _ _ _ a1 a2 b1 b2 (by omega)).mono ?_; rintro e w2 ⟨rfl, hb2⟩) | (go_at_call 23; refine (rProb_any _ _).mono ?_; rintro e w' ⟨rfl, rfl⟩))
        go_ret
        exact ⟨rfl, by (repeat' (first | (with_reducible exact Below.refl _ _) | (with_reducible assumption) | (with_reducible refine below_drewN ?_ _) | (with_reducible refine below_new ?_ _) | (with_reducible refine Below.alloc ?_ ?_ _) | (with_reducible refine Below.drew ?_) | (with_reducible refine Below.setCell ?_ ?_ _) | (with_reducible apply below_at; (case k => (with_reducible assumption)); (case hB => omega)) | (with_reducible apply below_on; (with_reducible assumption)) | (go_size; done) | (with_reducible apply size_of)))⟩
      · exact range_in x1 x2 A n c _ p w a1 b2 h1 h2 hc g2 g3 g1
  · go_enter Try.func8, Try.ntmps8
    go_wp2_with (first | (go_at_call 22; refine (alive _).mono ?_; rintro e w1 ⟨rfl, hb1⟩; have L1 : Lies (w1) (w.heap.size) 25 [.int .u32 (x1), .int .u32 (x2), .slice (A) (n) (c)] := (by (repeat' (first | (with_reducible assumption) | (with_reducible exact Lies.fresh _ _ _) | (with_reducible apply Lies.fresh_at; (first | (with_reducible rfl) | (simp; done))) | (with_reducible refine Lies.drew ?_) | (with_reducible refine Lies.drewN ?_ _) | (with_reducible refine Lies.alloc ?_ _) | (with_reducible apply Lies.past; case hb => (with_reducible assumption)) | (with_reducible apply Lies.keeps; (case k => (with_reducible assumption)); (case ht => decide)) | (with_reducible apply Lies.store3) | (with_reducible apply Lies.other; case hp => (first | omega | (simp; done) | (simp; omega)))))); obtain ⟨p0, p1, p2, f0, f1, f2⟩ := L1.three; have lt1 := L1.lt; clear L1))
    go_ret
    exact ⟨rfl, by (repeat' (first | (with_reducible exact Below.refl _ _) | (with_reducible assumption) | (with_reducible refine below_drewN ?_ _) | (with_reducible refine below_new ?_ _) | (with_reducible refine Below.alloc ?_ ?_ _) | (with_reducible refine Below.drew ?_) | (with_reducible refine Below.setCell ?_ ?_ _) | (with_reducible apply below_at; (case k => (with_reducible assumption)); (case hB => omega)) | (with_reducible apply below_on; (with_reducible assumption)) | (go_size; done) | (with_reducible apply size_of)))⟩
end Go.Proofs.Ytdnccnaihkajmaa.encL
