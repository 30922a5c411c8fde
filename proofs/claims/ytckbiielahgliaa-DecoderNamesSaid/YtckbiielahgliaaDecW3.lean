/- What the decoder's Get and Over return, by walks. -/
import Derived.Test.YtckbiielahgliaaDecW2
import Derived.Test.YtckbiielahgliaaDecPlain2
namespace Go.Proofs.Ytckbiielahgliaa.decW
open Go.RowKit Go.Proofs.Ytckbiielahgliaa.base Go.Proofs.Ytckbiielahgliaa.encP Go.Proofs.Ytckbiielahgliaa.encW Go.Proofs.Ytckbiielahgliaa.decP
set_option linter.unusedVariables false
set_option linter.unusedSimpArgs false

set_option maxHeartbeats 1000000 in
theorem get_bad (x1 x2 x p : Int) (A : Option Addr) (n c : Nat) (t : Int) (g : Nat) (w : World) (a1 : 0 ≤ x1) (a2 : x1 < x2) (a3 : x2 ≤ 4294967295) (hp : pOk p = false) (K : Lies (w) (g) 25 [.int .u32 (x1), .int .u32 (x2), .int .u32 (x), .slice (A) (n) (c), .int .i64 (t)]) :
    Calls Try.prog 29 #[.pointer (some ⟨g, 0, none⟩), .int .i64 p] w (fun e w' => e = .returned (.tuple #[.bool false, .int .i64 2]) ∧ ∃ n, w' = w.drewN n) := by
  have HS := Lib.hid (fun W => Split_bad x1 x2 p W a1 a2 a3 hp)
  obtain ⟨⟨p0, p1, p2, p3, p4⟩, f0, f1, f2, f3, f4⟩ := five K
  clear K hp
  go_enter Try.func29, Try.ntmps29
  go_wp2
  go_quiet ((go_at_call 35; exact Calls.quiet_of_same (turned (HS.out _))))
  go_wp2
  go_ret2
  exact ⟨rfl, _, rfl⟩
set_option maxRecDepth 100000 in
set_option maxHeartbeats 2000000 in
theorem Get_any (x1 x2 x : Int) (A : Option Addr) (n c : Nat) (t p : Int) (zs : List Int) (w : World) (a1 : 0 ≤ x1) (a2 : x1 ≤ 4294967295) (b1 : 0 ≤ x2) (b2 : x2 ≤ 4294967295) (c1 : 0 ≤ x) (c2 : x ≤ 4294967295) (hA : Has .u8 w A zs) (hn : zs.length = n) (hc : n ≤ c) (m : n ≤ 140737488355328) (hz : InB zs) :
    Calls Try.prog 11 #[.agg #[.int .u32 (x1), .int .u32 (x2), .int .u32 (x), .slice (A) (n) (c), .int .i64 (t)], .int .i64 p] w fun e w' => ∃ A' c', e = .returned (.tuple #[.agg #[.int .u32 ((dgV x1 x2 x zs t p).1), .int .u32 ((dgV x1 x2 x zs t p).2.1), .int .u32 ((dgV x1 x2 x zs t p).2.2.1), .slice (A') ((dgV x1 x2 x zs t p).2.2.2.1.length) (c'), .int .i64 ((dgV x1 x2 x zs t p).2.2.2.2)], .bool (dgB x1 x2 x zs t p), .int .i64 (dgE x1 x2 x zs t p)]) ∧ Has .u8 w' A' (dgV x1 x2 x zs t p).2.2.2.1 ∧ (dgV x1 x2 x zs t p).2.2.2.1.length ≤ c' ∧ c' ≤ 9223372036854775807 ∧ Below w.heap.size w w' := by
  have HA := Lib.hid hA
  have HZ := Lib.hid hz
  subst hn
  clear hA hz
  cases hok : decOk x1 x2 x zs.length t
  · have E' : dcV x1 x2 x zs.length t = 8 := by simp [dcV, hok]
    have HE := Lib.hid (dgE_bad (x1 := x1) (x2 := x2) (x := x) (zs := zs) (t := t) p hok)
    have HVV := Lib.hid (dgV_no (x1 := x1) (x2 := x2) (x := x) (zs := zs) (t := t) (p := p) (by rw [HE.out]; omega))
    clear hok
    go_enter Try.func11, Try.ntmps11
    go_wp2_with (first | (go_at_call 16; refine (Check_any _ _ _ _ _ _ _ _ a1 a2 b1 b2 c1 c2 (by omega)).mono ?_; rintro e w1 ⟨rfl, hb⟩; have L2 : Lies (w1) (w.heap.size + 1) 25 [.int .u32 (0), .int .u32 (0), .int .u32 (0), .slice (none) (0) (0), .int .i64 (0)] := (by (repeat' (first | (with_reducible assumption) | (with_reducible exact Lies.fresh _ _ _) | (with_reducible apply Lies.fresh_at; (first | (with_reducible rfl) | (simp; done))) | (with_reducible refine Lies.drew ?_) | (with_reducible refine Lies.drewN ?_ _) | (with_reducible refine Lies.alloc ?_ _) | (with_reducible apply Lies.past; case hb => (with_reducible assumption)) | (with_reducible apply Lies.keeps; (case k => (with_reducible assumption)); (case ht => decide)) | (with_reducible apply Lies.store3) | (with_reducible apply Lies.other; case hp => (first | omega | (simp; done) | (simp; omega)))))); obtain ⟨⟨p0, p1, p2, p3, p4⟩, f0, f1, f2, f3, f4⟩ := five L2; have lt2 := L2.lt))
    refine bodyPost_ret (by simp [results, Try.results11, go_sem, p0, p1, p2, p3, p4]; try rfl) rfl ?_
    rw [HVV.out.1, HVV.out.2, HE.out]
    exact ⟨none, 0, rfl, .inl rfl, by simp, by omega, by (repeat' (first | (with_reducible exact Below.refl _ _) | (with_reducible assumption) | (with_reducible refine below_drewN ?_ _) | (with_reducible refine below_new ?_ _) | (with_reducible refine Below.alloc ?_ ?_ _) | (with_reducible refine Below.drew ?_) | (with_reducible refine Below.setCell ?_ ?_ _) | (with_reducible apply below_at; (case k => (with_reducible assumption)); (case hB => omega)) | (with_reducible apply below_on; (with_reducible assumption)) | (go_size; done) | (with_reducible apply size_of)))⟩
  · obtain ⟨G0, t4, tm, nm⟩ := decOk_good hok a1 b2
    obtain ⟨T, rfl⟩ : ∃ T : Nat, t = T := ⟨t.toNat, by omega⟩
    have E' : dcV x1 x2 x zs.length T = 0 := by simp [dcV, hok]
    have HOK := Lib.hid hok
    obtain ⟨_, q2, _, _, q3, q4⟩ := G0
    simp only at q2 q3 q4
    clear hok
    go_enter Try.func11, Try.ntmps11
    go_wp2_with (first | (go_at_call 16; refine (Check_any _ _ _ _ _ _ _ _ a1 a2 b1 b2 c1 c2 (by omega)).mono ?_; rintro e w1 ⟨rfl, hb⟩; have L1 : Lies (w1) (w.heap.size) 25 [.int .u32 (x1), .int .u32 (x2), .int .u32 (x), .slice (A) (zs.length) (c), .int .i64 (T)] := (by (repeat' (first | (with_reducible assumption) | (with_reducible exact Lies.fresh _ _ _) | (with_reducible apply Lies.fresh_at; (first | (with_reducible rfl) | (simp; done))) | (with_reducible refine Lies.drew ?_) | (with_reducible refine Lies.drewN ?_ _) | (with_reducible refine Lies.alloc ?_ _) | (with_reducible apply Lies.past; case hb => (with_reducible assumption)) | (with_reducible apply Lies.keeps; (case k => (with_reducible assumption)); (case ht => decide)) | (with_reducible apply Lies.store3) | (with_reducible apply Lies.other; case hp => (first | omega | (simp; done) | (simp; omega)))))); have L2 : Lies (w1) (w.heap.size + 1) 25 [.int .u32 (0), .int .u32 (0), .int .u32 (0), .slice (none) (0) (0), .int .i64 (0)] := (by (repeat' (first | (with_reducible assumption) | (with_reducible exact Lies.fresh _ _ _) | (with_reducible apply Lies.fresh_at; (first | (with_reducible rfl) | (simp; done))) | (with_reducible refine Lies.drew ?_) | (with_reducible refine Lies.drewN ?_ _) | (with_reducible refine Lies.alloc ?_ _) | (with_reducible apply Lies.past; case hb => (with_reducible assumption)) | (with_reducible apply Lies.keeps; (case k => (with_reducible assumption)); (case ht => decide)) | (with_reducible apply Lies.store3) | (with_reducible apply Lies.other; case hp => (first | omega | (simp; done) | (simp; omega)))))); have W1 : Below w.heap.size w w1 := (by (repeat' (first | (with_reducible exact Below.refl _ _) | (with_reducible assumption) | (with_reducible refine below_drewN ?_ _) | (with_reducible refine below_new ?_ _) | (with_reducible refine Below.alloc ?_ ?_ _) | (with_reducible refine Below.drew ?_) | (with_reducible refine Below.setCell ?_ ?_ _) | (with_reducible apply below_at; (case k => (with_reducible assumption)); (case hB => omega)) | (with_reducible apply below_on; (with_reducible assumption)) | (go_size; done) | (with_reducible apply size_of)))); have HL1 := Lib.hid L1; have HL2 := Lib.hid L2; have HW1 := Lib.hid W1; obtain ⟨⟨p0, p1, p2, p3, p4⟩, f0, f1, f2, f3, f4⟩ := five L1; have lt2 := L2.lt; have lt1 := L1.lt; clear hb L1 L2 W1) | (go_at_call 27; refine (Clone8 (HA.out.below (by have := HW1.out; (repeat' (first | (with_reducible exact Below.refl _ _) | (with_reducible assumption) | (with_reducible refine below_drewN ?_ _) | (with_reducible refine below_new ?_ _) | (with_reducible refine Below.alloc ?_ ?_ _) | (with_reducible refine Below.drew ?_) | (with_reducible refine Below.setCell ?_ ?_ _) | (with_reducible apply below_at; (case k => (with_reducible assumption)); (case hB => omega)) | (with_reducible apply below_on; (with_reducible assumption)) | (go_size; done) | (with_reducible apply size_of)))) (Nat.le_refl _)) rfl hc m).mono ?_; rintro e w3 ⟨A3, c3, rfl, hh3, ho3, hb3⟩; have L4 : Lies (w3) (w1.heap.size) 25 [.int .u32 (x1), .int .u32 (x2), .int .u32 (x), .slice (A) (zs.length) (c), .int .i64 (T)] := (by (repeat' (first | (with_reducible assumption) | (with_reducible exact Lies.fresh _ _ _) | (with_reducible apply Lies.fresh_at; (first | (with_reducible rfl) | (simp; done))) | (with_reducible refine Lies.drew ?_) | (with_reducible refine Lies.drewN ?_ _) | (with_reducible refine Lies.alloc ?_ _) | (with_reducible apply Lies.past; case hb => (with_reducible assumption)) | (with_reducible apply Lies.keeps; (case k => (with_reducible assumption)); (case ht => decide)) | (with_reducible apply Lies.store3) | (with_reducible apply Lies.other; case hp => (first | omega | (simp; done) | (simp; omega)))))); have HL4 := Lib.hid L4; obtain ⟨⟨r0, r1, r2, r3, r4⟩, g0, g1, g2, g3, g4⟩ := five L4; have lt4 := L4.lt; clear p0 p1 p2 p3 p4 f0 f1 f2 f3 f4 L4))
    have HC3 : Hid (zs.length ≤ c3 ∧ c3 ≤ 9223372036854775807) := Lib.hid ⟨by
      obtain ⟨A5, c5, e5, _, h5⟩ := ho3.val
      injection e5 with _ _ e6
      rw [e6]; exact h5, ownZ_cap ho3⟩
    have HH3 := Lib.hid (has_off hh3 HL4.out 3 (.slice A3 zs.length c3))
    have HL5 := Lib.hid (HL4.out.set 3 (.slice A3 zs.length c3))
    have HR5 : Hid (Lies (w3.setCell ⟨w1.heap.size, 3, none⟩ (.slice A3 zs.length c3)) (w.heap.size + 1) 25 [.int .u32 (0), .int .u32 (0), .int .u32 (0), .slice (none) (0) (0), .int .i64 (0)]) := Lib.hid (by have := HL2.out; (repeat' (first | (with_reducible assumption) | (with_reducible exact Lies.fresh _ _ _) | (with_reducible apply Lies.fresh_at; (first | (with_reducible rfl) | (simp; done))) | (with_reducible refine Lies.drew ?_) | (with_reducible refine Lies.drewN ?_ _) | (with_reducible refine Lies.alloc ?_ _) | (with_reducible apply Lies.past; case hb => (with_reducible assumption)) | (with_reducible apply Lies.keeps; (case k => (with_reducible assumption)); (case ht => decide)) | (with_reducible apply Lies.store3) | (with_reducible apply Lies.other; case hp => (first | omega | (simp; done) | (simp; omega))))))
    have HW5 : Hid (Below w.heap.size w (w3.setCell ⟨w1.heap.size, 3, none⟩ (.slice A3 zs.length c3))) := Lib.hid (by have := HW1.out; (repeat' (first | (with_reducible exact Below.refl _ _) | (with_reducible assumption) | (with_reducible refine below_drewN ?_ _) | (with_reducible refine below_new ?_ _) | (with_reducible refine Below.alloc ?_ ?_ _) | (with_reducible refine Below.drew ?_) | (with_reducible refine Below.setCell ?_ ?_ _) | (with_reducible apply below_at; (case k => (with_reducible assumption)); (case hB => omega)) | (with_reducible apply below_on; (with_reducible assumption)) | (go_size; done) | (with_reducible apply size_of))))
    have hs5 : w1.heap.size < (w3.setCell ⟨w1.heap.size, 3, none⟩ (.slice A3 zs.length c3)).heap.size := HL5.out.lt
    generalize w3.setCell ⟨w1.heap.size, 3, none⟩ (.slice A3 zs.length c3) = w5 at *
    clear hh3 ho3 hb3 r0 r1 r2 r3 r4 g0 g1 g2 g3 g4 HL4
    cases hp : pOk p
    · have HE := Lib.hid (dgE_arg (x1 := x1) (x2 := x2) (x := x) (zs := zs) (t := T) (p := p) HOK.out hp)
      have HVV := Lib.hid (dgV_no (x1 := x1) (x2 := x2) (x := x) (zs := zs) (t := T) (p := p) (by rw [HE.out]; omega))
      have HP := Lib.hid hp
      obtain ⟨⟨r0, r1, r2, r3, r4⟩, g0, g1, g2, g3, g4⟩ := five HR5.out
      clear hp
      refine (get_bad x1 x2 x p _ _ _ _ _ _ a1 q2 b2 HP.out HL5.out).mono ?_
      rintro e w4 ⟨rfl, n4, rfl⟩
      go_wp2
      refine bodyPost_ret (by simp [results, Try.results11, go_sem, r0, r1, r2, r3, r4]; try rfl) rfl ?_
      rw [HVV.out.1, HVV.out.2, HE.out]
      exact ⟨none, 0, rfl, .inl rfl, by simp, by omega, by have := HW5.out; (repeat' (first | (with_reducible exact Below.refl _ _) | (with_reducible assumption) | (with_reducible refine below_drewN ?_ _) | (with_reducible refine below_new ?_ _) | (with_reducible refine Below.alloc ?_ ?_ _) | (with_reducible refine Below.drew ?_) | (with_reducible refine Below.setCell ?_ ?_ _) | (with_reducible apply below_at; (case k => (with_reducible assumption)); (case hB => omega)) | (with_reducible apply below_on; (with_reducible assumption)) | (go_size; done) | (with_reducible apply size_of)))⟩
    · have HE := Lib.hid (dgE_ok (x1 := x1) (x2 := x2) (x := x) (zs := zs) (t := T) (p := p) HOK.out hp)
      have HP := Lib.hid hp
      clear hp
      refine (get_any (fun _ => True) x1 x2 x A3 zs.length c3 T zs p w1.heap.size w1.heap.size _ a1 q2 b2 q3 q4 HP.out HL5.out HH3.out rfl HC3.out.1 HC3.out.2 (by omega) HZ.out (by omega) (by omega) trivial (fun _ _ _ _ => trivial) (fun _ _ _ _ => trivial)).mono ?_
      rintro e w6 ⟨rfl, hb6, h6, hh6, _⟩
      have HH6 := Lib.hid hh6
      have HR6 := Lib.hid (HR5.out.below hb6 (by omega))
      have HW6 : Hid (Below w.heap.size w w6) := Lib.hid (HW5.out.trans (hb6.mono (by omega)))
      obtain ⟨⟨r0, r1, r2, r3, r4⟩, g0, g1, g2, g3, g4⟩ := five HR6.out
      have lt6 := HR6.out.lt
      clear hh6 hb6
      by_cases hl : (gt zs x1 x2 x T p).2.2.2 ≤ 1000000
      · rw [if_pos hl, if_pos hl]
        have HL6 := Lib.hid (h6 hl)
        obtain ⟨⟨p0, p1, p2, p3, p4⟩, f0, f1, f2, f3, f4⟩ := five HL6.out
        have lg6 := HL6.out.lt
        have HE0 : Hid (dgE x1 x2 x zs T p = 0) := Lib.hid (by rw [HE.out]; exact if_pos hl)
        have hvv := dgV_yes HE0.out
        rw [Int.toNat_natCast] at hvv
        have HVV := Lib.hid hvv
        clear h6 hl HE hvv
        generalize gt zs x1 x2 x T p = G at *
        go_wp2
        have KF := five (store5 HR6.out (a' := .int .u32 G.1) (b' := .int .u32 G.2.1) (c' := .int .u32 G.2.2.1) (d' := .slice A3 zs.length c3) (e' := .int .i64 G.2.2.2))
        obtain ⟨⟨r0, r1, r2, r3, r4⟩, _⟩ := KF
        refine bodyPost_ret (by simp [results, Try.results11, go_sem, r0, r1, r2, r3, r4]; try rfl) rfl ?_
        rw [HVV.out.1, HVV.out.2, HE0.out]
        exact ⟨A3, c3, rfl, has_off5 HH6.out HR6.out, HC3.out.1, HC3.out.2, by have := HW6.out; (repeat' (first | (with_reducible exact Below.refl _ _) | (with_reducible assumption) | (with_reducible refine below_drewN ?_ _) | (with_reducible refine below_new ?_ _) | (with_reducible refine Below.alloc ?_ ?_ _) | (with_reducible refine Below.drew ?_) | (with_reducible refine Below.setCell ?_ ?_ _) | (with_reducible apply below_at; (case k => (with_reducible assumption)); (case hB => omega)) | (with_reducible apply below_on; (with_reducible assumption)) | (go_size; done) | (with_reducible apply size_of)))⟩
      · rw [if_neg hl, if_neg hl]
        have HE4 : Hid (dgE x1 x2 x zs T p = 4) := Lib.hid (by rw [HE.out]; exact if_neg hl)
        have HVV := Lib.hid (dgV_no (x1 := x1) (x2 := x2) (x := x) (zs := zs) (t := T) (p := p) (by rw [HE4.out]; omega))
        clear h6 hl HE
        go_wp2
        refine bodyPost_ret (by simp [results, Try.results11, go_sem, r0, r1, r2, r3, r4]; try rfl) rfl ?_
        rw [HVV.out.1, HVV.out.2, HE4.out]
        exact ⟨none, 0, rfl, .inl rfl, by simp, by omega, by have := HW6.out; (repeat' (first | (with_reducible exact Below.refl _ _) | (with_reducible assumption) | (with_reducible refine below_drewN ?_ _) | (with_reducible refine below_new ?_ _) | (with_reducible refine Below.alloc ?_ ?_ _) | (with_reducible refine Below.drew ?_) | (with_reducible refine Below.setCell ?_ ?_ _) | (with_reducible apply below_at; (case k => (with_reducible assumption)); (case hB => omega)) | (with_reducible apply below_on; (with_reducible assumption)) | (go_size; done) | (with_reducible apply size_of)))⟩
def ovE (x1 x2 x : Int) (n : Nat) (t : Int) : Int := if decOk x1 x2 x n t then 0 else 8
def ovV (x1 x2 x : Int) (n : Nat) (t : Int) : Int := if decOk x1 x2 x n t then (n : Int) - t else 0
set_option maxHeartbeats 1000000 in
theorem Over_any (x1 x2 x : Int) (A : Option Addr) (n c : Nat) (t : Int) (w : World) (a1 : 0 ≤ x1) (a2 : x1 ≤ 4294967295) (b1 : 0 ≤ x2) (b2 : x2 ≤ 4294967295) (c1 : 0 ≤ x) (c2 : x ≤ 4294967295) (m : n ≤ 9223372036854775807) :
    Calls Try.prog 13 #[.agg #[.int .u32 (x1), .int .u32 (x2), .int .u32 (x), .slice (A) (n) (c), .int .i64 (t)]] w fun e w' => e = .returned (.tuple #[.int .i64 (ovV x1 x2 x n t), .int .i64 (dcV x1 x2 x n t)]) ∧ Below w.heap.size w w' := by
  cases hok : decOk x1 x2 x n t
  · have E' : dcV x1 x2 x n t = 8 := by simp [dcV, hok]
    have HV : Hid (ovV x1 x2 x n t = 0 ∧ dcV x1 x2 x n t = 8) := Lib.hid ⟨by simp [ovV, hok], E'⟩
    clear hok
    go_enter Try.func13, Try.ntmps13
    go_wp2_with (go_at_call 16; refine (Check_any _ _ _ _ _ _ _ _ a1 a2 b1 b2 c1 c2 m).mono ?_; rintro e w1 ⟨rfl, hb⟩)
    go_ret2
    rw [HV.out.1, HV.out.2]
    exact ⟨rfl, by (repeat' (first | (with_reducible exact Below.refl _ _) | (with_reducible assumption) | (with_reducible refine below_drewN ?_ _) | (with_reducible refine below_new ?_ _) | (with_reducible refine Below.alloc ?_ ?_ _) | (with_reducible refine Below.drew ?_) | (with_reducible refine Below.setCell ?_ ?_ _) | (with_reducible apply below_at; (case k => (with_reducible assumption)); (case hB => omega)) | (with_reducible apply below_on; (with_reducible assumption)) | (go_size; done) | (with_reducible apply size_of)))⟩
  · obtain ⟨_, t4, tm, nm⟩ := decOk_good hok a1 b2
    have E' : dcV x1 x2 x n t = 0 := by simp [dcV, hok]
    have HV : Hid (ovV x1 x2 x n t = n - t ∧ dcV x1 x2 x n t = 0) := Lib.hid ⟨by simp [ovV, hok], E'⟩
    clear hok
    go_enter Try.func13, Try.ntmps13
    go_wp2_with (go_at_call 16; refine (Check_any _ _ _ _ _ _ _ _ a1 a2 b1 b2 c1 c2 m).mono ?_; rintro e w1 ⟨rfl, hb⟩; have L1 : Lies (w1) (w.heap.size) 25 [.int .u32 (x1), .int .u32 (x2), .int .u32 (x), .slice (A) (n) (c), .int .i64 (t)] := (by (repeat' (first | (with_reducible assumption) | (with_reducible exact Lies.fresh _ _ _) | (with_reducible apply Lies.fresh_at; (first | (with_reducible rfl) | (simp; done))) | (with_reducible refine Lies.drew ?_) | (with_reducible refine Lies.drewN ?_ _) | (with_reducible refine Lies.alloc ?_ _) | (with_reducible apply Lies.past; case hb => (with_reducible assumption)) | (with_reducible apply Lies.keeps; (case k => (with_reducible assumption)); (case ht => decide)) | (with_reducible apply Lies.store3) | (with_reducible apply Lies.other; case hp => (first | omega | (simp; done) | (simp; omega)))))); obtain ⟨⟨p0, p1, p2, p3, p4⟩, f0, f1, f2, f3, f4⟩ := five L1)
    go_ret2
    rw [HV.out.1, HV.out.2]
    exact ⟨rfl, by (repeat' (first | (with_reducible exact Below.refl _ _) | (with_reducible assumption) | (with_reducible refine below_drewN ?_ _) | (with_reducible refine below_new ?_ _) | (with_reducible refine Below.alloc ?_ ?_ _) | (with_reducible refine Below.drew ?_) | (with_reducible refine Below.setCell ?_ ?_ _) | (with_reducible apply below_at; (case k => (with_reducible assumption)); (case hB => omega)) | (with_reducible apply below_on; (with_reducible assumption)) | (go_size; done) | (with_reducible apply size_of)))⟩
set_option maxHeartbeats 1000000 in
theorem rOver_any (x1 x2 x : Int) (A : Option Addr) (n c : Nat) (t : Int) (w : World) (a1 : 0 ≤ x1) (a2 : x1 ≤ 4294967295) (b1 : 0 ≤ x2) (b2 : x2 ≤ 4294967295) (c1 : 0 ≤ x) (c2 : x ≤ 4294967295) (m : n ≤ 9223372036854775807) :
    Calls Try.prog 14 #[.agg #[.int .u32 (x1), .int .u32 (x2), .int .u32 (x), .slice (A) (n) (c), .int .i64 (t)]] w fun e w' => e = .returned (.tuple #[.int .i64 (ovV x1 x2 x n t), .int .i64 (dcV x1 x2 x n t)]) ∧ Below w.heap.size w w' := by
  cases hok : decOk x1 x2 x n t
  · have E' : dcV x1 x2 x n t = 8 := by simp [dcV, hok]
    have HV : Hid (ovV x1 x2 x n t = 0 ∧ dcV x1 x2 x n t = 8) := Lib.hid ⟨by simp [ovV, hok], E'⟩
    clear hok
    go_enter Try.func14, Try.ntmps14
    go_wp2_with fail
    refine (rCheckD_any _ _ _ _ _ _ _ _ a1 a2 b1 b2 c1 c2 m).mono ?_
    rintro e w1 ⟨rfl, hb⟩
    have HL1 : Hid (Lies (w1) (w.heap.size) 25 [.int .u32 (x1), .int .u32 (x2), .int .u32 (x), .slice (A) (n) (c), .int .i64 (t)]) := Lib.hid (by (repeat' (first | (with_reducible assumption) | (with_reducible exact Lies.fresh _ _ _) | (with_reducible apply Lies.fresh_at; (first | (with_reducible rfl) | (simp; done))) | (with_reducible refine Lies.drew ?_) | (with_reducible refine Lies.drewN ?_ _) | (with_reducible refine Lies.alloc ?_ _) | (with_reducible apply Lies.past; case hb => (with_reducible assumption)) | (with_reducible apply Lies.keeps; (case k => (with_reducible assumption)); (case ht => decide)) | (with_reducible apply Lies.store3) | (with_reducible apply Lies.other; case hp => (first | omega | (simp; done) | (simp; omega))))))
    obtain ⟨⟨p0, p1, p2, p3, p4⟩, f0, f1, f2, f3, f4⟩ := five HL1.out
    go_wp2_with fail
    refine (rCheckD_any _ _ _ _ _ _ _ _ a1 a2 b1 b2 c1 c2 m).mono ?_
    rintro e w2 ⟨rfl, hb2⟩
    go_wp2
    go_ret2
    rw [HV.out.1, HV.out.2]
    exact ⟨rfl, by (repeat' (first | (with_reducible exact Below.refl _ _) | (with_reducible assumption) | (with_reducible refine below_drewN ?_ _) | (with_reducible refine below_new ?_ _) | (with_reducible refine Below.alloc ?_ ?_ _) | (with_reducible refine Below.drew ?_) | (with_reducible refine Below.setCell ?_ ?_ _) | (with_reducible apply below_at; (case k => (with_reducible assumption)); (case hB => omega)) | (with_reducible apply below_on; (with_reducible assumption)) | (go_size; done) | (with_reducible apply size_of)))⟩
  · obtain ⟨_, t4, tm, nm⟩ := decOk_good hok a1 b2
    have E' : dcV x1 x2 x n t = 0 := by simp [dcV, hok]
    have HV : Hid (ovV x1 x2 x n t = n - t ∧ dcV x1 x2 x n t = 0) := Lib.hid ⟨by simp [ovV, hok], E'⟩
    clear hok
    go_enter Try.func14, Try.ntmps14
    go_wp2_with (go_at_call 17; refine (rCheckD_any _ _ _ _ _ _ _ _ a1 a2 b1 b2 c1 c2 m).mono ?_; rintro e w1 ⟨rfl, hb⟩; have L1 : Lies (w1) (w.heap.size) 25 [.int .u32 (x1), .int .u32 (x2), .int .u32 (x), .slice (A) (n) (c), .int .i64 (t)] := (by (repeat' (first | (with_reducible assumption) | (with_reducible exact Lies.fresh _ _ _) | (with_reducible apply Lies.fresh_at; (first | (with_reducible rfl) | (simp; done))) | (with_reducible refine Lies.drew ?_) | (with_reducible refine Lies.drewN ?_ _) | (with_reducible refine Lies.alloc ?_ _) | (with_reducible apply Lies.past; case hb => (with_reducible assumption)) | (with_reducible apply Lies.keeps; (case k => (with_reducible assumption)); (case ht => decide)) | (with_reducible apply Lies.store3) | (with_reducible apply Lies.other; case hp => (first | omega | (simp; done) | (simp; omega)))))); obtain ⟨⟨p0, p1, p2, p3, p4⟩, f0, f1, f2, f3, f4⟩ := five L1)
    go_ret2
    rw [HV.out.1, HV.out.2]
    exact ⟨rfl, by (repeat' (first | (with_reducible exact Below.refl _ _) | (with_reducible assumption) | (with_reducible refine below_drewN ?_ _) | (with_reducible refine below_new ?_ _) | (with_reducible refine Below.alloc ?_ ?_ _) | (with_reducible refine Below.drew ?_) | (with_reducible refine Below.setCell ?_ ?_ _) | (with_reducible apply below_at; (case k => (with_reducible assumption)); (case hB => omega)) | (with_reducible apply below_on; (with_reducible assumption)) | (go_size; done) | (with_reducible apply size_of)))⟩
end Go.Proofs.Ytckbiielahgliaa.decW
