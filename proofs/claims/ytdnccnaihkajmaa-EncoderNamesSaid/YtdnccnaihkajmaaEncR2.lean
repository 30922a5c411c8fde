/- What the reference's Put, Ended, End and Probs, and Same and Begins and the two New return, by walks. -/
import Derived.Test.YtdnccnaihkajmaaEncR
import Derived.Test.YtdnccnaihkajmaaBool
namespace Go.Proofs.Ytdnccnaihkajmaa.encW
open Go.RowKit Go.Proofs.Ytdnccnaihkajmaa.base Go.Proofs.Ytdnccnaihkajmaa.encP
set_option linter.unusedVariables false
set_option linter.unusedSimpArgs false

set_option maxRecDepth 100000 in
set_option maxHeartbeats 2000000 in
theorem rPut_any (x1 x2 p : Int) (b : Bool) (A : Option Addr) (n c : Nat) (zs : List Int) (w : World) (a1 : 0 ≤ x1) (a2 : x1 ≤ 4294967295) (b1 : 0 ≤ x2) (b2 : x2 ≤ 4294967295) (hA : Has .u8 w A zs) (hn : zs.length = n) (hc : n ≤ c) (m : n ≤ 140737488355000) :
    Calls Try.prog 12 #[.agg #[.int .u32 (x1), .int .u32 (x2), .slice (A) (n) (c)], .int .i64 p, .bool b] w fun e w' => ∃ A' c', e = .returned (.tuple #[.agg #[.int .u32 ((puV x1 x2 zs p b).1), .int .u32 ((puV x1 x2 zs p b).2.1), .slice (A') ((puV x1 x2 zs p b).2.2.length) (c')], .int .i64 (puE x1 x2 n p b)]) ∧ Has .u8 w' A' (puV x1 x2 zs p b).2.2 ∧ (puV x1 x2 zs p b).2.2.length ≤ c' ∧ Below w.heap.size w w' := by
  have HA := Lib.hid hA
  subst hn
  clear hA
  cases hok : encOk x1 x2 zs.length
  · have E' : ckV x1 x2 zs.length = 8 := by simp [ckV, hok]
    have HE := Lib.hid (puE_bad (x1 := x1) (x2 := x2) p b hok)
    have HVV := Lib.hid (puV_no (x1 := x1) (x2 := x2) (zs := zs) (p := p) (b := b) (by rw [HE.out]; omega))
    clear hok
    go_enter Try.func12, Try.ntmps12
    go_wp2_with fail
    refine (rCheck_any _ _ _ _ _ _ a1 a2 b1 b2 (by omega)).mono ?_
    rintro e w1 ⟨rfl, hb⟩
    obtain ⟨cl1, fr1⟩ := bcell hb; have sz1 := hb.size; (try simp at sz1); (try have sy1 : w.heap.size + 1 < (w1).heap.size := (by omega)); have sx1 : w.heap.size < (w1).heap.size := (by omega)
    go_wp2_with fail
    refine (rCheck_any _ _ _ _ _ _ a1 a2 b1 b2 (by omega)).mono ?_
    rintro e w2 ⟨rfl, hb2⟩
    have L2 : Lies (w2) (w.heap.size + 1) 25 [.int .u32 (0), .int .u32 (0), .slice (none) (0) (0)] := by (repeat' (first | (with_reducible assumption) | (with_reducible exact Lies.fresh _ _ _) | (with_reducible apply Lies.fresh_at; (first | (with_reducible rfl) | (simp; done))) | (with_reducible refine Lies.drew ?_) | (with_reducible refine Lies.drewN ?_ _) | (with_reducible refine Lies.alloc ?_ _) | (with_reducible apply Lies.past; case hb => (with_reducible assumption)) | (with_reducible apply Lies.keeps; (case k => (with_reducible assumption)); (case ht => decide)) | (with_reducible apply Lies.store3) | (with_reducible apply Lies.other; case hp => (first | omega | (simp; done) | (simp; omega)))))
    obtain ⟨p0, p1, p2, f0, f1, f2⟩ := L2.three
    go_wp2
    refine bodyPost_ret (by simp [results, Try.results12, go_sem, p0, p1, p2]; try rfl) rfl ?_
    rw [HVV.out, HE.out]
    exact ⟨none, 0, rfl, .inl rfl, by simp, by (repeat' (first | (with_reducible exact Below.refl _ _) | (with_reducible assumption) | (with_reducible refine below_drewN ?_ _) | (with_reducible refine below_new ?_ _) | (with_reducible refine Below.alloc ?_ ?_ _) | (with_reducible refine Below.drew ?_) | (with_reducible refine Below.setCell ?_ ?_ _) | (with_reducible apply below_at; (case k => (with_reducible assumption)); (case hB => omega)) | (with_reducible apply below_on; (with_reducible assumption)) | (go_size; done) | (with_reducible apply size_of)))⟩
  · obtain ⟨q1, q2, q3⟩ := (encOk_iff _ _ _).1 hok
    have E' : ckV x1 x2 zs.length = 0 := by simp [ckV, hok]
    have HOK := Lib.hid hok
    clear hok q1
    cases hp : pOk p
    · have HE := Lib.hid (puE_arg (x1 := x1) (x2 := x2) (n := zs.length) (p := p) b HOK.out hp)
      have HVV := Lib.hid (puV_no (x1 := x1) (x2 := x2) (zs := zs) (p := p) (b := b) (by rw [HE.out]; omega))
      go_enter Try.func12, Try.ntmps12
      go_wp2_with fail
      refine (rCheck_any _ _ _ _ _ _ a1 a2 b1 b2 (by omega)).mono ?_
      rintro e w1 ⟨rfl, hb⟩
      have L1 : Lies (w1) (w.heap.size) 25 [.int .u32 (x1), .int .u32 (x2), .slice (A) (zs.length) (c)] := by (repeat' (first | (with_reducible assumption) | (with_reducible exact Lies.fresh _ _ _) | (with_reducible apply Lies.fresh_at; (first | (with_reducible rfl) | (simp; done))) | (with_reducible refine Lies.drew ?_) | (with_reducible refine Lies.drewN ?_ _) | (with_reducible refine Lies.alloc ?_ _) | (with_reducible apply Lies.past; case hb => (with_reducible assumption)) | (with_reducible apply Lies.keeps; (case k => (with_reducible assumption)); (case ht => decide)) | (with_reducible apply Lies.store3) | (with_reducible apply Lies.other; case hp => (first | omega | (simp; done) | (simp; omega)))))
      have L2 : Lies (w1) (w.heap.size + 1) 25 [.int .u32 (0), .int .u32 (0), .slice (none) (0) (0)] := by (repeat' (first | (with_reducible assumption) | (with_reducible exact Lies.fresh _ _ _) | (with_reducible apply Lies.fresh_at; (first | (with_reducible rfl) | (simp; done))) | (with_reducible refine Lies.drew ?_) | (with_reducible refine Lies.drewN ?_ _) | (with_reducible refine Lies.alloc ?_ _) | (with_reducible apply Lies.past; case hb => (with_reducible assumption)) | (with_reducible apply Lies.keeps; (case k => (with_reducible assumption)); (case ht => decide)) | (with_reducible apply Lies.store3) | (with_reducible apply Lies.other; case hp => (first | omega | (simp; done) | (simp; omega)))))
      obtain ⟨p0, p1, p2, f0, f1, f2⟩ := L2.three
      obtain ⟨r0, r1, r2, g0, g1, g2⟩ := L1.three
      have lt2 := L2.lt
      clear L1 L2
      go_wp2_with (first | (go_at_call 23; refine (rProb_any _ _).mono ?_; rintro e w' ⟨rfl, rfl⟩))
      refine bodyPost_ret (by simp [results, Try.results12, go_sem, p0, p1, p2]; try rfl) rfl ?_
      rw [HVV.out, HE.out]
      exact ⟨none, 0, rfl, .inl rfl, by simp, by (repeat' (first | (with_reducible exact Below.refl _ _) | (with_reducible assumption) | (with_reducible refine below_drewN ?_ _) | (with_reducible refine below_new ?_ _) | (with_reducible refine Below.alloc ?_ ?_ _) | (with_reducible refine Below.drew ?_) | (with_reducible refine Below.setCell ?_ ?_ _) | (with_reducible apply below_at; (case k => (with_reducible assumption)); (case hB => omega)) | (with_reducible apply below_on; (with_reducible assumption)) | (go_size; done) | (with_reducible apply size_of)))⟩
    · have HE := Lib.hid (puE_ok (x1 := x1) (x2 := x2) (n := zs.length) (p := p) (b := b) HOK.out hp)
      have HP := Lib.hid hp
      obtain ⟨k1, k2, k3, k4, k5, k6⟩ := pu_ok (b := b) a1 q2 b2 hp
      clear k4 k6
      go_enter Try.func12, Try.ntmps12
      go_wp2_with fail
      refine (rCheck_any _ _ _ _ _ _ a1 a2 b1 b2 (by omega)).mono ?_
      rintro e w1 ⟨rfl, hb⟩
      have L1 : Lies (w1) (w.heap.size) 25 [.int .u32 (x1), .int .u32 (x2), .slice (A) (zs.length) (c)] := by (repeat' (first | (with_reducible assumption) | (with_reducible exact Lies.fresh _ _ _) | (with_reducible apply Lies.fresh_at; (first | (with_reducible rfl) | (simp; done))) | (with_reducible refine Lies.drew ?_) | (with_reducible refine Lies.drewN ?_ _) | (with_reducible refine Lies.alloc ?_ _) | (with_reducible apply Lies.past; case hb => (with_reducible assumption)) | (with_reducible apply Lies.keeps; (case k => (with_reducible assumption)); (case ht => decide)) | (with_reducible apply Lies.store3) | (with_reducible apply Lies.other; case hp => (first | omega | (simp; done) | (simp; omega)))))
      have L2 : Lies (w1) (w.heap.size + 1) 25 [.int .u32 (0), .int .u32 (0), .slice (none) (0) (0)] := by (repeat' (first | (with_reducible assumption) | (with_reducible exact Lies.fresh _ _ _) | (with_reducible apply Lies.fresh_at; (first | (with_reducible rfl) | (simp; done))) | (with_reducible refine Lies.drew ?_) | (with_reducible refine Lies.drewN ?_ _) | (with_reducible refine Lies.alloc ?_ _) | (with_reducible apply Lies.past; case hb => (with_reducible assumption)) | (with_reducible apply Lies.keeps; (case k => (with_reducible assumption)); (case ht => decide)) | (with_reducible apply Lies.store3) | (with_reducible apply Lies.other; case hp => (first | omega | (simp; done) | (simp; omega)))))
      have W1 : Below w.heap.size w w1 := by (repeat' (first | (with_reducible exact Below.refl _ _) | (with_reducible assumption) | (with_reducible refine below_drewN ?_ _) | (with_reducible refine below_new ?_ _) | (with_reducible refine Below.alloc ?_ ?_ _) | (with_reducible refine Below.drew ?_) | (with_reducible refine Below.setCell ?_ ?_ _) | (with_reducible apply below_at; (case k => (with_reducible assumption)); (case hB => omega)) | (with_reducible apply below_on; (with_reducible assumption)) | (go_size; done) | (with_reducible apply size_of)))
      obtain ⟨r0, r1, r2, g0, g1, g2⟩ := L1.three
      have lt2 := L2.lt
      have HL2 := Lib.hid L2
      have HW1 := Lib.hid W1
      clear L1 L2 hb W1
      go_wp2_with (first | (go_at_call 23; refine (rProb_any _ _).mono ?_; rintro e w' ⟨rfl, rfl⟩))
      refine (rDid_any x1 x2 p b A zs.length c zs _ a1 q2 b2 HP.out (HA.out.below HW1.out (Nat.le_refl _)) rfl hc m).mono ?_
      rintro e w3 ⟨A3, c3, rfl, ho3, hb3⟩
      have HO3 := Lib.hid ho3
      have HCL : Hid (zs.length + (pu x1 x2 p b).2.2.length ≤ c3) := Lib.hid (by
        obtain ⟨A5, c5, e5, _, h5⟩ := ho3.val
        injection e5 with _ _ e6
        rw [e6]; simpa using h5)
      have L3 := HL2.out.past hb3
      obtain ⟨p0, p1, p2, f0, f1, f2⟩ := L3.three
      have lt3 := L3.lt
      have HL3 := Lib.hid L3
      have HW3 := Lib.hid (HW1.out.trans (hb3.mono HW1.out.size))
      clear L3 ho3 hb3
      by_cases hl : zs.length + (pu x1 x2 p b).2.2.length ≤ 20000
      · rw [if_pos hl] at HE
        have HV := Lib.hid (puV_yes (x1 := x1) (x2 := x2) (zs := zs) (p := p) (b := b) HE.out)
        go_wp2
        have KF := ((HL3.out.store3 (a := .int .u32 (pu x1 x2 p b).1) (b := .int .u32 (pu x1 x2 p b).2.1) (c := .slice A3 (zs.length + (pu x1 x2 p b).2.2.length) c3)).alloc (.cells #[.int .u32 (pu x1 x2 p b).1, .int .u32 (pu x1 x2 p b).2.1, .slice A3 (zs.length + (pu x1 x2 p b).2.2.length) c3] 25)).three
        obtain ⟨r0, r1, r2, _, _, _⟩ := KF
        refine bodyPost_ret (by simp [results, Try.results12, go_sem, r0, r1, r2]; try rfl) rfl ?_
        rw [HV.out, HE.out]
        exact ⟨A3, c3, by simp, ((HO3.out.store3 HL3.out (by decide)).alloc _).has, by simpa using HCL.out, by have := HW3.out; (repeat' (first | (with_reducible exact Below.refl _ _) | (with_reducible assumption) | (with_reducible refine below_drewN ?_ _) | (with_reducible refine below_new ?_ _) | (with_reducible refine Below.alloc ?_ ?_ _) | (with_reducible refine Below.drew ?_) | (with_reducible refine Below.setCell ?_ ?_ _) | (with_reducible apply below_at; (case k => (with_reducible assumption)); (case hB => omega)) | (with_reducible apply below_on; (with_reducible assumption)) | (go_size; done) | (with_reducible apply size_of)))⟩
      · rw [if_neg hl] at HE
        have HV := Lib.hid (puV_no (x1 := x1) (x2 := x2) (zs := zs) (p := p) (b := b) (by rw [HE.out]; omega))
        go_wp2
        have KF := ((HL3.out.store3 (a := .int .u32 0) (b := .int .u32 0) (c := .slice none 0 0)).alloc (.cells #[.int .u32 (pu x1 x2 p b).1, .int .u32 (pu x1 x2 p b).2.1, .slice A3 (zs.length + (pu x1 x2 p b).2.2.length) c3] 25)).three
        obtain ⟨r0, r1, r2, _, _, _⟩ := KF
        refine bodyPost_ret (by simp [results, Try.results12, go_sem, r0, r1, r2]; try rfl) rfl ?_
        rw [HV.out, HE.out]
        exact ⟨none, 0, rfl, .inl rfl, by simp, by have := HW3.out; (repeat' (first | (with_reducible exact Below.refl _ _) | (with_reducible assumption) | (with_reducible refine below_drewN ?_ _) | (with_reducible refine below_new ?_ _) | (with_reducible refine Below.alloc ?_ ?_ _) | (with_reducible refine Below.drew ?_) | (with_reducible refine Below.setCell ?_ ?_ _) | (with_reducible apply below_at; (case k => (with_reducible assumption)); (case hB => omega)) | (with_reducible apply below_on; (with_reducible assumption)) | (go_size; done) | (with_reducible apply size_of)))⟩
set_option maxRecDepth 100000 in
set_option maxHeartbeats 2000000 in
theorem rEnded_any (x1 x2 : Int) (A : Option Addr) (n c : Nat) (zs : List Int) (w : World) (a1 : 0 ≤ x1) (a2 : x1 ≤ 4294967295) (hA : Has .u8 w A zs) (hn : zs.length = n) (hc : n ≤ c) (m : n ≤ 140737488355000) :
    Calls Try.prog 31 #[.agg #[.int .u32 (x1), .int .u32 (x2), .slice (A) (n) (c)]] w fun e w' => ∃ A' c', e = .returned (.slice A' (n + 4) c') ∧ OwnZ w' w.heap.size (.slice A' (n + 4) c') (zs ++ b4 x1) ∧ Below w.heap.size w w' := by
  have HA := Lib.hid hA
  subst hn
  clear hA
  go_enter Try.func31, Try.ntmps31
  go_wp2_with (at_builtin; refine app8z rfl _ _ rfl w.heap.size _ [] rfl (.inr ⟨rfl, _, rfl⟩) A zs.length c zs rfl rfl (HA.out.below (by (repeat' (first | (with_reducible exact Below.refl _ _) | (with_reducible assumption) | (with_reducible refine below_drewN ?_ _) | (with_reducible refine below_new ?_ _) | (with_reducible refine Below.alloc ?_ ?_ _) | (with_reducible refine Below.drew ?_) | (with_reducible refine Below.setCell ?_ ?_ _) | (with_reducible apply below_at; (case k => (with_reducible assumption)); (case hB => omega)) | (with_reducible apply below_on; (with_reducible assumption)) | (go_size; done) | (with_reducible apply size_of)))) (Nat.le_refl _)) zs.length (by simp) (by omega) (by simp; try omega) ?_; intro A3 c3 w3 ho3 hl3 hb3)
  have HL3 : Hid (Lies (w3) (w.heap.size) 25 [.int .u32 (x1), .int .u32 (x2), .slice (A) (zs.length) (c)]) := Lib.hid (by (repeat' (first | (with_reducible assumption) | (with_reducible exact Lies.fresh _ _ _) | (with_reducible apply Lies.fresh_at; (first | (with_reducible rfl) | (simp; done))) | (with_reducible refine Lies.drew ?_) | (with_reducible refine Lies.drewN ?_ _) | (with_reducible refine Lies.alloc ?_ _) | (with_reducible apply Lies.past; case hb => (with_reducible assumption)) | (with_reducible apply Lies.keeps; (case k => (with_reducible assumption)); (case ht => decide)) | (with_reducible apply Lies.store3) | (with_reducible apply Lies.other; case hp => (first | omega | (simp; done) | (simp; omega))))))
  have HW3 : Hid (Below w.heap.size w w3) := Lib.hid (by (repeat' (first | (with_reducible exact Below.refl _ _) | (with_reducible assumption) | (with_reducible refine below_drewN ?_ _) | (with_reducible refine below_new ?_ _) | (with_reducible refine Below.alloc ?_ ?_ _) | (with_reducible refine Below.drew ?_) | (with_reducible refine Below.setCell ?_ ?_ _) | (with_reducible apply below_at; (case k => (with_reducible assumption)); (case hB => omega)) | (with_reducible apply below_on; (with_reducible assumption)) | (go_size; done) | (with_reducible apply size_of))))
  have HO3 : Hid (OwnZ w3 w.heap.size (.slice A3 zs.length c3) zs) := Lib.hid (by simpa using ho3)
  clear ho3 hl3 hb3
  go_loopw [3, 4] (fun o i wr => ∃ (k : Nat) (z : Int) (Ak : Option Addr) (ck : Nat), (k = 0 ∧ z = 24 ∨ k = 1 ∧ z = 16 ∨ k = 2 ∧ z = 8 ∨ k = 3 ∧ z = 0 ∨ k = 4 ∧ z = -8) ∧ i = .int .i64 z ∧ o = .slice Ak (zs.length + k) ck ∧ OwnZ wr w.heap.size (.slice Ak (zs.length + k) ck) (zs ++ (b4 x1).take k) ∧ (Lies (wr) (w.heap.size) 25 [.int .u32 (x1), .int .u32 (x2), .slice (A) (zs.length) (c)]) ∧ Below w.heap.size w wr) (fun _ i _ => (intOf i + 8).toNat)
  case atStart => exact ⟨0, 24, A3, c3, by omega, rfl, rfl, by simpa using HO3.out, HL3.out, HW3.out⟩
  case round =>
    obtain ⟨k, z, Ak, ck, hkz, rfl, rfl, Ok, Lk, Wk⟩ := hrel
    have HO := Lib.hid Ok
    have HL := Lib.hid Lk
    have HW := Lib.hid Wk
    obtain ⟨p0, p1, p2, f0, f1, f2⟩ := Lk.three
    have hbz : w.heap.size ≤ wr.heap.size := Wk.size
    have HN := Lib.hid (b4_next x1 zs)
    clear Ok Lk Wk
    rcases hkz with ⟨rfl, rfl⟩ | ⟨rfl, rfl⟩ | ⟨rfl, rfl⟩ | ⟨rfl, rfl⟩ | ⟨rfl, rfl⟩
    · (go_wp2_with (at_builtin; refine app8z rfl _ _ rfl w.heap.size _ _ rfl (HO.out.alloc _) (some ⟨wr.heap.size, 0, none⟩) 1 1 [_] rfl rfl (has_lit (zs := [_]) rfl (by simp [maxLen])) (zs.length + 1) ?c0 ?c1 ?c2 ?_; (case c0 => simp [b4]); (case c1 => omega); (case c2 => simp; omega); intro A5 c5 w5 ho5 hl5 hb5); (rw [HN.out.1] at ho5); go_roundw; (case rel => exact ⟨1, 16, A5, c5, by omega, rfl, rfl, ho5, hl5 _ _ _ (HL.out.alloc _) (by decide), (HW.out.alloc hbz _).trans hb5⟩); (case measure => simp [intOf]))
    · (go_wp2_with (at_builtin; refine app8z rfl _ _ rfl w.heap.size _ _ rfl (HO.out.alloc _) (some ⟨wr.heap.size, 0, none⟩) 1 1 [_] rfl rfl (has_lit (zs := [_]) rfl (by simp [maxLen])) (zs.length + 2) ?c0 ?c1 ?c2 ?_; (case c0 => simp [b4]); (case c1 => omega); (case c2 => simp; omega); intro A5 c5 w5 ho5 hl5 hb5); (rw [HN.out.2.1] at ho5); go_roundw; (case rel => exact ⟨2, 8, A5, c5, by omega, rfl, rfl, ho5, hl5 _ _ _ (HL.out.alloc _) (by decide), (HW.out.alloc hbz _).trans hb5⟩); (case measure => simp [intOf]))
    · (go_wp2_with (at_builtin; refine app8z rfl _ _ rfl w.heap.size _ _ rfl (HO.out.alloc _) (some ⟨wr.heap.size, 0, none⟩) 1 1 [_] rfl rfl (has_lit (zs := [_]) rfl (by simp [maxLen])) (zs.length + 3) ?c0 ?c1 ?c2 ?_; (case c0 => simp [b4]); (case c1 => omega); (case c2 => simp; omega); intro A5 c5 w5 ho5 hl5 hb5); (rw [HN.out.2.2.1] at ho5); go_roundw; (case rel => exact ⟨3, 0, A5, c5, by omega, rfl, rfl, ho5, hl5 _ _ _ (HL.out.alloc _) (by decide), (HW.out.alloc hbz _).trans hb5⟩); (case measure => simp [intOf]))
    · (go_wp2_with (at_builtin; refine app8z rfl _ _ rfl w.heap.size _ _ rfl (HO.out.alloc _) (some ⟨wr.heap.size, 0, none⟩) 1 1 [_] rfl rfl (has_lit (zs := [_]) rfl (by simp [maxLen])) (zs.length + 4) ?c0 ?c1 ?c2 ?_; (case c0 => simp [b4]); (case c1 => omega); (case c2 => simp; omega); intro A5 c5 w5 ho5 hl5 hb5); (rw [HN.out.2.2.2] at ho5); go_roundw; (case rel => exact ⟨4, -8, A5, c5, by omega, rfl, rfl, ho5, hl5 _ _ _ (HL.out.alloc _) (by decide), (HW.out.alloc hbz _).trans hb5⟩); (case measure => simp [intOf]))
    · go_wp2
      go_ret
      refine ⟨Ak, ck, rfl, ?_, by have := HW.out; (repeat' (first | (with_reducible exact Below.refl _ _) | (with_reducible assumption) | (with_reducible refine below_drewN ?_ _) | (with_reducible refine below_new ?_ _) | (with_reducible refine Below.alloc ?_ ?_ _) | (with_reducible refine Below.drew ?_) | (with_reducible refine Below.setCell ?_ ?_ _) | (with_reducible apply below_at; (case k => (with_reducible assumption)); (case hB => omega)) | (with_reducible apply below_on; (with_reducible assumption)) | (go_size; done) | (with_reducible apply size_of)))⟩
      have := HO.out
      rwa [List.take_of_length_le (by simp [b4])] at this
set_option maxRecDepth 100000 in
set_option maxHeartbeats 2000000 in
theorem rEnd_any (x1 x2 : Int) (A : Option Addr) (n c : Nat) (zs : List Int) (w : World) (a1 : 0 ≤ x1) (a2 : x1 ≤ 4294967295) (b1 : 0 ≤ x2) (b2 : x2 ≤ 4294967295) (hA : Has .u8 w A zs) (hn : zs.length = n) (hc : n ≤ c) (m : n ≤ 140737488355000) :
    Calls Try.prog 14 #[.agg #[.int .u32 (x1), .int .u32 (x2), .slice (A) (n) (c)]] w fun e w' => ∃ A' c', e = .returned (.tuple #[.slice A' (enV x1 x2 zs).length c', .int .i64 (enE x1 x2 n)]) ∧ Has .u8 w' A' (enV x1 x2 zs) ∧ (enV x1 x2 zs).length ≤ c' ∧ Below w.heap.size w w' := by
  have HA := Lib.hid hA
  subst hn
  clear hA
  cases hok : encOk x1 x2 zs.length
  · have E' : ckV x1 x2 zs.length = 8 := by simp [ckV, hok]
    have HE := Lib.hid (enE_bad (x1 := x1) (x2 := x2) hok)
    have HVV := Lib.hid (enV_no (x1 := x1) (x2 := x2) (zs := zs) (by rw [HE.out]; omega))
    clear hok
    go_enter Try.func14, Try.ntmps14
    go_wp2_with fail
    refine (rCheck_any _ _ _ _ _ _ a1 a2 b1 b2 (by omega)).mono ?_
    rintro e w1 ⟨rfl, hb⟩
    obtain ⟨cl1, fr1⟩ := bcell hb; have sz1 := hb.size; (try simp at sz1); (try have sy1 : w.heap.size + 1 < (w1).heap.size := (by omega)); have sx1 : w.heap.size < (w1).heap.size := (by omega)
    go_wp2_with fail
    refine (rCheck_any _ _ _ _ _ _ a1 a2 b1 b2 (by omega)).mono ?_
    rintro e w2 ⟨rfl, hb2⟩
    go_wp2
    go_ret2
    rw [HVV.out, HE.out]
    exact ⟨none, 0, rfl, .inl rfl, by simp, by (repeat' (first | (with_reducible exact Below.refl _ _) | (with_reducible assumption) | (with_reducible refine below_drewN ?_ _) | (with_reducible refine below_new ?_ _) | (with_reducible refine Below.alloc ?_ ?_ _) | (with_reducible refine Below.drew ?_) | (with_reducible refine Below.setCell ?_ ?_ _) | (with_reducible apply below_at; (case k => (with_reducible assumption)); (case hB => omega)) | (with_reducible apply below_on; (with_reducible assumption)) | (go_size; done) | (with_reducible apply size_of)))⟩
  · obtain ⟨q1, q2, q3⟩ := (encOk_iff _ _ _).1 hok
    have E' : ckV x1 x2 zs.length = 0 := by simp [ckV, hok]
    by_cases h4 : 19996 < zs.length
    · have HE := Lib.hid (enE_many (x1 := x1) (x2 := x2) hok h4)
      have HVV := Lib.hid (enV_no (x1 := x1) (x2 := x2) (zs := zs) (by rw [HE.out]; omega))
      clear hok q1
      go_enter Try.func14, Try.ntmps14
      go_wp2_with (first | (go_at_call 19; refine (rCheck_any _ _ _ _ _ _ a1 a2 b1 b2 (by omega)).mono ?_; rintro e w1 ⟨rfl, hb⟩; obtain ⟨cl1, fr1⟩ := bcell hb; have sz1 := hb.size; (try simp at sz1); (try have sy1 : w.heap.size + 1 < (w1).heap.size := (by omega)); have sx1 : w.heap.size < (w1).heap.size := (by omega)))
      go_ret2
      rw [HVV.out, HE.out]
      exact ⟨none, 0, rfl, .inl rfl, by simp, by (repeat' (first | (with_reducible exact Below.refl _ _) | (with_reducible assumption) | (with_reducible refine below_drewN ?_ _) | (with_reducible refine below_new ?_ _) | (with_reducible refine Below.alloc ?_ ?_ _) | (with_reducible refine Below.drew ?_) | (with_reducible refine Below.setCell ?_ ?_ _) | (with_reducible apply below_at; (case k => (with_reducible assumption)); (case hB => omega)) | (with_reducible apply below_on; (with_reducible assumption)) | (go_size; done) | (with_reducible apply size_of)))⟩
    · have HE := Lib.hid (enE_ok (x1 := x1) (x2 := x2) hok (by omega))
      have HVV := Lib.hid (enV_yes (x1 := x1) (x2 := x2) (zs := zs) HE.out)
      clear hok q1
      go_enter Try.func14, Try.ntmps14
      go_wp2_with (first | (go_at_call 19; refine (rCheck_any _ _ _ _ _ _ a1 a2 b1 b2 (by omega)).mono ?_; rintro e w1 ⟨rfl, hb⟩; obtain ⟨cl1, fr1⟩ := bcell hb; have sz1 := hb.size; (try simp at sz1); (try have sy1 : w.heap.size + 1 < (w1).heap.size := (by omega)); have sx1 : w.heap.size < (w1).heap.size := (by omega)))
      refine (rEnded_any x1 x2 A zs.length c zs _ a1 a2 (HA.out.below (by (repeat' (first | (with_reducible exact Below.refl _ _) | (with_reducible assumption) | (with_reducible refine below_drewN ?_ _) | (with_reducible refine below_new ?_ _) | (with_reducible refine Below.alloc ?_ ?_ _) | (with_reducible refine Below.drew ?_) | (with_reducible refine Below.setCell ?_ ?_ _) | (with_reducible apply below_at; (case k => (with_reducible assumption)); (case hB => omega)) | (with_reducible apply below_on; (with_reducible assumption)) | (go_size; done) | (with_reducible apply size_of)))) (Nat.le_refl _)) rfl hc m).mono ?_
      rintro e w3 ⟨A3, c3, rfl, ho3, hb3⟩
      have HH3 := Lib.hid ho3.has
      have HCL : Hid (zs.length + 4 ≤ c3) := Lib.hid (by
        obtain ⟨A5, c5, e5, _, h5⟩ := ho3.val
        injection e5 with _ _ e6
        rw [e6]; simpa [b4] using h5)
      clear ho3
      go_wp2
      go_ret2
      rw [HVV.out, HE.out]
      exact ⟨A3, c3, by simp [b4], HH3.out, by simpa [b4] using HCL.out, by (repeat' (first | (with_reducible exact Below.refl _ _) | (with_reducible assumption) | (with_reducible refine below_drewN ?_ _) | (with_reducible refine below_new ?_ _) | (with_reducible refine Below.alloc ?_ ?_ _) | (with_reducible refine Below.drew ?_) | (with_reducible refine Below.setCell ?_ ?_ _) | (with_reducible apply below_at; (case k => (with_reducible assumption)); (case hB => omega)) | (with_reducible apply below_on; (with_reducible assumption)) | (go_size; done) | (with_reducible apply size_of)))⟩
end Go.Proofs.Ytdnccnaihkajmaa.encW
