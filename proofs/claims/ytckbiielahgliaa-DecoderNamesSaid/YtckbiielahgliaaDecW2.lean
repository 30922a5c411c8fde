/- What the decoder's New, Get, Over return, by walks. -/
import Derived.Test.YtckbiielahgliaaDecT
namespace Go.Proofs.Ytckbiielahgliaa.decW
open Go.RowKit Go.Proofs.Ytckbiielahgliaa.base Go.Proofs.Ytckbiielahgliaa.encP Go.Proofs.Ytckbiielahgliaa.encW Go.Proofs.Ytckbiielahgliaa.decP
set_option linter.unusedVariables false
set_option linter.unusedSimpArgs false

theorem ownZ_cap {w : World} {B : Nat} {A : Option Addr} {n c : Nat} {zs : List Int} (h : OwnZ w B (.slice A n c) zs) : c ≤ 9223372036854775807 := by
  rcases h with h | ⟨_, D, h⟩
  · rcases h.2 with ⟨h', _⟩ | ⟨g, cap, cur, h', _, _, _, hcm, _⟩
    · injection h' with _ _ h3; omega
    · injection h' with _ _ h3; unfold maxLen at hcm; omega
  · injection h with _ _ h3; omega
/-- The number of the first bytes. -/
def pv (zs : List Int) : Nat → Int
  | 0 => 0
  | k + 1 => pv zs k * 256 + byt zs k
theorem pv_bd {zs : List Int} (h : InB zs) : 0 ≤ pv zs 0 ∧ pv zs 0 ≤ 0 ∧ 0 ≤ pv zs 1 ∧ pv zs 1 ≤ 255 ∧ 0 ≤ pv zs 2 ∧ pv zs 2 ≤ 65535 ∧ 0 ≤ pv zs 3 ∧ pv zs 3 ≤ 16777215 ∧ 0 ≤ pv zs 4 ∧ pv zs 4 ≤ 4294967295 := by
  have h0 := byt_bd h 0
  have h1 := byt_bd h 1
  have h2 := byt_bd h 2
  have h3 := byt_bd h 3
  simp only [pv]; omega
theorem pv_bd' {zs : List Int} (h : InB zs) {k : Nat} (hk : k < 4) : 0 ≤ pv zs k ∧ pv zs k ≤ 16777215 := by
  obtain ⟨a, b, c, d, e, f, g, i, j, l⟩ := pv_bd h
  rcases (show k = 0 ∨ k = 1 ∨ k = 2 ∨ k = 3 by omega) with rfl | rfl | rfl | rfl <;> omega
theorem pv_win (zs : List Int) : pv zs 4 = win zs 0 := by
  simp only [pv, win]
  rw [show (0 : Nat) + 1 = 1 from rfl, show (0 : Nat) + 2 = 2 from rfl, show (0 : Nat) + 3 = 3 from rfl]
  generalize byt zs 0 = a; generalize byt zs 1 = b; generalize byt zs 2 = c; generalize byt zs 3 = d
  omega
theorem has_off5 {w : World} {g : Nat} {A B B' : Option Addr} {a b c t a' b' c' t' : Int} {n k n' k' : Nat} {zs : List Int} (h : Has .u8 w A zs) (K : Lies (w) (g) 25 [.int .u32 (a), .int .u32 (b), .int .u32 (c), .slice (B) (n) (k), .int .i64 (t)]) :
    Has .u8 (((((w.setCell ⟨g, 0, none⟩ (.int .u32 a')).setCell ⟨g, 1, none⟩ (.int .u32 b')).setCell ⟨g, 2, none⟩ (.int .u32 c')).setCell ⟨g, 3, none⟩ (.slice B' n' k')).setCell ⟨g, 4, none⟩ (.int .i64 t')) A zs := by
  have K1 := K.set 0 (.int .u32 a')
  have K2 := K1.set 1 (.int .u32 b')
  have K3 := K2.set 2 (.int .u32 c')
  have K4 := K3.set 3 (.slice B' n' k')
  exact has_off (has_off (has_off (has_off (has_off h K 0 _) K1 1 _) K2 2 _) K3 3 _) K4 4 _
set_option maxRecDepth 100000 in
set_option maxHeartbeats 2000000 in
theorem New_bad (A : Option Addr) (n c : Nat) (w : World) (h : 20000 < n) (hm : n ≤ 9223372036854775807) :
    Calls Try.prog 9 #[.slice A n c] w fun e w' => e = .returned (.tuple #[.agg #[.int .u32 (0), .int .u32 (0), .int .u32 (0), .slice (none) (0) (0), .int .i64 (0)], .int .i64 4]) ∧ Below w.heap.size w w' := by
  have h' : (20000 : Int) < n := by omega
  go_enter Try.func9, Try.ntmps9
  go_wp2
  refine bodyPost_ret (by simp [results, Try.results9, go_sem, ]; try rfl) rfl ?_
  exact ⟨rfl, by (repeat' (first | (with_reducible exact Below.refl _ _) | (with_reducible assumption) | (with_reducible refine below_drewN ?_ _) | (with_reducible refine below_new ?_ _) | (with_reducible refine Below.alloc ?_ ?_ _) | (with_reducible refine Below.drew ?_) | (with_reducible refine Below.setCell ?_ ?_ _) | (with_reducible apply below_at; (case k => (with_reducible assumption)); (case hB => omega)) | (with_reducible apply below_on; (with_reducible assumption)) | (go_size; done) | (with_reducible apply size_of)))⟩
set_option maxRecDepth 100000 in
set_option maxHeartbeats 2000000 in
theorem New_ok (A : Option Addr) (n c : Nat) (zs : List Int) (w : World) (hA : Has .u8 w A zs) (hn : zs.length = n) (hc : n ≤ c) (hl : n ≤ 20000) (hz : InB zs) :
    Calls Try.prog 9 #[.slice A n c] w fun e w' => ∃ A' c', e = .returned (.tuple #[.agg #[.int .u32 (0), .int .u32 (4294967295), .int .u32 (win zs 0), .slice (A') (n) (c'), .int .i64 (4)], .int .i64 0]) ∧ Has .u8 w' A' zs ∧ n ≤ c' ∧ c' ≤ 9223372036854775807 ∧ Below w.heap.size w w' := by
  have HA := Lib.hid hA
  have HZ := Lib.hid hz
  have HN := Lib.hid hn
  clear hA hz hn
  go_enter Try.func9, Try.ntmps9
  go_wp2_with (first | (go_at_call 27; refine (Clone8 (HA.out.below (by (repeat' (first | (with_reducible exact Below.refl _ _) | (with_reducible assumption) | (with_reducible refine below_drewN ?_ _) | (with_reducible refine below_new ?_ _) | (with_reducible refine Below.alloc ?_ ?_ _) | (with_reducible refine Below.drew ?_) | (with_reducible refine Below.setCell ?_ ?_ _) | (with_reducible apply below_at; (case k => (with_reducible assumption)); (case hB => omega)) | (with_reducible apply below_on; (with_reducible assumption)) | (go_size; done) | (with_reducible apply size_of)))) (Nat.le_refl _)) HN.out hc (by omega)).mono ?_; rintro e w3 ⟨A3, c3, rfl, hh3, ho3, hb3⟩))
  have HK0 := Lib.hid (Lies.fresh w3 25 [.int .u32 0, .int .u32 4294967295, .int .u32 0, .slice A3 n c3, .int .i64 0])
  have HR0 : Hid (Lies (w3.alloc (.cells #[.int .u32 0, .int .u32 4294967295, .int .u32 0, .slice A3 n c3, .int .i64 0] 25)) (w.heap.size) 25 [.int .u32 (0), .int .u32 (0), .int .u32 (0), .slice (none) (0) (0), .int .i64 (0)]) := Lib.hid (by (repeat' (first | (with_reducible assumption) | (with_reducible exact Lies.fresh _ _ _) | (with_reducible apply Lies.fresh_at; (first | (with_reducible rfl) | (simp; done))) | (with_reducible refine Lies.drew ?_) | (with_reducible refine Lies.drewN ?_ _) | (with_reducible refine Lies.alloc ?_ _) | (with_reducible apply Lies.past; case hb => (with_reducible assumption)) | (with_reducible apply Lies.keeps; (case k => (with_reducible assumption)); (case ht => decide)) | (with_reducible apply Lies.store3) | (with_reducible apply Lies.other; case hp => (first | omega | (simp; done) | (simp; omega))))))
  have HH0 := Lib.hid (hh3.below ((Below.refl w3.heap.size w3).alloc (Nat.le_refl _) (.cells #[.int .u32 0, .int .u32 4294967295, .int .u32 0, .slice A3 n c3, .int .i64 0] 25)) (Nat.le_refl _))
  have HC : Hid (n ≤ c3) := Lib.hid (by
    obtain ⟨A5, c5, e5, _, h5⟩ := ho3.val
    injection e5 with _ _ e6
    rw [e6, ← HN.out]; exact h5)
  have HCM := Lib.hid (ownZ_cap ho3)
  have HW0 : Hid (Below w.heap.size w (w3.alloc (.cells #[.int .u32 0, .int .u32 4294967295, .int .u32 0, .slice A3 n c3, .int .i64 0] 25))) := Lib.hid (by (repeat' (first | (with_reducible exact Below.refl _ _) | (with_reducible assumption) | (with_reducible refine below_drewN ?_ _) | (with_reducible refine below_new ?_ _) | (with_reducible refine Below.alloc ?_ ?_ _) | (with_reducible refine Below.drew ?_) | (with_reducible refine Below.setCell ?_ ?_ _) | (with_reducible apply below_at; (case k => (with_reducible assumption)); (case hB => omega)) | (with_reducible apply below_on; (with_reducible assumption)) | (go_size; done) | (with_reducible apply size_of))))
  have hsz : w.heap.size + 1 ≤ w3.heap.size := by have := hb3.size; simpa using this
  clear hh3 ho3 hb3
  go_loopw [12] (fun i wr => ∃ k : Nat, k ≤ 4 ∧ i = .int .i64 k ∧ (Lies (wr) (w3.heap.size) 25 [.int .u32 (0), .int .u32 (4294967295), .int .u32 (pv zs k), .slice (A3) (n) (c3), .int .i64 (k)]) ∧ (Lies (wr) (w.heap.size) 25 [.int .u32 (0), .int .u32 (0), .int .u32 (0), .slice (none) (0) (0), .int .i64 (0)]) ∧ Has .u8 wr A3 zs ∧ Below w.heap.size w wr) (fun i _ => 4 - (intOf i).toNat)
  case atStart => exact ⟨0, by omega, rfl, HK0.out, HR0.out, HH0.out, HW0.out⟩
  case round =>
    obtain ⟨k, hk, rfl, K, R, H, W⟩ := hrel
    have HK := Lib.hid K
    have HR := Lib.hid R
    have HH := Lib.hid H
    have HW := Lib.hid W
    obtain ⟨⟨p0, p1, p2, p3, p4⟩, f0, f1, f2, f3, f4⟩ := five K
    have lt1 := K.lt
    have lt2 := R.lt
    clear K R H W
    by_cases hlt : k < 4
    · obtain ⟨v0, v1⟩ := byt_bd HZ.out k
      obtain ⟨u0, u1⟩ := pv_bd' HZ.out hlt
      have HPV : Hid (pv zs (k + 1) = pv zs k * 256 + byt zs k) := Lib.hid rfl
      have hor := or_byte (pv zs k) (byt zs k) u0 v0 v1
      have HWR : Hid (IntKind.u32.wrap (pv zs k * 256) = pv zs k * 256 % 4294967296) := Lib.hid (by rw [IntKind.wrap_u32])
      have HMD : Hid (pv zs k * 256 % 4294967296 = pv zs k * 256) := Lib.hid (by omega)
      go_upto_region 7 with fail
      go_cut [] (fun wx => (Lies (wx) (w3.heap.size) 25 [.int .u32 (0), .int .u32 (4294967295), .int .u32 (pv zs k * 256 + byt zs k), .slice (A3) (n) (c3), .int .i64 (k)]) ∧ (Lies (wx) (w.heap.size) 25 [.int .u32 (0), .int .u32 (0), .int .u32 (0), .slice (none) (0) (0), .int .i64 (0)]) ∧ Has .u8 wx A3 zs ∧ Below w.heap.size w wx)
      case first =>
        go_region_law (first | (go_simp; go_at_call 28; refine (nextByte_any _ _ (pv zs k) A3 n c3 k zs _ (HH.out.below (by exact (Below.refl _ _).drew) (Nat.le_refl _)) HN.out HC.out HCM.out (by omega) HZ.out).mono ?_; rintro e w4 ⟨rfl, hb4⟩; have HK4 := Lib.hid (Lies.past (HK.out.drew) hb4); obtain ⟨⟨p0, p1, p2, p3, p4⟩, f0, f1, f2, f3, f4⟩ := five HK4.out; have hz4 := HK4.out.lt))
        all_goals
          go_wp2_with fail
          go_meet
          rw [HWR.out, hor, HMD.out]
          exact ⟨HK4.out.set 2 _, (HR.out.drew.past hb4).other (by simp; omega) _, has_off (HH.out.below ((Below.refl _ _).drew.trans hb4) (Nat.le_refl _)) HK4.out 2 _, by have := HW.out; (repeat' (first | (with_reducible exact Below.refl _ _) | (with_reducible assumption) | (with_reducible refine below_drewN ?_ _) | (with_reducible refine below_new ?_ _) | (with_reducible refine Below.alloc ?_ ?_ _) | (with_reducible refine Below.drew ?_) | (with_reducible refine Below.setCell ?_ ?_ _) | (with_reducible apply below_at; (case k => (with_reducible assumption)); (case hB => omega)) | (with_reducible apply below_on; (with_reducible assumption)) | (go_size; done) | (with_reducible apply size_of)))⟩
      case rest =>
        obtain ⟨K5, R5, H5, W5⟩ := hcut
        have HK5 := Lib.hid K5
        have HR5 := Lib.hid R5
        have HH5 := Lib.hid H5
        have HW5 := Lib.hid W5
        clear p0 p1 p2 p3 p4 f0 f1 f2 f3 f4 hor
        obtain ⟨⟨p0, p1, p2, p3, p4⟩, f0, f1, f2, f3, f4⟩ := five K5
        have lt5 := K5.lt
        clear K5 R5 H5 W5
        go_wp2
        go_roundw
        case rel => exact ⟨k + 1, by omega, by go_num, by rw [HPV.out]; exact HK5.out.set 4 _, HR5.out.other (by simp; omega) _, has_off HH5.out HK5.out 4 _, by have := HW5.out; (repeat' (first | (with_reducible exact Below.refl _ _) | (with_reducible assumption) | (with_reducible refine below_drewN ?_ _) | (with_reducible refine below_new ?_ _) | (with_reducible refine Below.alloc ?_ ?_ _) | (with_reducible refine Below.drew ?_) | (with_reducible refine Below.setCell ?_ ?_ _) | (with_reducible apply below_at; (case k => (with_reducible assumption)); (case hB => omega)) | (with_reducible apply below_on; (with_reducible assumption)) | (go_size; done) | (with_reducible apply size_of)))⟩
        case measure => simp [intOf]; omega
    · obtain rfl : k = 4 := by omega
      obtain ⟨⟨r0, r1, r2, r3, r4⟩, g0, g1, g2, g3, g4⟩ := five HR.out
      have HPW := Lib.hid (pv_win zs)
      go_wp2
      have KF := five (store5 HR.out (a' := .int .u32 0) (b' := .int .u32 4294967295) (c' := .int .u32 (pv zs 4)) (d' := .slice A3 n c3) (e' := .int .i64 4))
      obtain ⟨⟨r0, r1, r2, r3, r4⟩, _⟩ := KF
      refine bodyPost_ret (by simp [results, Try.results9, go_sem, r0, r1, r2, r3, r4]; try rfl) rfl ?_
      rw [← HPW.out]
      exact ⟨A3, c3, rfl, has_off5 HH.out HR.out, HC.out, HCM.out, by have := HW.out; (repeat' (first | (with_reducible exact Below.refl _ _) | (with_reducible assumption) | (with_reducible refine below_drewN ?_ _) | (with_reducible refine below_new ?_ _) | (with_reducible refine Below.alloc ?_ ?_ _) | (with_reducible refine Below.drew ?_) | (with_reducible refine Below.setCell ?_ ?_ _) | (with_reducible apply below_at; (case k => (with_reducible assumption)); (case hB => omega)) | (with_reducible apply below_on; (with_reducible assumption)) | (go_size; done) | (with_reducible apply size_of)))⟩
end Go.Proofs.Ytckbiielahgliaa.decW
