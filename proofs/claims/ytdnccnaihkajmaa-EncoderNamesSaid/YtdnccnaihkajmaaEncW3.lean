/- What End returns, and the reference's Did, Put, Ended and End, by walks. -/
import Derived.Test.YtdnccnaihkajmaaEncW2
namespace Go.Proofs.Ytdnccnaihkajmaa.encW
open Go.RowKit Go.Proofs.Ytdnccnaihkajmaa.base Go.Proofs.Ytdnccnaihkajmaa.encP
set_option linter.unusedVariables false
set_option linter.unusedSimpArgs false

theorem enE_bad {x1 x2 : Int} {n : Nat} (h : encOk x1 x2 n = false) : enE x1 x2 n = 8 := by simp [enE, h]
theorem enE_many {x1 x2 : Int} {n : Nat} (h : encOk x1 x2 n = true) (h2 : 19996 < n) : enE x1 x2 n = 4 := by rw [enE, if_pos h, if_neg (by omega)]
theorem enE_ok {x1 x2 : Int} {n : Nat} (h : encOk x1 x2 n = true) (h2 : n ≤ 19996) : enE x1 x2 n = 0 := by rw [enE, if_pos h, if_pos h2]
theorem enV_no {x1 x2 : Int} {zs : List Int} (h : enE x1 x2 zs.length ≠ 0) : enV x1 x2 zs = [] := by rw [enV, if_neg h]
theorem enV_yes {x1 x2 : Int} {zs : List Int} (h : enE x1 x2 zs.length = 0) : enV x1 x2 zs = zs ++ b4 x1 := by rw [enV, if_pos h]
theorem b4_next (x : Int) (zs : List Int) : zs ++ (b4 x).take 0 ++ [x / 16777216] = zs ++ (b4 x).take 1 ∧ zs ++ (b4 x).take 1 ++ [x / 65536 % 256] = zs ++ (b4 x).take 2 ∧ zs ++ (b4 x).take 2 ++ [x / 256 % 256] = zs ++ (b4 x).take 3 ∧ zs ++ (b4 x).take 3 ++ [x % 256] = zs ++ (b4 x).take 4 := by simp [b4]
set_option maxRecDepth 100000 in
set_option maxHeartbeats 2000000 in
theorem End_any (x1 x2 : Int) (A : Option Addr) (n c : Nat) (zs : List Int) (w : World) (a1 : 0 ≤ x1) (a2 : x1 ≤ 4294967295) (b1 : 0 ≤ x2) (b2 : x2 ≤ 4294967295) (hA : Has .u8 w A zs) (hn : zs.length = n) (hc : n ≤ c) (m : n ≤ 140737488355328) :
    Calls Try.prog 13 #[.agg #[.int .u32 (x1), .int .u32 (x2), .slice (A) (n) (c)]] w fun e w' => ∃ A' c', e = .returned (.tuple #[.slice A' (enV x1 x2 zs).length c', .int .i64 (enE x1 x2 n)]) ∧ Has .u8 w' A' (enV x1 x2 zs) ∧ (enV x1 x2 zs).length ≤ c' ∧ Below w.heap.size w w' := by
  have HA := Lib.hid hA
  subst hn
  clear hA
  cases hok : encOk x1 x2 zs.length
  · have E' : ckV x1 x2 zs.length = 8 := by simp [ckV, hok]
    have HE := Lib.hid (enE_bad (x1 := x1) (x2 := x2) hok)
    have HVV := Lib.hid (enV_no (x1 := x1) (x2 := x2) (zs := zs) (by rw [HE.out]; omega))
    clear hok
    go_enter Try.func13, Try.ntmps13
    go_wp2_with (first | (go_at_call 18; refine (Check_any _ _ _ _ _ _ a1 a2 b1 b2 (by omega)).mono ?_; rintro e w1 ⟨rfl, hb⟩; obtain ⟨cl1, fr1⟩ := bcell hb; have sz1 := hb.size; (try simp at sz1); (try have sy1 : w.heap.size + 1 < (w1).heap.size := (by omega)); have sx1 : w.heap.size < (w1).heap.size := (by omega)))
    go_ret2
    rw [HVV.out, HE.out]
    exact ⟨none, 0, rfl, .inl rfl, by simp, by (repeat' (first | (with_reducible exact Below.refl _ _) | (with_reducible assumption) | (with_reducible refine below_drewN ?_ _) | (with_reducible refine below_new ?_ _) | (with_reducible refine Below.alloc ?_ ?_ _) | (with_reducible refine Below.drew ?_) | (with_reducible refine Below.setCell ?_ ?_ _) | (with_reducible apply below_at; (case k => (with_reducible assumption)); (case hB => omega)) | (with_reducible apply below_on; (with_reducible assumption)) | (go_size; done) | (with_reducible apply size_of)))⟩
  · obtain ⟨q1, q2, q3⟩ := (encOk_iff _ _ _).1 hok
    have E' : ckV x1 x2 zs.length = 0 := by simp [ckV, hok]
    by_cases h4 : 19996 < zs.length
    · have HE := Lib.hid (enE_many (x1 := x1) (x2 := x2) hok h4)
      have HVV := Lib.hid (enV_no (x1 := x1) (x2 := x2) (zs := zs) (by rw [HE.out]; omega))
      clear hok q1
      go_enter Try.func13, Try.ntmps13
      go_wp2_with (first | (go_at_call 18; refine (Check_any _ _ _ _ _ _ a1 a2 b1 b2 (by omega)).mono ?_; rintro e w1 ⟨rfl, hb⟩; obtain ⟨cl1, fr1⟩ := bcell hb; have sz1 := hb.size; (try simp at sz1); (try have sy1 : w.heap.size + 1 < (w1).heap.size := (by omega)); have sx1 : w.heap.size < (w1).heap.size := (by omega)))
      go_ret2
      rw [HVV.out, HE.out]
      exact ⟨none, 0, rfl, .inl rfl, by simp, by (repeat' (first | (with_reducible exact Below.refl _ _) | (with_reducible assumption) | (with_reducible refine below_drewN ?_ _) | (with_reducible refine below_new ?_ _) | (with_reducible refine Below.alloc ?_ ?_ _) | (with_reducible refine Below.drew ?_) | (with_reducible refine Below.setCell ?_ ?_ _) | (with_reducible apply below_at; (case k => (with_reducible assumption)); (case hB => omega)) | (with_reducible apply below_on; (with_reducible assumption)) | (go_size; done) | (with_reducible apply size_of)))⟩
    · have HE := Lib.hid (enE_ok (x1 := x1) (x2 := x2) hok (by omega))
      have HVV := Lib.hid (enV_yes (x1 := x1) (x2 := x2) (zs := zs) HE.out)
      clear hok q1
      go_enter Try.func13, Try.ntmps13
      go_wp2_with (first | (go_at_call 18; refine (Check_any _ _ _ _ _ _ a1 a2 b1 b2 (by omega)).mono ?_; rintro e w1 ⟨rfl, hb⟩; have L1 : Lies (w1) (w.heap.size) 25 [.int .u32 (x1), .int .u32 (x2), .slice (A) (zs.length) (c)] := (by (repeat' (first | (with_reducible assumption) | (with_reducible exact Lies.fresh _ _ _) | (with_reducible apply Lies.fresh_at; (first | (with_reducible rfl) | (simp; done))) | (with_reducible refine Lies.drew ?_) | (with_reducible refine Lies.drewN ?_ _) | (with_reducible refine Lies.alloc ?_ _) | (with_reducible apply Lies.past; case hb => (with_reducible assumption)) | (with_reducible apply Lies.keeps; (case k => (with_reducible assumption)); (case ht => decide)) | (with_reducible apply Lies.store3) | (with_reducible apply Lies.other; case hp => (first | omega | (simp; done) | (simp; omega)))))); have W1 : Below w.heap.size w w1 := (by (repeat' (first | (with_reducible exact Below.refl _ _) | (with_reducible assumption) | (with_reducible refine below_drewN ?_ _) | (with_reducible refine below_new ?_ _) | (with_reducible refine Below.alloc ?_ ?_ _) | (with_reducible refine Below.drew ?_) | (with_reducible refine Below.setCell ?_ ?_ _) | (with_reducible apply below_at; (case k => (with_reducible assumption)); (case hB => omega)) | (with_reducible apply below_on; (with_reducible assumption)) | (go_size; done) | (with_reducible apply size_of)))); have HL1 := Lib.hid L1; have HW1 := Lib.hid W1; obtain ⟨p0, p1, p2, f0, f1, f2⟩ := L1.three; clear hb L1 W1) | (go_at_call 28; refine (Clone8 (HA.out.below HW1.out (Nat.le_refl _)) rfl hc m).mono ?_; rintro e w3 ⟨A3, c3, rfl, hh3, ho3, hb3⟩))
      have HL3 := Lib.hid (HL1.out.past hb3)
      have HW3 := Lib.hid (HW1.out.trans (hb3.mono HW1.out.size))
      have HO3 := Lib.hid (ho3.mono HW1.out.size)
      clear hh3 ho3 hb3 p0 p1 p2 f0 f1 f2 E'
      go_loopw [5, 19] (fun o i wr => ∃ (k : Nat) (Ak : Option Addr) (ck : Nat), k ≤ 4 ∧ i = .int .i64 k ∧ o = .slice Ak (zs.length + k) ck ∧ OwnZ wr w.heap.size (.slice Ak (zs.length + k) ck) (zs ++ (b4 x1).take k) ∧ (Lies (wr) (w.heap.size) 25 [.int .u32 (x1), .int .u32 (x2), .slice (A) (zs.length) (c)]) ∧ Below w.heap.size w wr) (fun _ i _ => 4 - (intOf i).toNat)
      case atStart => exact ⟨0, A3, c3, by omega, rfl, rfl, by simpa using HO3.out, HL3.out, HW3.out⟩
      case round =>
        obtain ⟨k, Ak, ck, hk, rfl, rfl, Ok, Lk, Wk⟩ := hrel
        have HO := Lib.hid Ok
        have HL := Lib.hid Lk
        have HW := Lib.hid Wk
        obtain ⟨p0, p1, p2, f0, f1, f2⟩ := Lk.three
        have hbz : w.heap.size ≤ wr.heap.size := Wk.size
        clear Ok Lk Wk
        by_cases hlt : k < 4
        · have HN := Lib.hid (b4_next x1 zs)
          rcases (show k = 0 ∨ k = 1 ∨ k = 2 ∨ k = 3 by omega) with rfl | rfl | rfl | rfl
          · (go_wp2_with (at_builtin; refine app8z rfl _ _ rfl w.heap.size _ _ rfl (HO.out.alloc _) (some ⟨wr.heap.size, 0, none⟩) 1 1 [_] rfl rfl (has_lit (zs := [_]) rfl (by simp [maxLen])) (zs.length + 1) ?c0 ?c1 ?c2 ?_; (case c0 => simp [b4]); (case c1 => omega); (case c2 => simp; omega); intro A5 c5 w5 ho5 hl5 hb5); (rw [HN.out.1] at ho5); go_roundw; (case rel => exact ⟨1, A5, c5, by omega, rfl, rfl, ho5, hl5 _ _ _ (HL.out.alloc _) (by decide), (HW.out.alloc hbz _).trans hb5⟩); (case measure => simp [intOf]))
          · (go_wp2_with (at_builtin; refine app8z rfl _ _ rfl w.heap.size _ _ rfl (HO.out.alloc _) (some ⟨wr.heap.size, 0, none⟩) 1 1 [_] rfl rfl (has_lit (zs := [_]) rfl (by simp [maxLen])) (zs.length + 2) ?c0 ?c1 ?c2 ?_; (case c0 => simp [b4]); (case c1 => omega); (case c2 => simp; omega); intro A5 c5 w5 ho5 hl5 hb5); (rw [HN.out.2.1] at ho5); go_roundw; (case rel => exact ⟨2, A5, c5, by omega, rfl, rfl, ho5, hl5 _ _ _ (HL.out.alloc _) (by decide), (HW.out.alloc hbz _).trans hb5⟩); (case measure => simp [intOf]))
          · (go_wp2_with (at_builtin; refine app8z rfl _ _ rfl w.heap.size _ _ rfl (HO.out.alloc _) (some ⟨wr.heap.size, 0, none⟩) 1 1 [_] rfl rfl (has_lit (zs := [_]) rfl (by simp [maxLen])) (zs.length + 3) ?c0 ?c1 ?c2 ?_; (case c0 => simp [b4]); (case c1 => omega); (case c2 => simp; omega); intro A5 c5 w5 ho5 hl5 hb5); (rw [HN.out.2.2.1] at ho5); go_roundw; (case rel => exact ⟨3, A5, c5, by omega, rfl, rfl, ho5, hl5 _ _ _ (HL.out.alloc _) (by decide), (HW.out.alloc hbz _).trans hb5⟩); (case measure => simp [intOf]))
          · (go_wp2_with (at_builtin; refine app8z rfl _ _ rfl w.heap.size _ _ rfl (HO.out.alloc _) (some ⟨wr.heap.size, 0, none⟩) 1 1 [_] rfl rfl (has_lit (zs := [_]) rfl (by simp [maxLen])) (zs.length + 4) ?c0 ?c1 ?c2 ?_; (case c0 => simp [b4]); (case c1 => omega); (case c2 => simp; omega); intro A5 c5 w5 ho5 hl5 hb5); (rw [HN.out.2.2.2] at ho5); go_roundw; (case rel => exact ⟨4, A5, c5, by omega, rfl, rfl, ho5, hl5 _ _ _ (HL.out.alloc _) (by decide), (HW.out.alloc hbz _).trans hb5⟩); (case measure => simp [intOf]))
        · have h4 : k = 4 := by omega
          subst h4
          go_wp2
          go_ret2
          rw [HVV.out, HE.out]
          refine ⟨Ak, ck, by simp [b4], ?_, ?_, by have := HW.out; (repeat' (first | (with_reducible exact Below.refl _ _) | (with_reducible assumption) | (with_reducible refine below_drewN ?_ _) | (with_reducible refine below_new ?_ _) | (with_reducible refine Below.alloc ?_ ?_ _) | (with_reducible refine Below.drew ?_) | (with_reducible refine Below.setCell ?_ ?_ _) | (with_reducible apply below_at; (case k => (with_reducible assumption)); (case hB => omega)) | (with_reducible apply below_on; (with_reducible assumption)) | (go_size; done) | (with_reducible apply size_of)))⟩
          · have := HO.out.has
            rwa [List.take_of_length_le (by simp [b4])] at this
          · obtain ⟨A5, c5, e5, _, h5⟩ := HO.out.val
            injection e5 with _ _ e6
            rw [e6]; simpa [b4] using h5
end Go.Proofs.Ytdnccnaihkajmaa.encW
