/- Bytes of rings by number, by walks. -/
import Derived.Test.YtolpmllpnjnogaaRgW3
namespace Go.Proofs.Ytolpmllpnjnogaa.rgW
open Go.RowKit Go.Proofs.Ytolpmllpnjnogaa.base Go.Proofs.Ytolpmllpnjnogaa.rgP
set_option linter.unusedVariables false
set_option linter.unusedSimpArgs false

theorem ok_parts {r : Rg} {w : World} {A : Option Addr} {n c : Nat} (h : RgIn w A n c r) (hr : rgOk r = true) : 64 ≤ n ∧ n ≤ 8192 ∧ 0 ≤ r.n ∧ r.n ≤ 1073741824 := by
  have hs := (rgOk_iff r).1 hr
  have hz := sz_bd hs.1.1
  have := h.e
  omega
set_option maxHeartbeats 1000000 in
theorem byNumber_any (r : Rg) (A : Option Addr) (n c : Nat) (q : Int) (w : World) (h : RgIn w A n c r) (hn : 64 ≤ n) (hn2 : n ≤ 8192) (q0 : 0 ≤ q) (q1 : q ≤ 9223372036854775807) :
    Calls Try.prog 32 #[.agg #[.int .i64 (r).l, .slice A n c, .int .i64 (r).n], .int .i64 q] w fun e w' => e = .returned (.int .u8 (r.b.getD (q.toNat % n) 0)) ∧ Below w.heap.size w w' := by
  obtain ⟨k, rfl⟩ := Int.eq_ofNat_of_zero_le q0
  obtain ⟨j, hj⟩ : ∃ j, k % n = j := ⟨_, rfl⟩
  have hjn : j < n := by rw [← hj]; exact Nat.mod_lt _ (by omega)
  have ht : Int.tmod (k : Int) (n : Int) = (j : Int) := by rw [← hj]; exact (Int.ofNat_tmod k n).symm
  obtain ⟨b, off, rfl, hb, hc⟩ := has_some h.h (by rw [h.e]; omega)
  have hcell := hc j (by rw [h.e]; exact hjn)
  rw [Int.toNat_natCast, hj]
  have hn3 : ¬ ((n : Int) = 0) := by omega
  have hn4 : ((n : Int) == 0) = false := by simpa using hn3
  have hn5 : (n : Int) ≤ 8192 := by omega
  have hj2 : (j : Int) < n := by omega
  clear h hn hn2 hjn hj hc
  generalize r.b.getD j 0 = x at *
  generalize r.l = l at *
  generalize r.n = m at *
  go_enter Try.func32, Try.ntmps32
  go_wp2_with fail
  go_quiet (fail)
  go_wp2
  go_ret
  exact ⟨rfl, by (repeat' (first | (with_reducible exact Below.refl _ _) | (with_reducible assumption) | (with_reducible refine below_drewN ?_ _) | (with_reducible refine below_new ?_ _) | (with_reducible refine Below.alloc ?_ ?_ _) | (with_reducible refine Below.drew ?_) | (with_reducible refine Below.setCell ?_ ?_ _) | (with_reducible apply below_at; (case k => (with_reducible assumption)); (case hB => omega)) | (with_reducible apply below_on; (with_reducible assumption)) | (go_size; done) | (with_reducible apply size_of)))⟩
theorem byNumber_at (r : Rg) (A : Option Addr) (n c : Nat) (q : Int) (w : World) (h : RgIn w A n c r) (hr : rgOk r = true) (q0 : 0 ≤ q) (q1 : q ≤ 9223372036854775807) (x : Int) (hx : r.b.getD (q.toNat % r.b.length) 0 = x) :
    Calls Try.prog 32 #[.agg #[.int .i64 (r).l, .slice A n c, .int .i64 (r).n], .int .i64 q] w fun e w' => e = .returned (.int .u8 x) ∧ Below w.heap.size w w' := by
  have := ok_parts h hr
  subst hx
  rw [h.e]
  exact byNumber_any r A n c q w h this.1 this.2.1 q0 q1
set_option maxHeartbeats 2000000 in
theorem Back_any (r : Rg) (A : Option Addr) (n c : Nat) (k : Int) (w : World) (h : RgIn w A n c r) (k1 : -9223372036854775808 ≤ k) (k2 : k ≤ 9223372036854775807) :
    Calls Try.prog 11 #[.agg #[.int .i64 (r).l, .slice A n c, .int .i64 (r).n], .int .i64 k] w fun e w' => e = .returned (.tuple #[.int .u8 (backV r k), .int .i64 (backE r k)]) ∧ Below w.heap.size w w' := by
  have H := Lib.hid h
  cases hok : rgOk r
  · have e1 : rgE r = 8 := rgE_no hok
    have HV : Hid (backE r k = 8 ∧ backV r k = 0) := Lib.hid (by have : backE r k = 8 := by rw [backE, if_neg (by rw [hok]; decide)]
                                                                 exact ⟨this, by rw [backV, if_neg (by rw [this]; decide)]⟩)
    clear h hok
    go_enter Try.func11, Try.ntmps11
    go_wp2_with (first | (go_at_call 14; refine (Check_any r A n c _ (H.out.below (by (repeat' (first | (with_reducible exact Below.refl _ _) | (with_reducible assumption) | (with_reducible refine below_drewN ?_ _) | (with_reducible refine below_new ?_ _) | (with_reducible refine Below.alloc ?_ ?_ _) | (with_reducible refine Below.drew ?_) | (with_reducible refine Below.setCell ?_ ?_ _) | (with_reducible apply below_at; (case k => (with_reducible assumption)); (case hB => omega)) | (with_reducible apply below_on; (with_reducible assumption)) | (go_size; done) | (with_reducible apply size_of)))))).mono ?_; rintro e w1 ⟨rfl, hb1⟩; rw [e1]))
    go_ret2
    exact ⟨ret2 HV.out.2.symm HV.out.1.symm, by (repeat' (first | (with_reducible exact Below.refl _ _) | (with_reducible assumption) | (with_reducible refine below_drewN ?_ _) | (with_reducible refine below_new ?_ _) | (with_reducible refine Below.alloc ?_ ?_ _) | (with_reducible refine Below.drew ?_) | (with_reducible refine Below.setCell ?_ ?_ _) | (with_reducible apply below_at; (case k => (with_reducible assumption)); (case hB => omega)) | (with_reducible apply below_on; (with_reducible assumption)) | (go_size; done) | (with_reducible apply size_of)))⟩
  · have e1 : rgE r = 0 := rgE_yes hok
    have HOK := Lib.hid hok
    obtain ⟨a1, a2, a3, a4⟩ := ok_parts h hok
    have he := h.e
    have a5 : (64 : Int) ≤ n := by omega
    have a6 : (n : Int) ≤ 8192 := by omega
    by_cases c1 : 1 ≤ k ∧ k ≤ n
    · have HB0 : Hid (backE r k = 0) := Lib.hid (by rw [backE, if_pos hok, if_pos (by rw [he]; exact c1)])
      have HV0 : Hid (backV r k = ago r k) := Lib.hid (by rw [backV, if_pos HB0.out])
      obtain ⟨b1, b2⟩ := c1
      by_cases c2 : r.n < k
      · have HV : Hid (backV r k = 0) := Lib.hid (by rw [HV0.out, ago, if_pos c2])
        clear h hok a1 a2 he
        go_enter Try.func11, Try.ntmps11
        go_wp2_with (first | (go_at_call 14; refine (Check_any r A n c _ (H.out.below (by (repeat' (first | (with_reducible exact Below.refl _ _) | (with_reducible assumption) | (with_reducible refine below_drewN ?_ _) | (with_reducible refine below_new ?_ _) | (with_reducible refine Below.alloc ?_ ?_ _) | (with_reducible refine Below.drew ?_) | (with_reducible refine Below.setCell ?_ ?_ _) | (with_reducible apply below_at; (case k => (with_reducible assumption)); (case hB => omega)) | (with_reducible apply below_on; (with_reducible assumption)) | (go_size; done) | (with_reducible apply size_of)))))).mono ?_; rintro e w1 ⟨rfl, hb1⟩; rw [e1]; have K1 : Lies (w1) (w.heap.size) 24 [.int .i64 (r).l, .slice (A) (n) (c), .int .i64 (r).n] := (by (repeat' (first | (with_reducible assumption) | (with_reducible exact Lies.fresh _ _ _) | (with_reducible apply Lies.fresh_at; (first | (with_reducible rfl) | (simp; done))) | (with_reducible refine Lies.drew ?_) | (with_reducible refine Lies.drewN ?_ _) | (with_reducible refine Lies.alloc ?_ _) | (with_reducible apply Lies.past; case hb => (with_reducible assumption)) | (with_reducible apply Lies.keeps; (case k => (with_reducible assumption)); (case ht => decide)) | (with_reducible apply Lies.store3) | (with_reducible apply Lies.other; case hp => (first | omega | (simp; done) | (simp; omega)))))); obtain ⟨p0, p1, p2, -, -, -⟩ := K1.three))
        go_ret2
        exact ⟨ret2 HV.out.symm HB0.out.symm, by (repeat' (first | (with_reducible exact Below.refl _ _) | (with_reducible assumption) | (with_reducible refine below_drewN ?_ _) | (with_reducible refine below_new ?_ _) | (with_reducible refine Below.alloc ?_ ?_ _) | (with_reducible refine Below.drew ?_) | (with_reducible refine Below.setCell ?_ ?_ _) | (with_reducible apply below_at; (case k => (with_reducible assumption)); (case hB => omega)) | (with_reducible apply below_on; (with_reducible assumption)) | (go_size; done) | (with_reducible apply size_of)))⟩
      · have HV : Hid (r.b.getD ((r.n - k).toNat % r.b.length) 0 = backV r k) := Lib.hid (by rw [HV0.out, ago, if_neg c2])
        have d1 : 0 ≤ r.n - k := by omega
        have d2 : r.n - k ≤ 9223372036854775807 := by omega
        clear h hok a1 a2 he
        go_enter Try.func11, Try.ntmps11
        go_wp2_with (first | (go_at_call 14; refine (Check_any r A n c _ (H.out.below (by (repeat' (first | (with_reducible exact Below.refl _ _) | (with_reducible assumption) | (with_reducible refine below_drewN ?_ _) | (with_reducible refine below_new ?_ _) | (with_reducible refine Below.alloc ?_ ?_ _) | (with_reducible refine Below.drew ?_) | (with_reducible refine Below.setCell ?_ ?_ _) | (with_reducible apply below_at; (case k => (with_reducible assumption)); (case hB => omega)) | (with_reducible apply below_on; (with_reducible assumption)) | (go_size; done) | (with_reducible apply size_of)))))).mono ?_; rintro e w1 ⟨rfl, hb1⟩; rw [e1]; have K1 : Lies (w1) (w.heap.size) 24 [.int .i64 (r).l, .slice (A) (n) (c), .int .i64 (r).n] := (by (repeat' (first | (with_reducible assumption) | (with_reducible exact Lies.fresh _ _ _) | (with_reducible apply Lies.fresh_at; (first | (with_reducible rfl) | (simp; done))) | (with_reducible refine Lies.drew ?_) | (with_reducible refine Lies.drewN ?_ _) | (with_reducible refine Lies.alloc ?_ _) | (with_reducible apply Lies.past; case hb => (with_reducible assumption)) | (with_reducible apply Lies.keeps; (case k => (with_reducible assumption)); (case ht => decide)) | (with_reducible apply Lies.store3) | (with_reducible apply Lies.other; case hp => (first | omega | (simp; done) | (simp; omega)))))); obtain ⟨p0, p1, p2, -, -, -⟩ := K1.three) | (go_at_call 32; refine (byNumber_at r A n c (r.n - k) _ (H.out.below (by (repeat' (first | (with_reducible exact Below.refl _ _) | (with_reducible assumption) | (with_reducible refine below_drewN ?_ _) | (with_reducible refine below_new ?_ _) | (with_reducible refine Below.alloc ?_ ?_ _) | (with_reducible refine Below.drew ?_) | (with_reducible refine Below.setCell ?_ ?_ _) | (with_reducible apply below_at; (case k => (with_reducible assumption)); (case hB => omega)) | (with_reducible apply below_on; (with_reducible assumption)) | (go_size; done) | (with_reducible apply size_of))))) HOK.out d1 d2 _ HV.out).mono ?_; rintro e w2 ⟨rfl, hb2⟩))
        go_ret2
        exact ⟨ret2 rfl HB0.out.symm, by (repeat' (first | (with_reducible exact Below.refl _ _) | (with_reducible assumption) | (with_reducible refine below_drewN ?_ _) | (with_reducible refine below_new ?_ _) | (with_reducible refine Below.alloc ?_ ?_ _) | (with_reducible refine Below.drew ?_) | (with_reducible refine Below.setCell ?_ ?_ _) | (with_reducible apply below_at; (case k => (with_reducible assumption)); (case hB => omega)) | (with_reducible apply below_on; (with_reducible assumption)) | (go_size; done) | (with_reducible apply size_of)))⟩
    · have HB0 : Hid (backE r k = 2) := Lib.hid (by rw [backE, if_pos hok, if_neg (by rw [he]; exact c1)])
      have HV : Hid (backV r k = 0) := Lib.hid (by rw [backV, if_neg (by rw [HB0.out]; decide)])
      have c3 : k < 1 ∨ (¬ k < 1 ∧ (n : Int) < k) := by omega
      clear h hok a1 a2 he c1
      rcases c3 with c3 | ⟨c3, c4⟩
      all_goals
        go_enter Try.func11, Try.ntmps11
        go_wp2_with (first | (go_at_call 14; refine (Check_any r A n c _ (H.out.below (by (repeat' (first | (with_reducible exact Below.refl _ _) | (with_reducible assumption) | (with_reducible refine below_drewN ?_ _) | (with_reducible refine below_new ?_ _) | (with_reducible refine Below.alloc ?_ ?_ _) | (with_reducible refine Below.drew ?_) | (with_reducible refine Below.setCell ?_ ?_ _) | (with_reducible apply below_at; (case k => (with_reducible assumption)); (case hB => omega)) | (with_reducible apply below_on; (with_reducible assumption)) | (go_size; done) | (with_reducible apply size_of)))))).mono ?_; rintro e w1 ⟨rfl, hb1⟩; rw [e1]; have K1 : Lies (w1) (w.heap.size) 24 [.int .i64 (r).l, .slice (A) (n) (c), .int .i64 (r).n] := (by (repeat' (first | (with_reducible assumption) | (with_reducible exact Lies.fresh _ _ _) | (with_reducible apply Lies.fresh_at; (first | (with_reducible rfl) | (simp; done))) | (with_reducible refine Lies.drew ?_) | (with_reducible refine Lies.drewN ?_ _) | (with_reducible refine Lies.alloc ?_ _) | (with_reducible apply Lies.past; case hb => (with_reducible assumption)) | (with_reducible apply Lies.keeps; (case k => (with_reducible assumption)); (case ht => decide)) | (with_reducible apply Lies.store3) | (with_reducible apply Lies.other; case hp => (first | omega | (simp; done) | (simp; omega)))))); obtain ⟨p0, p1, p2, -, -, -⟩ := K1.three))
        go_ret2
        exact ⟨ret2 HV.out.symm HB0.out.symm, by (repeat' (first | (with_reducible exact Below.refl _ _) | (with_reducible assumption) | (with_reducible refine below_drewN ?_ _) | (with_reducible refine below_new ?_ _) | (with_reducible refine Below.alloc ?_ ?_ _) | (with_reducible refine Below.drew ?_) | (with_reducible refine Below.setCell ?_ ?_ _) | (with_reducible apply below_at; (case k => (with_reducible assumption)); (case hB => omega)) | (with_reducible apply below_on; (with_reducible assumption)) | (go_size; done) | (with_reducible apply size_of)))⟩
end Go.Proofs.Ytolpmllpnjnogaa.rgW
