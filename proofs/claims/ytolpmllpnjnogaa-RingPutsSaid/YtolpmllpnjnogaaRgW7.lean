/- The reference's looks into rings, by walks. -/
import Derived.Test.YtolpmllpnjnogaaRgW6
namespace Go.Proofs.Ytolpmllpnjnogaa.rgW
open Go.RowKit Go.Proofs.Ytolpmllpnjnogaa.base Go.Proofs.Ytolpmllpnjnogaa.rgP
set_option linter.unusedVariables false
set_option linter.unusedSimpArgs false

set_option maxHeartbeats 1000000 in
theorem rAgo_any (r : Rg) (A : Option Addr) (n c : Nat) (k : Int) (w : World) (h : RgIn w A n c r) (hok : rgOk r = true) (k0 : 0 ≤ k) (k1 : k ≤ 9223372036854775807) :
    Calls Try.prog 35 #[.agg #[.int .i64 (r).l, .slice A n c, .int .i64 (r).n], .int .i64 k] w fun e w' => e = .returned (.int .u8 (ago r k)) ∧ Below w.heap.size w w' := by
  obtain ⟨a1, a2, a3, a4⟩ := ok_parts h hok
  by_cases c1 : r.n < k
  · have HV : Hid (ago r k = 0) := Lib.hid (by rw [ago, if_pos c1])
    clear h hok
    generalize hm : r.n = m at *
    go_enter Try.func35, Try.ntmps35
    go_wp2_with fail
    go_ret
    exact ⟨ret1 HV.out.symm, by (repeat' (first | (with_reducible exact Below.refl _ _) | (with_reducible assumption) | (with_reducible refine below_drewN ?_ _) | (with_reducible refine below_new ?_ _) | (with_reducible refine Below.alloc ?_ ?_ _) | (with_reducible refine Below.drew ?_) | (with_reducible refine Below.setCell ?_ ?_ _) | (with_reducible apply below_at; (case k => (with_reducible assumption)); (case hB => omega)) | (with_reducible apply below_on; (with_reducible assumption)) | (go_size; done) | (with_reducible apply size_of)))⟩
  · obtain ⟨j, hj⟩ : ∃ j : Nat, r.n - k = j := ⟨(r.n - k).toNat, by omega⟩
    have HV : Hid (ago r k = r.b.getD (j % n) 0) := Lib.hid (by rw [ago, if_neg c1, hj, Int.toNat_natCast, h.e])
    obtain ⟨i, hi⟩ : ∃ i, j % n = i := ⟨_, rfl⟩
    have hin : i < n := by rw [← hi]; exact Nat.mod_lt _ (by omega)
    have ht : Int.tmod (r.n - k) (n : Int) = (i : Int) := by rw [hj, ← hi]; exact (Int.ofNat_tmod j n).symm
    obtain ⟨b, off, rfl, hb, hc⟩ := has_some h.h (by rw [h.e]; omega)
    have hcell := hc i (by rw [h.e]; exact hin)
    have hn3 : ¬ ((n : Int) = 0) := by omega
    have hn4 : ((n : Int) == 0) = false := by simpa using hn3
    have hn5 : (n : Int) ≤ 8192 := by omega
    have hi2 : (i : Int) < n := by omega
    have hw : IntKind.i64.wrap (r.n - k) = r.n - k := by rw [IntKind.wrap_i64]; omega
    rw [hi] at HV
    clear h hok a1 a2 hin hi hc hj
    generalize hx : r.b.getD i 0 = x at *
    go_enter Try.func35, Try.ntmps35
    go_wp2_with fail
    go_quiet (fail)
    go_wp2
    go_ret
    exact ⟨ret1 HV.out.symm, by (repeat' (first | (with_reducible exact Below.refl _ _) | (with_reducible assumption) | (with_reducible refine below_drewN ?_ _) | (with_reducible refine below_new ?_ _) | (with_reducible refine Below.alloc ?_ ?_ _) | (with_reducible refine Below.drew ?_) | (with_reducible refine Below.setCell ?_ ?_ _) | (with_reducible apply below_at; (case k => (with_reducible assumption)); (case hB => omega)) | (with_reducible apply below_on; (with_reducible assumption)) | (go_size; done) | (with_reducible apply size_of)))⟩
set_option maxHeartbeats 2000000 in
theorem rBack_any (r : Rg) (A : Option Addr) (n c : Nat) (k : Int) (w : World) (h : RgIn w A n c r) (k1 : -9223372036854775808 ≤ k) (k2 : k ≤ 9223372036854775807) :
    Calls Try.prog 23 #[.agg #[.int .i64 (r).l, .slice A n c, .int .i64 (r).n], .int .i64 k] w fun e w' => e = .returned (.tuple #[.int .u8 (backV r k), .int .i64 (backE r k)]) ∧ Below w.heap.size w w' := by
  have H := Lib.hid h
  cases hok : rgOk r
  · have e1 : rgE r = 8 := rgE_no hok
    have HV : Hid (backE r k = 8 ∧ backV r k = 0) := Lib.hid (by have : backE r k = 8 := by rw [backE, if_neg (by rw [hok]; decide)]
                                                                 exact ⟨this, by rw [backV, if_neg (by rw [this]; decide)]⟩)
    clear h hok
    go_enter Try.func23, Try.ntmps23
    go_wp2_with (first | (go_at_call 21; refine (rCheck_any r A n c _ (H.out.below (by (repeat' (first | (with_reducible exact Below.refl _ _) | (with_reducible assumption) | (with_reducible refine below_drewN ?_ _) | (with_reducible refine below_new ?_ _) | (with_reducible refine Below.alloc ?_ ?_ _) | (with_reducible refine Below.drew ?_) | (with_reducible refine Below.setCell ?_ ?_ _) | (with_reducible apply below_at; (case k => (with_reducible assumption)); (case hB => omega)) | (with_reducible apply below_on; (with_reducible assumption)) | (go_size; done) | (with_reducible apply size_of)))))).mono ?_; rintro e w1 ⟨rfl, hb1⟩; rw [e1]; have K1 : Lies (w1) (w.heap.size) 24 [.int .i64 (r).l, .slice (A) (n) (c), .int .i64 (r).n] := (by (repeat' (first | (with_reducible assumption) | (with_reducible exact Lies.fresh _ _ _) | (with_reducible apply Lies.fresh_at; (first | (with_reducible rfl) | (simp; done))) | (with_reducible refine Lies.drew ?_) | (with_reducible refine Lies.drewN ?_ _) | (with_reducible refine Lies.alloc ?_ _) | (with_reducible apply Lies.past; case hb => (with_reducible assumption)) | (with_reducible apply Lies.keeps; (case k => (with_reducible assumption)); (case ht => decide)) | (with_reducible apply Lies.store3) | (with_reducible apply Lies.other; case hp => (first | omega | (simp; done) | (simp; omega)))))); obtain ⟨p0, p1, p2, -, -, -⟩ := K1.three))
    go_ret2
    exact ⟨ret2 HV.out.2.symm HV.out.1.symm, by (repeat' (first | (with_reducible exact Below.refl _ _) | (with_reducible assumption) | (with_reducible refine below_drewN ?_ _) | (with_reducible refine below_new ?_ _) | (with_reducible refine Below.alloc ?_ ?_ _) | (with_reducible refine Below.drew ?_) | (with_reducible refine Below.setCell ?_ ?_ _) | (with_reducible apply below_at; (case k => (with_reducible assumption)); (case hB => omega)) | (with_reducible apply below_on; (with_reducible assumption)) | (go_size; done) | (with_reducible apply size_of)))⟩
  · have e1 : rgE r = 0 := rgE_yes hok
    have HOK := Lib.hid hok
    obtain ⟨a1, a2, a3, a4⟩ := ok_parts h hok
    have he := h.e
    have a5 : (64 : Int) ≤ n := by omega
    have a6 : (n : Int) ≤ 8192 := by omega
    by_cases c1 : 1 ≤ k ∧ k ≤ n
    · have HB0 : Hid (backE r k = 0) := Lib.hid (by rw [backE, if_pos hok, if_pos (by rw [he]; exact c1)])
      have HV0 : Hid (backV r k = ago r k) := Lib.hid (by rw [backV, if_pos HB0.out])
      obtain ⟨b1, b2⟩ := c1
      clear h hok a1 a2 he
      go_enter Try.func23, Try.ntmps23
      go_wp2_with (first | (go_at_call 21; refine (rCheck_any r A n c _ (H.out.below (by (repeat' (first | (with_reducible exact Below.refl _ _) | (with_reducible assumption) | (with_reducible refine below_drewN ?_ _) | (with_reducible refine below_new ?_ _) | (with_reducible refine Below.alloc ?_ ?_ _) | (with_reducible refine Below.drew ?_) | (with_reducible refine Below.setCell ?_ ?_ _) | (with_reducible apply below_at; (case k => (with_reducible assumption)); (case hB => omega)) | (with_reducible apply below_on; (with_reducible assumption)) | (go_size; done) | (with_reducible apply size_of)))))).mono ?_; rintro e w1 ⟨rfl, hb1⟩; rw [e1]; have K1 : Lies (w1) (w.heap.size) 24 [.int .i64 (r).l, .slice (A) (n) (c), .int .i64 (r).n] := (by (repeat' (first | (with_reducible assumption) | (with_reducible exact Lies.fresh _ _ _) | (with_reducible apply Lies.fresh_at; (first | (with_reducible rfl) | (simp; done))) | (with_reducible refine Lies.drew ?_) | (with_reducible refine Lies.drewN ?_ _) | (with_reducible refine Lies.alloc ?_ _) | (with_reducible apply Lies.past; case hb => (with_reducible assumption)) | (with_reducible apply Lies.keeps; (case k => (with_reducible assumption)); (case ht => decide)) | (with_reducible apply Lies.store3) | (with_reducible apply Lies.other; case hp => (first | omega | (simp; done) | (simp; omega)))))); obtain ⟨p0, p1, p2, -, -, -⟩ := K1.three) | (go_at_call 35; refine (rAgo_any r A n c k _ (H.out.below (by (repeat' (first | (with_reducible exact Below.refl _ _) | (with_reducible assumption) | (with_reducible refine below_drewN ?_ _) | (with_reducible refine below_new ?_ _) | (with_reducible refine Below.alloc ?_ ?_ _) | (with_reducible refine Below.drew ?_) | (with_reducible refine Below.setCell ?_ ?_ _) | (with_reducible apply below_at; (case k => (with_reducible assumption)); (case hB => omega)) | (with_reducible apply below_on; (with_reducible assumption)) | (go_size; done) | (with_reducible apply size_of))))) HOK.out (by omega) k2).mono ?_; rintro e w2 ⟨rfl, hb2⟩))
      go_ret2
      exact ⟨ret2 HV0.out.symm HB0.out.symm, by (repeat' (first | (with_reducible exact Below.refl _ _) | (with_reducible assumption) | (with_reducible refine below_drewN ?_ _) | (with_reducible refine below_new ?_ _) | (with_reducible refine Below.alloc ?_ ?_ _) | (with_reducible refine Below.drew ?_) | (with_reducible refine Below.setCell ?_ ?_ _) | (with_reducible apply below_at; (case k => (with_reducible assumption)); (case hB => omega)) | (with_reducible apply below_on; (with_reducible assumption)) | (go_size; done) | (with_reducible apply size_of)))⟩
    · have HB0 : Hid (backE r k = 2) := Lib.hid (by rw [backE, if_pos hok, if_neg (by rw [he]; exact c1)])
      have HV : Hid (backV r k = 0) := Lib.hid (by rw [backV, if_neg (by rw [HB0.out]; decide)])
      have c3 : k < 1 ∨ (¬ k < 1 ∧ (n : Int) < k) := by omega
      clear h hok a1 a2 he c1
      rcases c3 with c3 | ⟨c3, c4⟩
      all_goals
        go_enter Try.func23, Try.ntmps23
        go_wp2_with (first | (go_at_call 21; refine (rCheck_any r A n c _ (H.out.below (by (repeat' (first | (with_reducible exact Below.refl _ _) | (with_reducible assumption) | (with_reducible refine below_drewN ?_ _) | (with_reducible refine below_new ?_ _) | (with_reducible refine Below.alloc ?_ ?_ _) | (with_reducible refine Below.drew ?_) | (with_reducible refine Below.setCell ?_ ?_ _) | (with_reducible apply below_at; (case k => (with_reducible assumption)); (case hB => omega)) | (with_reducible apply below_on; (with_reducible assumption)) | (go_size; done) | (with_reducible apply size_of)))))).mono ?_; rintro e w1 ⟨rfl, hb1⟩; rw [e1]; have K1 : Lies (w1) (w.heap.size) 24 [.int .i64 (r).l, .slice (A) (n) (c), .int .i64 (r).n] := (by (repeat' (first | (with_reducible assumption) | (with_reducible exact Lies.fresh _ _ _) | (with_reducible apply Lies.fresh_at; (first | (with_reducible rfl) | (simp; done))) | (with_reducible refine Lies.drew ?_) | (with_reducible refine Lies.drewN ?_ _) | (with_reducible refine Lies.alloc ?_ _) | (with_reducible apply Lies.past; case hb => (with_reducible assumption)) | (with_reducible apply Lies.keeps; (case k => (with_reducible assumption)); (case ht => decide)) | (with_reducible apply Lies.store3) | (with_reducible apply Lies.other; case hp => (first | omega | (simp; done) | (simp; omega)))))); obtain ⟨p0, p1, p2, -, -, -⟩ := K1.three))
        go_ret2
        exact ⟨ret2 HV.out.symm HB0.out.symm, by (repeat' (first | (with_reducible exact Below.refl _ _) | (with_reducible assumption) | (with_reducible refine below_drewN ?_ _) | (with_reducible refine below_new ?_ _) | (with_reducible refine Below.alloc ?_ ?_ _) | (with_reducible refine Below.drew ?_) | (with_reducible refine Below.setCell ?_ ?_ _) | (with_reducible apply below_at; (case k => (with_reducible assumption)); (case hB => omega)) | (with_reducible apply below_on; (with_reducible assumption)) | (go_size; done) | (with_reducible apply size_of)))⟩
set_option maxHeartbeats 1000000 in
theorem rThere_any (r : Rg) (A : Option Addr) (n c : Nat) (q : Int) (w : World) (q0 : 0 ≤ q) (q1 : q ≤ 9223372036854775807) (n0 : 0 ≤ r.n) (n1 : r.n ≤ 1073741824) (hn : n ≤ 8192) (he : r.b.length = n) :
    Calls Try.prog 36 #[.agg #[.int .i64 (r).l, .slice A n c, .int .i64 (r).n], .int .i64 q] w fun e w' => e = .returned (.bool (isB r q)) ∧ Below w.heap.size w w' := by
  have HE : Hid (isB r q = (decide (q < r.n) && decide (r.n - q ≤ (n : Int)))) := Lib.hid (by unfold isB; rw [he])
  have hn2 : (n : Int) ≤ 8192 := by omega
  clear he hn
  rw [HE.out]
  generalize r.l = l at *
  generalize r.n = m at *
  by_cases c1 : q < m
  · go_enter Try.func36, Try.ntmps36
    go_wp2
    go_ret
    exact ⟨retb (by simp [c1]), by (repeat' (first | (with_reducible exact Below.refl _ _) | (with_reducible assumption) | (with_reducible refine below_drewN ?_ _) | (with_reducible refine below_new ?_ _) | (with_reducible refine Below.alloc ?_ ?_ _) | (with_reducible refine Below.drew ?_) | (with_reducible refine Below.setCell ?_ ?_ _) | (with_reducible apply below_at; (case k => (with_reducible assumption)); (case hB => omega)) | (with_reducible apply below_on; (with_reducible assumption)) | (go_size; done) | (with_reducible apply size_of)))⟩
  · go_enter Try.func36, Try.ntmps36
    go_wp2
    go_ret
    exact ⟨retb (by simp; intro h; omega), by (repeat' (first | (with_reducible exact Below.refl _ _) | (with_reducible assumption) | (with_reducible refine below_drewN ?_ _) | (with_reducible refine below_new ?_ _) | (with_reducible refine Below.alloc ?_ ?_ _) | (with_reducible refine Below.drew ?_) | (with_reducible refine Below.setCell ?_ ?_ _) | (with_reducible apply below_at; (case k => (with_reducible assumption)); (case hB => omega)) | (with_reducible apply below_on; (with_reducible assumption)) | (go_size; done) | (with_reducible apply size_of)))⟩
set_option maxHeartbeats 2000000 in
theorem rAt_any (r : Rg) (A : Option Addr) (n c : Nat) (q : Int) (w : World) (h : RgIn w A n c r) (k1 : -9223372036854775808 ≤ q) (k2 : q ≤ 9223372036854775807) :
    Calls Try.prog 24 #[.agg #[.int .i64 (r).l, .slice A n c, .int .i64 (r).n], .int .i64 q] w fun e w' => e = .returned (.tuple #[.int .u8 (atV r q), .bool (atB r q), .int .i64 (atE r q)]) ∧ Below w.heap.size w w' := by
  have H := Lib.hid h
  cases hok : rgOk r
  · have e1 : rgE r = 8 := rgE_no hok
    have HV : Hid (atE r q = 8 ∧ atV r q = 0 ∧ atB r q = false) := Lib.hid (by
      have e : atE r q = 8 := by rw [atE, if_neg (by rw [hok]; decide)]
      exact ⟨e, by rw [atV, if_neg (by rw [e]; decide)], by rw [atB, if_neg (by rw [e]; decide)]⟩)
    clear h hok
    go_enter Try.func24, Try.ntmps24
    go_wp2_with (first | (go_at_call 21; refine (rCheck_any r A n c _ (H.out.below (by (repeat' (first | (with_reducible exact Below.refl _ _) | (with_reducible assumption) | (with_reducible refine below_drewN ?_ _) | (with_reducible refine below_new ?_ _) | (with_reducible refine Below.alloc ?_ ?_ _) | (with_reducible refine Below.drew ?_) | (with_reducible refine Below.setCell ?_ ?_ _) | (with_reducible apply below_at; (case k => (with_reducible assumption)); (case hB => omega)) | (with_reducible apply below_on; (with_reducible assumption)) | (go_size; done) | (with_reducible apply size_of)))))).mono ?_; rintro e w1 ⟨rfl, hb1⟩; rw [e1]; have K1 : Lies (w1) (w.heap.size) 24 [.int .i64 (r).l, .slice (A) (n) (c), .int .i64 (r).n] := (by (repeat' (first | (with_reducible assumption) | (with_reducible exact Lies.fresh _ _ _) | (with_reducible apply Lies.fresh_at; (first | (with_reducible rfl) | (simp; done))) | (with_reducible refine Lies.drew ?_) | (with_reducible refine Lies.drewN ?_ _) | (with_reducible refine Lies.alloc ?_ _) | (with_reducible apply Lies.past; case hb => (with_reducible assumption)) | (with_reducible apply Lies.keeps; (case k => (with_reducible assumption)); (case ht => decide)) | (with_reducible apply Lies.store3) | (with_reducible apply Lies.other; case hp => (first | omega | (simp; done) | (simp; omega)))))); obtain ⟨p0, p1, p2, -, -, -⟩ := K1.three))
    go_ret3
    exact ⟨ret3 HV.out.2.1.symm HV.out.2.2.symm HV.out.1.symm, by (repeat' (first | (with_reducible exact Below.refl _ _) | (with_reducible assumption) | (with_reducible refine below_drewN ?_ _) | (with_reducible refine below_new ?_ _) | (with_reducible refine Below.alloc ?_ ?_ _) | (with_reducible refine Below.drew ?_) | (with_reducible refine Below.setCell ?_ ?_ _) | (with_reducible apply below_at; (case k => (with_reducible assumption)); (case hB => omega)) | (with_reducible apply below_on; (with_reducible assumption)) | (go_size; done) | (with_reducible apply size_of)))⟩
  · have e1 : rgE r = 0 := rgE_yes hok
    have HOK := Lib.hid hok
    obtain ⟨a1, a2, a3, a4⟩ := ok_parts h hok
    have HL := Lib.hid (And.intro a2 h.e)
    by_cases c1 : 0 ≤ q
    · have HE : Hid (atE r q = 0) := Lib.hid (by rw [atE, if_pos hok, if_pos c1])
      cases hB : isB r q
      · have HB : Hid (atB r q = false ∧ atV r q = 0) := Lib.hid ⟨by rw [atB, if_pos HE.out, hB], by rw [atV, if_pos HE.out, if_neg (by rw [hB]; decide)]⟩
        clear h hok a1 a2
        go_enter Try.func24, Try.ntmps24
        go_wp2_with (first | (go_at_call 21; refine (rCheck_any r A n c _ (H.out.below (by (repeat' (first | (with_reducible exact Below.refl _ _) | (with_reducible assumption) | (with_reducible refine below_drewN ?_ _) | (with_reducible refine below_new ?_ _) | (with_reducible refine Below.alloc ?_ ?_ _) | (with_reducible refine Below.drew ?_) | (with_reducible refine Below.setCell ?_ ?_ _) | (with_reducible apply below_at; (case k => (with_reducible assumption)); (case hB => omega)) | (with_reducible apply below_on; (with_reducible assumption)) | (go_size; done) | (with_reducible apply size_of)))))).mono ?_; rintro e w1 ⟨rfl, hb1⟩; rw [e1]; have K1 : Lies (w1) (w.heap.size) 24 [.int .i64 (r).l, .slice (A) (n) (c), .int .i64 (r).n] := (by (repeat' (first | (with_reducible assumption) | (with_reducible exact Lies.fresh _ _ _) | (with_reducible apply Lies.fresh_at; (first | (with_reducible rfl) | (simp; done))) | (with_reducible refine Lies.drew ?_) | (with_reducible refine Lies.drewN ?_ _) | (with_reducible refine Lies.alloc ?_ _) | (with_reducible apply Lies.past; case hb => (with_reducible assumption)) | (with_reducible apply Lies.keeps; (case k => (with_reducible assumption)); (case ht => decide)) | (with_reducible apply Lies.store3) | (with_reducible apply Lies.other; case hp => (first | omega | (simp; done) | (simp; omega)))))); obtain ⟨p0, p1, p2, -, -, -⟩ := K1.three) | (go_at_call 36; refine (rThere_any r A n c q _ c1 k2 a3 a4 HL.out.1 HL.out.2).mono ?_; rintro e w2 ⟨rfl, hb2⟩; rw [hB]))
        go_ret3
        exact ⟨ret3 HB.out.2.symm HB.out.1.symm HE.out.symm, by (repeat' (first | (with_reducible exact Below.refl _ _) | (with_reducible assumption) | (with_reducible refine below_drewN ?_ _) | (with_reducible refine below_new ?_ _) | (with_reducible refine Below.alloc ?_ ?_ _) | (with_reducible refine Below.drew ?_) | (with_reducible refine Below.setCell ?_ ?_ _) | (with_reducible apply below_at; (case k => (with_reducible assumption)); (case hB => omega)) | (with_reducible apply below_on; (with_reducible assumption)) | (go_size; done) | (with_reducible apply size_of)))⟩
      · have HB : Hid (atB r q = true) := Lib.hid (by rw [atB, if_pos HE.out, hB])
        have HV : Hid (atV r q = ago r (r.n - q)) := Lib.hid (by rw [atV, if_pos HE.out, if_pos hB])
        have hlt : q < r.n := by unfold isB at hB; simp at hB; exact hB.1
        have d1 : 0 ≤ r.n - q := by omega
        have d2 : r.n - q ≤ 9223372036854775807 := by omega
        clear h hok a1 a2
        go_enter Try.func24, Try.ntmps24
        go_wp2_with (first | (go_at_call 21; refine (rCheck_any r A n c _ (H.out.below (by (repeat' (first | (with_reducible exact Below.refl _ _) | (with_reducible assumption) | (with_reducible refine below_drewN ?_ _) | (with_reducible refine below_new ?_ _) | (with_reducible refine Below.alloc ?_ ?_ _) | (with_reducible refine Below.drew ?_) | (with_reducible refine Below.setCell ?_ ?_ _) | (with_reducible apply below_at; (case k => (with_reducible assumption)); (case hB => omega)) | (with_reducible apply below_on; (with_reducible assumption)) | (go_size; done) | (with_reducible apply size_of)))))).mono ?_; rintro e w1 ⟨rfl, hb1⟩; rw [e1]; have K1 : Lies (w1) (w.heap.size) 24 [.int .i64 (r).l, .slice (A) (n) (c), .int .i64 (r).n] := (by (repeat' (first | (with_reducible assumption) | (with_reducible exact Lies.fresh _ _ _) | (with_reducible apply Lies.fresh_at; (first | (with_reducible rfl) | (simp; done))) | (with_reducible refine Lies.drew ?_) | (with_reducible refine Lies.drewN ?_ _) | (with_reducible refine Lies.alloc ?_ _) | (with_reducible apply Lies.past; case hb => (with_reducible assumption)) | (with_reducible apply Lies.keeps; (case k => (with_reducible assumption)); (case ht => decide)) | (with_reducible apply Lies.store3) | (with_reducible apply Lies.other; case hp => (first | omega | (simp; done) | (simp; omega)))))); obtain ⟨p0, p1, p2, -, -, -⟩ := K1.three) | (go_at_call 36; refine (rThere_any r A n c q _ c1 k2 a3 a4 HL.out.1 HL.out.2).mono ?_; rintro e w2 ⟨rfl, hb2⟩; rw [hB]; have K2 := K1.past hb2; obtain ⟨p0, p1, p2, -, -, -⟩ := K2.three) | (go_at_call 35; refine (rAgo_any r A n c (r.n - q) _ (H.out.below (by (repeat' (first | (with_reducible exact Below.refl _ _) | (with_reducible assumption) | (with_reducible refine below_drewN ?_ _) | (with_reducible refine below_new ?_ _) | (with_reducible refine Below.alloc ?_ ?_ _) | (with_reducible refine Below.drew ?_) | (with_reducible refine Below.setCell ?_ ?_ _) | (with_reducible apply below_at; (case k => (with_reducible assumption)); (case hB => omega)) | (with_reducible apply below_on; (with_reducible assumption)) | (go_size; done) | (with_reducible apply size_of))))) HOK.out d1 d2).mono ?_; rintro e w3 ⟨rfl, hb3⟩))
        go_ret3
        exact ⟨ret3 HV.out.symm HB.out.symm HE.out.symm, by (repeat' (first | (with_reducible exact Below.refl _ _) | (with_reducible assumption) | (with_reducible refine below_drewN ?_ _) | (with_reducible refine below_new ?_ _) | (with_reducible refine Below.alloc ?_ ?_ _) | (with_reducible refine Below.drew ?_) | (with_reducible refine Below.setCell ?_ ?_ _) | (with_reducible apply below_at; (case k => (with_reducible assumption)); (case hB => omega)) | (with_reducible apply below_on; (with_reducible assumption)) | (go_size; done) | (with_reducible apply size_of)))⟩
    · have HV : Hid (atE r q = 2 ∧ atV r q = 0 ∧ atB r q = false) := Lib.hid (by
        have e : atE r q = 2 := by rw [atE, if_pos hok, if_neg c1]
        exact ⟨e, by rw [atV, if_neg (by rw [e]; decide)], by rw [atB, if_neg (by rw [e]; decide)]⟩)
      clear h hok a1 a2
      go_enter Try.func24, Try.ntmps24
      go_wp2_with (first | (go_at_call 21; refine (rCheck_any r A n c _ (H.out.below (by (repeat' (first | (with_reducible exact Below.refl _ _) | (with_reducible assumption) | (with_reducible refine below_drewN ?_ _) | (with_reducible refine below_new ?_ _) | (with_reducible refine Below.alloc ?_ ?_ _) | (with_reducible refine Below.drew ?_) | (with_reducible refine Below.setCell ?_ ?_ _) | (with_reducible apply below_at; (case k => (with_reducible assumption)); (case hB => omega)) | (with_reducible apply below_on; (with_reducible assumption)) | (go_size; done) | (with_reducible apply size_of)))))).mono ?_; rintro e w1 ⟨rfl, hb1⟩; rw [e1]; have K1 : Lies (w1) (w.heap.size) 24 [.int .i64 (r).l, .slice (A) (n) (c), .int .i64 (r).n] := (by (repeat' (first | (with_reducible assumption) | (with_reducible exact Lies.fresh _ _ _) | (with_reducible apply Lies.fresh_at; (first | (with_reducible rfl) | (simp; done))) | (with_reducible refine Lies.drew ?_) | (with_reducible refine Lies.drewN ?_ _) | (with_reducible refine Lies.alloc ?_ _) | (with_reducible apply Lies.past; case hb => (with_reducible assumption)) | (with_reducible apply Lies.keeps; (case k => (with_reducible assumption)); (case ht => decide)) | (with_reducible apply Lies.store3) | (with_reducible apply Lies.other; case hp => (first | omega | (simp; done) | (simp; omega)))))); obtain ⟨p0, p1, p2, -, -, -⟩ := K1.three))
      go_ret3
      exact ⟨ret3 HV.out.2.1.symm HV.out.2.2.symm HV.out.1.symm, by (repeat' (first | (with_reducible exact Below.refl _ _) | (with_reducible assumption) | (with_reducible refine below_drewN ?_ _) | (with_reducible refine below_new ?_ _) | (with_reducible refine Below.alloc ?_ ?_ _) | (with_reducible refine Below.drew ?_) | (with_reducible refine Below.setCell ?_ ?_ _) | (with_reducible apply below_at; (case k => (with_reducible assumption)); (case hB => omega)) | (with_reducible apply below_on; (with_reducible assumption)) | (go_size; done) | (with_reducible apply size_of)))⟩
end Go.Proofs.Ytolpmllpnjnogaa.rgW
