/- At of rings, and the reference's sizes, by walks. -/
import Derived.Test.YtbdipdnnjbpibaaRgW4
namespace Go.Proofs.Ytbdipdnnjbpibaa.rgW
open Go.RowKit Go.Proofs.Ytbdipdnnjbpibaa.base Go.Proofs.Ytbdipdnnjbpibaa.rgP
set_option linter.unusedVariables false
set_option linter.unusedSimpArgs false

theorem ret3 {k k' : IntKind} {a b c d : Int} {p q : Bool} (h : a = b) (h2 : p = q) (h3 : c = d) :
    Ending.returned (.tuple #[.int k a, .bool p, .int k' c]) = .returned (.tuple #[.int k b, .bool q, .int k' d]) := by rw [h, h2, h3]
set_option maxHeartbeats 2000000 in
theorem At_any (r : Rg) (A : Option Addr) (n c : Nat) (q : Int) (w : World) (h : RgIn w A n c r) (k1 : -9223372036854775808 ≤ q) (k2 : q ≤ 9223372036854775807) :
    Calls Try.prog 31 #[.agg #[.int .i64 (r).l, .slice A n c, .int .i64 (r).n], .int .i64 q] w fun e w' => e = .returned (.tuple #[.int .u8 (atV r q), .bool (atB r q), .int .i64 (atE r q)]) ∧ Below w.heap.size w w' := by
  have H := Lib.hid h
  cases hok : rgOk r
  · have e1 : rgE r = 8 := rgE_no hok
    have HV : Hid (atE r q = 8 ∧ atV r q = 0 ∧ atB r q = false) := Lib.hid (by
      have e : atE r q = 8 := by rw [atE, if_neg (by rw [hok]; decide)]
      exact ⟨e, by rw [atV, if_neg (by rw [e]; decide)], by rw [atB, if_neg (by rw [e]; decide)]⟩)
    clear h hok
    go_enter Try.func31, Try.ntmps31
    go_wp2_with (first | (go_at_call 38; refine (Check_any r A n c _ (H.out.below (by (repeat' (first | (with_reducible exact Below.refl _ _) | (with_reducible assumption) | (with_reducible refine below_drewN ?_ _) | (with_reducible refine below_new ?_ _) | (with_reducible refine Below.alloc ?_ ?_ _) | (with_reducible refine Below.drew ?_) | (with_reducible refine Below.setCell ?_ ?_ _) | (with_reducible apply below_at; (case k => (with_reducible assumption)); (case hB => omega)) | (with_reducible apply below_on; (with_reducible assumption)) | (go_size; done) | (with_reducible apply size_of)))))).mono ?_; rintro e w1 ⟨rfl, hb1⟩; rw [e1]; have K1 : Lies (w1) (w.heap.size) 37 [.int .i64 (r).l, .slice (A) (n) (c), .int .i64 (r).n] := (by (repeat' (first | (with_reducible assumption) | (with_reducible exact Lies.fresh _ _ _) | (with_reducible apply Lies.fresh_at; (first | (with_reducible rfl) | (simp; done))) | (with_reducible refine Lies.drew ?_) | (with_reducible refine Lies.drewN ?_ _) | (with_reducible refine Lies.alloc ?_ _) | (with_reducible apply Lies.past; case hb => (with_reducible assumption)) | (with_reducible apply Lies.keeps; (case k => (with_reducible assumption)); (case ht => decide)) | (with_reducible apply Lies.store3) | (with_reducible apply Lies.other; case hp => (first | omega | (simp; done) | (simp; omega)))))); obtain ⟨p0, p1, p2, -, -, -⟩ := K1.three))
    go_ret3
    exact ⟨ret3 HV.out.2.1.symm HV.out.2.2.symm HV.out.1.symm, by (repeat' (first | (with_reducible exact Below.refl _ _) | (with_reducible assumption) | (with_reducible refine below_drewN ?_ _) | (with_reducible refine below_new ?_ _) | (with_reducible refine Below.alloc ?_ ?_ _) | (with_reducible refine Below.drew ?_) | (with_reducible refine Below.setCell ?_ ?_ _) | (with_reducible apply below_at; (case k => (with_reducible assumption)); (case hB => omega)) | (with_reducible apply below_on; (with_reducible assumption)) | (go_size; done) | (with_reducible apply size_of)))⟩
  · have e1 : rgE r = 0 := rgE_yes hok
    have HOK := Lib.hid hok
    obtain ⟨a1, a2, a3, a4⟩ := ok_parts h hok
    have he := h.e
    have a5 : (64 : Int) ≤ n := by omega
    have a6 : (n : Int) ≤ 8192 := by omega
    by_cases c1 : 0 ≤ q
    · have HE : Hid (atE r q = 0) := Lib.hid (by rw [atE, if_pos hok, if_pos c1])
      by_cases c2 : q < r.n ∧ r.n - q ≤ n
      · have hB : isB r q = true := by unfold isB; rw [he, decide_eq_true c2.1, decide_eq_true c2.2]; rfl
        have HB : Hid (atB r q = true) := Lib.hid (by rw [atB, if_pos HE.out, hB])
        have HV : Hid (r.b.getD (q.toNat % r.b.length) 0 = atV r q) := Lib.hid (by rw [atV, if_pos HE.out, if_pos hB, ago, if_neg (by omega), show r.n - (r.n - q) = q by omega])
        obtain ⟨b1, b2⟩ := c2
        clear h hok a1 a2 he hB
        go_enter Try.func31, Try.ntmps31
        go_wp2_with (first | (go_at_call 38; refine (Check_any r A n c _ (H.out.below (by (repeat' (first | (with_reducible exact Below.refl _ _) | (with_reducible assumption) | (with_reducible refine below_drewN ?_ _) | (with_reducible refine below_new ?_ _) | (with_reducible refine Below.alloc ?_ ?_ _) | (with_reducible refine Below.drew ?_) | (with_reducible refine Below.setCell ?_ ?_ _) | (with_reducible apply below_at; (case k => (with_reducible assumption)); (case hB => omega)) | (with_reducible apply below_on; (with_reducible assumption)) | (go_size; done) | (with_reducible apply size_of)))))).mono ?_; rintro e w1 ⟨rfl, hb1⟩; rw [e1]; have K1 : Lies (w1) (w.heap.size) 37 [.int .i64 (r).l, .slice (A) (n) (c), .int .i64 (r).n] := (by (repeat' (first | (with_reducible assumption) | (with_reducible exact Lies.fresh _ _ _) | (with_reducible apply Lies.fresh_at; (first | (with_reducible rfl) | (simp; done))) | (with_reducible refine Lies.drew ?_) | (with_reducible refine Lies.drewN ?_ _) | (with_reducible refine Lies.alloc ?_ _) | (with_reducible apply Lies.past; case hb => (with_reducible assumption)) | (with_reducible apply Lies.keeps; (case k => (with_reducible assumption)); (case ht => decide)) | (with_reducible apply Lies.store3) | (with_reducible apply Lies.other; case hp => (first | omega | (simp; done) | (simp; omega)))))); obtain ⟨p0, p1, p2, -, -, -⟩ := K1.three) | (go_at_call 46; refine (byNumber_at r A n c q _ (H.out.below (by (repeat' (first | (with_reducible exact Below.refl _ _) | (with_reducible assumption) | (with_reducible refine below_drewN ?_ _) | (with_reducible refine below_new ?_ _) | (with_reducible refine Below.alloc ?_ ?_ _) | (with_reducible refine Below.drew ?_) | (with_reducible refine Below.setCell ?_ ?_ _) | (with_reducible apply below_at; (case k => (with_reducible assumption)); (case hB => omega)) | (with_reducible apply below_on; (with_reducible assumption)) | (go_size; done) | (with_reducible apply size_of))))) HOK.out c1 k2 _ HV.out).mono ?_; rintro e w2 ⟨rfl, hb2⟩))
        go_ret3
        exact ⟨ret3 rfl HB.out.symm HE.out.symm, by (repeat' (first | (with_reducible exact Below.refl _ _) | (with_reducible assumption) | (with_reducible refine below_drewN ?_ _) | (with_reducible refine below_new ?_ _) | (with_reducible refine Below.alloc ?_ ?_ _) | (with_reducible refine Below.drew ?_) | (with_reducible refine Below.setCell ?_ ?_ _) | (with_reducible apply below_at; (case k => (with_reducible assumption)); (case hB => omega)) | (with_reducible apply below_on; (with_reducible assumption)) | (go_size; done) | (with_reducible apply size_of)))⟩
      · have hB : isB r q = false := by
          unfold isB; rw [he]
          cases h1 : decide (q < r.n)
          · rfl
          · cases h2 : decide (r.n - q ≤ (n : Int))
            · rfl
            · exact absurd ⟨of_decide_eq_true h1, of_decide_eq_true h2⟩ c2
        have HB : Hid (atB r q = false ∧ atV r q = 0) := Lib.hid ⟨by rw [atB, if_pos HE.out, hB], by rw [atV, if_pos HE.out, if_neg (by rw [hB]; decide)]⟩
        have c3 : r.n ≤ q ∨ (¬ r.n ≤ q ∧ (n : Int) < r.n - q) := by omega
        clear h hok a1 a2 he hB c2
        rcases c3 with c3 | ⟨c3, c4⟩
        all_goals
          go_enter Try.func31, Try.ntmps31
          go_wp2_with (first | (go_at_call 38; refine (Check_any r A n c _ (H.out.below (by (repeat' (first | (with_reducible exact Below.refl _ _) | (with_reducible assumption) | (with_reducible refine below_drewN ?_ _) | (with_reducible refine below_new ?_ _) | (with_reducible refine Below.alloc ?_ ?_ _) | (with_reducible refine Below.drew ?_) | (with_reducible refine Below.setCell ?_ ?_ _) | (with_reducible apply below_at; (case k => (with_reducible assumption)); (case hB => omega)) | (with_reducible apply below_on; (with_reducible assumption)) | (go_size; done) | (with_reducible apply size_of)))))).mono ?_; rintro e w1 ⟨rfl, hb1⟩; rw [e1]; have K1 : Lies (w1) (w.heap.size) 37 [.int .i64 (r).l, .slice (A) (n) (c), .int .i64 (r).n] := (by (repeat' (first | (with_reducible assumption) | (with_reducible exact Lies.fresh _ _ _) | (with_reducible apply Lies.fresh_at; (first | (with_reducible rfl) | (simp; done))) | (with_reducible refine Lies.drew ?_) | (with_reducible refine Lies.drewN ?_ _) | (with_reducible refine Lies.alloc ?_ _) | (with_reducible apply Lies.past; case hb => (with_reducible assumption)) | (with_reducible apply Lies.keeps; (case k => (with_reducible assumption)); (case ht => decide)) | (with_reducible apply Lies.store3) | (with_reducible apply Lies.other; case hp => (first | omega | (simp; done) | (simp; omega)))))); obtain ⟨p0, p1, p2, -, -, -⟩ := K1.three))
          go_ret3
          exact ⟨ret3 HB.out.2.symm HB.out.1.symm HE.out.symm, by (repeat' (first | (with_reducible exact Below.refl _ _) | (with_reducible assumption) | (with_reducible refine below_drewN ?_ _) | (with_reducible refine below_new ?_ _) | (with_reducible refine Below.alloc ?_ ?_ _) | (with_reducible refine Below.drew ?_) | (with_reducible refine Below.setCell ?_ ?_ _) | (with_reducible apply below_at; (case k => (with_reducible assumption)); (case hB => omega)) | (with_reducible apply below_on; (with_reducible assumption)) | (go_size; done) | (with_reducible apply size_of)))⟩
    · have HV : Hid (atE r q = 2 ∧ atV r q = 0 ∧ atB r q = false) := Lib.hid (by
        have e : atE r q = 2 := by rw [atE, if_pos hok, if_neg c1]
        exact ⟨e, by rw [atV, if_neg (by rw [e]; decide)], by rw [atB, if_neg (by rw [e]; decide)]⟩)
      clear h hok a1 a2 he
      go_enter Try.func31, Try.ntmps31
      go_wp2_with (first | (go_at_call 38; refine (Check_any r A n c _ (H.out.below (by (repeat' (first | (with_reducible exact Below.refl _ _) | (with_reducible assumption) | (with_reducible refine below_drewN ?_ _) | (with_reducible refine below_new ?_ _) | (with_reducible refine Below.alloc ?_ ?_ _) | (with_reducible refine Below.drew ?_) | (with_reducible refine Below.setCell ?_ ?_ _) | (with_reducible apply below_at; (case k => (with_reducible assumption)); (case hB => omega)) | (with_reducible apply below_on; (with_reducible assumption)) | (go_size; done) | (with_reducible apply size_of)))))).mono ?_; rintro e w1 ⟨rfl, hb1⟩; rw [e1]; have K1 : Lies (w1) (w.heap.size) 37 [.int .i64 (r).l, .slice (A) (n) (c), .int .i64 (r).n] := (by (repeat' (first | (with_reducible assumption) | (with_reducible exact Lies.fresh _ _ _) | (with_reducible apply Lies.fresh_at; (first | (with_reducible rfl) | (simp; done))) | (with_reducible refine Lies.drew ?_) | (with_reducible refine Lies.drewN ?_ _) | (with_reducible refine Lies.alloc ?_ _) | (with_reducible apply Lies.past; case hb => (with_reducible assumption)) | (with_reducible apply Lies.keeps; (case k => (with_reducible assumption)); (case ht => decide)) | (with_reducible apply Lies.store3) | (with_reducible apply Lies.other; case hp => (first | omega | (simp; done) | (simp; omega)))))); obtain ⟨p0, p1, p2, -, -, -⟩ := K1.three))
      go_ret3
      exact ⟨ret3 HV.out.2.1.symm HV.out.2.2.symm HV.out.1.symm, by (repeat' (first | (with_reducible exact Below.refl _ _) | (with_reducible assumption) | (with_reducible refine below_drewN ?_ _) | (with_reducible refine below_new ?_ _) | (with_reducible refine Below.alloc ?_ ?_ _) | (with_reducible refine Below.drew ?_) | (with_reducible refine Below.setCell ?_ ?_ _) | (with_reducible apply below_at; (case k => (with_reducible assumption)); (case hB => omega)) | (with_reducible apply below_on; (with_reducible assumption)) | (go_size; done) | (with_reducible apply size_of)))⟩
theorem dbl_bd {n : Nat} (h : n ≤ 7) : 64 ≤ dbl n ∧ dbl n ≤ 8192 := by
  rcases (show n = 0 ∨ n = 1 ∨ n = 2 ∨ n = 3 ∨ n = 4 ∨ n = 5 ∨ n = 6 ∨ n = 7 by omega) with rfl | rfl | rfl | rfl | rfl | rfl | rfl | rfl <;> decide +kernel
set_option maxHeartbeats 1000000 in
theorem rSize_ok (l : Int) (w : World) (h : lvB l = true) : Calls Try.prog 29 #[.int .i64 l] w fun e w' => e = .returned (.int .i64 (szOf l : Int)) ∧ w = w' := by
  have hl := (lvB_iff l).1 h
  obtain ⟨h1, h2⟩ := hl
  have HD := Lib.hid (dbl_sz h1)
  clear h
  go_enter Try.func29, Try.ntmps29
  go_wp2_with fail
  go_loopw [3, 4] (fun m i wr => wr = w ∧ ∃ q : Int, 0 ≤ q ∧ q ≤ l ∧ i = .int .i64 q ∧ m = .int .i64 (dbl q.toNat)) (fun _ i _ => l.toNat - (intOf i).toNat)
  case atStart => exact ⟨rfl, 0, by omega, h1, rfl, by rfl⟩
  case round =>
    obtain ⟨rfl, q, q1, q2, rfl, rfl⟩ := hrel
    have hb := dbl_bd (n := q.toNat) (by omega)
    have HN : Hid (dbl (q + 1).toNat = dbl q.toNat * 2) := Lib.hid (by rw [show (q + 1).toNat = q.toNat + 1 by omega, dbl_next])
    have HQ : Hid (q = l → dbl q.toNat = (szOf l : Int)) := Lib.hid (fun e => by rw [e]; exact HD.out)
    obtain ⟨b1, b2⟩ := hb
    generalize dbl q.toNat = x at *
    by_cases hlt : q < l
    · go_wp2
      go_roundw
      case rel => exact ⟨by trivial, q + 1, by omega, by omega, by first | rfl | go_num, by rw [HN.out]⟩
      case measure => simp [intOf]; omega
    · go_wp2
      go_ret
      exact ⟨ret1 (HQ.out (by omega)), rfl⟩
end Go.Proofs.Ytbdipdnnjbpibaa.rgW
