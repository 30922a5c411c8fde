/- RingLooks, by a walk. -/
import Derived.Test.YtolpmllpnjnogaaRgW11
import Derived.BigQuiet
namespace Go.Proofs.Ytolpmllpnjnogaa.rgL
open Go.RowKit Go.Proofs.Ytolpmllpnjnogaa.base Go.Proofs.Ytolpmllpnjnogaa.rgP Go.Proofs.Ytolpmllpnjnogaa.rgW
set_option linter.unusedVariables false
set_option linter.unusedSimpArgs false

set_option maxHeartbeats 4000000 in
theorem looks (A : Option Addr) (n c : Nat) (r : Rg) (k q : Int) (w : World) (h : RgIn w A n c r) (k1 : -9223372036854775808 ≤ k) (k2 : k ≤ 9223372036854775807) (q1 : -9223372036854775808 ≤ q) (q2 : q ≤ 9223372036854775807) :
    Calls Try.prog 5 #[.agg #[.int .i64 (r).l, .slice A n c, .int .i64 (r).n], .int .i64 k, .int .i64 q] w fun e w' => e = .returned (.bool true) ∧ Below w.heap.size w w' := by
  have H := Lib.hid h
  have m1 : n ≤ 9223372036854775807 := by have := h.c1; have := h.c2; omega
  by_cases hg : 8300 < n
  · have HG := Lib.hid (decide_eq_true hg)
    clear h hg
    go_enter Try.func5, Try.ntmps5
    go_wp2_with fail
    refine (great_any r A n c _ m1).mono ?_
    rintro e w1 ⟨rfl, hb1⟩
    rw [HG.out]
    go_wp2_with fail
    go_ret
    exact ⟨rfl, by (repeat' (first | (with_reducible exact Below.refl _ _) | (with_reducible assumption) | (with_reducible refine below_drewN ?_ _) | (with_reducible refine below_new ?_ _) | (with_reducible refine Below.alloc ?_ ?_ _) | (with_reducible refine Below.drew ?_) | (with_reducible refine Below.setCell ?_ ?_ _) | (with_reducible apply below_at; (case k => (with_reducible assumption)); (case hB => omega)) | (with_reducible apply below_on; (with_reducible assumption)) | (go_size; done) | (with_reducible apply size_of)))⟩
  · have HG := Lib.hid (decide_eq_false hg)
    clear h hg
    have HM := Lib.hid m1
    clear m1
    go_enter Try.func5, Try.ntmps5
    go_wp2_with fail
    refine (great_any r A n c _ HM.out).mono ?_
    rintro e w1 ⟨rfl, hb1⟩
    rw [HG.out]
    have K1 : Lies (w1) (w.heap.size) 24 [.int .i64 (r).l, .slice (A) (n) (c), .int .i64 (r).n] := (by (repeat' (first | (with_reducible assumption) | (with_reducible exact Lies.fresh _ _ _) | (with_reducible apply Lies.fresh_at; (first | (with_reducible rfl) | (simp; done))) | (with_reducible refine Lies.drew ?_) | (with_reducible refine Lies.drewN ?_ _) | (with_reducible refine Lies.alloc ?_ _) | (with_reducible apply Lies.past; case hb => (with_reducible assumption)) | (with_reducible apply Lies.keeps; (case k => (with_reducible assumption)); (case ht => decide)) | (with_reducible apply Lies.store3) | (with_reducible apply Lies.other; case hp => (first | omega | (simp; done) | (simp; omega))))))
    obtain ⟨p0, p1, p2, -, -, -⟩ := K1.three
    have a1 : Below w.heap.size w w1 := by (repeat' (first | (with_reducible exact Below.refl _ _) | (with_reducible assumption) | (with_reducible refine below_drewN ?_ _) | (with_reducible refine below_new ?_ _) | (with_reducible refine Below.alloc ?_ ?_ _) | (with_reducible refine Below.drew ?_) | (with_reducible refine Below.setCell ?_ ?_ _) | (with_reducible apply below_at; (case k => (with_reducible assumption)); (case hB => omega)) | (with_reducible apply below_on; (with_reducible assumption)) | (go_size; done) | (with_reducible apply size_of)))
    clear hb1
    go_wp2_with fail
    refine (Back_any r A n c k _ (H.out.below a1) k1 k2).mono ?_
    rintro e w2 ⟨rfl, hb2⟩
    have a2 : Below w.heap.size w w2 := a1.trans (hb2.mono (Nat.le_of_lt K1.lt)); have K2 : Lies (w2) (w.heap.size) 24 [.int .i64 (r).l, .slice (A) (n) (c), .int .i64 (r).n] := K1.past hb2; obtain ⟨p0, p1, p2, -, -, -⟩ := K2.three; clear hb2
    go_wp2_with fail
    refine (rBack_any r A n c k _ (H.out.below a2) k1 k2).mono ?_
    rintro e w3 ⟨rfl, hb3⟩
    have a3 : Below w.heap.size w w3 := a2.trans (hb3.mono (Nat.le_of_lt K2.lt)); have K3 : Lies (w3) (w.heap.size) 24 [.int .i64 (r).l, .slice (A) (n) (c), .int .i64 (r).n] := K2.past hb3; obtain ⟨p0, p1, p2, -, -, -⟩ := K3.three; clear hb3
    generalize backV r k = bv
    generalize backE r k = be
    go_wp2_with fail
    refine (At_any r A n c q _ (H.out.below a3) q1 q2).mono ?_
    rintro e w4 ⟨rfl, hb4⟩
    have a4 : Below w.heap.size w w4 := a3.trans (hb4.mono (Nat.le_of_lt K3.lt)); have K4 : Lies (w4) (w.heap.size) 24 [.int .i64 (r).l, .slice (A) (n) (c), .int .i64 (r).n] := K3.past hb4; obtain ⟨p0, p1, p2, -, -, -⟩ := K4.three; clear hb4
    go_wp2_with fail
    refine (rAt_any r A n c q _ (H.out.below a4) q1 q2).mono ?_
    rintro e w5 ⟨rfl, hb5⟩
    have a5 : Below w.heap.size w w5 := a4.trans (hb5.mono (Nat.le_of_lt K4.lt)); have K5 : Lies (w5) (w.heap.size) 24 [.int .i64 (r).l, .slice (A) (n) (c), .int .i64 (r).n] := K4.past hb5; obtain ⟨p0, p1, p2, -, -, -⟩ := K5.three; clear hb5
    generalize atV r q = av
    generalize atB r q = ab
    generalize atE r q = ae
    go_wp2_with fail
    by_cases hl : lastE r k = 0
    · obtain ⟨j, rfl⟩ : ∃ j : Nat, k = (j : Int) := by
        have hh := H.out
        have : 0 ≤ k := by
          unfold lastE at hl
          by_cases c : 0 ≤ k ∧ k ≤ r.b.length
          · exact c.1
          · rw [if_neg c] at hl; split at hl <;> simp at hl
        exact Int.eq_ofNat_of_zero_le this
      have HJ : Hid (j ≤ 9223372036854775807) := Lib.hid (by omega)
      refine (Last_ok r A n c j _ (H.out.below a5) hl).mono ?_
      rintro e w6 ⟨B, d, rfl, -, -, hB, hb6⟩
      have a6 : Below w.heap.size w w6 := a5.trans (hb6.mono (Nat.le_of_lt K5.lt)); have K6 : Lies (w6) (w.heap.size) 24 [.int .i64 (r).l, .slice (A) (n) (c), .int .i64 (r).n] := K5.past hb6; obtain ⟨p0, p1, p2, -, -, -⟩ := K6.three; clear hb6
      have HB := Lib.hid hB
      clear hB
      go_wp2_with fail
      refine (rLast_ok r A n c j _ (H.out.below a6) hl).mono ?_
      rintro e w7 ⟨D, f, rfl, hD, hb7⟩
      have HB7 := Lib.hid (HB.out.below hb7 (Nat.le_refl _))
      have a7 : Below w.heap.size w w7 := a6.trans (hb7.mono (Nat.le_of_lt K6.lt)); have K7 : Lies (w7) (w.heap.size) 24 [.int .i64 (r).l, .slice (A) (n) (c), .int .i64 (r).n] := K6.past hb7; obtain ⟨p0, p1, p2, -, -, -⟩ := K7.three; clear hb7
      have HD := Lib.hid hD
      clear hD
      go_wp2_with (refine (same8_any B D j j d f (lastL r j) (lastL r j) _ HB7.out (lastL_len r j) HD.out (lastL_len r j) HJ.out HJ.out).mono ?_; rintro e w8 ⟨rfl, hb8⟩)
      go_ret
      exact ⟨rfl, by (repeat' (first | (with_reducible exact Below.refl _ _) | (with_reducible assumption) | (with_reducible refine below_drewN ?_ _) | (with_reducible refine below_new ?_ _) | (with_reducible refine Below.alloc ?_ ?_ _) | (with_reducible refine Below.drew ?_) | (with_reducible refine Below.setCell ?_ ?_ _) | (with_reducible apply below_at; (case k => (with_reducible assumption)); (case hB => omega)) | (with_reducible apply below_on; (with_reducible assumption)) | (go_size; done) | (with_reducible apply size_of)))⟩
    · refine (Last_bad r A n c k _ (H.out.below a5) hl).mono ?_
      rintro e w6 ⟨rfl, hb6⟩
      have a6 : Below w.heap.size w w6 := a5.trans (hb6.mono (Nat.le_of_lt K5.lt)); have K6 : Lies (w6) (w.heap.size) 24 [.int .i64 (r).l, .slice (A) (n) (c), .int .i64 (r).n] := K5.past hb6; obtain ⟨p0, p1, p2, -, -, -⟩ := K6.three; clear hb6
      go_wp2_with fail
      refine (rLast_bad r A n c k _ (H.out.below a6) hl).mono ?_
      rintro e w7 ⟨rfl, hb7⟩
      have a7 : Below w.heap.size w w7 := a6.trans (hb7.mono (Nat.le_of_lt K6.lt)); have K7 : Lies (w7) (w.heap.size) 24 [.int .i64 (r).l, .slice (A) (n) (c), .int .i64 (r).n] := K6.past hb7; obtain ⟨p0, p1, p2, -, -, -⟩ := K7.three; clear hb7
      generalize lastE r k = le
      go_wp2_with (refine (same8_any none none 0 0 0 0 [] [] _ (.inl rfl) rfl (.inl rfl) rfl (by omega) (by omega)).mono ?_; rintro e w8 ⟨rfl, hb8⟩)
      go_ret
      exact ⟨rfl, by (repeat' (first | (with_reducible exact Below.refl _ _) | (with_reducible assumption) | (with_reducible refine below_drewN ?_ _) | (with_reducible refine below_new ?_ _) | (with_reducible refine Below.alloc ?_ ?_ _) | (with_reducible refine Below.drew ?_) | (with_reducible refine Below.setCell ?_ ?_ _) | (with_reducible apply below_at; (case k => (with_reducible assumption)); (case hB => omega)) | (with_reducible apply below_on; (with_reducible assumption)) | (go_size; done) | (with_reducible apply size_of)))⟩
end Go.Proofs.Ytolpmllpnjnogaa.rgL
