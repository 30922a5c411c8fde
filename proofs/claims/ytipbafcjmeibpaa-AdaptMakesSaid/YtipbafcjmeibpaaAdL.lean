/- Statements of layer 9 (adapt), by walks: the chapter's examples. -/
import Derived.Test.YtipbafcjmeibpaaAdW9
import Derived.Test.YtipbafcjmeibpaaAdW10
namespace Go.Proofs.Ytipbafcjmeibpaa.adL
open Go.RowKit Go.Proofs.Ytipbafcjmeibpaa.base Go.Proofs.Ytipbafcjmeibpaa.adP Go.Proofs.Ytipbafcjmeibpaa.adW
set_option linter.unusedVariables false
set_option linter.unusedSimpArgs false

theorem New_any (l : Int) (w : World) : Calls Try.prog 9 #[.int .i64 l] w fun e w' => ∃ A B lp ln c d, e = .returned (.tuple #[.agg #[.int .i32 (newR l).l, .slice A lp c, .slice B ln d], .int .i64 (newE l)]) ∧ AdIn w' A B lp ln (newR l) ∧ lp ≤ c ∧ ln ≤ d ∧ Below w.heap.size w w' := by
  cases h : newOk l
  · have e1 : newE l = 2 := by rw [newE, if_neg (by rw [h]; decide)]
    have e2 : newR l = zeroA := by rw [newR, if_neg (by rw [h]; decide)]
    rw [e1, e2]
    refine (New_bad l w h).mono ?_
    rintro e w' ⟨rfl, hb'⟩
    exact ⟨none, none, 0, 0, 0, 0, rfl, zero_in w', Nat.le_refl _, Nat.le_refl _, hb'⟩
  · have e1 : newE l = 0 := by rw [newE, if_pos h]
    have e2 : newR l = newA l := by rw [newR, if_pos h]
    rw [e1, e2]
    have hl := (newOk_iff l).1 h
    refine (New_ok l w hl.1 hl.2).mono ?_
    rintro e w' ⟨gp, gn, rfl, O, hb'⟩
    exact ⟨_, _, _, _, _, _, rfl, O.inOk (newA_ok h), Nat.le_refl _, Nat.le_refl _, hb'⟩
theorem aIn {w w' : World} {A B : Option Addr} {lp ln : Nat} {m : Ad} (h : AdIn w A B lp ln m) (hb : Below w.heap.size w w') : AdIn w' A B lp ln m := h.below hb
set_option maxHeartbeats 2000000 in
theorem twice_any (l : Int) (w : World) (p q : Int) (hp : pV (upR (newR l) 0 1) 0 = p) (hq : pV (upR (upR (newR l) 0 1) 0 1) 0 = q) :
    Calls Try.prog 32 #[.int .i64 l] w fun e w' => e = .returned (.tuple #[.int .i32 p, .int .i32 q]) ∧ Below w.heap.size w w' := by
  have HP := Lib.hid hp
  have HQ := Lib.hid hq
  clear hp hq
  generalize hm : newR l = m at *
  have HM := Lib.hid hm
  clear hm
  generalize hu : upR m 0 1 = u at *
  have HU := Lib.hid hu
  clear hu
  generalize hv : upR u 0 1 = v at *
  have HV := Lib.hid hv
  clear hv
  go_enter Try.func32, Try.ntmps32
  go_wp2_with fail
  refine (New_any l _).mono ?_
  rintro e w1 ⟨A1, B1, lp1, ln1, c1, d1, rfl, hI1, hc1, hd1, hb1⟩
  rw [HM.out] at hI1 ⊢
  go_wp2_with fail
  refine (Update_any m A1 B1 lp1 ln1 c1 d1 0 1 _ (hI1.below ((Below.refl _ _).alloc (Nat.le_refl _) _)) hc1 hd1 (by omega) (by omega) (by omega)).mono ?_
  rintro e w2 ⟨A2, B2, lp2, ln2, c2, d2, rfl, hI2, hc2, hd2, hb2⟩
  rw [HU.out] at hI2 ⊢
  go_wp2_with fail
  refine (Update_any u A2 B2 lp2 ln2 c2 d2 0 1 _ (hI2.below ((Below.refl _ _).alloc (Nat.le_refl _) _)) hc2 hd2 (by omega) (by omega) (by omega)).mono ?_
  rintro e w3 ⟨A3, B3, lp3, ln3, c3, d3, rfl, hI3, hc3, hd3, hb3⟩
  rw [HV.out] at hI3 ⊢
  have K2 : Lies (w3) (w2.heap.size) 24 [.int .i32 (u.l), .slice (A2) (lp2) (c2), .slice (B2) (ln2) (d2)] := (by (repeat' (first | (with_reducible assumption) | (with_reducible exact Lies.fresh _ _ _) | (with_reducible apply Lies.fresh_at; (first | (with_reducible rfl) | (simp; done))) | (with_reducible refine Lies.drew ?_) | (with_reducible refine Lies.drewN ?_ _) | (with_reducible refine Lies.alloc ?_ _) | (with_reducible apply Lies.past; case hb => (with_reducible assumption)) | (with_reducible apply Lies.keeps; (case k => (with_reducible assumption)); (case ht => decide)) | (with_reducible apply Lies.store3) | (with_reducible apply Lies.other; case hp => (first | omega | (simp; done) | (simp; omega))))))
  obtain ⟨p0, p1, p2, -, -, -⟩ := K2.three
  have l2 := K2.lt
  go_wp2_with fail
  refine (P_any u A2 B2 lp2 ln2 c2 d2 0 _ (hI2.below (by (repeat' (first | (with_reducible exact Below.refl _ _) | (with_reducible assumption) | (with_reducible refine below_drewN ?_ _) | (with_reducible refine below_new ?_ _) | (with_reducible refine Below.alloc ?_ ?_ _) | (with_reducible refine Below.drew ?_) | (with_reducible refine Below.setCell ?_ ?_ _) | (with_reducible apply below_at; (case k => (with_reducible assumption)); (case hB => omega)) | (with_reducible apply below_on; (with_reducible assumption)) | (go_size; done) | (with_reducible apply size_of))))) (by omega) (by omega)).mono ?_
  rintro e w4 ⟨rfl, hb4⟩
  rw [HP.out]
  have K3 : Lies (w4) (w3.heap.size) 24 [.int .i32 (v.l), .slice (A3) (lp3) (c3), .slice (B3) (ln3) (d3)] := (by (repeat' (first | (with_reducible assumption) | (with_reducible exact Lies.fresh _ _ _) | (with_reducible apply Lies.fresh_at; (first | (with_reducible rfl) | (simp; done))) | (with_reducible refine Lies.drew ?_) | (with_reducible refine Lies.drewN ?_ _) | (with_reducible refine Lies.alloc ?_ _) | (with_reducible apply Lies.past; case hb => (with_reducible assumption)) | (with_reducible apply Lies.keeps; (case k => (with_reducible assumption)); (case ht => decide)) | (with_reducible apply Lies.store3) | (with_reducible apply Lies.other; case hp => (first | omega | (simp; done) | (simp; omega))))))
  obtain ⟨q0, q1, q2, -, -, -⟩ := K3.three
  have l3 := K3.lt
  go_wp2_with fail
  refine (P_any v A3 B3 lp3 ln3 c3 d3 0 _ (hI3.below (by (repeat' (first | (with_reducible exact Below.refl _ _) | (with_reducible assumption) | (with_reducible refine below_drewN ?_ _) | (with_reducible refine below_new ?_ _) | (with_reducible refine Below.alloc ?_ ?_ _) | (with_reducible refine Below.drew ?_) | (with_reducible refine Below.setCell ?_ ?_ _) | (with_reducible apply below_at; (case k => (with_reducible assumption)); (case hB => omega)) | (with_reducible apply below_on; (with_reducible assumption)) | (go_size; done) | (with_reducible apply size_of))))) (by omega) (by omega)).mono ?_
  rintro e w5 ⟨rfl, hb5⟩
  rw [HQ.out]
  go_wp2_with fail
  go_ret2
  exact ⟨rfl, by (repeat' (first | (with_reducible exact Below.refl _ _) | (with_reducible assumption) | (with_reducible refine below_drewN ?_ _) | (with_reducible refine below_new ?_ _) | (with_reducible refine Below.alloc ?_ ?_ _) | (with_reducible refine Below.drew ?_) | (with_reducible refine Below.setCell ?_ ?_ _) | (with_reducible apply below_at; (case k => (with_reducible assumption)); (case hB => omega)) | (with_reducible apply below_on; (with_reducible assumption)) | (go_size; done) | (with_reducible apply size_of)))⟩
theorem n3a : pV (upR (newR 3) 0 1) 0 = 49151 := by decide +kernel
theorem n3b : pV (upR (upR (newR 3) 0 1) 0 1) 0 = 54612 := by decide +kernel
theorem n1a : pV (upR (newR 1) 0 1) 0 = 49151 := by decide +kernel
theorem n1b : pV (upR (upR (newR 1) 0 1) 0 1) 0 = 57343 := by decide +kernel
theorem n3c : pV (upR (newR 3) 0 1) 1 = 32768 := by decide +kernel
theorem e3a : newE 3 = 0 := by decide +kernel
theorem e3b : upE (newR 3) 0 1 = 0 := by decide +kernel
theorem e3c : atE (upR (newR 3) 0 1) 1 = 0 := by decide +kernel
set_option maxHeartbeats 2000000 in
theorem alive (w : World) : Calls Try.prog 16 #[] w fun e w' => e = .returned (.bool true) ∧ Below w.heap.size w w' := by
  have HP := Lib.hid n3c
  have HN := Lib.hid e3a
  have HE := Lib.hid e3b
  have HF := Lib.hid e3c
  generalize hm : newR 3 = m at *
  have HM := Lib.hid hm
  clear hm
  generalize hu : upR m 0 1 = u at *
  have HU := Lib.hid hu
  clear hu
  go_enter Try.func16, Try.ntmps16
  go_wp2_with fail
  refine (twice_any 3 _ 49151 54612 n3a n3b).mono ?_
  rintro e w1 ⟨rfl, hb1⟩
  go_wp2_with fail
  refine (twice_any 1 _ 49151 57343 n1a n1b).mono ?_
  rintro e w2 ⟨rfl, hb2⟩
  go_wp2_with fail
  refine (New_any 3 _).mono ?_
  rintro e w3 ⟨A1, B1, lp1, ln1, c1, d1, rfl, hI1, hc1, hd1, hb3⟩
  rw [HM.out] at hI1 ⊢
  rw [HN.out]
  go_wp2_with fail
  refine (Update_any m A1 B1 lp1 ln1 c1 d1 0 1 _ (hI1.below ((Below.refl _ _).alloc (Nat.le_refl _) _)) hc1 hd1 (by omega) (by omega) (by omega)).mono ?_
  rintro e w4 ⟨A2, B2, lp2, ln2, c2, d2, rfl, hI2, hc2, hd2, hb4⟩
  rw [HE.out]
  rw [HU.out] at hI2 ⊢
  go_wp2_with fail
  refine (P_any u A2 B2 lp2 ln2 c2 d2 1 _ (hI2.below ((Below.refl _ _).alloc (Nat.le_refl _) _)) (by omega) (by omega)).mono ?_
  rintro e w5 ⟨rfl, hb5⟩
  rw [HP.out, HF.out]
  go_wp2_with fail
  go_ret
  exact ⟨rfl, by (repeat' (first | (with_reducible exact Below.refl _ _) | (with_reducible assumption) | (with_reducible refine below_drewN ?_ _) | (with_reducible refine below_new ?_ _) | (with_reducible refine Below.alloc ?_ ?_ _) | (with_reducible refine Below.drew ?_) | (with_reducible refine Below.setCell ?_ ?_ _) | (with_reducible apply below_at; (case k => (with_reducible assumption)); (case hB => omega)) | (with_reducible apply below_on; (with_reducible assumption)) | (go_size; done) | (with_reducible apply size_of)))⟩
end Go.Proofs.Ytipbafcjmeibpaa.adL
