/- AdaptRuns, by a walk. -/
import Derived.Test.YtipbafcjmeibpaaAdL4
import Derived.Test.YtipbafcjmeibpaaAdW13
import Derived.Test.YtipbafcjmeibpaaMem8
namespace Go.Proofs.Ytipbafcjmeibpaa.adL
open Go.RowKit Go.Proofs.Ytipbafcjmeibpaa.base Go.Proofs.Ytipbafcjmeibpaa.adP Go.Proofs.Ytipbafcjmeibpaa.adW Go.Proofs.Ytipbafcjmeibpaa.cntP Go.Proofs.Ytipbafcjmeibpaa.stP
set_option linter.unusedVariables false
set_option linter.unusedSimpArgs false

set_option maxHeartbeats 1000000 in
theorem runs_out (m : Ad) (A B : Option Addr) (lp ln cp cn : Nat) (s : Int) (C : Option Addr) (n cap : Nat) (w : World) (h : AdIn w A B lp ln m)
    (hl : (decide (300 < lp) || decide (300 < ln)) = true ∨ ((decide (300 < lp) || decide (300 < ln)) = false ∧ (500 : Int) < n ∧ (n : Int) ≤ 20000) ∨ ((decide (300 < lp) || decide (300 < ln)) = false ∧ (500 : Int) < n ∧ ¬ (n : Int) ≤ 20000 ∧ (20100 : Int) < n)) :
    Calls Try.prog 5 #[.agg #[.int .i32 (m).l, .slice A lp cp, .slice B ln cn], .int .u8 s, .slice C n cap] w fun e w' => e = .returned (.bool true) ∧ Below w.heap.size w w' := by
  have H := Lib.hid h
  have m1 := h.mp
  have m2 := h.mn
  clear h
  rcases hl with h1 | ⟨h1, h2, h3⟩ | ⟨h1, h2, h3, h4⟩
  all_goals
    have HG := Lib.hid h1
    clear h1
    go_enter Try.func5, Try.ntmps5
    go_wp2_with (first | (go_at_call 17; refine (great_any m A B lp ln cp cn _ m1 m2).mono ?_; rintro e w1 ⟨rfl, hb1⟩; rw [HG.out]))
    go_ret
    exact ⟨rfl, by (repeat' (first | (with_reducible exact Below.refl _ _) | (with_reducible assumption) | (with_reducible refine below_drewN ?_ _) | (with_reducible refine below_new ?_ _) | (with_reducible refine Below.alloc ?_ ?_ _) | (with_reducible refine Below.drew ?_) | (with_reducible refine Below.setCell ?_ ?_ _) | (with_reducible apply below_at; (case k => (with_reducible assumption)); (case hB => omega)) | (with_reducible apply below_on; (with_reducible assumption)) | (go_size; done) | (with_reducible apply size_of)))⟩
set_option maxRecDepth 100000 in
set_option maxHeartbeats 4000000 in
theorem runs_main (m : Ad) (A B : Option Addr) (lp ln cp cn : Nat) (s : Int) (C : Option Addr) (cap : Nat) (zs : List Int) (w : World) (h : AdIn w A B lp ln m) (hcp : lp ≤ cp) (hcn : ln ≤ cn) (s0 : 0 ≤ s) (s1 : s ≤ 255) (hg : (decide (300 < lp) || decide (300 < ln)) = false) (hC : Has .u8 w C zs) (hz : ∀ z ∈ zs, 0 ≤ z ∧ z ≤ 255) (hl : ¬ (500 : Int) < zs.length ∨ ((500 : Int) < zs.length ∧ ¬ (zs.length : Int) ≤ 20000)) (hl2 : ¬ (20100 : Int) < zs.length) :
    Calls Try.prog 5 #[.agg #[.int .i32 (m).l, .slice A lp cp, .slice B ln cn], .int .u8 s, .slice C zs.length cap] w fun e w' => e = .returned (.bool true) ∧ Below w.heap.size w w' := by
  have H := Lib.hid h
  have HC := Lib.hid hC
  have HZ := Lib.hid hz
  have HG := Lib.hid hg
  have m1 := h.mp
  have m2 := h.mn
  have hb2 : lp ≤ 300 ∧ ln ≤ 300 := by simp at hg; omega
  obtain ⟨g1, g2⟩ := hb2
  have HG1 := Lib.hid g1
  have HG2 := Lib.hid g2
  have HM : Hid (adEq m m = true) := Lib.hid ((adEq_iff _ _).2 rfl)
  have HR : Hid (adEq (ruR m s zs) (ruR m s zs) = true) := Lib.hid ((adEq_iff _ _).2 rfl)
  clear h hC hz hg g1 g2
  rcases hl with hl | ⟨hl, hl3⟩
  all_goals
    go_enter Try.func5, Try.ntmps5
    go_wp2_with fail
    refine (great_any m A B lp ln cp cn _ m1 m2).mono ?_
    rintro e w1 ⟨rfl, hb1⟩
    rw [HG.out]
    have K1 : Lies (w1) (w.heap.size) 24 [.int .i32 (m.l), .slice (A) (lp) (cp), .slice (B) (ln) (cn)] := (by (repeat' (first | (with_reducible assumption) | (with_reducible exact Lies.fresh _ _ _) | (with_reducible apply Lies.fresh_at; (first | (with_reducible rfl) | (simp; done))) | (with_reducible refine Lies.drew ?_) | (with_reducible refine Lies.drewN ?_ _) | (with_reducible refine Lies.alloc ?_ _) | (with_reducible apply Lies.past; case hb => (with_reducible assumption)) | (with_reducible apply Lies.keeps; (case k => (with_reducible assumption)); (case ht => decide)) | (with_reducible apply Lies.store3) | (with_reducible apply Lies.other; case hp => (first | omega | (simp; done) | (simp; omega))))))
    obtain ⟨p0, p1, p2, -, -, -⟩ := K1.three
    have l1 := K1.lt
    go_wp2_with fail
    refine (Twin_in m A B lp ln cp cn _ (H.out.below (by (repeat' (first | (with_reducible exact Below.refl _ _) | (with_reducible assumption) | (with_reducible refine below_drewN ?_ _) | (with_reducible refine below_new ?_ _) | (with_reducible refine Below.alloc ?_ ?_ _) | (with_reducible refine Below.drew ?_) | (with_reducible refine Below.setCell ?_ ?_ _) | (with_reducible apply below_at; (case k => (with_reducible assumption)); (case hB => omega)) | (with_reducible apply below_on; (with_reducible assumption)) | (go_size; done) | (with_reducible apply size_of))))) HG1.out HG2.out).mono ?_
    rintro e w2 ⟨A2, c2, B2, d2, rfl, hI2, hc2, hd2, hb2⟩
    have K2 := K1.past hb2
    have HW2 : Hid (Below w.heap.size w w2) := Lib.hid (by (repeat' (first | (with_reducible exact Below.refl _ _) | (with_reducible assumption) | (with_reducible refine below_drewN ?_ _) | (with_reducible refine below_new ?_ _) | (with_reducible refine Below.alloc ?_ ?_ _) | (with_reducible refine Below.drew ?_) | (with_reducible refine Below.setCell ?_ ?_ _) | (with_reducible apply below_at; (case k => (with_reducible assumption)); (case hB => omega)) | (with_reducible apply below_on; (with_reducible assumption)) | (go_size; done) | (with_reducible apply size_of))))
    clear K1 p0 p1 p2 l1 hb1 hb2
    go_wp2_with (first | (at_builtin; refine clone8 rfl _ _ rfl _ rfl C _ _ zs rfl rfl (HC.out.below (by have := HW2.out; (repeat' (first | (with_reducible exact Below.refl _ _) | (with_reducible assumption) | (with_reducible refine below_drewN ?_ _) | (with_reducible refine below_new ?_ _) | (with_reducible refine Below.alloc ?_ ?_ _) | (with_reducible refine Below.drew ?_) | (with_reducible refine Below.setCell ?_ ?_ _) | (with_reducible apply below_at; (case k => (with_reducible assumption)); (case hB => omega)) | (with_reducible apply below_on; (with_reducible assumption)) | (go_size; done) | (with_reducible apply size_of)))) (Nat.le_refl _)) (by omega) ?_; intro A1 c1 w3 hh3 hb3 ho3; have HH3 := Lib.hid hh3; clear hh3 ho3))
    have K3 : Lies (w3) (w.heap.size) 24 [.int .i32 (m.l), .slice (A) (lp) (cp), .slice (B) (ln) (cn)] := (by (repeat' (first | (with_reducible assumption) | (with_reducible exact Lies.fresh _ _ _) | (with_reducible apply Lies.fresh_at; (first | (with_reducible rfl) | (simp; done))) | (with_reducible refine Lies.drew ?_) | (with_reducible refine Lies.drewN ?_ _) | (with_reducible refine Lies.alloc ?_ _) | (with_reducible apply Lies.past; case hb => (with_reducible assumption)) | (with_reducible apply Lies.keeps; (case k => (with_reducible assumption)); (case ht => decide)) | (with_reducible apply Lies.store3) | (with_reducible apply Lies.other; case hp => (first | omega | (simp; done) | (simp; omega))))))
    have HW3 : Hid (Below w.heap.size w w3) := Lib.hid (by have := HW2.out; (repeat' (first | (with_reducible exact Below.refl _ _) | (with_reducible assumption) | (with_reducible refine below_drewN ?_ _) | (with_reducible refine below_new ?_ _) | (with_reducible refine Below.alloc ?_ ?_ _) | (with_reducible refine Below.drew ?_) | (with_reducible refine Below.setCell ?_ ?_ _) | (with_reducible apply below_at; (case k => (with_reducible assumption)); (case hB => omega)) | (with_reducible apply below_on; (with_reducible assumption)) | (go_size; done) | (with_reducible apply size_of))))
    have HI3 : Hid (AdIn w3 A2 B2 lp ln m) := Lib.hid (hI2.below (by (repeat' (first | (with_reducible exact Below.refl _ _) | (with_reducible assumption) | (with_reducible refine below_drewN ?_ _) | (with_reducible refine below_new ?_ _) | (with_reducible refine Below.alloc ?_ ?_ _) | (with_reducible refine Below.drew ?_) | (with_reducible refine Below.setCell ?_ ?_ _) | (with_reducible apply below_at; (case k => (with_reducible assumption)); (case hB => omega)) | (with_reducible apply below_on; (with_reducible assumption)) | (go_size; done) | (with_reducible apply size_of)))))
    clear K2 hI2 hb3
    refine (Run_any m A2 B2 lp ln c2 d2 s C zs.length cap zs _ (HI3.out.below (by (repeat' (first | (with_reducible exact Below.refl _ _) | (with_reducible assumption) | (with_reducible refine below_drewN ?_ _) | (with_reducible refine below_new ?_ _) | (with_reducible refine Below.alloc ?_ ?_ _) | (with_reducible refine Below.drew ?_) | (with_reducible refine Below.setCell ?_ ?_ _) | (with_reducible apply below_at; (case k => (with_reducible assumption)); (case hB => omega)) | (with_reducible apply below_on; (with_reducible assumption)) | (go_size; done) | (with_reducible apply size_of))))) hc2 hd2 s0 s1 (HC.out.below (by have := HW3.out; (repeat' (first | (with_reducible exact Below.refl _ _) | (with_reducible assumption) | (with_reducible refine below_drewN ?_ _) | (with_reducible refine below_new ?_ _) | (with_reducible refine Below.alloc ?_ ?_ _) | (with_reducible refine Below.drew ?_) | (with_reducible refine Below.setCell ?_ ?_ _) | (with_reducible apply below_at; (case k => (with_reducible assumption)); (case hB => omega)) | (with_reducible apply below_on; (with_reducible assumption)) | (go_size; done) | (with_reducible apply size_of)))) (Nat.le_refl _)) rfl (by omega) HZ.out).mono ?_
    rintro e w4 ⟨A4, B4, lp4, ln4, c4, d4, rfl, hI4, hc4, hd4, hb4⟩
    have K4 : Lies (w4) (w.heap.size) 24 [.int .i32 (m.l), .slice (A) (lp) (cp), .slice (B) (ln) (cn)] := (by (repeat' (first | (with_reducible assumption) | (with_reducible exact Lies.fresh _ _ _) | (with_reducible apply Lies.fresh_at; (first | (with_reducible rfl) | (simp; done))) | (with_reducible refine Lies.drew ?_) | (with_reducible refine Lies.drewN ?_ _) | (with_reducible refine Lies.alloc ?_ _) | (with_reducible apply Lies.past; case hb => (with_reducible assumption)) | (with_reducible apply Lies.keeps; (case k => (with_reducible assumption)); (case ht => decide)) | (with_reducible apply Lies.store3) | (with_reducible apply Lies.other; case hp => (first | omega | (simp; done) | (simp; omega))))))
    have L4 : Lies (w4) (w3.heap.size) 24 [.int .i32 (m.l), .slice (A2) (lp) (c2), .slice (B2) (ln) (d2)] := (by (repeat' (first | (with_reducible assumption) | (with_reducible exact Lies.fresh _ _ _) | (with_reducible apply Lies.fresh_at; (first | (with_reducible rfl) | (simp; done))) | (with_reducible refine Lies.drew ?_) | (with_reducible refine Lies.drewN ?_ _) | (with_reducible refine Lies.alloc ?_ _) | (with_reducible apply Lies.past; case hb => (with_reducible assumption)) | (with_reducible apply Lies.keeps; (case k => (with_reducible assumption)); (case ht => decide)) | (with_reducible apply Lies.store3) | (with_reducible apply Lies.other; case hp => (first | omega | (simp; done) | (simp; omega))))))
    have HI4 := Lib.hid hI4
    have HJ4 : Hid (AdIn w4 A2 B2 lp ln m) := Lib.hid (HI3.out.below (by (repeat' (first | (with_reducible exact Below.refl _ _) | (with_reducible assumption) | (with_reducible refine below_drewN ?_ _) | (with_reducible refine below_new ?_ _) | (with_reducible refine Below.alloc ?_ ?_ _) | (with_reducible refine Below.drew ?_) | (with_reducible refine Below.setCell ?_ ?_ _) | (with_reducible apply below_at; (case k => (with_reducible assumption)); (case hB => omega)) | (with_reducible apply below_on; (with_reducible assumption)) | (go_size; done) | (with_reducible apply size_of)))))
    have HH4 : Hid (Has .u8 w4 A1 zs) := Lib.hid (HH3.out.below (by (repeat' (first | (with_reducible exact Below.refl _ _) | (with_reducible assumption) | (with_reducible refine below_drewN ?_ _) | (with_reducible refine below_new ?_ _) | (with_reducible refine Below.alloc ?_ ?_ _) | (with_reducible refine Below.drew ?_) | (with_reducible refine Below.setCell ?_ ?_ _) | (with_reducible apply below_at; (case k => (with_reducible assumption)); (case hB => omega)) | (with_reducible apply below_on; (with_reducible assumption)) | (go_size; done) | (with_reducible apply size_of)))) (Nat.le_refl _))
    have HW4 : Hid (Below w.heap.size w w4) := Lib.hid (by have := HW3.out; (repeat' (first | (with_reducible exact Below.refl _ _) | (with_reducible assumption) | (with_reducible refine below_drewN ?_ _) | (with_reducible refine below_new ?_ _) | (with_reducible refine Below.alloc ?_ ?_ _) | (with_reducible refine Below.drew ?_) | (with_reducible refine Below.setCell ?_ ?_ _) | (with_reducible apply below_at; (case k => (with_reducible assumption)); (case hB => omega)) | (with_reducible apply below_on; (with_reducible assumption)) | (go_size; done) | (with_reducible apply size_of))))
    obtain ⟨p0, p1, p2, -, -, -⟩ := K4.three
    have l4 := K4.lt
    clear K3 hI4 hb4
    go_wp2_with fail
    refine (rRun_any m A B lp ln cp cn s A1 zs.length c1 zs _ (H.out.below (by have := HW4.out; (repeat' (first | (with_reducible exact Below.refl _ _) | (with_reducible assumption) | (with_reducible refine below_drewN ?_ _) | (with_reducible refine below_new ?_ _) | (with_reducible refine Below.alloc ?_ ?_ _) | (with_reducible refine Below.drew ?_) | (with_reducible refine Below.setCell ?_ ?_ _) | (with_reducible apply below_at; (case k => (with_reducible assumption)); (case hB => omega)) | (with_reducible apply below_on; (with_reducible assumption)) | (go_size; done) | (with_reducible apply size_of))))) s0 s1 (HH4.out.below (by (repeat' (first | (with_reducible exact Below.refl _ _) | (with_reducible assumption) | (with_reducible refine below_drewN ?_ _) | (with_reducible refine below_new ?_ _) | (with_reducible refine Below.alloc ?_ ?_ _) | (with_reducible refine Below.drew ?_) | (with_reducible refine Below.setCell ?_ ?_ _) | (with_reducible apply below_at; (case k => (with_reducible assumption)); (case hB => omega)) | (with_reducible apply below_on; (with_reducible assumption)) | (go_size; done) | (with_reducible apply size_of)))) (Nat.le_refl _)) rfl (by omega) HZ.out).mono ?_
    rintro e w5 ⟨A5, B5, lp5, ln5, c5, d5, rfl, hI5, hc5, hd5, hb5⟩
    have K5 : Lies (w5) (w.heap.size) 24 [.int .i32 (m.l), .slice (A) (lp) (cp), .slice (B) (ln) (cn)] := (by (repeat' (first | (with_reducible assumption) | (with_reducible exact Lies.fresh _ _ _) | (with_reducible apply Lies.fresh_at; (first | (with_reducible rfl) | (simp; done))) | (with_reducible refine Lies.drew ?_) | (with_reducible refine Lies.drewN ?_ _) | (with_reducible refine Lies.alloc ?_ _) | (with_reducible apply Lies.past; case hb => (with_reducible assumption)) | (with_reducible apply Lies.keeps; (case k => (with_reducible assumption)); (case ht => decide)) | (with_reducible apply Lies.store3) | (with_reducible apply Lies.other; case hp => (first | omega | (simp; done) | (simp; omega))))))
    have L5 : Lies (w5) (w3.heap.size) 24 [.int .i32 (m.l), .slice (A2) (lp) (c2), .slice (B2) (ln) (d2)] := (by (repeat' (first | (with_reducible assumption) | (with_reducible exact Lies.fresh _ _ _) | (with_reducible apply Lies.fresh_at; (first | (with_reducible rfl) | (simp; done))) | (with_reducible refine Lies.drew ?_) | (with_reducible refine Lies.drewN ?_ _) | (with_reducible refine Lies.alloc ?_ _) | (with_reducible apply Lies.past; case hb => (with_reducible assumption)) | (with_reducible apply Lies.keeps; (case k => (with_reducible assumption)); (case ht => decide)) | (with_reducible apply Lies.store3) | (with_reducible apply Lies.other; case hp => (first | omega | (simp; done) | (simp; omega))))))
    have M5 : Lies (w5) (w4.heap.size) 24 [.int .i32 ((ruR m s zs).l), .slice (A4) (lp4) (c4), .slice (B4) (ln4) (d4)] := (by (repeat' (first | (with_reducible assumption) | (with_reducible exact Lies.fresh _ _ _) | (with_reducible apply Lies.fresh_at; (first | (with_reducible rfl) | (simp; done))) | (with_reducible refine Lies.drew ?_) | (with_reducible refine Lies.drewN ?_ _) | (with_reducible refine Lies.alloc ?_ _) | (with_reducible apply Lies.past; case hb => (with_reducible assumption)) | (with_reducible apply Lies.keeps; (case k => (with_reducible assumption)); (case ht => decide)) | (with_reducible apply Lies.store3) | (with_reducible apply Lies.other; case hp => (first | omega | (simp; done) | (simp; omega))))))
    have HI5 := Lib.hid hI5
    have HX5 : Hid (AdIn w5 A4 B4 lp4 ln4 (ruR m s zs)) := Lib.hid (HI4.out.below (by (repeat' (first | (with_reducible exact Below.refl _ _) | (with_reducible assumption) | (with_reducible refine below_drewN ?_ _) | (with_reducible refine below_new ?_ _) | (with_reducible refine Below.alloc ?_ ?_ _) | (with_reducible refine Below.drew ?_) | (with_reducible refine Below.setCell ?_ ?_ _) | (with_reducible apply below_at; (case k => (with_reducible assumption)); (case hB => omega)) | (with_reducible apply below_on; (with_reducible assumption)) | (go_size; done) | (with_reducible apply size_of)))))
    have HJ5 : Hid (AdIn w5 A2 B2 lp ln m) := Lib.hid (HJ4.out.below (by (repeat' (first | (with_reducible exact Below.refl _ _) | (with_reducible assumption) | (with_reducible refine below_drewN ?_ _) | (with_reducible refine below_new ?_ _) | (with_reducible refine Below.alloc ?_ ?_ _) | (with_reducible refine Below.drew ?_) | (with_reducible refine Below.setCell ?_ ?_ _) | (with_reducible apply below_at; (case k => (with_reducible assumption)); (case hB => omega)) | (with_reducible apply below_on; (with_reducible assumption)) | (go_size; done) | (with_reducible apply size_of)))))
    have HH5 : Hid (Has .u8 w5 A1 zs) := Lib.hid (HH4.out.below (by (repeat' (first | (with_reducible exact Below.refl _ _) | (with_reducible assumption) | (with_reducible refine below_drewN ?_ _) | (with_reducible refine below_new ?_ _) | (with_reducible refine Below.alloc ?_ ?_ _) | (with_reducible refine Below.drew ?_) | (with_reducible refine Below.setCell ?_ ?_ _) | (with_reducible apply below_at; (case k => (with_reducible assumption)); (case hB => omega)) | (with_reducible apply below_on; (with_reducible assumption)) | (go_size; done) | (with_reducible apply size_of)))) (Nat.le_refl _))
    have HW5 : Hid (Below w.heap.size w w5) := Lib.hid (by have := HW4.out; (repeat' (first | (with_reducible exact Below.refl _ _) | (with_reducible assumption) | (with_reducible refine below_drewN ?_ _) | (with_reducible refine below_new ?_ _) | (with_reducible refine Below.alloc ?_ ?_ _) | (with_reducible refine Below.drew ?_) | (with_reducible refine Below.setCell ?_ ?_ _) | (with_reducible apply below_at; (case k => (with_reducible assumption)); (case hB => omega)) | (with_reducible apply below_on; (with_reducible assumption)) | (go_size; done) | (with_reducible apply size_of))))
    clear K4 L4 p0 p1 p2 l4 hI5 hb5
    generalize ruR m s zs = r at *
    obtain ⟨q0, q1, q2, -, -, -⟩ := M5.three
    have l5 := M5.lt
    clear M5
    go_wp2_with fail
    refine (Same_at r r.l rfl r r.l rfl A4 B4 A5 B5 lp4 ln4 lp5 ln5 c4 d4 c5 d5 _ (HX5.out.below (by (repeat' (first | (with_reducible exact Below.refl _ _) | (with_reducible assumption) | (with_reducible refine below_drewN ?_ _) | (with_reducible refine below_new ?_ _) | (with_reducible refine Below.alloc ?_ ?_ _) | (with_reducible refine Below.drew ?_) | (with_reducible refine Below.setCell ?_ ?_ _) | (with_reducible apply below_at; (case k => (with_reducible assumption)); (case hB => omega)) | (with_reducible apply below_on; (with_reducible assumption)) | (go_size; done) | (with_reducible apply size_of))))) (HI5.out.below (by (repeat' (first | (with_reducible exact Below.refl _ _) | (with_reducible assumption) | (with_reducible refine below_drewN ?_ _) | (with_reducible refine below_new ?_ _) | (with_reducible refine Below.alloc ?_ ?_ _) | (with_reducible refine Below.drew ?_) | (with_reducible refine Below.setCell ?_ ?_ _) | (with_reducible apply below_at; (case k => (with_reducible assumption)); (case hB => omega)) | (with_reducible apply below_on; (with_reducible assumption)) | (go_size; done) | (with_reducible apply size_of)))))).mono ?_
    rintro e w6 ⟨rfl, hb6⟩
    rw [HR.out]
    have K6 : Lies (w6) (w.heap.size) 24 [.int .i32 (m.l), .slice (A) (lp) (cp), .slice (B) (ln) (cn)] := (by (repeat' (first | (with_reducible assumption) | (with_reducible exact Lies.fresh _ _ _) | (with_reducible apply Lies.fresh_at; (first | (with_reducible rfl) | (simp; done))) | (with_reducible refine Lies.drew ?_) | (with_reducible refine Lies.drewN ?_ _) | (with_reducible refine Lies.alloc ?_ _) | (with_reducible apply Lies.past; case hb => (with_reducible assumption)) | (with_reducible apply Lies.keeps; (case k => (with_reducible assumption)); (case ht => decide)) | (with_reducible apply Lies.store3) | (with_reducible apply Lies.other; case hp => (first | omega | (simp; done) | (simp; omega))))))
    have L6 : Lies (w6) (w3.heap.size) 24 [.int .i32 (m.l), .slice (A2) (lp) (c2), .slice (B2) (ln) (d2)] := (by (repeat' (first | (with_reducible assumption) | (with_reducible exact Lies.fresh _ _ _) | (with_reducible apply Lies.fresh_at; (first | (with_reducible rfl) | (simp; done))) | (with_reducible refine Lies.drew ?_) | (with_reducible refine Lies.drewN ?_ _) | (with_reducible refine Lies.alloc ?_ _) | (with_reducible apply Lies.past; case hb => (with_reducible assumption)) | (with_reducible apply Lies.keeps; (case k => (with_reducible assumption)); (case ht => decide)) | (with_reducible apply Lies.store3) | (with_reducible apply Lies.other; case hp => (first | omega | (simp; done) | (simp; omega))))))
    have HJ6 : Hid (AdIn w6 A2 B2 lp ln m) := Lib.hid (HJ5.out.below (by (repeat' (first | (with_reducible exact Below.refl _ _) | (with_reducible assumption) | (with_reducible refine below_drewN ?_ _) | (with_reducible refine below_new ?_ _) | (with_reducible refine Below.alloc ?_ ?_ _) | (with_reducible refine Below.drew ?_) | (with_reducible refine Below.setCell ?_ ?_ _) | (with_reducible apply below_at; (case k => (with_reducible assumption)); (case hB => omega)) | (with_reducible apply below_on; (with_reducible assumption)) | (go_size; done) | (with_reducible apply size_of)))))
    have HH6 : Hid (Has .u8 w6 A1 zs) := Lib.hid (HH5.out.below (by (repeat' (first | (with_reducible exact Below.refl _ _) | (with_reducible assumption) | (with_reducible refine below_drewN ?_ _) | (with_reducible refine below_new ?_ _) | (with_reducible refine Below.alloc ?_ ?_ _) | (with_reducible refine Below.drew ?_) | (with_reducible refine Below.setCell ?_ ?_ _) | (with_reducible apply below_at; (case k => (with_reducible assumption)); (case hB => omega)) | (with_reducible apply below_on; (with_reducible assumption)) | (go_size; done) | (with_reducible apply size_of)))) (Nat.le_refl _))
    have HW6 : Hid (Below w.heap.size w w6) := Lib.hid (by have := HW5.out; (repeat' (first | (with_reducible exact Below.refl _ _) | (with_reducible assumption) | (with_reducible refine below_drewN ?_ _) | (with_reducible refine below_new ?_ _) | (with_reducible refine Below.alloc ?_ ?_ _) | (with_reducible refine Below.drew ?_) | (with_reducible refine Below.setCell ?_ ?_ _) | (with_reducible apply below_at; (case k => (with_reducible assumption)); (case hB => omega)) | (with_reducible apply below_on; (with_reducible assumption)) | (go_size; done) | (with_reducible apply size_of))))
    obtain ⟨p0, p1, p2, -, -, -⟩ := K6.three
    obtain ⟨q0, q1, q2, -, -, -⟩ := L6.three
    have l6 := K6.lt
    have l7 := L6.lt
    clear K5 L5 K6 L6 hb6
    go_wp2_with fail
    refine (Same_at m m.l rfl m m.l rfl A2 B2 A B lp ln lp ln c2 d2 cp cn _ HJ6.out (H.out.below HW6.out)).mono ?_
    rintro e w7 ⟨rfl, hb7⟩
    rw [HM.out]
    have HW7 : Hid (Below w.heap.size w w7) := Lib.hid (by have := HW6.out; (repeat' (first | (with_reducible exact Below.refl _ _) | (with_reducible assumption) | (with_reducible refine below_drewN ?_ _) | (with_reducible refine below_new ?_ _) | (with_reducible refine Below.alloc ?_ ?_ _) | (with_reducible refine Below.drew ?_) | (with_reducible refine Below.setCell ?_ ?_ _) | (with_reducible apply below_at; (case k => (with_reducible assumption)); (case hB => omega)) | (with_reducible apply below_on; (with_reducible assumption)) | (go_size; done) | (with_reducible apply size_of))))
    have cv1 := conv8 (n := zs.length) (c := cap) (HC.out.below HW7.out (Nat.le_refl _)) rfl
    have cv2 := conv8 (n := zs.length) (c := c1) (HH6.out.below hb7 (Nat.le_refl _)) rfl
    go_wp2_with fail
    go_ret
    exact ⟨rfl, HW7.out⟩
theorem runs (A B : Option Addr) (lp ln cp cn : Nat) (m : Ad) (s : Int) (C : Option Addr) (len cap : Nat) (z : List Int) (w : World) (hf : AdIn w A B lp ln m ∧ lp ≤ cp ∧ ln ≤ cn) (s0 : 0 ≤ s) (s1 : s ≤ 255) (hr : IsRow .u8 w C len cap z) :
    Calls Try.prog 5 #[.agg #[.int .i32 (m).l, .slice A lp cp, .slice B ln cn], .int .u8 s, .slice C len cap] w fun e w' => e = .returned (.bool true) ∧ Below w.heap.size w w' := by
  obtain ⟨hh, hlen, hm, hw⟩ := has_of_row hr
  have hz : ∀ z_1 ∈ z.take len, 0 ≤ z_1 ∧ z_1 ≤ 255 := fun x hx => bounds_u8 (hw x hx)
  generalize hzs : z.take len = zs at *
  subst hlen
  cases hg : (decide (300 < lp) || decide (300 < ln))
  · by_cases h1 : (500 : Int) < zs.length
    · by_cases h2 : (zs.length : Int) ≤ 20000
      · exact runs_out m A B lp ln cp cn s C _ cap w hf.1 (.inr (.inl ⟨hg, h1, h2⟩))
      · by_cases h3 : (20100 : Int) < zs.length
        · exact runs_out m A B lp ln cp cn s C _ cap w hf.1 (.inr (.inr ⟨hg, h1, h2, h3⟩))
        · exact runs_main m A B lp ln cp cn s C cap zs w hf.1 hf.2.1 hf.2.2 s0 s1 hg hh hz (.inr ⟨h1, h2⟩) h3
    · exact runs_main m A B lp ln cp cn s C cap zs w hf.1 hf.2.1 hf.2.2 s0 s1 hg hh hz (.inl h1) (by omega)
  · exact runs_out m A B lp ln cp cn s C _ cap w hf.1 (.inl hg)
end Go.Proofs.Ytipbafcjmeibpaa.adL
