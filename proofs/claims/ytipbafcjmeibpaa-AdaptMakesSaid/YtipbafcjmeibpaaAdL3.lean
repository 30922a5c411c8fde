/- Adaptive maps compared; runs in parts, by walks. -/
import Derived.Test.YtipbafcjmeibpaaAdL1
import Derived.Test.YtipbafcjmeibpaaAdW11
import Derived.Test.YtipbafcjmeibpaaAdW8
namespace Go.Proofs.Ytipbafcjmeibpaa.adL
open Go.RowKit Go.Proofs.Ytipbafcjmeibpaa.base Go.Proofs.Ytipbafcjmeibpaa.adP Go.Proofs.Ytipbafcjmeibpaa.adW
set_option linter.unusedVariables false
set_option linter.unusedSimpArgs false

def adEq (a b : Ad) : Bool := decide (a.l = b.l) && (decide (a.p = b.p) && decide (a.n = b.n))
theorem adEq_iff (a b : Ad) : adEq a b = true ↔ a = b := by
  obtain ⟨l, p, n⟩ := a
  obtain ⟨l', p', n'⟩ := b
  simp [adEq]
set_option maxHeartbeats 1000000 in
theorem Same_any (a b : Ad) (A B C D : Option Addr) (lp ln mp mn c1 c2 c3 c4 : Nat) (w : World) (ha : AdIn w A B lp ln a) (hb : AdIn w C D mp mn b) :
    Calls Try.prog 15 #[.agg #[.int .i32 (a).l, .slice A lp c1, .slice B ln c2], .agg #[.int .i32 (b).l, .slice C mp c3, .slice D mn c4]] w fun e w' => e = .returned (.bool (adEq a b)) ∧ Below w.heap.size w w' := by
  have HA := Lib.hid ha
  have HB := Lib.hid hb
  clear ha hb
  by_cases e1 : a.l = b.l
  · by_cases e2 : a.p = b.p
    · have HV : Hid (adEq a b = decide (a.n = b.n)) := Lib.hid (by unfold adEq; rw [decide_eq_true e1, decide_eq_true e2]; rfl)
      have e2' : decide (a.p = b.p) = true := decide_eq_true e2
      have HE2 := Lib.hid e2'
      clear e2 e2'
      have e1' : (a.l == b.l) = true := by simpa using e1
      generalize a.l = l1 at *
      generalize b.l = l2 at *
      clear e1
      go_enter Try.func15, Try.ntmps15
      go_wp2_with fail
      refine (sameRows_any A C lp mp c1 c3 a.p b.p _ (HA.out.below (by (repeat' (first | (with_reducible exact Below.refl _ _) | (with_reducible assumption) | (with_reducible refine below_drewN ?_ _) | (with_reducible refine below_new ?_ _) | (with_reducible refine Below.alloc ?_ ?_ _) | (with_reducible refine Below.drew ?_) | (with_reducible refine Below.setCell ?_ ?_ _) | (with_reducible apply below_at; (case k => (with_reducible assumption)); (case hB => omega)) | (with_reducible apply below_on; (with_reducible assumption)) | (go_size; done) | (with_reducible apply size_of))))).hp HA.out.ep (HB.out.below (by (repeat' (first | (with_reducible exact Below.refl _ _) | (with_reducible assumption) | (with_reducible refine below_drewN ?_ _) | (with_reducible refine below_new ?_ _) | (with_reducible refine Below.alloc ?_ ?_ _) | (with_reducible refine Below.drew ?_) | (with_reducible refine Below.setCell ?_ ?_ _) | (with_reducible apply below_at; (case k => (with_reducible assumption)); (case hB => omega)) | (with_reducible apply below_on; (with_reducible assumption)) | (go_size; done) | (with_reducible apply size_of))))).hp HB.out.ep HA.out.mp HB.out.mp HA.out.bp HB.out.bp).mono ?_
      rintro e w1 ⟨rfl, hb1⟩
      rw [HE2.out]
      have K1 : Lies (w1) (w.heap.size) 24 [.int .i32 (l1), .slice (A) (lp) (c1), .slice (B) (ln) (c2)] := (by (repeat' (first | (with_reducible assumption) | (with_reducible exact Lies.fresh _ _ _) | (with_reducible apply Lies.fresh_at; (first | (with_reducible rfl) | (simp; done))) | (with_reducible refine Lies.drew ?_) | (with_reducible refine Lies.drewN ?_ _) | (with_reducible refine Lies.alloc ?_ _) | (with_reducible apply Lies.past; case hb => (with_reducible assumption)) | (with_reducible apply Lies.keeps; (case k => (with_reducible assumption)); (case ht => decide)) | (with_reducible apply Lies.store3) | (with_reducible apply Lies.other; case hp => (first | omega | (simp; done) | (simp; omega))))))
      have L1 : Lies (w1) (w.heap.size + 1) 24 [.int .i32 (l2), .slice (C) (mp) (c3), .slice (D) (mn) (c4)] := (by (repeat' (first | (with_reducible assumption) | (with_reducible exact Lies.fresh _ _ _) | (with_reducible apply Lies.fresh_at; (first | (with_reducible rfl) | (simp; done))) | (with_reducible refine Lies.drew ?_) | (with_reducible refine Lies.drewN ?_ _) | (with_reducible refine Lies.alloc ?_ _) | (with_reducible apply Lies.past; case hb => (with_reducible assumption)) | (with_reducible apply Lies.keeps; (case k => (with_reducible assumption)); (case ht => decide)) | (with_reducible apply Lies.store3) | (with_reducible apply Lies.other; case hp => (first | omega | (simp; done) | (simp; omega))))))
      obtain ⟨p0, p1, p2, -, -, -⟩ := K1.three
      obtain ⟨q0, q1, q2, -, -, -⟩ := L1.three
      go_wp2_with fail
      refine (sameRows_any B D ln mn c2 c4 a.n b.n _ (HA.out.below (by (repeat' (first | (with_reducible exact Below.refl _ _) | (with_reducible assumption) | (with_reducible refine below_drewN ?_ _) | (with_reducible refine below_new ?_ _) | (with_reducible refine Below.alloc ?_ ?_ _) | (with_reducible refine Below.drew ?_) | (with_reducible refine Below.setCell ?_ ?_ _) | (with_reducible apply below_at; (case k => (with_reducible assumption)); (case hB => omega)) | (with_reducible apply below_on; (with_reducible assumption)) | (go_size; done) | (with_reducible apply size_of))))).hn HA.out.en (HB.out.below (by (repeat' (first | (with_reducible exact Below.refl _ _) | (with_reducible assumption) | (with_reducible refine below_drewN ?_ _) | (with_reducible refine below_new ?_ _) | (with_reducible refine Below.alloc ?_ ?_ _) | (with_reducible refine Below.drew ?_) | (with_reducible refine Below.setCell ?_ ?_ _) | (with_reducible apply below_at; (case k => (with_reducible assumption)); (case hB => omega)) | (with_reducible apply below_on; (with_reducible assumption)) | (go_size; done) | (with_reducible apply size_of))))).hn HB.out.en HA.out.mn HB.out.mn HA.out.bn HB.out.bn).mono ?_
      rintro e w2 ⟨rfl, hb2⟩
      go_wp2_with fail
      go_ret
      exact ⟨retb HV.out.symm, by (repeat' (first | (with_reducible exact Below.refl _ _) | (with_reducible assumption) | (with_reducible refine below_drewN ?_ _) | (with_reducible refine below_new ?_ _) | (with_reducible refine Below.alloc ?_ ?_ _) | (with_reducible refine Below.drew ?_) | (with_reducible refine Below.setCell ?_ ?_ _) | (with_reducible apply below_at; (case k => (with_reducible assumption)); (case hB => omega)) | (with_reducible apply below_on; (with_reducible assumption)) | (go_size; done) | (with_reducible apply size_of)))⟩
    · have HV : Hid (adEq a b = false) := Lib.hid (by unfold adEq; rw [decide_eq_false e2]; simp)
      have e2' : decide (a.p = b.p) = false := decide_eq_false e2
      have HE2 := Lib.hid e2'
      clear e2 e2'
      have e1' : (a.l == b.l) = true := by simpa using e1
      generalize a.l = l1 at *
      generalize b.l = l2 at *
      clear e1
      go_enter Try.func15, Try.ntmps15
      go_wp2_with fail
      refine (sameRows_any A C lp mp c1 c3 a.p b.p _ (HA.out.below (by (repeat' (first | (with_reducible exact Below.refl _ _) | (with_reducible assumption) | (with_reducible refine below_drewN ?_ _) | (with_reducible refine below_new ?_ _) | (with_reducible refine Below.alloc ?_ ?_ _) | (with_reducible refine Below.drew ?_) | (with_reducible refine Below.setCell ?_ ?_ _) | (with_reducible apply below_at; (case k => (with_reducible assumption)); (case hB => omega)) | (with_reducible apply below_on; (with_reducible assumption)) | (go_size; done) | (with_reducible apply size_of))))).hp HA.out.ep (HB.out.below (by (repeat' (first | (with_reducible exact Below.refl _ _) | (with_reducible assumption) | (with_reducible refine below_drewN ?_ _) | (with_reducible refine below_new ?_ _) | (with_reducible refine Below.alloc ?_ ?_ _) | (with_reducible refine Below.drew ?_) | (with_reducible refine Below.setCell ?_ ?_ _) | (with_reducible apply below_at; (case k => (with_reducible assumption)); (case hB => omega)) | (with_reducible apply below_on; (with_reducible assumption)) | (go_size; done) | (with_reducible apply size_of))))).hp HB.out.ep HA.out.mp HB.out.mp HA.out.bp HB.out.bp).mono ?_
      rintro e w1 ⟨rfl, hb1⟩
      rw [HE2.out]
      go_wp2_with fail
      go_ret
      exact ⟨retb HV.out.symm, by (repeat' (first | (with_reducible exact Below.refl _ _) | (with_reducible assumption) | (with_reducible refine below_drewN ?_ _) | (with_reducible refine below_new ?_ _) | (with_reducible refine Below.alloc ?_ ?_ _) | (with_reducible refine Below.drew ?_) | (with_reducible refine Below.setCell ?_ ?_ _) | (with_reducible apply below_at; (case k => (with_reducible assumption)); (case hB => omega)) | (with_reducible apply below_on; (with_reducible assumption)) | (go_size; done) | (with_reducible apply size_of)))⟩
  · have HV : Hid (adEq a b = false) := Lib.hid (by unfold adEq; rw [decide_eq_false e1]; rfl)
    have e1' : (a.l == b.l) = false := by simpa using e1
    clear e1
    generalize a.l = l1 at *
    generalize b.l = l2 at *
    go_enter Try.func15, Try.ntmps15
    go_wp2_with fail
    go_ret
    exact ⟨retb HV.out.symm, by (repeat' (first | (with_reducible exact Below.refl _ _) | (with_reducible assumption) | (with_reducible refine below_drewN ?_ _) | (with_reducible refine below_new ?_ _) | (with_reducible refine Below.alloc ?_ ?_ _) | (with_reducible refine Below.drew ?_) | (with_reducible refine Below.setCell ?_ ?_ _) | (with_reducible apply below_at; (case k => (with_reducible assumption)); (case hB => omega)) | (with_reducible apply below_on; (with_reducible assumption)) | (go_size; done) | (with_reducible apply size_of)))⟩
end Go.Proofs.Ytipbafcjmeibpaa.adL
