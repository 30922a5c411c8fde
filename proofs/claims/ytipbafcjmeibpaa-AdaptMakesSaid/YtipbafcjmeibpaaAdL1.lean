/- AdaptRange, by a walk. -/
import Derived.Test.YtipbafcjmeibpaaAdL
import Derived.Deep.DeepCutAuto
import Derived.BigQuiet
namespace Go.Proofs.Ytipbafcjmeibpaa.adL
open Go.RowKit Go.Proofs.Ytipbafcjmeibpaa.base Go.Proofs.Ytipbafcjmeibpaa.adP Go.Proofs.Ytipbafcjmeibpaa.adW
set_option linter.unusedVariables false
set_option linter.unusedSimpArgs false

def fitB (m : Ad) (lp ln : Nat) (s b : Int) : Bool := !(decide (300 < lp) || decide (300 < ln)) && (decide (atE m s = 0) && decide (b ≤ 1))
set_option maxHeartbeats 1000000 in
theorem fit_any (m : Ad) (A B : Option Addr) (lp ln cp cn : Nat) (s b : Int) (w : World) (h : AdIn w A B lp ln m) (s0 : 0 ≤ s) (s1 : s ≤ 255) (b0 : 0 ≤ b) :
    Calls Try.prog 23 #[.agg #[.int .i32 (m).l, .slice A lp cp, .slice B ln cn], .int .u8 s, .int .u8 b] w fun e w' => e = .returned (.bool (fitB m lp ln s b)) ∧ Below w.heap.size w w' := by
  have H := Lib.hid h
  have m1 := h.mp
  have m2 := h.mn
  clear h
  cases hg : (decide (300 < lp) || decide (300 < ln))
  · by_cases hk : atE m s = 0
    · have HV : Hid (fitB m lp ln s b = decide (b ≤ 1)) := Lib.hid (by unfold fitB; rw [hg, decide_eq_true hk]; simp)
      have HG := Lib.hid hg
      have HK := Lib.hid hk
      clear hg hk
      go_enter Try.func23, Try.ntmps23
      go_wp2_with (first | (go_at_call 17; refine (great_any m A B lp ln cp cn _ m1 m2).mono ?_; rintro e w1 ⟨rfl, hb1⟩; rw [HG.out]; have K1 : Lies (w1) (w.heap.size) 24 [.int .i32 (m.l), .slice (A) (lp) (cp), .slice (B) (ln) (cn)] := (by (repeat' (first | (with_reducible assumption) | (with_reducible exact Lies.fresh _ _ _) | (with_reducible apply Lies.fresh_at; (first | (with_reducible rfl) | (simp; done))) | (with_reducible refine Lies.drew ?_) | (with_reducible refine Lies.drewN ?_ _) | (with_reducible refine Lies.alloc ?_ _) | (with_reducible apply Lies.past; case hb => (with_reducible assumption)) | (with_reducible apply Lies.keeps; (case k => (with_reducible assumption)); (case ht => decide)) | (with_reducible apply Lies.store3) | (with_reducible apply Lies.other; case hp => (first | omega | (simp; done) | (simp; omega)))))); obtain ⟨p0, p1, p2, -, -, -⟩ := K1.three; have l1 := K1.lt) | (go_at_call 34; refine (rAt_any m A B lp ln cp cn s _ (H.out.below (by (repeat' (first | (with_reducible exact Below.refl _ _) | (with_reducible assumption) | (with_reducible refine below_drewN ?_ _) | (with_reducible refine below_new ?_ _) | (with_reducible refine Below.alloc ?_ ?_ _) | (with_reducible refine Below.drew ?_) | (with_reducible refine Below.setCell ?_ ?_ _) | (with_reducible apply below_at; (case k => (with_reducible assumption)); (case hB => omega)) | (with_reducible apply below_on; (with_reducible assumption)) | (go_size; done) | (with_reducible apply size_of))))) s0 s1).mono ?_; rintro e w2 ⟨rfl, hb2⟩; rw [HK.out]))
      go_ret
      exact ⟨retb HV.out.symm, by (repeat' (first | (with_reducible exact Below.refl _ _) | (with_reducible assumption) | (with_reducible refine below_drewN ?_ _) | (with_reducible refine below_new ?_ _) | (with_reducible refine Below.alloc ?_ ?_ _) | (with_reducible refine Below.drew ?_) | (with_reducible refine Below.setCell ?_ ?_ _) | (with_reducible apply below_at; (case k => (with_reducible assumption)); (case hB => omega)) | (with_reducible apply below_on; (with_reducible assumption)) | (go_size; done) | (with_reducible apply size_of)))⟩
    · have HV : Hid (fitB m lp ln s b = false) := Lib.hid (by unfold fitB; rw [decide_eq_false hk]; simp)
      have HG := Lib.hid hg
      obtain ⟨e, he, hne⟩ : ∃ e, atE m s = e ∧ (e == 0) = false := ⟨_, rfl, by simpa using hk⟩
      have HE := Lib.hid he
      clear hg hk he
      go_enter Try.func23, Try.ntmps23
      go_wp2_with (first | (go_at_call 17; refine (great_any m A B lp ln cp cn _ m1 m2).mono ?_; rintro e w1 ⟨rfl, hb1⟩; rw [HG.out]; have K1 : Lies (w1) (w.heap.size) 24 [.int .i32 (m.l), .slice (A) (lp) (cp), .slice (B) (ln) (cn)] := (by (repeat' (first | (with_reducible assumption) | (with_reducible exact Lies.fresh _ _ _) | (with_reducible apply Lies.fresh_at; (first | (with_reducible rfl) | (simp; done))) | (with_reducible refine Lies.drew ?_) | (with_reducible refine Lies.drewN ?_ _) | (with_reducible refine Lies.alloc ?_ _) | (with_reducible apply Lies.past; case hb => (with_reducible assumption)) | (with_reducible apply Lies.keeps; (case k => (with_reducible assumption)); (case ht => decide)) | (with_reducible apply Lies.store3) | (with_reducible apply Lies.other; case hp => (first | omega | (simp; done) | (simp; omega)))))); obtain ⟨p0, p1, p2, -, -, -⟩ := K1.three; have l1 := K1.lt) | (go_at_call 34; refine (rAt_any m A B lp ln cp cn s _ (H.out.below (by (repeat' (first | (with_reducible exact Below.refl _ _) | (with_reducible assumption) | (with_reducible refine below_drewN ?_ _) | (with_reducible refine below_new ?_ _) | (with_reducible refine Below.alloc ?_ ?_ _) | (with_reducible refine Below.drew ?_) | (with_reducible refine Below.setCell ?_ ?_ _) | (with_reducible apply below_at; (case k => (with_reducible assumption)); (case hB => omega)) | (with_reducible apply below_on; (with_reducible assumption)) | (go_size; done) | (with_reducible apply size_of))))) s0 s1).mono ?_; rintro e w2 ⟨rfl, hb2⟩; rw [HE.out]))
      go_ret
      exact ⟨retb HV.out.symm, by (repeat' (first | (with_reducible exact Below.refl _ _) | (with_reducible assumption) | (with_reducible refine below_drewN ?_ _) | (with_reducible refine below_new ?_ _) | (with_reducible refine Below.alloc ?_ ?_ _) | (with_reducible refine Below.drew ?_) | (with_reducible refine Below.setCell ?_ ?_ _) | (with_reducible apply below_at; (case k => (with_reducible assumption)); (case hB => omega)) | (with_reducible apply below_on; (with_reducible assumption)) | (go_size; done) | (with_reducible apply size_of)))⟩
  · have HV : Hid (fitB m lp ln s b = false) := Lib.hid (by unfold fitB; rw [hg]; rfl)
    have HG := Lib.hid hg
    clear hg
    go_enter Try.func23, Try.ntmps23
    go_wp2_with (first | (go_at_call 17; refine (great_any m A B lp ln cp cn _ m1 m2).mono ?_; rintro e w1 ⟨rfl, hb1⟩; rw [HG.out]))
    go_ret
    exact ⟨retb HV.out.symm, by (repeat' (first | (with_reducible exact Below.refl _ _) | (with_reducible assumption) | (with_reducible refine below_drewN ?_ _) | (with_reducible refine below_new ?_ _) | (with_reducible refine Below.alloc ?_ ?_ _) | (with_reducible refine Below.drew ?_) | (with_reducible refine Below.setCell ?_ ?_ _) | (with_reducible apply below_at; (case k => (with_reducible assumption)); (case hB => omega)) | (with_reducible apply below_on; (with_reducible assumption)) | (go_size; done) | (with_reducible apply size_of)))⟩
theorem fit_bd {m : Ad} {lp ln : Nat} {s b : Int} (h : fitB m lp ln s b = true) : lp ≤ 300 ∧ ln ≤ 300 ∧ atE m s = 0 ∧ b ≤ 1 := by
  simp [fitB] at h
  omega
set_option maxHeartbeats 1000000 in
theorem range_out (m : Ad) (A B : Option Addr) (lp ln cp cn : Nat) (s b : Int) (w : World) (h : AdIn w A B lp ln m) (s0 : 0 ≤ s) (s1 : s ≤ 255) (b0 : 0 ≤ b) (hf : fitB m lp ln s b = false) :
    Calls Try.prog 6 #[.agg #[.int .i32 (m).l, .slice A lp cp, .slice B ln cn], .int .u8 s, .int .u8 b] w fun e w' => e = .returned (.bool true) ∧ Below w.heap.size w w' := by
  have H := Lib.hid h
  have HF := Lib.hid hf
  clear h hf
  go_enter Try.func6, Try.ntmps6
  go_wp2_with (first | (go_at_call 23; refine (fit_any m A B lp ln cp cn s b _ (H.out.below (by (repeat' (first | (with_reducible exact Below.refl _ _) | (with_reducible assumption) | (with_reducible refine below_drewN ?_ _) | (with_reducible refine below_new ?_ _) | (with_reducible refine Below.alloc ?_ ?_ _) | (with_reducible refine Below.drew ?_) | (with_reducible refine Below.setCell ?_ ?_ _) | (with_reducible apply below_at; (case k => (with_reducible assumption)); (case hB => omega)) | (with_reducible apply below_on; (with_reducible assumption)) | (go_size; done) | (with_reducible apply size_of))))) s0 s1 b0).mono ?_; rintro e w1 ⟨rfl, hb1⟩; rw [HF.out]) | (go_at_call 16; refine (alive _).mono ?_; rintro e w2 ⟨rfl, hb2⟩))
  go_ret
  exact ⟨rfl, by (repeat' (first | (with_reducible exact Below.refl _ _) | (with_reducible assumption) | (with_reducible refine below_drewN ?_ _) | (with_reducible refine below_new ?_ _) | (with_reducible refine Below.alloc ?_ ?_ _) | (with_reducible refine Below.drew ?_) | (with_reducible refine Below.setCell ?_ ?_ _) | (with_reducible apply below_at; (case k => (with_reducible assumption)); (case hB => omega)) | (with_reducible apply below_on; (with_reducible assumption)) | (go_size; done) | (with_reducible apply size_of)))⟩
end Go.Proofs.Ytipbafcjmeibpaa.adL
