/- What the functions of package nibble return on walks: Node, Second, Step, Of. -/
import Derived.Test.YtjhfamoldppclaaNibW
namespace Go.Proofs.Ytjhfamoldppclaa.nibW
open Go.RowKit Go.Proofs.Ytjhfamoldppclaa.base Go.Proofs.Ytjhfamoldppclaa.nibP
set_option linter.unusedVariables false
set_option linter.unusedSimpArgs false

def ndV (p : Int) : Int := if wOk p then nd p.toNat else 0
def scV (p : Int) : Bool := wOk p && decide (16 ≤ p)
def stP (p : Int) (b : Bool) : Int := if wOk p then (if p < 128 then 2 * p + b.toInt else 1) else 0
def stD (p : Int) : Bool := wOk p && decide (128 ≤ p)
def stB (p : Int) (b : Bool) : Int := if wOk p then (if p < 128 then 0 else 2 * p + b.toInt - 256) else 0
def ofV (l : List Bool) : Int := if l.length ≤ 7 then prt l else 0
def ofE (l : List Bool) : Int := if l.length ≤ 7 then 0 else 4

set_option maxHeartbeats 1000000 in
theorem Node_any (p : Int) (w : World) : Calls Try.prog 10 #[.agg #[.int .i64 (p)]] w fun e w' => e = .returned (.tuple #[.int .i64 (ndV p), .int .i64 (wE p)]) ∧ Below w.heap.size w w' := by
  cases hk : wOk p
  · have e1 : wE p = 8 := wE_no hk
    have HK := Lib.hid hk
    clear hk
    go_enter Try.func10, Try.ntmps10
    go_wp2_with (go_at_call 19; refine (Check_any _ _).mono ?_; rintro e w1 ⟨rfl, hb1⟩; obtain ⟨cl1, fr1⟩ := bcell hb1; have sz1 := hb1.size; (try simp at sz1); (try have sy1 : w.heap.size + 1 < (w1).heap.size := (by omega)); have sx1 : w.heap.size < (w1).heap.size := (by omega))
    go_ret2
    exact ⟨ret2 (by simp [ndV, HK.out]) e1.symm, by (repeat' (first | (with_reducible exact Below.refl _ _) | (with_reducible assumption) | (with_reducible refine below_drewN ?_ _) | (with_reducible refine below_new ?_ _) | (with_reducible refine Below.alloc ?_ ?_ _) | (with_reducible refine Below.drew ?_) | (with_reducible refine Below.setCell ?_ ?_ _) | (with_reducible apply below_on; (with_reducible assumption)) | (go_size; done) | (with_reducible apply size_of)))⟩
  · have e1 : wE p = 0 := wE_yes hk
    have h := (wOk_iff p).1 hk
    obtain ⟨n, rfl⟩ : ∃ n : Nat, p = n := ⟨p.toNat, by omega⟩
    have h1 : 1 ≤ n := by omega
    have h2 : n < 256 := by omega
    have HK := Lib.hid hk
    clear hk h
    go_enter Try.func10, Try.ntmps10
    go_wp2_with (first | (go_at_call 19; refine (Check_any _ _).mono ?_; rintro e w1 ⟨rfl, hb1⟩; obtain ⟨cl1, fr1⟩ := bcell hb1; have sz1 := hb1.size; (try simp at sz1); (try have sy1 : w.heap.size + 1 < (w1).heap.size := (by omega)); have sx1 : w.heap.size < (w1).heap.size := (by omega)) | (go_at_call 28; refine (node_any _ _ h1 h2).mono ?_; rintro e w' ⟨rfl, rfl⟩))
    go_ret2
    exact ⟨ret2 (by simp [ndV, HK.out]) e1.symm, by (repeat' (first | (with_reducible exact Below.refl _ _) | (with_reducible assumption) | (with_reducible refine below_drewN ?_ _) | (with_reducible refine below_new ?_ _) | (with_reducible refine Below.alloc ?_ ?_ _) | (with_reducible refine Below.drew ?_) | (with_reducible refine Below.setCell ?_ ?_ _) | (with_reducible apply below_on; (with_reducible assumption)) | (go_size; done) | (with_reducible apply size_of)))⟩
set_option maxHeartbeats 1000000 in
theorem Second_any (p : Int) (w : World) : Calls Try.prog 12 #[.agg #[.int .i64 (p)]] w fun e w' => e = .returned (.tuple #[.bool (scV p), .int .i64 (wE p)]) ∧ Below w.heap.size w w' := by
  cases hk : wOk p
  · have e1 : wE p = 8 := wE_no hk
    have HK := Lib.hid hk
    clear hk
    go_enter Try.func12, Try.ntmps12
    go_wp2_with (go_at_call 19; refine (Check_any _ _).mono ?_; rintro e w1 ⟨rfl, hb1⟩; obtain ⟨cl1, fr1⟩ := bcell hb1; have sz1 := hb1.size; (try simp at sz1); (try have sy1 : w.heap.size + 1 < (w1).heap.size := (by omega)); have sx1 : w.heap.size < (w1).heap.size := (by omega))
    go_ret2
    exact ⟨by simp [scV, HK.out, e1], by (repeat' (first | (with_reducible exact Below.refl _ _) | (with_reducible assumption) | (with_reducible refine below_drewN ?_ _) | (with_reducible refine below_new ?_ _) | (with_reducible refine Below.alloc ?_ ?_ _) | (with_reducible refine Below.drew ?_) | (with_reducible refine Below.setCell ?_ ?_ _) | (with_reducible apply below_on; (with_reducible assumption)) | (go_size; done) | (with_reducible apply size_of)))⟩
  · have e1 : wE p = 0 := wE_yes hk
    have HK := Lib.hid hk
    clear hk
    go_enter Try.func12, Try.ntmps12
    go_wp2_with (first | (go_at_call 19; refine (Check_any _ _).mono ?_; rintro e w1 ⟨rfl, hb1⟩; obtain ⟨cl1, fr1⟩ := bcell hb1; have sz1 := hb1.size; (try simp at sz1); (try have sy1 : w.heap.size + 1 < (w1).heap.size := (by omega)); have sx1 : w.heap.size < (w1).heap.size := (by omega)))
    go_ret2
    exact ⟨by simp [scV, HK.out, e1], by (repeat' (first | (with_reducible exact Below.refl _ _) | (with_reducible assumption) | (with_reducible refine below_drewN ?_ _) | (with_reducible refine below_new ?_ _) | (with_reducible refine Below.alloc ?_ ?_ _) | (with_reducible refine Below.drew ?_) | (with_reducible refine Below.setCell ?_ ?_ _) | (with_reducible apply below_on; (with_reducible assumption)) | (go_size; done) | (with_reducible apply size_of)))⟩
set_option maxHeartbeats 400000 in
theorem extendedI_any (p : Int) (b : Bool) (w : World) (h1 : 1 ≤ p) (h2 : p ≤ 1000) : Calls Try.prog 26 #[.int .i64 p, .bool b] w fun e w' => e = .returned (.int .i64 (2 * p + b.toInt)) ∧ w = w' := by
  obtain ⟨n, rfl⟩ : ∃ n : Nat, p = n := ⟨p.toNat, by omega⟩
  have := extended_any n b w (by omega)
  rw [show ((2 * n + b.toNat : Nat) : Int) = 2 * (n : Int) + b.toInt by cases b <;> simp] at this
  exact this
set_option maxHeartbeats 1000000 in
theorem Step_any (p : Int) (b : Bool) (w : World) : Calls Try.prog 8 #[.agg #[.int .i64 (p)], .bool b] w fun e w' => e = .returned (.tuple #[.agg #[.int .i64 (stP p b)], .bool (stD p), .int .u8 (stB p b), .int .i64 (wE p)]) ∧ Below w.heap.size w w' := by
  cases hk : wOk p
  · have e1 : wE p = 8 := wE_no hk
    have HK := Lib.hid hk
    clear hk
    go_enter Try.func8, Try.ntmps8
    go_wp2_with (go_at_call 19; refine (Check_any _ _).mono ?_; rintro e w1 ⟨rfl, hb1⟩; obtain ⟨cl1, fr1⟩ := bcell hb1; have sz1 := hb1.size; (try simp at sz1); (try have sy1 : w.heap.size + 1 < (w1).heap.size := (by omega)); have sx1 : w.heap.size < (w1).heap.size := (by omega))
    refine bodyPost_ret (by simp [results, Try.results8, go_sem, cl1, sy1]; try rfl) rfl ?_
    exact ⟨by simp [stP, stD, stB, HK.out, e1], by (repeat' (first | (with_reducible exact Below.refl _ _) | (with_reducible assumption) | (with_reducible refine below_drewN ?_ _) | (with_reducible refine below_new ?_ _) | (with_reducible refine Below.alloc ?_ ?_ _) | (with_reducible refine Below.drew ?_) | (with_reducible refine Below.setCell ?_ ?_ _) | (with_reducible apply below_on; (with_reducible assumption)) | (go_size; done) | (with_reducible apply size_of)))⟩
  · have e1 : wE p = 0 := wE_yes hk
    have h := (wOk_iff p).1 hk
    have h1 := h.1
    have h2 := h.2
    have HK := Lib.hid hk
    have hb : 0 ≤ b.toInt ∧ b.toInt ≤ 1 := by cases b <;> decide
    clear hk h
    obtain ⟨m, hm⟩ : ∃ m : Int, m = 2 * p + b.toInt := ⟨_, rfl⟩
    have R := fun w => extendedI_any p b w h1 (by omega)
    rw [← hm] at R
    have g3 : m ≤ 511 := by omega
    have g4 : p < 128 ↔ m < 256 := by omega
    have HM := Lib.hid hm
    have G4 := Lib.hid g4
    clear hm g4 hb
    by_cases c : m < 256
    · go_enter Try.func8, Try.ntmps8
      go_wp2_with (first | (go_at_call 19; refine (Check_any _ _).mono ?_; rintro e w1 ⟨rfl, hb1⟩; obtain ⟨cl1, fr1⟩ := bcell hb1; have sz1 := hb1.size; (try simp at sz1); (try have sy1 : w.heap.size + 1 < (w1).heap.size := (by omega)); have sx1 : w.heap.size < (w1).heap.size := (by omega)) | (go_at_call 26; refine (R _).mono ?_; rintro e w' ⟨rfl, rfl⟩))
      refine bodyPost_ret (by simp [results, Try.results8, go_sem, cl1, sy1]; try rfl) rfl ?_
      have hn := G4.out.2 c
      refine ⟨?_, by (repeat' (first | (with_reducible exact Below.refl _ _) | (with_reducible assumption) | (with_reducible refine below_drewN ?_ _) | (with_reducible refine below_new ?_ _) | (with_reducible refine Below.alloc ?_ ?_ _) | (with_reducible refine Below.drew ?_) | (with_reducible refine Below.setCell ?_ ?_ _) | (with_reducible apply below_on; (with_reducible assumption)) | (go_size; done) | (with_reducible apply size_of)))⟩
      rw [stP, stD, stB, e1, if_pos HK.out, if_pos HK.out, if_pos hn, if_pos hn, HK.out, ← HM.out, decide_eq_false (by omega)]
      rfl
    · have hn : ¬ p < 128 := fun h => c (G4.out.1 h)
      have HW : Hid (m - 256 = stB p b) := Lib.hid (by rw [stB, if_pos HK.out, if_neg hn, HM.out])
      go_enter Try.func8, Try.ntmps8
      go_wp2_with (first | (go_at_call 19; refine (Check_any _ _).mono ?_; rintro e w1 ⟨rfl, hb1⟩; obtain ⟨cl1, fr1⟩ := bcell hb1; have sz1 := hb1.size; (try simp at sz1); (try have sy1 : w.heap.size + 1 < (w1).heap.size := (by omega)); have sx1 : w.heap.size < (w1).heap.size := (by omega)) | (go_at_call 26; refine (R _).mono ?_; rintro e w' ⟨rfl, rfl⟩) | (go_at_call 18; refine (New_any _).mono ?_; rintro e w2 ⟨rfl, hb2⟩; obtain ⟨cl2, fr2⟩ := bcell hb2; have sz2 := hb2.size; (try simp at sz2); (try have sy2 : w.heap.size + 1 < (w2).heap.size := (by omega)); have sx2 : w.heap.size < (w2).heap.size := (by omega)))
      refine bodyPost_ret (by simp [results, Try.results8, go_sem, cl1, sy1, cl2, sy2]; try rfl) rfl ?_
      refine ⟨?_, by (repeat' (first | (with_reducible exact Below.refl _ _) | (with_reducible assumption) | (with_reducible refine below_drewN ?_ _) | (with_reducible refine below_new ?_ _) | (with_reducible refine Below.alloc ?_ ?_ _) | (with_reducible refine Below.drew ?_) | (with_reducible refine Below.setCell ?_ ?_ _) | (with_reducible apply below_on; (with_reducible assumption)) | (go_size; done) | (with_reducible apply size_of)))⟩
      rw [stP, stD, ← HW.out, e1, if_pos HK.out, if_neg (by omega), HK.out, decide_eq_true (by omega)]
      rfl
end Go.Proofs.Ytjhfamoldppclaa.nibW
