/- The reference's check and comparison of cursors, by walks. -/
import Derived.Test.YtlbokbbgpalkaaaOcW7
namespace Go.Proofs.Ytlbokbbgpalkaaa.ocW
open Go.RowKit Go.Proofs.Ytlbokbbgpalkaaa.base Go.Proofs.Ytlbokbbgpalkaaa.ocP
set_option linter.unusedVariables false
set_option linter.unusedSimpArgs false

set_option maxHeartbeats 1000000 in
theorem rCheck_any (c : Cu) (A : Option Addr) (n d : Nat) (w : World) (h : CuIn w A n d c) :
    Calls Try.prog 28 #[.agg #[.slice A n d, .int .i64 (c).a]] w fun e w' => e = .returned (.int .i64 (cuE c)) ∧ Below w.heap.size w w' := by
  have he := h.e
  have n9 : (n : Int) ≤ 9223372036854775807 := by have := h.c1; have := h.c2; omega
  have HE : Hid (cuE c = if (n : Int) ≤ 50000 ∧ 0 ≤ c.a ∧ c.a ≤ n then 0 else 8) := Lib.hid (by
    unfold cuE
    by_cases hh : (n : Int) ≤ 50000 ∧ 0 ≤ c.a ∧ c.a ≤ n
    · rw [if_pos hh, if_pos ((cuB_iff c).2 ⟨by omega, hh.2.1, by omega⟩)]
    · rw [if_neg hh, if_neg (fun h2 => hh (by have := (cuB_iff c).1 h2; omega))])
  clear h he
  generalize c.a = a at *
  by_cases c1 : (n : Int) ≤ 50000
  · by_cases c2 : 0 ≤ a
    · by_cases c3 : a ≤ n
      · go_enter Try.func28, Try.ntmps28
        go_wp2
        go_ret
        exact ⟨ret1 (by rw [HE.out, if_pos ⟨c1, c2, c3⟩]), by (repeat' (first | (with_reducible exact Below.refl _ _) | (with_reducible assumption) | (with_reducible refine below_drewN ?_ _) | (with_reducible refine below_new ?_ _) | (with_reducible refine Below.alloc ?_ ?_ _) | (with_reducible refine Below.drew ?_) | (with_reducible refine Below.setCell ?_ ?_ _) | (with_reducible apply below_at; (case k => (with_reducible assumption)); (case hB => omega)) | (with_reducible apply below_on; (with_reducible assumption)) | (go_size; done) | (with_reducible apply size_of)))⟩
      · go_enter Try.func28, Try.ntmps28
        go_wp2
        go_ret
        exact ⟨ret1 (by rw [HE.out, if_neg (by omega)]), by (repeat' (first | (with_reducible exact Below.refl _ _) | (with_reducible assumption) | (with_reducible refine below_drewN ?_ _) | (with_reducible refine below_new ?_ _) | (with_reducible refine Below.alloc ?_ ?_ _) | (with_reducible refine Below.drew ?_) | (with_reducible refine Below.setCell ?_ ?_ _) | (with_reducible apply below_at; (case k => (with_reducible assumption)); (case hB => omega)) | (with_reducible apply below_on; (with_reducible assumption)) | (go_size; done) | (with_reducible apply size_of)))⟩
    · go_enter Try.func28, Try.ntmps28
      go_wp2
      go_ret
      exact ⟨ret1 (by rw [HE.out, if_neg (by omega)]), by (repeat' (first | (with_reducible exact Below.refl _ _) | (with_reducible assumption) | (with_reducible refine below_drewN ?_ _) | (with_reducible refine below_new ?_ _) | (with_reducible refine Below.alloc ?_ ?_ _) | (with_reducible refine Below.drew ?_) | (with_reducible refine Below.setCell ?_ ?_ _) | (with_reducible apply below_at; (case k => (with_reducible assumption)); (case hB => omega)) | (with_reducible apply below_on; (with_reducible assumption)) | (go_size; done) | (with_reducible apply size_of)))⟩
  · go_enter Try.func28, Try.ntmps28
    go_wp2
    go_ret
    exact ⟨ret1 (by rw [HE.out, if_neg (by omega)]), by (repeat' (first | (with_reducible exact Below.refl _ _) | (with_reducible assumption) | (with_reducible refine below_drewN ?_ _) | (with_reducible refine below_new ?_ _) | (with_reducible refine Below.alloc ?_ ?_ _) | (with_reducible refine Below.drew ?_) | (with_reducible refine Below.setCell ?_ ?_ _) | (with_reducible apply below_at; (case k => (with_reducible assumption)); (case hB => omega)) | (with_reducible apply below_on; (with_reducible assumption)) | (go_size; done) | (with_reducible apply size_of)))⟩
set_option maxHeartbeats 1000000 in
theorem rSame_any (a b : Int) (ys zs : List Int) (A B : Option Addr) (n m d k : Nat) (w : World) (hA : Has .u8 w A ys) (eA : ys.length = n) (hB : Has .u8 w B zs) (eB : zs.length = m) (m1 : n ≤ 9223372036854775807) (m2 : m ≤ 9223372036854775807) :
    Calls Try.prog 17 #[.agg #[.slice A n d, .int .i64 a], .agg #[.slice B m k, .int .i64 b]] w fun e w' => e = .returned (.bool (decide (a = b) && decide (ys = zs))) ∧ Below w.heap.size w w' := by
  have HA := Lib.hid hA
  have HB := Lib.hid hB
  have EA := Lib.hid eA
  have EB := Lib.hid eB
  have M1 := Lib.hid m1
  have M2 := Lib.hid m2
  clear hA hB eA eB m1 m2
  by_cases h : a = b
  · subst h
    have h1 : (a == a) = true := by simp
    have HR : Hid (decide (a = a) = true) := Lib.hid (decide_eq_true rfl)
    go_enter Try.func17, Try.ntmps17
    go_wp2_with (first | (go_at_call 16; refine (same8_any A B n m _ _ ys zs _ (HA.out.below (by (repeat' (first | (with_reducible exact Below.refl _ _) | (with_reducible assumption) | (with_reducible refine below_drewN ?_ _) | (with_reducible refine below_new ?_ _) | (with_reducible refine Below.alloc ?_ ?_ _) | (with_reducible refine Below.drew ?_) | (with_reducible refine Below.setCell ?_ ?_ _) | (with_reducible apply below_at; (case k => (with_reducible assumption)); (case hB => omega)) | (with_reducible apply below_on; (with_reducible assumption)) | (go_size; done) | (with_reducible apply size_of)))) (Nat.le_refl _)) EA.out (HB.out.below (by (repeat' (first | (with_reducible exact Below.refl _ _) | (with_reducible assumption) | (with_reducible refine below_drewN ?_ _) | (with_reducible refine below_new ?_ _) | (with_reducible refine Below.alloc ?_ ?_ _) | (with_reducible refine Below.drew ?_) | (with_reducible refine Below.setCell ?_ ?_ _) | (with_reducible apply below_at; (case k => (with_reducible assumption)); (case hB => omega)) | (with_reducible apply below_on; (with_reducible assumption)) | (go_size; done) | (with_reducible apply size_of)))) (Nat.le_refl _)) EB.out M1.out M2.out).mono ?_; rintro e w2 ⟨rfl, hb2⟩))
    go_ret
    exact ⟨retb (by rw [HR.out, Bool.true_and]), by (repeat' (first | (with_reducible exact Below.refl _ _) | (with_reducible assumption) | (with_reducible refine below_drewN ?_ _) | (with_reducible refine below_new ?_ _) | (with_reducible refine Below.alloc ?_ ?_ _) | (with_reducible refine Below.drew ?_) | (with_reducible refine Below.setCell ?_ ?_ _) | (with_reducible apply below_at; (case k => (with_reducible assumption)); (case hB => omega)) | (with_reducible apply below_on; (with_reducible assumption)) | (go_size; done) | (with_reducible apply size_of)))⟩
  · have h1 : (a == b) = false := by simpa using h
    have HR : Hid (decide (a = b) = false) := Lib.hid (decide_eq_false h)
    clear h
    go_enter Try.func17, Try.ntmps17
    go_wp2_with fail
    go_ret
    exact ⟨retb (by rw [HR.out, Bool.false_and]), by (repeat' (first | (with_reducible exact Below.refl _ _) | (with_reducible assumption) | (with_reducible refine below_drewN ?_ _) | (with_reducible refine below_new ?_ _) | (with_reducible refine Below.alloc ?_ ?_ _) | (with_reducible refine Below.drew ?_) | (with_reducible refine Below.setCell ?_ ?_ _) | (with_reducible apply below_at; (case k => (with_reducible assumption)); (case hB => omega)) | (with_reducible apply below_on; (with_reducible assumption)) | (go_size; done) | (with_reducible apply size_of)))⟩
end Go.Proofs.Ytlbokbbgpalkaaa.ocW
