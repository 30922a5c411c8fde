/- CostLists, by a walk. -/
import Derived.Test.YtaehjhjbbkblbaaCostW7
namespace Go.Proofs.Ytaehjhjbbkblbaa.costL
open Go.RowKit Go.Proofs.Ytaehjhjbbkblbaa.base Go.Proofs.Ytaehjhjbbkblbaa.encP Go.Proofs.Ytaehjhjbbkblbaa.costP Go.Proofs.Ytaehjhjbbkblbaa.costW
set_option linter.unusedVariables false
set_option linter.unusedSimpArgs false

set_option maxRecDepth 100000 in
set_option maxHeartbeats 2000000 in
theorem lists_in (A Bb : Option Addr) (cp cb : Nat) (ps : List Int) (bs : List Bool) (w : World) (hA : Has .i64 w A ps) (m1 : ps.length ≤ 2100) (hB : HasB w Bb bs) (m2 : bs.length ≤ 200 ∨ 2000 < bs.length ∧ bs.length ≤ 2100) :
    Calls Try.prog 10 #[.slice A ps.length cp, .slice Bb bs.length cb] w fun e w' => e = .returned (.bool true) ∧ Below w.heap.size w w' := by
  have HA := Lib.hid hA
  have HB := Lib.hid hB
  clear hA hB
  have t1 : (idV ps bs == idV ps bs) = true := by simp
  have t2 : (reV ps bs == reV ps bs) = true := by simp
  have t3 : (byV ps bs == byV ps bs) = true := by simp
  have t4 : (ckE ps bs.length == ckE ps bs.length) = true := by simp
  rcases m2 with m2 | m2
  all_goals
    go_enter Try.func10, Try.ntmps10
    go_wp2_with (first | (go_at_call 39; refine (Ideal_any _ _ _ _ ps bs _ HA.out HB.out (by omega) (by omega)).mono ?_; rintro e w' ⟨rfl, rfl⟩))
    refine (rIdeal_any _ _ _ _ ps bs _ HA.out HB.out (by omega) (by omega)).mono ?_
    rintro e w1 ⟨rfl, h1⟩
    have HA1 := Lib.hid (HA.out.below h1 (Nat.le_refl _))
    have HB1 := Lib.hid (HB.out.below h1 (Nat.le_refl _))
    go_wp2_with fail
    refine (Real_any _ _ _ _ ps bs _ HA1.out HB1.out (by omega) (by omega)).mono ?_
    rintro e w2 ⟨rfl, h2⟩
    have HA2 := Lib.hid (HA1.out.below h2 (Nat.le_refl _))
    have HB2 := Lib.hid (HB1.out.below h2 (Nat.le_refl _))
    go_wp2_with fail
    refine (rReal_any _ _ _ _ ps bs _ HA2.out HB2.out (by omega) (by omega)).mono ?_
    rintro e w3 ⟨rfl, h3⟩
    have HA3 := Lib.hid (HA2.out.below h3 (Nat.le_refl _))
    have HB3 := Lib.hid (HB2.out.below h3 (Nat.le_refl _))
    go_wp2_with fail
    refine (Bytes_any _ _ _ _ ps bs _ HA3.out HB3.out (by omega) (by omega)).mono ?_
    rintro e w4 ⟨rfl, h4⟩
    have HA4 := Lib.hid (HA3.out.below h4 (Nat.le_refl _))
    have HB4 := Lib.hid (HB3.out.below h4 (Nat.le_refl _))
    go_wp2_with fail
    refine (rBytes_any _ _ _ _ ps bs _ HA4.out HB4.out (by omega) (by omega)).mono ?_
    rintro e w5 ⟨rfl, h5⟩
    go_wp2
    go_ret
    exact ⟨rfl, by (repeat' (first | (with_reducible exact Below.refl _ _) | (with_reducible assumption) | (with_reducible refine below_drewN ?_ _) | (with_reducible refine below_new ?_ _) | (with_reducible refine Below.alloc ?_ ?_ _) | (with_reducible refine Below.drew ?_) | (with_reducible refine Below.setCell ?_ ?_ _) | (with_reducible apply below_at; (case k => (with_reducible assumption)); (case hB => omega)) | (with_reducible apply below_on; (with_reducible assumption)) | (go_size; done) | (with_reducible apply size_of)))⟩
set_option maxRecDepth 100000 in
set_option maxHeartbeats 2000000 in
theorem lists (A : Option Addr) (lp cp : Nat) (pz : List Int) (Bb : Option Addr) (lb cb : Nat) (bs : List Bool) (w : World) (hA : IsRow .i64 w A lp cp pz) (hB : IsRowB w Bb lb cb bs) :
    Calls Try.prog 10 #[.slice A lp cp, .slice Bb lb cb] w fun e w' => e = .returned (.bool true) ∧ Below w.heap.size w w' := by
  obtain ⟨hA1, hA2, hA3, _⟩ := has_of_row hA
  obtain ⟨hB1, hB2, _, hB3, _⟩ := hB
  unfold maxLen at hA3
  generalize pz.take lp = ps at *
  subst hA2
  subst hB2
  by_cases c1 : ps.length ≤ 2100 ∧ (bs.length ≤ 200 ∨ 2000 < bs.length ∧ bs.length ≤ 2100)
  · exact lists_in A Bb cp cb _ bs w hA1 c1.1 hB1 c1.2
  · clear hA1 hB1 hA
    rcases (show bs.length ≤ 200 ∧ 2100 < ps.length ∨ (200 < bs.length ∧ bs.length ≤ 2000) ∨ (2000 < bs.length ∧ bs.length ≤ 2100 ∧ 2100 < ps.length) ∨ 2100 < bs.length by omega) with h | h | h | h
    all_goals
      clear c1
      go_enter Try.func10, Try.ntmps10
      go_wp2
      go_ret
      exact ⟨rfl, by (repeat' (first | (with_reducible exact Below.refl _ _) | (with_reducible assumption) | (with_reducible refine below_drewN ?_ _) | (with_reducible refine below_new ?_ _) | (with_reducible refine Below.alloc ?_ ?_ _) | (with_reducible refine Below.drew ?_) | (with_reducible refine Below.setCell ?_ ?_ _) | (with_reducible apply below_at; (case k => (with_reducible assumption)); (case hB => omega)) | (with_reducible apply below_on; (with_reducible assumption)) | (go_size; done) | (with_reducible apply size_of)))⟩
end Go.Proofs.Ytaehjhjbbkblbaa.costL
