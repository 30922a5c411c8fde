/- CostBytes, of all lists. -/
import Derived.Test.YtaehjhjbbkblbaaCostL7
namespace Go.Proofs.Ytaehjhjbbkblbaa.costL
open Go.RowKit Go.Proofs.Ytaehjhjbbkblbaa.base Go.Proofs.Ytaehjhjbbkblbaa.encP Go.Proofs.Ytaehjhjbbkblbaa.costP Go.Proofs.Ytaehjhjbbkblbaa.costW
set_option linter.unusedVariables false
set_option linter.unusedSimpArgs false

set_option maxRecDepth 100000 in
set_option maxHeartbeats 2000000 in
theorem bytes (A : Option Addr) (lp cp : Nat) (pz : List Int) (Bb : Option Addr) (lb cb : Nat) (bs : List Bool) (w : World) (hA : IsRow .i64 w A lp cp pz) (hB : IsRowB w Bb lb cb bs) :
    Calls Try.prog 12 #[.slice A lp cp, .slice Bb lb cb] w fun e w' => e = .returned (.bool true) ∧ Below w.heap.size w w' := by
  obtain ⟨hA1, hA2, hA3, _⟩ := has_of_row hA
  obtain ⟨hB1, hB2, hB4, hB3, hB5⟩ := hB
  unfold maxLen at hA3
  generalize pz.take lp = ps at *
  subst hA2
  subst hB2
  have HA := Lib.hid hA1
  clear hA
  by_cases c1 : bs.length ≤ 200
  · by_cases c2 : ckE ps bs.length = 0
    · exact bytes_in A Bb cp cb ps bs w hA1 hB1 c1 c2
    · have c3 : (ckE ps bs.length != 0) = true := by simpa using c2
      clear c2 hB1 hA1
      go_enter Try.func12, Try.ntmps12
      go_wp2_with (first | (go_at_call 45; refine (alive _).mono ?_; rintro e w' ⟨rfl, rfl⟩) | (go_at_call 47; refine (rLists_any _ _ _ _ bs.length ps _ HA.out (by omega) (by omega)).mono ?_; rintro e w' ⟨rfl, rfl⟩))
      go_ret
      exact ⟨rfl, by (repeat' (first | (with_reducible exact Below.refl _ _) | (with_reducible assumption) | (with_reducible refine below_drewN ?_ _) | (with_reducible refine below_new ?_ _) | (with_reducible refine Below.alloc ?_ ?_ _) | (with_reducible refine Below.drew ?_) | (with_reducible refine Below.setCell ?_ ?_ _) | (with_reducible apply below_at; (case k => (with_reducible assumption)); (case hB => omega)) | (with_reducible apply below_on; (with_reducible assumption)) | (go_size; done) | (with_reducible apply size_of)))⟩
  · clear hB1 hA1
    go_enter Try.func12, Try.ntmps12
    go_wp2_with (first | (go_at_call 45; refine (alive _).mono ?_; rintro e w' ⟨rfl, rfl⟩))
    go_ret
    exact ⟨rfl, by (repeat' (first | (with_reducible exact Below.refl _ _) | (with_reducible assumption) | (with_reducible refine below_drewN ?_ _) | (with_reducible refine below_new ?_ _) | (with_reducible refine Below.alloc ?_ ?_ _) | (with_reducible refine Below.drew ?_) | (with_reducible refine Below.setCell ?_ ?_ _) | (with_reducible apply below_at; (case k => (with_reducible assumption)); (case hB => omega)) | (with_reducible apply below_on; (with_reducible assumption)) | (go_size; done) | (with_reducible apply size_of)))⟩
end Go.Proofs.Ytaehjhjbbkblbaa.costL
