/- CostParts, of all lists. -/
import Derived.Test.YtaehjhjbbkblbaaCostL5
namespace Go.Proofs.Ytaehjhjbbkblbaa.costL
open Go.RowKit Go.Proofs.Ytaehjhjbbkblbaa.base Go.Proofs.Ytaehjhjbbkblbaa.encP Go.Proofs.Ytaehjhjbbkblbaa.costP Go.Proofs.Ytaehjhjbbkblbaa.costW
set_option linter.unusedVariables false
set_option linter.unusedSimpArgs false

set_option maxRecDepth 100000 in
set_option maxHeartbeats 2000000 in
theorem parts (A : Option Addr) (lp cp : Nat) (pz : List Int) (Bb : Option Addr) (lb cb : Nat) (bs : List Bool) (a : Int) (w : World) (hA : IsRow .i64 w A lp cp pz) (hB : IsRowB w Bb lb cb bs) (l1 : -9223372036854775808 ≤ a) (l2 : a ≤ 9223372036854775807) :
    Calls Try.prog 15 #[.slice A lp cp, .slice Bb lb cb, .int .i64 a] w fun e w' => e = .returned (.bool true) ∧ Below w.heap.size w w' := by
  obtain ⟨hA1, hA2, hA3, _⟩ := has_of_row hA
  obtain ⟨hB1, hB2, hB4, hB3, hB5⟩ := hB
  have hcp : lp ≤ cp ∧ cp ≤ 9223372036854775807 := by
    rcases hA with ⟨_, rfl, rfl, _⟩ | ⟨x, _, h1, h2, _⟩
    · omega
    · unfold maxLen at h2; omega
  unfold maxLen at hA3
  generalize pz.take lp = ps at *
  subst hA2
  subst hB2
  have HA := Lib.hid hA1
  clear hA
  by_cases c1 : bs.length ≤ 100
  · by_cases c2 : ckE ps bs.length = 0
    · by_cases c3 : 0 ≤ a
      · by_cases c4 : a ≤ bs.length
        · obtain ⟨n, rfl⟩ : ∃ n : Nat, a = n := ⟨a.toNat, by omega⟩
          exact parts_in A Bb cp cb n ps bs w hA1 hB1 hcp.1 hB4 hcp.2 hB5 c1 c2 (by omega)
        · have HK := Lib.hid c2
          clear c2 hB1 hA1
          go_enter Try.func15, Try.ntmps15
          go_wp2_with (first | (go_at_call 45; refine (alive _).mono ?_; rintro e w' ⟨rfl, rfl⟩) | (go_at_call 47; refine (rLists_any _ _ _ _ bs.length ps _ HA.out (by omega) (by omega)).mono ?_; rintro e w' ⟨rfl, rfl⟩; rw [HK.out]))
          go_ret
          exact ⟨rfl, by (repeat' (first | (with_reducible exact Below.refl _ _) | (with_reducible assumption) | (with_reducible refine below_drewN ?_ _) | (with_reducible refine below_new ?_ _) | (with_reducible refine Below.alloc ?_ ?_ _) | (with_reducible refine Below.drew ?_) | (with_reducible refine Below.setCell ?_ ?_ _) | (with_reducible apply below_at; (case k => (with_reducible assumption)); (case hB => omega)) | (with_reducible apply below_on; (with_reducible assumption)) | (go_size; done) | (with_reducible apply size_of)))⟩
      · have HK := Lib.hid c2
        clear c2 hB1 hA1
        go_enter Try.func15, Try.ntmps15
        go_wp2_with (first | (go_at_call 45; refine (alive _).mono ?_; rintro e w' ⟨rfl, rfl⟩) | (go_at_call 47; refine (rLists_any _ _ _ _ bs.length ps _ HA.out (by omega) (by omega)).mono ?_; rintro e w' ⟨rfl, rfl⟩; rw [HK.out]))
        go_ret
        exact ⟨rfl, by (repeat' (first | (with_reducible exact Below.refl _ _) | (with_reducible assumption) | (with_reducible refine below_drewN ?_ _) | (with_reducible refine below_new ?_ _) | (with_reducible refine Below.alloc ?_ ?_ _) | (with_reducible refine Below.drew ?_) | (with_reducible refine Below.setCell ?_ ?_ _) | (with_reducible apply below_at; (case k => (with_reducible assumption)); (case hB => omega)) | (with_reducible apply below_on; (with_reducible assumption)) | (go_size; done) | (with_reducible apply size_of)))⟩
    · have c3 : (ckE ps bs.length != 0) = true := by simpa using c2
      clear c2 hB1 hA1
      go_enter Try.func15, Try.ntmps15
      go_wp2_with (first | (go_at_call 45; refine (alive _).mono ?_; rintro e w' ⟨rfl, rfl⟩) | (go_at_call 47; refine (rLists_any _ _ _ _ bs.length ps _ HA.out (by omega) (by omega)).mono ?_; rintro e w' ⟨rfl, rfl⟩))
      go_ret
      exact ⟨rfl, by (repeat' (first | (with_reducible exact Below.refl _ _) | (with_reducible assumption) | (with_reducible refine below_drewN ?_ _) | (with_reducible refine below_new ?_ _) | (with_reducible refine Below.alloc ?_ ?_ _) | (with_reducible refine Below.drew ?_) | (with_reducible refine Below.setCell ?_ ?_ _) | (with_reducible apply below_at; (case k => (with_reducible assumption)); (case hB => omega)) | (with_reducible apply below_on; (with_reducible assumption)) | (go_size; done) | (with_reducible apply size_of)))⟩
  · clear hB1 hA1
    go_enter Try.func15, Try.ntmps15
    go_wp2_with (first | (go_at_call 45; refine (alive _).mono ?_; rintro e w' ⟨rfl, rfl⟩))
    go_ret
    exact ⟨rfl, by (repeat' (first | (with_reducible exact Below.refl _ _) | (with_reducible assumption) | (with_reducible refine below_drewN ?_ _) | (with_reducible refine below_new ?_ _) | (with_reducible refine Below.alloc ?_ ?_ _) | (with_reducible refine Below.drew ?_) | (with_reducible refine Below.setCell ?_ ?_ _) | (with_reducible apply below_at; (case k => (with_reducible assumption)); (case hB => omega)) | (with_reducible apply below_on; (with_reducible assumption)) | (go_size; done) | (with_reducible apply size_of)))⟩
end Go.Proofs.Ytaehjhjbbkblbaa.costL
