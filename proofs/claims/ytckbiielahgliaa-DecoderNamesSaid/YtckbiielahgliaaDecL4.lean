/- DecoderParts, of all arguments. -/
import Derived.Test.YtckbiielahgliaaDecL3
namespace Go.Proofs.Ytckbiielahgliaa.decL
open Go.RowKit Go.Proofs.Ytckbiielahgliaa.base Go.Proofs.Ytckbiielahgliaa.encP Go.Proofs.Ytckbiielahgliaa.encW Go.Proofs.Ytckbiielahgliaa.decP Go.Proofs.Ytckbiielahgliaa.decW
set_option linter.unusedVariables false
set_option linter.unusedSimpArgs false

set_option maxRecDepth 100000 in
set_option maxHeartbeats 2000000 in
theorem parts (A : Option Addr) (n c : Nat) (zz : List Int) (P : Option Addr) (lp cp : Nat) (pz : List Int) (at_ : Int) (w : World) (hA : IsRow .u8 w A n c zz) (hP : IsRow .i64 w P lp cp pz) (_ : -9223372036854775808 ≤ at_) (_ : at_ ≤ 9223372036854775807) :
    Calls Try.prog 8 #[.slice A n c, .slice P lp cp, .int .i64 at_] w fun e w' => e = .returned (.bool true) ∧ Below w.heap.size w w' := by
  obtain ⟨hA1, hA2, hA3, hA4⟩ := has_of_row hA
  obtain ⟨hP1, hP2, hP3, _⟩ := has_of_row hP
  have hc := row_cap hA
  have hcp := row_cap hP
  have hcm : cp ≤ 9223372036854775807 := by
    rcases hP with ⟨_, _, rfl, _⟩ | ⟨x, _, _, hm, _⟩
    · omega
    · unfold maxLen at hm; omega
  unfold maxLen at hA3 hP3
  have HP := Lib.hid hP1
  have HPL := Lib.hid hP2
  by_cases g1 : n ≤ 60
  · by_cases g2 : lp ≤ 60
    · by_cases g3 : rnE (pz.take lp) lp = 0
      · by_cases g4 : 0 ≤ at_
        · by_cases g5 : at_ ≤ lp
          · obtain ⟨a, rfl⟩ := Int.eq_ofNat_of_zero_le g4
            exact parts_in A P n c lp cp _ _ a w hA1 hA2 hc (inB_of hA4) hP1 hP2 hcp hcm g1 g2 g3 (by omega)
          · clear hA1 hA2 hP1 hP2 hA hP hA4
            have HR := Lib.hid g3
            clear g3
            go_enter Try.func8, Try.ntmps8
            go_wp2_with (first | (go_at_call 21; refine (alive _).mono ?_; rintro e w1 ⟨rfl, hb1⟩; have W1 := Lib.hid hb1; clear hb1) | (go_at_call 22; refine (rProbs_any _ _ _ lp _ _ (HP.out.below W1.out (Nat.le_refl _)) HPL.out (by omega) (by omega)).mono ?_; rintro e w' ⟨rfl, rfl⟩; rw [HR.out]))
            go_ret
            exact ⟨rfl, W1.out⟩
        · clear hA1 hA2 hP1 hP2 hA hP hA4
          have HR := Lib.hid g3
          clear g3
          go_enter Try.func8, Try.ntmps8
          go_wp2_with (first | (go_at_call 21; refine (alive _).mono ?_; rintro e w1 ⟨rfl, hb1⟩; have W1 := Lib.hid hb1; clear hb1) | (go_at_call 22; refine (rProbs_any _ _ _ lp _ _ (HP.out.below W1.out (Nat.le_refl _)) HPL.out (by omega) (by omega)).mono ?_; rintro e w' ⟨rfl, rfl⟩; rw [HR.out]))
          go_ret
          exact ⟨rfl, W1.out⟩
      · clear hA1 hA2 hP1 hP2 hA hP hA4
        have hne : (rnE (pz.take lp) lp == 0) = false := by simpa using g3
        have hne2 : (rnE (pz.take lp) lp != 0) = true := by simpa using g3
        generalize hr : rnE (pz.take lp) lp = r at *
        have HR := Lib.hid hr
        clear hr
        go_enter Try.func8, Try.ntmps8
        go_wp2_with (first | (go_at_call 21; refine (alive _).mono ?_; rintro e w1 ⟨rfl, hb1⟩; have W1 := Lib.hid hb1; clear hb1) | (go_at_call 22; refine (rProbs_any _ _ _ lp _ _ (HP.out.below W1.out (Nat.le_refl _)) HPL.out (by omega) (by omega)).mono ?_; rintro e w' ⟨rfl, rfl⟩; rw [HR.out]))
        go_ret
        exact ⟨rfl, W1.out⟩
    · clear hA1 hA2 hP1 hP2 hA hP hA4
      go_enter Try.func8, Try.ntmps8
      go_wp2_with (go_at_call 21; refine (alive _).mono ?_; rintro e w1 ⟨rfl, hb1⟩; have W1 := Lib.hid hb1; clear hb1)
      go_ret
      exact ⟨rfl, W1.out⟩
  · clear hA1 hA2 hP1 hP2 hA hP hA4
    go_enter Try.func8, Try.ntmps8
    go_wp2_with (go_at_call 21; refine (alive _).mono ?_; rintro e w1 ⟨rfl, hb1⟩; have W1 := Lib.hid hb1; clear hb1)
    go_ret
    exact ⟨rfl, W1.out⟩
end Go.Proofs.Ytckbiielahgliaa.decL
