/- DecoderRuns, DecoderBack, by walks. -/
import Derived.Test.YtckbiielahgliaaDecL
namespace Go.Proofs.Ytckbiielahgliaa.decL
open Go.RowKit Go.Proofs.Ytckbiielahgliaa.base Go.Proofs.Ytckbiielahgliaa.encP Go.Proofs.Ytckbiielahgliaa.encW Go.Proofs.Ytckbiielahgliaa.decP Go.Proofs.Ytckbiielahgliaa.decW
set_option linter.unusedVariables false
set_option linter.unusedSimpArgs false

theorem inB_of {zs : List Int} (h : ∀ n ∈ zs, (Lit.int .u8 n).wf = true) : InB zs := fun z hz => bounds_u8 (h z hz)
theorem row_cap {k : IntKind} {w : World} {a : Option Addr} {len cap : Nat} {zs : List Int} (h : IsRow k w a len cap zs) : len ≤ cap := by
  rcases h with ⟨_, rfl, rfl, _⟩ | ⟨x, _, hl, _⟩
  · exact Nat.le_refl _
  · exact hl
theorem drV_cap (zs ps : List Int) : (drV zs ps).length ≤ ps.length := by rw [drV_len]; split <;> omega
set_option maxRecDepth 100000 in
set_option maxHeartbeats 2000000 in
theorem runs_in (A P : Option Addr) (n c lp cp : Nat) (zs ps : List Int) (w : World) (hA : Has .u8 w A zs) (hn : zs.length = n) (hc : n ≤ c) (hz : InB zs) (hP : Has .i64 w P ps) (el : ps.length = lp) (m1 : n ≤ 200 ∨ 19990 < n ∧ n ≤ 20100) (m2 : lp ≤ 300 ∨ 2000 < lp ∧ lp ≤ 2100) :
    Calls Try.prog 4 #[.slice A n c, .slice P lp cp] w fun e w' => e = .returned (.bool true) ∧ Below w.heap.size w w' := by
  have HA := Lib.hid hA
  have HP := Lib.hid hP
  have HL := Lib.hid el
  have HN := Lib.hid hn
  have HZ := Lib.hid hz
  clear hA hP el hn
  rcases m1 with m1 | m1
  all_goals
    rcases m2 with m2 | m2
    all_goals
      go_enter Try.func4, Try.ntmps4
      go_wp2_with fail
      refine (RunD_any A P n c lp cp zs ps _ HA.out HN.out hc (by omega) HZ.out HP.out HL.out (by omega)).mono ?_
      rintro e w1 ⟨A1, c1, rfl, hh1, hc1, hb1⟩
      have H1 := Lib.hid hh1
      clear hh1
      go_wp2_with fail
      refine (rRunD_any A P n c lp cp zs ps _ (HA.out.below hb1 (Nat.le_refl _)) HN.out hc (by omega) HZ.out (HP.out.below hb1 (Nat.le_refl _)) HL.out (by omega)).mono ?_
      rintro e w2 ⟨A2, c2, rfl, hh2, hc2, hb2⟩
      have H2 := Lib.hid hh2
      have hv := drV_cap zs ps
      have he : (drE n ps == drE n ps) = true := by simp
      clear hh2
      go_wp2_with fail
      refine (rSame_any A1 A2 _ _ _ _ (drV zs ps) (drV zs ps) _ (H1.out.below hb2 (Nat.le_refl _)) rfl H2.out rfl (by have := HL.out; omega) (by have := HL.out; omega)).mono ?_
      rintro e w3 ⟨rfl, hb3⟩
      rw [decide_eq_true rfl]
      go_wp2
      go_ret
      exact ⟨rfl, by (repeat' (first | (with_reducible exact Below.refl _ _) | (with_reducible assumption) | (with_reducible refine below_drewN ?_ _) | (with_reducible refine below_new ?_ _) | (with_reducible refine Below.alloc ?_ ?_ _) | (with_reducible refine Below.drew ?_) | (with_reducible refine Below.setCell ?_ ?_ _) | (with_reducible apply below_at; (case k => (with_reducible assumption)); (case hB => omega)) | (with_reducible apply below_on; (with_reducible assumption)) | (go_size; done) | (with_reducible apply size_of)))⟩
set_option maxRecDepth 100000 in
set_option maxHeartbeats 2000000 in
theorem runs (A : Option Addr) (n c : Nat) (zz : List Int) (P : Option Addr) (lp cp : Nat) (pz : List Int) (w : World) (hA : IsRow .u8 w A n c zz) (hP : IsRow .i64 w P lp cp pz) :
    Calls Try.prog 4 #[.slice A n c, .slice P lp cp] w fun e w' => e = .returned (.bool true) ∧ Below w.heap.size w w' := by
  obtain ⟨hA1, hA2, hA3, hA4⟩ := has_of_row hA
  obtain ⟨hP1, hP2, hP3, _⟩ := has_of_row hP
  have hc := row_cap hA
  unfold maxLen at hA3 hP3
  by_cases g1 : (n ≤ 200 ∨ 19990 < n ∧ n ≤ 20100) ∧ (lp ≤ 300 ∨ 2000 < lp ∧ lp ≤ 2100)
  · exact runs_in A P n c lp cp _ _ w hA1 hA2 hc (inB_of hA4) hP1 hP2 g1.1 g1.2
  · clear hA1 hA2 hP1 hP2 hA hP hA4
    rcases (show 200 < n ∧ n ≤ 19990 ∨ 20100 < n ∨ n ≤ 200 ∧ 300 < lp ∧ lp ≤ 2000 ∨ n ≤ 200 ∧ 2100 < lp ∨ 19990 < n ∧ n ≤ 20100 ∧ 300 < lp ∧ lp ≤ 2000 ∨ 19990 < n ∧ n ≤ 20100 ∧ 2100 < lp by omega) with h | h | h | h | h | h
    all_goals
      clear g1
      go_enter Try.func4, Try.ntmps4
      go_wp2
      go_ret
      exact ⟨rfl, by (repeat' (first | (with_reducible exact Below.refl _ _) | (with_reducible assumption) | (with_reducible refine below_drewN ?_ _) | (with_reducible refine below_new ?_ _) | (with_reducible refine Below.alloc ?_ ?_ _) | (with_reducible refine Below.drew ?_) | (with_reducible refine Below.setCell ?_ ?_ _) | (with_reducible apply below_at; (case k => (with_reducible assumption)); (case hB => omega)) | (with_reducible apply below_on; (with_reducible assumption)) | (go_size; done) | (with_reducible apply size_of)))⟩
end Go.Proofs.Ytckbiielahgliaa.decL
