/- What the functions of package counts and of its reference return, by walks: Check and After of the reference. -/
import Derived.Test.YtkpcopecndpfjaaCntW2
import Derived.IntWalk
import Derived.Test.YtkpcopecndpfjaaBlock
namespace Go.Proofs.Ytkpcopecndpfjaa.cntW
open Go.RowKit Go.Proofs.Ytkpcopecndpfjaa.base Go.Proofs.Ytkpcopecndpfjaa.cntP
set_option linter.unusedVariables false
set_option maxHeartbeats 400000 in
theorem rcheck_any (c : Cnt) (w : World) (hc : CntIn c) :
    Calls Try.prog 25 #[.agg #[.int .i32 (c).a, .int .i32 (c).b, .int .u8 (c).l]] w fun e w' => e = .returned (.int .i64 (chk c)) ∧ Below w.heap.size w w' := by
  obtain ⟨a, b, l⟩ := c
  obtain ⟨a1, a2, b1, b2, l1, l2⟩ := hc
  simp only at a1 a2 b1 b2 l1 l2
  go_enter Try.func25, Try.ntmps25
  by_cases h : l = 0
  · subst h
    by_cases h1 : a = 0
    · subst h1
      by_cases h2 : b = 0
      · subst h2
        go_wp2
        go_returns
        exact ⟨rfl, by (repeat' (first | (with_reducible exact Below.refl _ _) | (with_reducible assumption) | (with_reducible refine below_drewN ?_ _) | (with_reducible refine below_new ?_ _) | (with_reducible refine Below.alloc ?_ ?_ _) | (with_reducible refine Below.drew ?_) | (with_reducible refine Below.setCell ?_ ?_ _) | (with_reducible apply below_on; (with_reducible assumption)) | (go_size; done) | (with_reducible apply size_of)))⟩
      · have hb : (b == 0) = false := by simpa using h2
        go_wp2
        all_goals try (go_quiet (fail); go_wp2)
        all_goals
          go_returns
          refine ⟨ret1 ?_, by (repeat' (first | (with_reducible exact Below.refl _ _) | (with_reducible assumption) | (with_reducible refine below_drewN ?_ _) | (with_reducible refine below_new ?_ _) | (with_reducible refine Below.alloc ?_ ?_ _) | (with_reducible refine Below.drew ?_) | (with_reducible refine Below.setCell ?_ ?_ _) | (with_reducible apply below_on; (with_reducible assumption)) | (go_size; done) | (with_reducible apply size_of)))⟩
          exact (chk_bad (by omega)).symm
    · have ha : (a == 0) = false := by simpa using h1
      go_wp2
      all_goals try (go_quiet (fail); go_wp2)
      all_goals
        go_returns
        refine ⟨ret1 ?_, by (repeat' (first | (with_reducible exact Below.refl _ _) | (with_reducible assumption) | (with_reducible refine below_drewN ?_ _) | (with_reducible refine below_new ?_ _) | (with_reducible refine Below.alloc ?_ ?_ _) | (with_reducible refine Below.drew ?_) | (with_reducible refine Below.setCell ?_ ?_ _) | (with_reducible apply below_on; (with_reducible assumption)) | (go_size; done) | (with_reducible apply size_of)))⟩
        first
        | exact (chk_ok (by omega)).symm
        | exact (chk_bad (by omega)).symm
  · have hl : (l == 0) = false := by simpa using h
    by_cases h3 : l = 1
    · subst h3
      by_cases h1 : a = 0
      · subst h1
        by_cases h2 : b = 0
        · subst h2
          go_wp2
          all_goals try (go_quiet (fail); go_wp2)
          all_goals try (go_quiet (fail); go_wp2)
          all_goals
            go_returns
            exact ⟨ret1 (chk_bad (by omega)).symm, by (repeat' (first | (with_reducible exact Below.refl _ _) | (with_reducible assumption) | (with_reducible refine below_drewN ?_ _) | (with_reducible refine below_new ?_ _) | (with_reducible refine Below.alloc ?_ ?_ _) | (with_reducible refine Below.drew ?_) | (with_reducible refine Below.setCell ?_ ?_ _) | (with_reducible apply below_on; (with_reducible assumption)) | (go_size; done) | (with_reducible apply size_of)))⟩
        · have hb : (b == 0) = false := by simpa using h2
          go_wp2
          all_goals try (go_quiet (fail); go_wp2)
          all_goals try (go_quiet (fail); go_wp2)
          all_goals
            go_returns
            refine ⟨ret1 ?_, by (repeat' (first | (with_reducible exact Below.refl _ _) | (with_reducible assumption) | (with_reducible refine below_drewN ?_ _) | (with_reducible refine below_new ?_ _) | (with_reducible refine Below.alloc ?_ ?_ _) | (with_reducible refine Below.drew ?_) | (with_reducible refine Below.setCell ?_ ?_ _) | (with_reducible apply below_on; (with_reducible assumption)) | (go_size; done) | (with_reducible apply size_of)))⟩
            first
            | exact (chk_ok (by omega)).symm
            | exact (chk_bad (by omega)).symm
      · have ha : (a == 0) = false := by simpa using h1
        go_wp2
        all_goals try (go_quiet (fail); go_wp2)
        all_goals try (go_quiet (fail); go_wp2)
        all_goals
          go_returns
          refine ⟨ret1 ?_, by (repeat' (first | (with_reducible exact Below.refl _ _) | (with_reducible assumption) | (with_reducible refine below_drewN ?_ _) | (with_reducible refine below_new ?_ _) | (with_reducible refine Below.alloc ?_ ?_ _) | (with_reducible refine Below.drew ?_) | (with_reducible refine Below.setCell ?_ ?_ _) | (with_reducible apply below_on; (with_reducible assumption)) | (go_size; done) | (with_reducible apply size_of)))⟩
          first
          | exact (chk_ok (by omega)).symm
          | exact (chk_bad (by omega)).symm
    · have hl1 : (l == 1) = false := by simpa using h3
      have hl2 : 1 < l := by omega
      by_cases h1 : a = 0
      · subst h1
        by_cases h2 : b = 0
        · subst h2
          go_wp2
          all_goals try (go_quiet (fail); go_wp2)
          all_goals
            go_returns
            exact ⟨ret1 (chk_bad (by omega)).symm, by (repeat' (first | (with_reducible exact Below.refl _ _) | (with_reducible assumption) | (with_reducible refine below_drewN ?_ _) | (with_reducible refine below_new ?_ _) | (with_reducible refine Below.alloc ?_ ?_ _) | (with_reducible refine Below.drew ?_) | (with_reducible refine Below.setCell ?_ ?_ _) | (with_reducible apply below_on; (with_reducible assumption)) | (go_size; done) | (with_reducible apply size_of)))⟩
        · have hb : (b == 0) = false := by simpa using h2
          go_wp2
          all_goals try (go_quiet (fail); go_wp2)
          all_goals
            go_returns
            exact ⟨ret1 (chk_bad (by omega)).symm, by (repeat' (first | (with_reducible exact Below.refl _ _) | (with_reducible assumption) | (with_reducible refine below_drewN ?_ _) | (with_reducible refine below_new ?_ _) | (with_reducible refine Below.alloc ?_ ?_ _) | (with_reducible refine Below.drew ?_) | (with_reducible refine Below.setCell ?_ ?_ _) | (with_reducible apply below_on; (with_reducible assumption)) | (go_size; done) | (with_reducible apply size_of)))⟩
      · have ha : (a == 0) = false := by simpa using h1
        go_wp2
        all_goals try (go_quiet (fail); go_wp2)
        all_goals
          go_returns
          exact ⟨ret1 (chk_bad (by omega)).symm, by (repeat' (first | (with_reducible exact Below.refl _ _) | (with_reducible assumption) | (with_reducible refine below_drewN ?_ _) | (with_reducible refine below_new ?_ _) | (with_reducible refine Below.alloc ?_ ?_ _) | (with_reducible refine Below.drew ?_) | (with_reducible refine Below.setCell ?_ ?_ _) | (with_reducible apply below_on; (with_reducible assumption)) | (go_size; done) | (with_reducible apply size_of)))⟩
end Go.Proofs.Ytkpcopecndpfjaa.cntW
