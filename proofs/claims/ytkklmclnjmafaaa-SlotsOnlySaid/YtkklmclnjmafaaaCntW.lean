import Derived.Test.YtkklmclnjmafaaaCntBase
import Derived.Lib.Hide
import Derived.Deep.QuietTactic
import Derived.BigQuiet
import Derived.WalkSpells
import Derived.WalkLawsBesides
import Derived.OneCell
namespace Go.Proofs.Ytkklmclnjmafaaa.cntW
set_option maxRecDepth 100000
open Go.RowKit Go.Proofs.Ytkklmclnjmafaaa.base Go.Proofs.Ytkklmclnjmafaaa.cntP
set_option linter.unusedVariables false
theorem chk_ok {a b l : Int} (h : (a = 0 ∧ b = 0 ∧ l = 0) ∨ (l = 0 ∧ 1 ≤ a ∧ a ≤ 12 ∧ 0 ≤ b ∧ b ≤ 7) ∨ (l = 1 ∧ 1 ≤ b ∧ b ≤ 12 ∧ 0 ≤ a ∧ a ≤ 7)) : chk ⟨a, b, l⟩ = 0 := by
  rw [chk, if_pos ((ok_iff ⟨a, b, l⟩).mpr h)]
theorem chk_bad {a b l : Int} (h : ¬ ((a = 0 ∧ b = 0 ∧ l = 0) ∨ (l = 0 ∧ 1 ≤ a ∧ a ≤ 12 ∧ 0 ≤ b ∧ b ≤ 7) ∨ (l = 1 ∧ 1 ≤ b ∧ b ≤ 12 ∧ 0 ≤ a ∧ a ≤ 7))) : chk ⟨a, b, l⟩ = 8 := by
  rw [chk, if_neg (fun hh => h ((ok_iff ⟨a, b, l⟩).mp hh))]
theorem below_alloc_drew {w : World} {o : Obj} {n : Nat} : Below w.heap.size w ((w.alloc o).drewN n) := below_drewN ((Below.refl _ _).alloc (Nat.le_refl _) _) _
set_option maxHeartbeats 400000 in
theorem check_any (c : Cnt) (w : World) (hc : CntIn c) :
    Calls Try.prog 55 #[cv c] w fun e w' => e = .returned (.int .i64 (chk c)) ∧ Below w.heap.size w w' := by
  obtain ⟨a, b, l⟩ := c
  obtain ⟨a1, a2, b1, b2, l1, l2⟩ := hc
  simp only at a1 a2 b1 b2 l1 l2
  show Calls Try.prog 55 #[.agg #[.int .i32 a, .int .i32 b, .int .u8 l]] w _
  by_cases h : l = 0
  · subst h
    by_cases h' : a = 0 ∧ b = 0
    · obtain ⟨rfl, rfl⟩ := h'
      go_enter Try.func55, Try.ntmps55
      go_wp2
      all_goals
        go_ret
        exact ⟨rfl, by first | exact Below.refl _ _ | exact (Below.refl _ _).alloc (Nat.le_refl _) _⟩
    · go_enter Try.func55, Try.ntmps55
      go_wp2
      all_goals
        go_quiet (fail)
        go_wp2
      all_goals
        go_ret
        refine ⟨ret1 ?_, below_alloc_drew⟩
        first
        | exact (chk_ok (by omega)).symm
        | exact (chk_bad (by omega)).symm
  · by_cases h2 : l = 1
    · subst h2
      go_enter Try.func55, Try.ntmps55
      go_wp2
      all_goals
        go_quiet (fail)
        go_wp2
      all_goals
        first | (go_quiet (fail); go_wp2) | skip
      all_goals
        go_ret
        refine ⟨ret1 ?_, below_alloc_drew⟩
        first
        | exact (chk_ok (by omega)).symm
        | exact (chk_bad (by omega)).symm
    · go_enter Try.func55, Try.ntmps55
      go_wp2
      all_goals
        go_ret
        refine ⟨ret1 ?_, (Below.refl _ _).alloc (Nat.le_refl _) _⟩
        exact (chk_bad (by omega)).symm
end Go.Proofs.Ytkklmclnjmafaaa.cntW
