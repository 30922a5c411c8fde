/- Pairs of numbers compared with themselves. -/
import Derived.Test.YtdmnaipngcldbaaDoorFnW5
import Derived.DeepKeys
namespace Go.Proofs.YtdmnaipngcldbaaDoor.fnW
set_option maxRecDepth 100000
open Go.RowKit Go.Proofs.YtdmnaipngcldbaaDoor.base
set_option linter.unusedVariables false
set_option linter.unusedSimpArgs false
theorem i64_wf {x : Int} (h : -9223372036854775808 ≤ x ∧ x ≤ 9223372036854775807) : (Lit.int .i64 x).wf = true := WalkArith.wf_i64 h
theorem one_lit64 {x : Int} (h : -9223372036854775808 ≤ x ∧ x ≤ 9223372036854775807) (d : Nat) : Tryd.prog.keyLits (d + 1) 3 [.int .i64 x] = some [.int .i64 x] := by
  have hw := i64_wf h
  unfold Program.keyLits
  rw [Tryd.underlying3]
  simp [hw]
theorem lits2 {a b : Int} (ha : -9223372036854775808 ≤ a ∧ a ≤ 9223372036854775807) (hb : -9223372036854775808 ≤ b ∧ b ≤ 9223372036854775807) : Tryd.prog.keyLits 5 27 [.int .i64 a, .int .i64 b] = some [.int .i64 a, .int .i64 b] := by
  unfold Program.keyLits
  rw [Tryd.underlying27]
  have c1 : Tryd.prog.cellsOf 27 = 2 := by kernel_rfl
  have c2 : Tryd.prog.cellsOf 3 = 1 := by kernel_rfl
  have e1 := one_lit64 ha 3
  have e2 := one_lit64 hb 3
  simp [c1, c2, List.range, List.range.loop, e1, e2]
theorem eq2 {a b : Int} (ha : -9223372036854775808 ≤ a ∧ a ≤ 9223372036854775807) (hb : -9223372036854775808 ≤ b ∧ b ≤ 9223372036854775807) (w : World) : (Op.equalIn 9999 27 (.agg #[.int .i64 a, .int .i64 b]) (.agg #[.int .i64 a, .int .i64 b])).run Tryd.prog w = .ok true w := by
  obtain ⟨x, h1, h2⟩ := run_equalIn_deep (P := Tryd.prog) 9997 2 27 (by kernel_rfl) w 5 5 (.agg #[.int .i64 a, .int .i64 b]) (.agg #[.int .i64 a, .int .i64 b]) _ _ (by kernel_rfl) (by kernel_rfl) (lits2 ha hb) (lits2 ha hb)
  rw [h2.2 rfl] at h1
  exact h1
theorem eq2t {a b : Int} (ha : -9223372036854775808 ≤ a ∧ a ≤ 9223372036854775807) (hb : -9223372036854775808 ≤ b ∧ b ≤ 9223372036854775807) (w : World) : (Op.equalIn 10000 27 (.agg #[.int .i64 a, .int .i64 b]) (.agg #[.int .i64 a, .int .i64 b])).run Tryd.prog w = .ok true w := by
  obtain ⟨x, h1, h2⟩ := run_equalIn_deep (P := Tryd.prog) 9998 2 27 (by kernel_rfl) w 5 5 (.agg #[.int .i64 a, .int .i64 b]) (.agg #[.int .i64 a, .int .i64 b]) _ _ (by kernel_rfl) (by kernel_rfl) (lits2 ha hb) (lits2 ha hb)
  rw [h2.2 rfl] at h1
  exact h1
end Go.Proofs.YtdmnaipngcldbaaDoor.fnW
