/- Joining of both, by walks. -/
import Derived.Test.YtdmnaipngcldbaaFnPlain
import Derived.Test.YtdmnaipngcldbaaOrd
namespace Go.Proofs.Ytdmnaipngcldbaa.fnP
set_option maxRecDepth 100000
theorem join_a {p a b : Int} (h : ¬ (0 ≤ p ∧ p ≤ 4095)) : joinB p a b = false := by
  cases hj : joinB p a b
  · rfl
  · exact absurd ((joinB_iff p a b).1 hj).1 h
theorem join_b {p a b : Int} (h : ¬ (0 ≤ a ∧ a ≤ 4095)) : joinB p a b = false := by
  cases hj : joinB p a b
  · rfl
  · exact absurd ((joinB_iff p a b).1 hj).2.1 h
theorem join_c {p a b : Int} (h : ¬ (0 ≤ b ∧ b ≤ 4095)) : joinB p a b = false := by
  cases hj : joinB p a b
  · rfl
  · exact absurd ((joinB_iff p a b).1 hj).2.2 h
end Go.Proofs.Ytdmnaipngcldbaa.fnP
namespace Go.Proofs.Ytdmnaipngcldbaa.fnW
set_option maxRecDepth 100000
open Go.RowKit Go.Proofs.Ytdmnaipngcldbaa.base Go.Proofs.Ytdmnaipngcldbaa.rfP Go.Proofs.Ytdmnaipngcldbaa.fnP
set_option linter.unusedVariables false
set_option linter.unusedSimpArgs false
end Go.Proofs.Ytdmnaipngcldbaa.fnW
