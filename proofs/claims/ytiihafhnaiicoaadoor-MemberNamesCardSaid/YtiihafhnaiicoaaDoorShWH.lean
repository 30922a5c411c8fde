/- The reference's Sum, Pieces, by walks. -/
import Derived.Test.YtiihafhnaiicoaaDoorPk1
import Derived.Test.YtiihafhnaiicoaaDoorShWF
namespace Go.Proofs.YtiihafhnaiicoaaDoor.shW
set_option maxRecDepth 100000
open Go.RowKit Go.Proofs.YtiihafhnaiicoaaDoor.base Go.Proofs.YtiihafhnaiicoaaDoor.shP
set_option linter.unusedVariables false
set_option linter.unusedSimpArgs false
theorem sumV_form (b : List Int) : ∃ v : W5, sumV b = wbytes v := by
  unfold sumV
  split
  · exact dg_form b
  · exact ⟨⟨0, 0, 0, 0, 0⟩, rfl⟩
theorem piV_form (rs : List R8) : ∃ v : W5, piV rs = wbytes v := by
  unfold piV
  split
  · exact dg_form _
  · exact ⟨⟨0, 0, 0, 0, 0⟩, rfl⟩
theorem pi_sum {rs : List R8} (h : rs.length ≤ 20) : piE rs = sumE (wholeL rs) ∧ piV rs = sumV (wholeL rs) := by
  by_cases h2 : (wholeL rs).length ≤ 20000
  · obtain ⟨a, b⟩ := pi_yes h h2
    exact ⟨by rw [a, sumE, if_pos h2], by rw [b, sumV, if_pos h2]⟩
  · obtain ⟨a, b⟩ := pi_no (rs := rs) (fun hh => h2 hh.2)
    exact ⟨by rw [a, sumE, if_neg h2], by rw [b, sumV, if_neg h2]⟩
end Go.Proofs.YtiihafhnaiicoaaDoor.shW
