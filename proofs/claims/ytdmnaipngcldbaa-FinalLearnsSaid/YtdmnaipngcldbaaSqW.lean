/- What the functions of package squash and of its reference return, by walks. -/
import Derived.Test.YtdmnaipngcldbaaBase
import Derived.Test.YtdmnaipngcldbaaBits
import Derived.Test.YtdmnaipngcldbaaSqPlain
import Derived.Lib.Hide
import Derived.Deep.QuietTactic
import Derived.BigQuiet
import Derived.WalkSpells
import Derived.WalkLawsBesides
import Derived.OneCell
namespace Go.Proofs.Ytdmnaipngcldbaa.sqW
set_option maxRecDepth 100000
open Go.RowKit Go.Proofs.Ytdmnaipngcldbaa.base Go.Proofs.Ytdmnaipngcldbaa.sqP
set_option linter.unusedVariables false

/-- The table's cells hold the row. -/
def Tab (w : World) : Prop := 0 < w.heap.size ∧ ∀ i, i < 33 → w.cell? ⟨0, i, none⟩ = some (.int .i32 (rows.getD i 0))

theorem Tab.below {w w' : World} (h : Tab w) (hb : Below w.heap.size w w') : Tab w' :=
  ⟨Nat.lt_of_lt_of_le h.1 hb.size, fun i hi => by rw [hb.cell (p := ⟨0, i, none⟩) h.1]; exact h.2 i hi⟩

theorem Tab.drewN {w : World} (h : Tab w) (n : Nat) : Tab (w.drewN n) := h.below (below_drewN (Below.refl _ _) n)

theorem decide_yes {p : Prop} [Decidable p] (h : p) : decide p = true := by simp [h]
theorem decide_no {p : Prop} [Decidable p] (h : ¬ p) : decide p = false := by simp [h]

end Go.Proofs.Ytdmnaipngcldbaa.sqW
