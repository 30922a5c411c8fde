/- New maps of both, by walks. -/
import Derived.Test.YtdmnaipngcldbaaFnW4
namespace Go.Proofs.Ytdmnaipngcldbaa.fnW
set_option maxRecDepth 100000
open Go.RowKit Go.Proofs.Ytdmnaipngcldbaa.base Go.Proofs.Ytdmnaipngcldbaa.rfP Go.Proofs.Ytdmnaipngcldbaa.rfW Go.Proofs.Ytdmnaipngcldbaa.fnP Go.Proofs.Ytdmnaipngcldbaa.sqP Go.Proofs.Ytdmnaipngcldbaa.sqW
set_option linter.unusedVariables false
set_option linter.unusedSimpArgs false
theorem new_256 : newE 256 = 0 := by decide
theorem lies_set2 {w : World} {g : Nat} {t : TypeId} {x0 x1 : Value} (h : Lies w g t [x0, x1]) (a b : Value) : Lies ((w.setCell ⟨g, 0, none⟩ a).setCell ⟨g, 1, none⟩ b) g t [a, b] := (h.set 0 a).set 1 b
theorem below_set2 {w w' : World} {B g : Nat} (h : Below B w w') (hg : B ≤ g) (a b : Value) : Below B w ((w'.setCell ⟨g, 0, none⟩ a).setCell ⟨g, 1, none⟩ b) := (h.setCell hg a).setCell hg b
end Go.Proofs.Ytdmnaipngcldbaa.fnW
