/- The program's Look that answers, by a walk. -/
import Derived.Test.YtdmnaipngcldbaaRfW7
import Derived.Test.YtdmnaipngcldbaaBits
import Derived.Deep.DeepCutAuto
namespace Go.Proofs.Ytdmnaipngcldbaa.rfW
set_option maxRecDepth 100000
open Go.RowKit Go.Proofs.Ytdmnaipngcldbaa.base Go.Proofs.Ytdmnaipngcldbaa.rfP
set_option linter.unusedVariables false
set_option linter.unusedSimpArgs false
theorem and127 (t : Nat) : bits BinOp.and IntKind.i32 (t : Int) 127 = ((t % 128 : Nat) : Int) := by
  rw [and_mask32 (t : Int) 7 (by omega) 127 (by decide), show (2 : Int) ^ 7 = 128 from by decide]
  omega
end Go.Proofs.Ytdmnaipngcldbaa.rfW
