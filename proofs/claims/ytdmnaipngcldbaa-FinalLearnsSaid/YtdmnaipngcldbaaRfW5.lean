/- What the reference sees in a row, by a walk. -/
import Derived.Test.YtdmnaipngcldbaaRfW4
import Derived.Test.YtdmnaipngcldbaaOrd
namespace Go.Proofs.Ytdmnaipngcldbaa.rfP
set_option maxRecDepth 100000
/-- The near place. -/
def nearJ (t : Nat) : Nat := if 64 ≤ t % 128 then t / 128 + 1 else t / 128
/-- What is seen. -/
def seenP (z : List Int) (t : Nat) : Int := lkP (z.getD (t / 128) 0) (z.getD (t / 128 + 1) 0) ((t % 128 : Nat) : Int)
end Go.Proofs.Ytdmnaipngcldbaa.rfP
namespace Go.Proofs.Ytdmnaipngcldbaa.rfW
set_option maxRecDepth 100000
open Go.RowKit Go.Proofs.Ytdmnaipngcldbaa.base Go.Proofs.Ytdmnaipngcldbaa.rfP
set_option linter.unusedVariables false
set_option linter.unusedSimpArgs false
end Go.Proofs.Ytdmnaipngcldbaa.rfW
