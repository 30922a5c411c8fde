/- Bytes compared, by a walk. -/
import Derived.Test.YtiihafhnaiicoaaDoorMem8
import Derived.Test.YtiihafhnaiicoaaDoorReg
import Derived.Test.YtiihafhnaiicoaaDoorBlock
import Derived.Handy
import Derived.Deep.DeepMust
import Derived.Deep.QuietTactic
import Derived.Deep.LoopGhost
import Derived.Lib.Hide
namespace Go.Proofs.YtiihafhnaiicoaaDoor.base
set_option maxRecDepth 100000
open Go.RowKit
set_option linter.unusedVariables false
set_option linter.unusedSimpArgs false

end Go.Proofs.YtiihafhnaiicoaaDoor.base
