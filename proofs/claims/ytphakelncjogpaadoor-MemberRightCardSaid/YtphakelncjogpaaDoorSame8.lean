/- Bytes compared, by a walk. -/
import Derived.Test.YtphakelncjogpaaDoorMem8
import Derived.Test.YtphakelncjogpaaDoorReg
import Derived.Test.YtphakelncjogpaaDoorBlock
import Derived.Handy
import Derived.Deep.DeepMust
import Derived.Deep.QuietTactic
import Derived.Deep.LoopGhost
import Derived.Lib.Hide
namespace Go.Proofs.YtphakelncjogpaaDoor.base
set_option maxRecDepth 100000
open Go.RowKit
set_option linter.unusedVariables false
set_option linter.unusedSimpArgs false

end Go.Proofs.YtphakelncjogpaaDoor.base
