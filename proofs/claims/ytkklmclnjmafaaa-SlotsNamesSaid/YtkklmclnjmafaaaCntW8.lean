/- Runs, by walks: the whole contracts. -/
import Derived.Test.YtkklmclnjmafaaaCntW5
import Derived.Test.YtkklmclnjmafaaaCntW6
import Derived.Test.YtkklmclnjmafaaaCntW7
namespace Go.Proofs.Ytkklmclnjmafaaa.cntW
set_option maxRecDepth 100000
open Go.RowKit Go.Proofs.Ytkklmclnjmafaaa.base Go.Proofs.Ytkklmclnjmafaaa.cntP
set_option linter.unusedVariables false
set_option linter.unusedSimpArgs false
end Go.Proofs.Ytkklmclnjmafaaa.cntW
