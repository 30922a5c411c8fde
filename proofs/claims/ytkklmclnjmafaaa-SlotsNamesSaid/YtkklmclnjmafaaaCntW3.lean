/- What the functions of package counts and of its reference return, by walks: Check and After of the reference. -/
import Derived.Test.YtkklmclnjmafaaaCntW2
import Derived.IntWalk
import Derived.Test.YtkklmclnjmafaaaBlock
namespace Go.Proofs.Ytkklmclnjmafaaa.cntW
set_option maxRecDepth 100000
open Go.RowKit Go.Proofs.Ytkklmclnjmafaaa.base Go.Proofs.Ytkklmclnjmafaaa.cntP
set_option linter.unusedVariables false
end Go.Proofs.Ytkklmclnjmafaaa.cntW
