/- What the functions of package counts and of its reference return, by walks: Check and After of the reference. -/
import Derived.Test.YtipbafcjmeibpaaCntW2
import Derived.IntWalk
import Derived.Test.YtipbafcjmeibpaaBlock
namespace Go.Proofs.Ytipbafcjmeibpaa.cntW
open Go.RowKit Go.Proofs.Ytipbafcjmeibpaa.base Go.Proofs.Ytipbafcjmeibpaa.cntP
set_option linter.unusedVariables false
end Go.Proofs.Ytipbafcjmeibpaa.cntW
