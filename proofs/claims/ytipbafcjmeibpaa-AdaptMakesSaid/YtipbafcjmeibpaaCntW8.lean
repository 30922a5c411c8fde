/- Runs, by walks: the whole contracts. -/
import Derived.Test.YtipbafcjmeibpaaCntW5
import Derived.Test.YtipbafcjmeibpaaCntW6
import Derived.Test.YtipbafcjmeibpaaCntW7
namespace Go.Proofs.Ytipbafcjmeibpaa.cntW
open Go.RowKit Go.Proofs.Ytipbafcjmeibpaa.base Go.Proofs.Ytipbafcjmeibpaa.cntP
set_option linter.unusedVariables false
set_option linter.unusedSimpArgs false
end Go.Proofs.Ytipbafcjmeibpaa.cntW
