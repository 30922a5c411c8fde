/- Turn, by walks. -/
import Derived.Test.YtipbafcjmeibpaaCntW3
import Derived.Test.YtipbafcjmeibpaaCntW4
import Derived.Test.YtipbafcjmeibpaaBlock
namespace Go.Proofs.Ytipbafcjmeibpaa.cntW
open Go.RowKit Go.Proofs.Ytipbafcjmeibpaa.base Go.Proofs.Ytipbafcjmeibpaa.cntP
set_option linter.unusedVariables false
set_option linter.unusedSimpArgs false
end Go.Proofs.Ytipbafcjmeibpaa.cntW
