/- Turn, by walks. -/
import Derived.Test.YtkklmclnjmafaaaCntW3
import Derived.Test.YtkklmclnjmafaaaCntW4
import Derived.Test.YtkklmclnjmafaaaBlock
namespace Go.Proofs.Ytkklmclnjmafaaa.cntW
set_option maxRecDepth 100000
open Go.RowKit Go.Proofs.Ytkklmclnjmafaaa.base Go.Proofs.Ytkklmclnjmafaaa.cntP
set_option linter.unusedVariables false
set_option linter.unusedSimpArgs false
end Go.Proofs.Ytkklmclnjmafaaa.cntW
