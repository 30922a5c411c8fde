/- Pieces, by a walk. -/
import Derived.Test.YtiihafhnaiicoaaDoorShWE
namespace Go.Proofs.YtiihafhnaiicoaaDoor.shW
set_option maxRecDepth 100000
open Go.RowKit Go.Proofs.YtiihafhnaiicoaaDoor.base Go.Proofs.YtiihafhnaiicoaaDoor.shP
set_option linter.unusedVariables false
set_option linter.unusedSimpArgs false
end Go.Proofs.YtiihafhnaiicoaaDoor.shW
