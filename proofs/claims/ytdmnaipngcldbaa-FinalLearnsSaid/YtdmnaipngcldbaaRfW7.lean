/- The reference's Look that answers, by a walk. -/
import Derived.Test.YtdmnaipngcldbaaRfW6
namespace Go.Proofs.Ytdmnaipngcldbaa.rfW
set_option maxRecDepth 100000
open Go.RowKit Go.Proofs.Ytdmnaipngcldbaa.base Go.Proofs.Ytdmnaipngcldbaa.rfP
set_option linter.unusedVariables false
set_option linter.unusedSimpArgs false
end Go.Proofs.Ytdmnaipngcldbaa.rfW
