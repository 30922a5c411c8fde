/- New refiners of the reference, by walks. -/
import Derived.Test.YtdmnaipngcldbaaRfWA
import Derived.Test.YtdmnaipngcldbaaAppY
namespace Go.Proofs.Ytdmnaipngcldbaa.rfW
set_option maxRecDepth 100000
open Go.RowKit Go.Proofs.Ytdmnaipngcldbaa.base Go.Proofs.Ytdmnaipngcldbaa.rfP Go.Proofs.Ytdmnaipngcldbaa.sqP Go.Proofs.Ytdmnaipngcldbaa.sqW
set_option linter.unusedVariables false
set_option linter.unusedSimpArgs false
end Go.Proofs.Ytdmnaipngcldbaa.rfW
