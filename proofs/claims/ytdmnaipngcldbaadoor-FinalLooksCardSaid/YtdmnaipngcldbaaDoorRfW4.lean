/- Whether a row is asked rightly, the reference's, by a walk. -/
import Derived.Test.YtdmnaipngcldbaaDoorRfW3
namespace Go.Proofs.YtdmnaipngcldbaaDoor.rfW
set_option maxRecDepth 100000
open Go.RowKit Go.Proofs.YtdmnaipngcldbaaDoor.base Go.Proofs.YtdmnaipngcldbaaDoor.rfP
set_option linter.unusedVariables false
set_option linter.unusedSimpArgs false
end Go.Proofs.YtdmnaipngcldbaaDoor.rfW
