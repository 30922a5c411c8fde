/- The laws' back of rings, by a walk. -/
import Derived.Test.YtbdipdnnjbpibaaRgW16
namespace Go.Proofs.Ytbdipdnnjbpibaa.rgL
open Go.RowKit Go.Proofs.Ytbdipdnnjbpibaa.base Go.Proofs.Ytbdipdnnjbpibaa.rgP Go.Proofs.Ytbdipdnnjbpibaa.rgW
set_option linter.unusedVariables false
set_option linter.unusedSimpArgs false

end Go.Proofs.Ytbdipdnnjbpibaa.rgL
