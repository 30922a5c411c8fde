/- The reference's New and Same of rings, by walks. -/
import Derived.Test.YtbdipdnnjbpibaaRgW12
namespace Go.Proofs.Ytbdipdnnjbpibaa.rgW
open Go.RowKit Go.Proofs.Ytbdipdnnjbpibaa.base Go.Proofs.Ytbdipdnnjbpibaa.rgP
set_option linter.unusedVariables false
set_option linter.unusedSimpArgs false

def sameB (a b : Rg) : Bool := decide (a.l = b.l) && (decide (a.n = b.n) && decide (a.b = b.b))
end Go.Proofs.Ytbdipdnnjbpibaa.rgW
