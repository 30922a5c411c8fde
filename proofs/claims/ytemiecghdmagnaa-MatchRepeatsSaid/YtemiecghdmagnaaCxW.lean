/- Letters and words of the program and of the reference, by walks. -/
import Derived.Test.YtemiecghdmagnaaCxPlain
import Derived.Test.YtemiecghdmagnaaGG
import Derived.Test.YtemiecghdmagnaaGK
import Derived.BigQuiet
import Derived.Handy
import Derived.IntWalk
import Derived.Lib.Hide
namespace Go.Proofs.Ytemiecghdmagnaa.cxW
set_option maxRecDepth 100000
open Go.RowKit Go.Proofs.Ytemiecghdmagnaa.base Go.Proofs.Ytemiecghdmagnaa.rgP Go.Proofs.Ytemiecghdmagnaa.cxP
set_option linter.unusedVariables false
set_option linter.unusedSimpArgs false
end Go.Proofs.Ytemiecghdmagnaa.cxW
