/- Pieces, by a walk. -/
import Derived.Test.YtphakelncjogpaaDoorShWE
namespace Go.Proofs.YtphakelncjogpaaDoor.shW
set_option maxRecDepth 100000
open Go.RowKit Go.Proofs.YtphakelncjogpaaDoor.base Go.Proofs.YtphakelncjogpaaDoor.shP
set_option linter.unusedVariables false
set_option linter.unusedSimpArgs false
end Go.Proofs.YtphakelncjogpaaDoor.shW
