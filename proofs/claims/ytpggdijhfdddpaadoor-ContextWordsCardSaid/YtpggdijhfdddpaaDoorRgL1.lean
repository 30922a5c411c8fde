/- The laws' back of rings, by a walk. -/
import Derived.Test.YtpggdijhfdddpaaDoorRgW16
namespace Go.Proofs.YtpggdijhfdddpaaDoor.rgL
open Go.RowKit Go.Proofs.YtpggdijhfdddpaaDoor.base Go.Proofs.YtpggdijhfdddpaaDoor.rgP Go.Proofs.YtpggdijhfdddpaaDoor.rgW
set_option linter.unusedVariables false
set_option linter.unusedSimpArgs false

end Go.Proofs.YtpggdijhfdddpaaDoor.rgL
