/- What the reference's Put, Ended, End and Probs, and Same and Begins and the two New return, by walks. -/
import Derived.Test.YtckbiielahgliaaEncR
import Derived.Test.YtckbiielahgliaaBool
namespace Go.Proofs.Ytckbiielahgliaa.encW
open Go.RowKit Go.Proofs.Ytckbiielahgliaa.base Go.Proofs.Ytckbiielahgliaa.encP
set_option linter.unusedVariables false
set_option linter.unusedSimpArgs false

end Go.Proofs.Ytckbiielahgliaa.encW
