/- append of bytes onto a row of the call's own, at a step of a region that draws its order. -/
import Derived.Test.YtkklmclnjmafaaaMem8
import Derived.RegionTactic
import Derived.Deep.RegionHeld3
import Derived.Deep.AppendLies
namespace Go.Proofs.Ytkklmclnjmafaaa.base
set_option maxRecDepth 100000
open Go.RowKit

end Go.Proofs.Ytkklmclnjmafaaa.base
