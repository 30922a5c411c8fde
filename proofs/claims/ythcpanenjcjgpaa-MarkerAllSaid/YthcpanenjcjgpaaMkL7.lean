/- MarkerAll. -/
import Derived.Test.YthcpanenjcjgpaaMkL2
import Derived.Test.YthcpanenjcjgpaaMkL5
namespace Go.Proofs.Ythcpanenjcjgpaa.mkL
open Go.RowKit Go.Proofs.Ythcpanenjcjgpaa.base Go.Proofs.Ythcpanenjcjgpaa.mkP Go.Proofs.Ythcpanenjcjgpaa.mkW
theorem all_law (A : Option Addr) (n c : Nat) (z : List Int) (w : World) (hr : IsRow .u8 w A n c z) (hT : Tab w) :
    Calls Try.prog 6 #[.slice A n c] w fun e w' => e = .returned (.bool true) ∧ Below w.heap.size w w' := all_of alive A n c z w hr hT
end Go.Proofs.Ythcpanenjcjgpaa.mkL
