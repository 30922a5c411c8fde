/- MarkerJoins. -/
import Derived.Test.YthcpanenjcjgpaaMkL2
import Derived.Test.YthcpanenjcjgpaaMkL8
namespace Go.Proofs.Ythcpanenjcjgpaa.mkL
open Go.RowKit Go.Proofs.Ythcpanenjcjgpaa.base Go.Proofs.Ythcpanenjcjgpaa.mkP Go.Proofs.Ythcpanenjcjgpaa.mkW
theorem joins (A : Option Addr) (n c : Nat) (z : List Int) (B : Option Addr) (m d : Nat) (y : List Int) (w : World) (hr : IsRow .u8 w A n c z) (hr2 : IsRow .u8 w B m d y) (hT : Tab w) :
    Calls Try.prog 8 #[.slice A n c, .slice B m d] w fun e w' => e = .returned (.bool true) ∧ Below w.heap.size w w' := joins_of alive A n c z B m d y w hr hr2 hT
end Go.Proofs.Ythcpanenjcjgpaa.mkL
