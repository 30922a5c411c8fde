/- The laws with what their frames give. -/
import Derived.Test.YtemiecghdmagnaaMaBase
import Derived.Test.YtemiecghdmagnaaNibBase
import Derived.Test.YtemiecghdmagnaaMaL1
import Derived.Test.YtemiecghdmagnaaMaL4
namespace Go.Proofs.Ytemiecghdmagnaa.maW
set_option maxRecDepth 100000
open Go.RowKit Go.Proofs.Ytemiecghdmagnaa.base Go.Proofs.Ytemiecghdmagnaa.rgP Go.Proofs.Ytemiecghdmagnaa.fdP Go.Proofs.Ytemiecghdmagnaa.maP
set_option linter.unusedVariables false
theorem does_t (m : Mt) (A : Option Addr) (n c : Nat) (r : Rg) (B : Option Addr) (q d : Nat) (f : Fnd) (p x : Int) (w : World) (_hm : MtIn m) (h : RgIn w A n c r) (hf : FdIn w B q d f) (_hp : WalkIn p) (x0 : 0 ≤ x) (x1 : x ≤ 255) :
    Calls Try.prog 3 #[.agg #[.int .i64 (m).a, .int .i64 (m).k], .agg #[.int .i64 (r).l, .slice A n c, .int .i64 (r).n], .agg #[.int .i64 (f).l, .slice B q d], .agg #[.int .i64 p], .int .u8 x] w fun e w' => e = .returned (.bool true) ∧ Below w.heap.size w w' := does_law m A n c r B q d f p x w h hf x0 x1
theorem input_t (m : Mt) (A : Option Addr) (n c : Nat) (r : Rg) (y : Int) (w : World) (_hm : MtIn m) (h : RgIn w A n c r) (y1 : 0 ≤ y) (y2 : y ≤ 255) :
    Calls Try.prog 6 #[.agg #[.int .i64 (m).a, .int .i64 (m).k], .agg #[.int .i64 (r).l, .slice A n c, .int .i64 (r).n], .int .u8 y] w fun e w' => e = .returned (.bool true) ∧ Below w.heap.size w w' := input_law m A n c r y w h y1 y2
end Go.Proofs.Ytemiecghdmagnaa.maW
