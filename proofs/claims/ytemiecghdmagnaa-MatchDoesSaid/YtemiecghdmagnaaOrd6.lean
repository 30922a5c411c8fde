/- Many ways that come to one goal: six names. -/
import Derived.Test.YtemiecghdmagnaaGP
namespace Go.Proofs.Ytemiecghdmagnaa.base
set_option maxRecDepth 100000
open Go Go.RowKit
set_option linter.unusedVariables false
section
variable {P : Program} {ops : Array Oper} {Q : Exit → Act → World → Prop} {S : World → Prop} {G : World → World → Prop}
theorem mid6 {m n : Nat} {l0 : Array Bool} {a0 : Act} {w0 : World} (C : Option Addr → Nat → Option Addr → Nat → Nat → Nat → World → Prop) (F : Option Addr → Nat → Option Addr → Nat → Nat → Nat → Act) (l : Array Bool)
    (hk : (∀ A1 c1 A2 c2 x y W, C A1 c1 A2 c2 x y W → Ord P ops Q S G n l (F A1 c1 A2 c2 x y) W) → Ord P ops Q S G m l0 a0 w0)
    (hr : ∀ A1 c1 A2 c2 x y W, C A1 c1 A2 c2 x y W → Ord P ops Q S G n l (F A1 c1 A2 c2 x y) W) : Ord P ops Q S G m l0 a0 w0 := hk hr
end
end Go.Proofs.Ytemiecghdmagnaa.base
