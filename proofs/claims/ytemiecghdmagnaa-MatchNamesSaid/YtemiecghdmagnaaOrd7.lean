/- Many ways that come to one goal: three names. -/
import Derived.Test.YtemiecghdmagnaaGP
namespace Go.Proofs.Ytemiecghdmagnaa.base
set_option maxRecDepth 100000
open Go Go.RowKit
set_option linter.unusedVariables false
section
variable {P : Program} {ops : Array Oper} {Q : Exit → Act → World → Prop} {S : World → Prop} {G : World → World → Prop}
theorem mid3 {m n : Nat} {l0 : Array Bool} {a0 : Act} {w0 : World} (C : Nat → Nat → Nat → World → Prop) (F : Nat → Nat → Nat → Act) (l : Array Bool)
    (hk : (∀ x y z W, C x y z W → Ord P ops Q S G n l (F x y z) W) → Ord P ops Q S G m l0 a0 w0)
    (hr : ∀ x y z W, C x y z W → Ord P ops Q S G n l (F x y z) W) : Ord P ops Q S G m l0 a0 w0 := hk hr
end
end Go.Proofs.Ytemiecghdmagnaa.base
