/- Addresses: two steps are one. -/
import Derived.Test.YtbfodmckgjeoaaaBase
namespace Go.Proofs.Ytbfodmckgjeoaaa.base
set_option maxRecDepth 100000
theorem add_add (a : Addr) (x y : Nat) : (a.add x).add y = a.add (x + y) := by
  rcases Nat.eq_zero_or_pos x with rfl | hx
  · simp [Addr.add]
  · rcases Nat.eq_zero_or_pos y with rfl | hy
    · simp [Addr.add]
    · simp [Addr.add, show x ≠ 0 by omega, show y ≠ 0 by omega, Nat.add_assoc]
end Go.Proofs.Ytbfodmckgjeoaaa.base
