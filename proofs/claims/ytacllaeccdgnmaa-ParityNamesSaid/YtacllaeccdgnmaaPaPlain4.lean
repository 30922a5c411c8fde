/- Parity by plain lists: two bytes as a number. -/
import Derived.Test.YtacllaeccdgnmaaPaPlain3
import Derived.Test.YtacllaeccdgnmaaBits
namespace Go.Proofs.Ytacllaeccdgnmaa.paP
set_option maxRecDepth 100000
open Go.RowKit Go.Proofs.Ytacllaeccdgnmaa.base
set_option linter.unusedVariables false
theorem or_bytes (a b : Nat) (h1 : a ≤ 255) (h2 : b ≤ 255) : bits .or .i64 ((a : Int) * 256) (b : Int) = ((256 * a + b : Nat) : Int) := by
  have e1 : (BitVec.ofInt 64 ((a : Int) * 256)).toNat = 2 ^ 8 * a := by
    rw [show (a : Int) * 256 = ((2 ^ 8 * a : Nat) : Int) by omega, BitVec.ofInt_natCast, BitVec.toNat_ofNat]
    exact Nat.mod_eq_of_lt (by omega)
  have e2 : (BitVec.ofInt 64 (b : Int)).toNat = b := by
    rw [BitVec.ofInt_natCast, BitVec.toNat_ofNat]
    exact Nat.mod_eq_of_lt (by omega)
  show IntKind.i64.wrap (((BitVec.ofInt 64 ((a : Int) * 256)) ||| (BitVec.ofInt 64 (b : Int))).toNat : Int) = _
  rw [BitVec.toNat_or, e1, e2, ← Nat.two_pow_add_eq_or_of_lt (show b < 2 ^ 8 by omega) a, IntKind.wrap_i64]
  omega
/-- The two bytes in front, as numbers. -/
theorem front_bytes {m : List Int} (h : Byt m) : ∃ a b : Nat, m.getD 0 0 = (a : Int) ∧ m.getD 1 0 = (b : Int) ∧ a ≤ 255 ∧ b ≤ 255 ∧ lenP m = 256 * a + b := by
  have h0 := byt_getD h 0
  have h1 := byt_getD h 1
  exact ⟨(m.getD 0 0).toNat, (m.getD 1 0).toNat, by omega, by omega, by omega, by omega, rfl⟩
end Go.Proofs.Ytacllaeccdgnmaa.paP
