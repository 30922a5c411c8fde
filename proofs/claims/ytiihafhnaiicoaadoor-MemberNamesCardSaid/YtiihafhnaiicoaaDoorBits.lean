/- Masks and joins of bits in signed numbers. No program. -/
import Derived.WalkKit
namespace Go.Proofs.YtiihafhnaiicoaaDoor.base
set_option maxRecDepth 100000
open Go.RowKit

theorem toNat_ofInt (w : Nat) (n : Int) : ((BitVec.ofInt w n).toNat : Int) = n % 2 ^ w := by
  rw [BitVec.toNat_ofInt]
  have h : (0 : Int) < 2 ^ w := Int.pow_pos (by omega)
  have : ((2 ^ w : Nat) : Int) = 2 ^ w := by simp
  rw [this]
  exact Int.toNat_of_nonneg (Int.emod_nonneg _ (by omega))

theorem mod_mod_pow (n : Int) {i w : Nat} (h : i ≤ w) : n % 2 ^ w % 2 ^ i = n % 2 ^ i := by
  apply Int.emod_emod_of_dvd
  exact ⟨2 ^ (w - i), by rw [← Int.pow_add, Nat.add_sub_cancel' h]⟩

theorem mask_toNat (w : Nat) (n : Int) (i : Nat) (hi : i ≤ w) : (((BitVec.ofInt w n) &&& (BitVec.ofInt w (2 ^ i - 1))).toNat : Int) = n % 2 ^ i := by
  have hp : 0 < 2 ^ i := Nat.two_pow_pos i
  have hc : ((2 : Int) ^ i - 1) = ((2 ^ i - 1 : Nat) : Int) := by rw [Int.natCast_sub hp]; simp
  have hlt : 2 ^ i - 1 < 2 ^ w := Nat.lt_of_lt_of_le (Nat.sub_lt hp (by omega)) (Nat.pow_le_pow_right (by omega) hi)
  rw [BitVec.toNat_and, hc, BitVec.ofInt_natCast, BitVec.toNat_ofNat, Nat.mod_eq_of_lt hlt, Nat.and_two_pow_sub_one_eq_mod]
  have := toNat_ofInt w n
  have h2 : (((BitVec.ofInt w n).toNat % 2 ^ i : Nat) : Int) = ((BitVec.ofInt w n).toNat : Int) % 2 ^ i := by simp
  rw [h2, this, mod_mod_pow n hi]

/-- 'n & (2^i - 1)' of a signed number. -/
theorem and_mask64 (n : Int) (i : Nat) (hi : i ≤ 62) (m : Int) (hm : m = 2 ^ i - 1) : bits .and .i64 n m = n % 2 ^ i := by
  subst hm
  show IntKind.i64.wrap (((BitVec.ofInt 64 n) &&& (BitVec.ofInt 64 (2 ^ i - 1))).toNat : Int) = _
  rw [mask_toNat 64 n i (by omega), IntKind.wrap_i64]
  have h0 : 0 ≤ n % 2 ^ i := Int.emod_nonneg _ (Int.ne_of_gt (Int.pow_pos (by omega)))
  have h1 : n % 2 ^ i < 2 ^ i := Int.emod_lt_of_pos _ (Int.pow_pos (by omega))
  have h2 : (2 : Int) ^ i ≤ 2 ^ 62 := by
    have : (2 : Nat) ^ i ≤ 2 ^ 62 := Nat.pow_le_pow_right (by omega) hi
    exact_mod_cast this
  have h3 : (2 : Int) ^ 62 = 4611686018427387904 := by decide
  omega
theorem and_mask32 (n : Int) (i : Nat) (hi : i ≤ 30) (m : Int) (hm : m = 2 ^ i - 1) : bits .and .i32 n m = n % 2 ^ i := by
  subst hm
  show IntKind.i32.wrap (((BitVec.ofInt 32 n) &&& (BitVec.ofInt 32 (2 ^ i - 1))).toNat : Int) = _
  rw [mask_toNat 32 n i (by omega), IntKind.wrap_i32]
  have h0 : 0 ≤ n % 2 ^ i := Int.emod_nonneg _ (Int.ne_of_gt (Int.pow_pos (by omega)))
  have h1 : n % 2 ^ i < 2 ^ i := Int.emod_lt_of_pos _ (Int.pow_pos (by omega))
  have h2 : (2 : Int) ^ i ≤ 2 ^ 30 := by
    have : (2 : Nat) ^ i ≤ 2 ^ 30 := Nat.pow_le_pow_right (by omega) hi
    exact_mod_cast this
  have h3 : (2 : Int) ^ 30 = 1073741824 := by decide
  omega

/-- 'h<<32 | l' of a signed number. -/
theorem or_join64 (h l : Int) (h1 : -2147483648 ≤ h) (h2 : h ≤ 2147483647) (l1 : 0 ≤ l) (l2 : l ≤ 4294967295) : bits .or .i64 (h * 4294967296) l = h * 4294967296 + l := by
  obtain ⟨b, rfl⟩ := Int.eq_ofNat_of_zero_le l1
  have hb : b < 4294967296 := by omega
  obtain ⟨a, ha⟩ := Int.eq_ofNat_of_zero_le (Int.emod_nonneg h (show (4294967296 : Int) ≠ 0 by omega))
  have hab : a < 4294967296 := by omega
  have e : (BitVec.ofInt 64 (h * 4294967296)).toNat = 2 ^ 32 * a := by
    have := toNat_ofInt 64 (h * 4294967296)
    have p : (2 : Int) ^ 64 = 18446744073709551616 := by decide
    rw [p] at this
    have q : (2 : Nat) ^ 32 = 4294967296 := by decide
    rw [q]
    omega
  have e2 : (BitVec.ofInt 64 (b : Int)).toNat = b := by
    rw [BitVec.ofInt_natCast, BitVec.toNat_ofNat]
    exact Nat.mod_eq_of_lt (Nat.lt_of_lt_of_le hb (by decide))
  show IntKind.i64.wrap (((BitVec.ofInt 64 (h * 4294967296)) ||| (BitVec.ofInt 64 (b : Int))).toNat : Int) = _
  rw [BitVec.toNat_or, e, e2, ← Nat.two_pow_add_eq_or_of_lt (show b < 2 ^ 32 from hb) a, IntKind.wrap_i64]
  have q : (2 : Nat) ^ 32 = 4294967296 := by decide
  rw [q]
  omega
end Go.Proofs.YtiihafhnaiicoaaDoor.base
