/- Several texts as one: HashPlain, Bits. -/
import Derived.WalkKit
namespace Go.Proofs.Ytemiecghdmagnaa.hashP
set_option maxRecDepth 100000
open Go.RowKit

/-- A step of a hash, as the walk spells it. -/
def hStep (h c : Int) : Int :=
  bits .xor .u32 (bits .xor .u32 h c * 16777619 % 4294967296) (bits .xor .u32 h c * 16777619 % 4294967296 / 32768)
/-- The step back. -/
def hBack (h c : Int) : Int :=
  bits .xor .u32 (bits .xor .u32 (bits .xor .u32 h (h / 32768)) (h / 1073741824) * 899433627 % 4294967296) c

/-- A number of 32 bits as an integer. -/
def U (a : BitVec 32) : Int := (a.toNat : Int)
theorem U_lo (a : BitVec 32) : 0 ≤ U a := by unfold U; omega
theorem U_hi (a : BitVec 32) : U a ≤ 4294967295 := by unfold U; have := a.isLt; omega
theorem U_of (n : Int) (h1 : 0 ≤ n) (h2 : n ≤ 4294967295) : ∃ a, U a = n := ⟨BitVec.ofNat 32 n.toNat, by unfold U; simp; omega⟩
theorem U_inj {a b : BitVec 32} (h : U a = U b) : a = b := by unfold U at h; exact BitVec.eq_of_toNat_eq (by omega)
theorem U_xor (a b : BitVec 32) : bits .xor .u32 (U a) (U b) = U (a ^^^ b) := by
  unfold U
  rw [u32_xor_nat _ _ (by have := a.isLt; omega) (by have := b.isLt; omega), BitVec.toNat_xor]
theorem U_mul (a b : BitVec 32) : U a * U b % 4294967296 = U (a * b) := by
  unfold U
  rw [BitVec.toNat_mul]; simp
theorem U_shr (a : BitVec 32) (k : Nat) (m : Int) (h : ((2 ^ k : Nat) : Int) = m) : U a / m = U (a >>> k) := by
  unfold U
  rw [BitVec.toNat_ushiftRight, Nat.shiftRight_eq_div_pow, ← h]; simp

def bStep (h c : BitVec 32) : BitVec 32 := ((h ^^^ c) * 16777619#32) ^^^ (((h ^^^ c) * 16777619#32) >>> 15)
def bBack (h c : BitVec 32) : BitVec 32 := ((h ^^^ (h >>> 15) ^^^ (h >>> 30)) * 899433627#32) ^^^ c

theorem step_U (h c : BitVec 32) : hStep (U h) (U c) = U (bStep h c) := by
  unfold hStep bStep
  rw [U_xor]
  have e : (16777619 : Int) = U 16777619#32 := rfl
  rw [e, U_mul, U_shr _ 15 32768 rfl, U_xor]

theorem back_U (h c : BitVec 32) : hBack (U h) (U c) = U (bBack h c) := by
  unfold hBack bBack
  have e : (899433627 : Int) = U 899433627#32 := rfl
  rw [U_shr _ 15 32768 rfl, U_shr _ 30 1073741824 rfl, U_xor, U_xor, e, U_mul, U_xor]

/-- What is folded on itself by 15 places comes back. -/
theorem unfold15 (x : BitVec 32) : (x ^^^ (x >>> 15)) ^^^ ((x ^^^ (x >>> 15)) >>> 15) ^^^ ((x ^^^ (x >>> 15)) >>> 30) = x := by
  apply BitVec.eq_of_getLsbD_eq
  intro i hi
  simp only [BitVec.getLsbD_xor, BitVec.getLsbD_ushiftRight]
  have e1 : x.getLsbD (15 + (30 + i)) = false := BitVec.getLsbD_of_ge _ _ (by omega)
  have e2 : 15 + (15 + i) = 30 + i := by omega
  rw [e1, e2]
  cases x.getLsbD i <;> cases x.getLsbD (15 + i) <;> cases x.getLsbD (30 + i) <;> rfl

theorem fold15 (x : BitVec 32) : (x ^^^ (x >>> 15) ^^^ (x >>> 30)) ^^^ ((x ^^^ (x >>> 15) ^^^ (x >>> 30)) >>> 15) = x := by
  apply BitVec.eq_of_getLsbD_eq
  intro i hi
  simp only [BitVec.getLsbD_xor, BitVec.getLsbD_ushiftRight]
  have e1 : x.getLsbD (30 + (15 + i)) = false := BitVec.getLsbD_of_ge _ _ (by omega)
  have e2 : 15 + (15 + i) = 30 + i := by omega
  rw [e1, e2]
  cases x.getLsbD i <;> cases x.getLsbD (15 + i) <;> cases x.getLsbD (30 + i) <;> rfl

theorem mul_inv (x : BitVec 32) : x * 16777619#32 * 899433627#32 = x := by
  rw [BitVec.mul_assoc, show 16777619#32 * 899433627#32 = 1#32 from by decide, BitVec.mul_one]
theorem inv_mul (x : BitVec 32) : x * 899433627#32 * 16777619#32 = x := by
  rw [BitVec.mul_assoc, show 899433627#32 * 16777619#32 = 1#32 from by decide, BitVec.mul_one]
theorem xor_xor (h c : BitVec 32) : h ^^^ c ^^^ c = h := by rw [BitVec.xor_assoc, BitVec.xor_self, BitVec.xor_zero]

theorem back_step (h c : BitVec 32) : bBack (bStep h c) c = h := by
  unfold bBack bStep
  rw [unfold15, mul_inv, xor_xor]
theorem step_back (h c : BitVec 32) : bStep (bBack h c) c = h := by
  unfold bBack bStep
  rw [xor_xor, inv_mul, fold15]
theorem step_inj {h g c : BitVec 32} (e : bStep h c = bStep g c) : h = g := by rw [← back_step h c, e, back_step]
/-- A step with one byte is the step with another one from another hash. -/
theorem step_inj' {h c d : BitVec 32} (e : bStep h c = bStep h d) : c = d := by
  have := congrArg (fun x => bBack x c) e
  simp only [back_step] at this
  have k : bStep h c = bStep (h ^^^ c ^^^ d) d := by unfold bStep; rw [xor_xor]
  rw [k] at e
  have := step_inj e
  have : h ^^^ (h ^^^ c ^^^ d) = h ^^^ h := by rw [this]
  rw [BitVec.xor_self, BitVec.xor_assoc, ← BitVec.xor_assoc h h, BitVec.xor_self, BitVec.zero_xor] at this
  have : c ^^^ d ^^^ d = 0#32 ^^^ d := by rw [this]
  rwa [xor_xor, BitVec.zero_xor] at this

/-! In integers. -/
theorem hStep_bd {h c : Int} (h1 : 0 ≤ h) (h2 : h ≤ 4294967295) (c1 : 0 ≤ c) (c2 : c ≤ 255) : 0 ≤ hStep h c ∧ hStep h c ≤ 4294967295 := by
  obtain ⟨a, rfl⟩ := U_of h h1 h2
  obtain ⟨b, rfl⟩ := U_of c c1 (by omega)
  rw [step_U]; exact ⟨U_lo _, U_hi _⟩
theorem hBack_bd {h c : Int} (h1 : 0 ≤ h) (h2 : h ≤ 4294967295) (c1 : 0 ≤ c) (c2 : c ≤ 255) : 0 ≤ hBack h c ∧ hBack h c ≤ 4294967295 := by
  obtain ⟨a, rfl⟩ := U_of h h1 h2
  obtain ⟨b, rfl⟩ := U_of c c1 (by omega)
  rw [back_U]; exact ⟨U_lo _, U_hi _⟩
theorem hBack_hStep {h c : Int} (h1 : 0 ≤ h) (h2 : h ≤ 4294967295) (c1 : 0 ≤ c) (c2 : c ≤ 255) : hBack (hStep h c) c = h := by
  obtain ⟨a, rfl⟩ := U_of h h1 h2
  obtain ⟨b, rfl⟩ := U_of c c1 (by omega)
  rw [step_U, back_U, back_step]
theorem hStep_hBack {h c : Int} (h1 : 0 ≤ h) (h2 : h ≤ 4294967295) (c1 : 0 ≤ c) (c2 : c ≤ 255) : hStep (hBack h c) c = h := by
  obtain ⟨a, rfl⟩ := U_of h h1 h2
  obtain ⟨b, rfl⟩ := U_of c c1 (by omega)
  rw [back_U, step_U, step_back]
theorem hStep_inj {h g c : Int} (h1 : 0 ≤ h) (h2 : h ≤ 4294967295) (g1 : 0 ≤ g) (g2 : g ≤ 4294967295) (c1 : 0 ≤ c) (c2 : c ≤ 255) : hStep h c = hStep g c ↔ h = g := by
  constructor
  · intro e; rw [← hBack_hStep h1 h2 c1 c2, e, hBack_hStep g1 g2 c1 c2]
  · intro e; rw [e]
theorem hStep_inj' {h c d : Int} (h1 : 0 ≤ h) (h2 : h ≤ 4294967295) (c1 : 0 ≤ c) (c2 : c ≤ 255) (d1 : 0 ≤ d) (d2 : d ≤ 255) : hStep h c = hStep h d ↔ c = d := by
  constructor
  · intro e
    obtain ⟨a, rfl⟩ := U_of h h1 h2
    obtain ⟨b, rfl⟩ := U_of c c1 (by omega)
    obtain ⟨b', rfl⟩ := U_of d d1 (by omega)
    rw [step_U, step_U] at e
    rw [step_inj' (U_inj e)]
  · intro e; rw [e]

theorem xor_bd {a b : Int} (h1 : 0 ≤ a) (h2 : a ≤ 4294967295) (h3 : 0 ≤ b) (h4 : b ≤ 4294967295) : 0 ≤ bits .xor .u32 a b ∧ bits .xor .u32 a b ≤ 4294967295 := by
  obtain ⟨x, rfl⟩ := U_of a h1 h2
  obtain ⟨y, rfl⟩ := U_of b h3 h4
  rw [U_xor]; exact ⟨U_lo _, U_hi _⟩
/-- The way back as the reference goes. -/
theorem hBack_ref (h c : Int) (h1 : 0 ≤ h) (h2 : h ≤ 4294967295) :
    bits .xor .u32 (bits .xor .u32 h (bits .xor .u32 h (h / 32768) / 32768) * 899433627 % 4294967296) c = hBack h c := by
  obtain ⟨a, rfl⟩ := U_of h h1 h2
  unfold hBack
  have e : bits .xor .u32 (U a) (bits .xor .u32 (U a) (U a / 32768) / 32768) = bits .xor .u32 (bits .xor .u32 (U a) (U a / 32768)) (U a / 1073741824) := by
    rw [U_shr a 15 32768 rfl, U_shr a 30 1073741824 rfl, U_xor, U_shr _ 15 32768 rfl, U_xor, U_xor]
    congr 1
    rw [BitVec.ushiftRight_xor_distrib, ← BitVec.shiftRight_add, BitVec.xor_assoc]
  rw [e]

/-- The steps with some bytes. -/
def hSteps (h : Int) (zs : List Int) : Int := zs.foldl hStep h
theorem hSteps_bd : ∀ (zs : List Int) {h : Int}, 0 ≤ h → h ≤ 4294967295 → (∀ z ∈ zs, 0 ≤ z ∧ z ≤ 255) → 0 ≤ hSteps h zs ∧ hSteps h zs ≤ 4294967295
  | [], _, h1, h2, _ => ⟨h1, h2⟩
  | z :: zs, h, h1, h2, hz => by
    have b := hStep_bd h1 h2 (hz z (by simp)).1 (hz z (by simp)).2
    exact hSteps_bd zs b.1 b.2 fun y hy => hz y (by simp [hy])
theorem hSteps_snoc (h : Int) (zs : List Int) (z : Int) : hSteps h (zs ++ [z]) = hStep (hSteps h zs) z := by simp [hSteps]
end Go.Proofs.Ytemiecghdmagnaa.hashP

namespace Go.Proofs.Ytemiecghdmagnaa.base
set_option maxRecDepth 100000
open Go.RowKit

theorem toNat_ofInt (w : Nat) (n : Int) : ((BitVec.ofInt w n).toNat : Int) = n % 2 ^ w := by
  rw [BitVec.toNat_ofInt]
  have h : (0 : Int) < 2 ^ w := Int.pow_pos (by omega)
  have : ((2 ^ w : Nat) : Int) = 2 ^ w := by simp
  rw [this]
  exact Int.toNat_of_nonneg (Int.emod_nonneg _ (by omega))

theorem mod_mod_pow (n : Int) {i w : Nat} (h : i ≤ w) : n % 2 ^ w % 2 ^ i = n % 2 ^ i := by
  apply Int.emod_emod_of_dvd
  exact ⟨2 ^ (w - i), by rw [← Int.pow_add, Nat.add_sub_cancel' h]⟩

theorem mask_toNat (w : Nat) (n : Int) (i : Nat) (hi : i ≤ w) : (((BitVec.ofInt w n) &&& (BitVec.ofInt w (2 ^ i - 1))).toNat : Int) = n % 2 ^ i := by
  have hp : 0 < 2 ^ i := Nat.two_pow_pos i
  have hc : ((2 : Int) ^ i - 1) = ((2 ^ i - 1 : Nat) : Int) := by rw [Int.natCast_sub hp]; simp
  have hlt : 2 ^ i - 1 < 2 ^ w := Nat.lt_of_lt_of_le (Nat.sub_lt hp (by omega)) (Nat.pow_le_pow_right (by omega) hi)
  rw [BitVec.toNat_and, hc, BitVec.ofInt_natCast, BitVec.toNat_ofNat, Nat.mod_eq_of_lt hlt, Nat.and_two_pow_sub_one_eq_mod]
  have := toNat_ofInt w n
  have h2 : (((BitVec.ofInt w n).toNat % 2 ^ i : Nat) : Int) = ((BitVec.ofInt w n).toNat : Int) % 2 ^ i := by simp
  rw [h2, this, mod_mod_pow n hi]

/-- 'n & (2^i - 1)' of a signed number. -/
theorem and_mask64 (n : Int) (i : Nat) (hi : i ≤ 62) (m : Int) (hm : m = 2 ^ i - 1) : bits .and .i64 n m = n % 2 ^ i := by
  subst hm
  show IntKind.i64.wrap (((BitVec.ofInt 64 n) &&& (BitVec.ofInt 64 (2 ^ i - 1))).toNat : Int) = _
  rw [mask_toNat 64 n i (by omega), IntKind.wrap_i64]
  have h0 : 0 ≤ n % 2 ^ i := Int.emod_nonneg _ (Int.ne_of_gt (Int.pow_pos (by omega)))
  have h1 : n % 2 ^ i < 2 ^ i := Int.emod_lt_of_pos _ (Int.pow_pos (by omega))
  have h2 : (2 : Int) ^ i ≤ 2 ^ 62 := by
    have : (2 : Nat) ^ i ≤ 2 ^ 62 := Nat.pow_le_pow_right (by omega) hi
    exact_mod_cast this
  have h3 : (2 : Int) ^ 62 = 4611686018427387904 := by decide
  omega
theorem and_mask32 (n : Int) (i : Nat) (hi : i ≤ 30) (m : Int) (hm : m = 2 ^ i - 1) : bits .and .i32 n m = n % 2 ^ i := by
  subst hm
  show IntKind.i32.wrap (((BitVec.ofInt 32 n) &&& (BitVec.ofInt 32 (2 ^ i - 1))).toNat : Int) = _
  rw [mask_toNat 32 n i (by omega), IntKind.wrap_i32]
  have h0 : 0 ≤ n % 2 ^ i := Int.emod_nonneg _ (Int.ne_of_gt (Int.pow_pos (by omega)))
  have h1 : n % 2 ^ i < 2 ^ i := Int.emod_lt_of_pos _ (Int.pow_pos (by omega))
  have h2 : (2 : Int) ^ i ≤ 2 ^ 30 := by
    have : (2 : Nat) ^ i ≤ 2 ^ 30 := Nat.pow_le_pow_right (by omega) hi
    exact_mod_cast this
  have h3 : (2 : Int) ^ 30 = 1073741824 := by decide
  omega

/-- 'h<<32 | l' of a signed number. -/
theorem or_join64 (h l : Int) (h1 : -2147483648 ≤ h) (h2 : h ≤ 2147483647) (l1 : 0 ≤ l) (l2 : l ≤ 4294967295) : bits .or .i64 (h * 4294967296) l = h * 4294967296 + l := by
  obtain ⟨b, rfl⟩ := Int.eq_ofNat_of_zero_le l1
  have hb : b < 4294967296 := by omega
  obtain ⟨a, ha⟩ := Int.eq_ofNat_of_zero_le (Int.emod_nonneg h (show (4294967296 : Int) ≠ 0 by omega))
  have hab : a < 4294967296 := by omega
  have e : (BitVec.ofInt 64 (h * 4294967296)).toNat = 2 ^ 32 * a := by
    have := toNat_ofInt 64 (h * 4294967296)
    have p : (2 : Int) ^ 64 = 18446744073709551616 := by decide
    rw [p] at this
    have q : (2 : Nat) ^ 32 = 4294967296 := by decide
    rw [q]
    omega
  have e2 : (BitVec.ofInt 64 (b : Int)).toNat = b := by
    rw [BitVec.ofInt_natCast, BitVec.toNat_ofNat]
    exact Nat.mod_eq_of_lt (Nat.lt_of_lt_of_le hb (by decide))
  show IntKind.i64.wrap (((BitVec.ofInt 64 (h * 4294967296)) ||| (BitVec.ofInt 64 (b : Int))).toNat : Int) = _
  rw [BitVec.toNat_or, e, e2, ← Nat.two_pow_add_eq_or_of_lt (show b < 2 ^ 32 from hb) a, IntKind.wrap_i64]
  have q : (2 : Nat) ^ 32 = 4294967296 := by decide
  rw [q]
  omega
end Go.Proofs.Ytemiecghdmagnaa.base
