/- Plain arithmetic on hashes of 32 bits: steps, and the way back. No program. -/
import Derived.WalkKit
namespace Go.Proofs.Ytkklmclnjmafaaa.hashP
set_option maxRecDepth 100000
open Go.RowKit

/-- A step of a hash, as the walk spells it. -/
def hStep (h c : Int) : Int :=
  bits .xor .u32 (bits .xor .u32 h c * 16777619 % 4294967296) (bits .xor .u32 h c * 16777619 % 4294967296 / 32768)
/-- The step back. -/
def hBack (h c : Int) : Int :=
  bits .xor .u32 (bits .xor .u32 (bits .xor .u32 h (h / 32768)) (h / 1073741824) * 899433627 % 4294967296) c

/-- A number of 32 bits as an integer. -/
def U (a : BitVec 32) : Int := (a.toNat : Int)
theorem U_lo (a : BitVec 32) : 0 ≤ U a := by unfold U; omega
theorem U_hi (a : BitVec 32) : U a ≤ 4294967295 := by unfold U; have := a.isLt; omega
theorem U_of (n : Int) (h1 : 0 ≤ n) (h2 : n ≤ 4294967295) : ∃ a, U a = n := ⟨BitVec.ofNat 32 n.toNat, by unfold U; simp; omega⟩
theorem U_inj {a b : BitVec 32} (h : U a = U b) : a = b := by unfold U at h; exact BitVec.eq_of_toNat_eq (by omega)
theorem U_xor (a b : BitVec 32) : bits .xor .u32 (U a) (U b) = U (a ^^^ b) := by
  unfold U
  rw [u32_xor_nat _ _ (by have := a.isLt; omega) (by have := b.isLt; omega), BitVec.toNat_xor]
theorem U_mul (a b : BitVec 32) : U a * U b % 4294967296 = U (a * b) := by
  unfold U
  rw [BitVec.toNat_mul]; simp
theorem U_shr (a : BitVec 32) (k : Nat) (m : Int) (h : ((2 ^ k : Nat) : Int) = m) : U a / m = U (a >>> k) := by
  unfold U
  rw [BitVec.toNat_ushiftRight, Nat.shiftRight_eq_div_pow, ← h]; simp

def bStep (h c : BitVec 32) : BitVec 32 := ((h ^^^ c) * 16777619#32) ^^^ (((h ^^^ c) * 16777619#32) >>> 15)
def bBack (h c : BitVec 32) : BitVec 32 := ((h ^^^ (h >>> 15) ^^^ (h >>> 30)) * 899433627#32) ^^^ c

theorem step_U (h c : BitVec 32) : hStep (U h) (U c) = U (bStep h c) := by
  unfold hStep bStep
  rw [U_xor]
  have e : (16777619 : Int) = U 16777619#32 := rfl
  rw [e, U_mul, U_shr _ 15 32768 rfl, U_xor]

theorem back_U (h c : BitVec 32) : hBack (U h) (U c) = U (bBack h c) := by
  unfold hBack bBack
  have e : (899433627 : Int) = U 899433627#32 := rfl
  rw [U_shr _ 15 32768 rfl, U_shr _ 30 1073741824 rfl, U_xor, U_xor, e, U_mul, U_xor]

/-- What is folded on itself by 15 places comes back. -/
theorem unfold15 (x : BitVec 32) : (x ^^^ (x >>> 15)) ^^^ ((x ^^^ (x >>> 15)) >>> 15) ^^^ ((x ^^^ (x >>> 15)) >>> 30) = x := by
  apply BitVec.eq_of_getLsbD_eq
  intro i hi
  simp only [BitVec.getLsbD_xor, BitVec.getLsbD_ushiftRight]
  have e1 : x.getLsbD (15 + (30 + i)) = false := BitVec.getLsbD_of_ge _ _ (by omega)
  have e2 : 15 + (15 + i) = 30 + i := by omega
  rw [e1, e2]
  cases x.getLsbD i <;> cases x.getLsbD (15 + i) <;> cases x.getLsbD (30 + i) <;> rfl

theorem fold15 (x : BitVec 32) : (x ^^^ (x >>> 15) ^^^ (x >>> 30)) ^^^ ((x ^^^ (x >>> 15) ^^^ (x >>> 30)) >>> 15) = x := by
  apply BitVec.eq_of_getLsbD_eq
  intro i hi
  simp only [BitVec.getLsbD_xor, BitVec.getLsbD_ushiftRight]
  have e1 : x.getLsbD (30 + (15 + i)) = false := BitVec.getLsbD_of_ge _ _ (by omega)
  have e2 : 15 + (15 + i) = 30 + i := by omega
  rw [e1, e2]
  cases x.getLsbD i <;> cases x.getLsbD (15 + i) <;> cases x.getLsbD (30 + i) <;> rfl

theorem mul_inv (x : BitVec 32) : x * 16777619#32 * 899433627#32 = x := by
  rw [BitVec.mul_assoc, show 16777619#32 * 899433627#32 = 1#32 from by decide, BitVec.mul_one]
theorem inv_mul (x : BitVec 32) : x * 899433627#32 * 16777619#32 = x := by
  rw [BitVec.mul_assoc, show 899433627#32 * 16777619#32 = 1#32 from by decide, BitVec.mul_one]
theorem xor_xor (h c : BitVec 32) : h ^^^ c ^^^ c = h := by rw [BitVec.xor_assoc, BitVec.xor_self, BitVec.xor_zero]

theorem back_step (h c : BitVec 32) : bBack (bStep h c) c = h := by
  unfold bBack bStep
  rw [unfold15, mul_inv, xor_xor]
theorem step_back (h c : BitVec 32) : bStep (bBack h c) c = h := by
  unfold bBack bStep
  rw [xor_xor, inv_mul, fold15]
theorem step_inj {h g c : BitVec 32} (e : bStep h c = bStep g c) : h = g := by rw [← back_step h c, e, back_step]
/-- A step with one byte is the step with another one from another hash. -/
theorem step_inj' {h c d : BitVec 32} (e : bStep h c = bStep h d) : c = d := by
  have := congrArg (fun x => bBack x c) e
  simp only [back_step] at this
  have k : bStep h c = bStep (h ^^^ c ^^^ d) d := by unfold bStep; rw [xor_xor]
  rw [k] at e
  have := step_inj e
  have : h ^^^ (h ^^^ c ^^^ d) = h ^^^ h := by rw [this]
  rw [BitVec.xor_self, BitVec.xor_assoc, ← BitVec.xor_assoc h h, BitVec.xor_self, BitVec.zero_xor] at this
  have : c ^^^ d ^^^ d = 0#32 ^^^ d := by rw [this]
  rwa [xor_xor, BitVec.zero_xor] at this

/-! In integers. -/
theorem hStep_bd {h c : Int} (h1 : 0 ≤ h) (h2 : h ≤ 4294967295) (c1 : 0 ≤ c) (c2 : c ≤ 255) : 0 ≤ hStep h c ∧ hStep h c ≤ 4294967295 := by
  obtain ⟨a, rfl⟩ := U_of h h1 h2
  obtain ⟨b, rfl⟩ := U_of c c1 (by omega)
  rw [step_U]; exact ⟨U_lo _, U_hi _⟩
theorem hBack_bd {h c : Int} (h1 : 0 ≤ h) (h2 : h ≤ 4294967295) (c1 : 0 ≤ c) (c2 : c ≤ 255) : 0 ≤ hBack h c ∧ hBack h c ≤ 4294967295 := by
  obtain ⟨a, rfl⟩ := U_of h h1 h2
  obtain ⟨b, rfl⟩ := U_of c c1 (by omega)
  rw [back_U]; exact ⟨U_lo _, U_hi _⟩
theorem hBack_hStep {h c : Int} (h1 : 0 ≤ h) (h2 : h ≤ 4294967295) (c1 : 0 ≤ c) (c2 : c ≤ 255) : hBack (hStep h c) c = h := by
  obtain ⟨a, rfl⟩ := U_of h h1 h2
  obtain ⟨b, rfl⟩ := U_of c c1 (by omega)
  rw [step_U, back_U, back_step]
theorem hStep_hBack {h c : Int} (h1 : 0 ≤ h) (h2 : h ≤ 4294967295) (c1 : 0 ≤ c) (c2 : c ≤ 255) : hStep (hBack h c) c = h := by
  obtain ⟨a, rfl⟩ := U_of h h1 h2
  obtain ⟨b, rfl⟩ := U_of c c1 (by omega)
  rw [back_U, step_U, step_back]
theorem hStep_inj {h g c : Int} (h1 : 0 ≤ h) (h2 : h ≤ 4294967295) (g1 : 0 ≤ g) (g2 : g ≤ 4294967295) (c1 : 0 ≤ c) (c2 : c ≤ 255) : hStep h c = hStep g c ↔ h = g := by
  constructor
  · intro e; rw [← hBack_hStep h1 h2 c1 c2, e, hBack_hStep g1 g2 c1 c2]
  · intro e; rw [e]
theorem hStep_inj' {h c d : Int} (h1 : 0 ≤ h) (h2 : h ≤ 4294967295) (c1 : 0 ≤ c) (c2 : c ≤ 255) (d1 : 0 ≤ d) (d2 : d ≤ 255) : hStep h c = hStep h d ↔ c = d := by
  constructor
  · intro e
    obtain ⟨a, rfl⟩ := U_of h h1 h2
    obtain ⟨b, rfl⟩ := U_of c c1 (by omega)
    obtain ⟨b', rfl⟩ := U_of d d1 (by omega)
    rw [step_U, step_U] at e
    rw [step_inj' (U_inj e)]
  · intro e; rw [e]

theorem xor_bd {a b : Int} (h1 : 0 ≤ a) (h2 : a ≤ 4294967295) (h3 : 0 ≤ b) (h4 : b ≤ 4294967295) : 0 ≤ bits .xor .u32 a b ∧ bits .xor .u32 a b ≤ 4294967295 := by
  obtain ⟨x, rfl⟩ := U_of a h1 h2
  obtain ⟨y, rfl⟩ := U_of b h3 h4
  rw [U_xor]; exact ⟨U_lo _, U_hi _⟩
/-- The way back as the reference goes. -/
theorem hBack_ref (h c : Int) (h1 : 0 ≤ h) (h2 : h ≤ 4294967295) :
    bits .xor .u32 (bits .xor .u32 h (bits .xor .u32 h (h / 32768) / 32768) * 899433627 % 4294967296) c = hBack h c := by
  obtain ⟨a, rfl⟩ := U_of h h1 h2
  unfold hBack
  have e : bits .xor .u32 (U a) (bits .xor .u32 (U a) (U a / 32768) / 32768) = bits .xor .u32 (bits .xor .u32 (U a) (U a / 32768)) (U a / 1073741824) := by
    rw [U_shr a 15 32768 rfl, U_shr a 30 1073741824 rfl, U_xor, U_shr _ 15 32768 rfl, U_xor, U_xor]
    congr 1
    rw [BitVec.ushiftRight_xor_distrib, ← BitVec.shiftRight_add, BitVec.xor_assoc]
  rw [e]

/-- The steps with some bytes. -/
def hSteps (h : Int) (zs : List Int) : Int := zs.foldl hStep h
theorem hSteps_bd : ∀ (zs : List Int) {h : Int}, 0 ≤ h → h ≤ 4294967295 → (∀ z ∈ zs, 0 ≤ z ∧ z ≤ 255) → 0 ≤ hSteps h zs ∧ hSteps h zs ≤ 4294967295
  | [], _, h1, h2, _ => ⟨h1, h2⟩
  | z :: zs, h, h1, h2, hz => by
    have b := hStep_bd h1 h2 (hz z (by simp)).1 (hz z (by simp)).2
    exact hSteps_bd zs b.1 b.2 fun y hy => hz y (by simp [hy])
theorem hSteps_snoc (h : Int) (zs : List Int) (z : Int) : hSteps h (zs ++ [z]) = hStep (hSteps h zs) z := by simp [hSteps]
end Go.Proofs.Ytkklmclnjmafaaa.hashP
