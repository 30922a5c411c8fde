/- What the functions of package hashes and of its reference return, by walks. -/
import Derived.Test.YtkklmclnjmafaaaBase
import Derived.Test.YtkklmclnjmafaaaHashPlain
import Derived.WalkKit
import Derived.Lib.Hide
import Derived.WalkSpells
import Derived.WalkLawsBesides
import Derived.OneCell
namespace Go.Proofs.Ytkklmclnjmafaaa.hashW
set_option maxRecDepth 100000
open Go.RowKit Go.Proofs.Ytkklmclnjmafaaa.base Go.Proofs.Ytkklmclnjmafaaa.hashP
set_option linter.unusedVariables false

def kOk (k : Int) : Bool := decide (0 ≤ k) && decide (k < 8)
def kStart (k : Int) : Int := if kOk k then (k + 1) * 2654435769 % 4294967296 else 0
def kE (k : Int) : Int := if kOk k then 0 else 2
theorem kOk_iff (k : Int) : kOk k = true ↔ 0 ≤ k ∧ k < 8 := by simp [kOk]
theorem kOk_no (k : Int) : kOk k = false ↔ k < 0 ∨ 8 ≤ k := by simp [kOk]; omega
theorem kStart_bd (k : Int) : 0 ≤ kStart k ∧ kStart k ≤ 4294967295 := by unfold kStart; split <;> omega
theorem kE_bd (k : Int) : 0 ≤ kE k ∧ kE k ≤ 2 := by unfold kE; split <;> omega

set_option maxHeartbeats 400000 in
theorem check_any (h : Int) (w : World) (h1 : 0 ≤ h) (h2 : h ≤ 4294967295) :
    Calls Try.prog 27 #[.int .u32 h] w fun e w' => e = .returned (.int .u8 (h / 16777216)) ∧ w = w' := by
  go_enter Try.func27, Try.ntmps27
  go_wp2
  go_ret
  exact ⟨rfl, rfl⟩
set_option maxHeartbeats 400000 in
theorem rcheck_any (h : Int) (w : World) (h1 : 0 ≤ h) (h2 : h ≤ 4294967295) :
    Calls Try.prog 51 #[.int .u32 h] w fun e w' => e = .returned (.int .u8 (h / 16777216)) ∧ w = w' := by
  go_enter Try.func51, Try.ntmps51
  go_wp2
  go_ret
  exact ⟨rfl, rfl⟩

/-- The powers that the reference goes through. -/
def invs : Nat → Int × Int
  | 0 => (1, 16777619)
  | k + 1 => ((invs k).1 * (invs k).2 % 4294967296, (invs k).2 * (invs k).2 % 4294967296)
theorem invs_bd : ∀ k, 0 ≤ (invs k).1 ∧ (invs k).1 ≤ 4294967295 ∧ 0 ≤ (invs k).2 ∧ (invs k).2 ≤ 4294967295
  | 0 => by decide
  | k + 1 => by simp only [invs]; omega
theorem invs_30 : (invs 30).1 = 899433627 := by decide +kernel

theorem all_snoc {P : Nat → Prop} {k : Nat} (h : ∀ j, j < k → P j) (hk : P k) : ∀ j, j < k + 1 → P j := fun j hj => by
  rcases Nat.lt_or_ge j k with c | c
  · exact h j c
  · have e : j = k := by omega
    rw [e]; exact hk
/-- Numbers of places: the powers of two up to 2^20. -/
def sizeB (s : Int) : Bool := (List.range 21).any fun k => decide (s = 2 ^ k)
theorem sizeB_iff (s : Int) : sizeB s = true ↔ ∃ k : Nat, k ≤ 20 ∧ s = 2 ^ k := by
  simp only [sizeB, List.any_eq_true, List.mem_range, decide_eq_true_eq]
  constructor
  · rintro ⟨k, hk, e⟩; exact ⟨k, by omega, e⟩
  · rintro ⟨k, hk, e⟩; exact ⟨k, by omega, e⟩
def placeV (h s : Int) : Int := if sizeB s then h % s else 0
def placeE (s : Int) : Int := if sizeB s then 0 else 2
theorem pow20 {k : Nat} (h : k ≤ 20) : (1 : Int) ≤ 2 ^ k ∧ (2 : Int) ^ k ≤ 1048576 := by
  have a : (2 : Nat) ^ k ≤ 2 ^ 20 := Nat.pow_le_pow_right (by omega) h
  have b : 0 < (2 : Nat) ^ k := Nat.pos_of_ne_zero (by simp)
  have c : ((2 ^ k : Nat) : Int) = 2 ^ k := by simp
  omega
theorem mask_i64 {h : Int} {k : Nat} (h1 : 0 ≤ h) (h2 : h ≤ 4294967295) (hk : k ≤ 20) : bits .and .i64 h (2 ^ k - 1) = h % 2 ^ k := by
  have := bits_mask .i64 63 (by decide) (fun n a b => by rw [IntKind.wrap_i64]; omega) k (by omega) h h1 (by omega)
  exact this

set_option maxHeartbeats 1000000 in
theorem place_any (h s : Int) (w : World) (h1 : 0 ≤ h) (h2 : h ≤ 4294967295) :
    Calls Try.prog 26 #[.int .u32 h, .int .i64 s] w fun e w' => e = .returned (.tuple #[.int .i64 (placeV h s), .int .i64 (placeE s)]) ∧ w = w' := by
  go_enter Try.func26, Try.ntmps26
  go_wp2_with fail
  go_loop [7] (fun i => ∃ k : Nat, k ≤ 21 ∧ i = .int .i64 k ∧ ∀ j, j < k → s ≠ 2 ^ j) (fun i => 21 - (intOf i).toNat)
  case atStart => exact ⟨0, by omega, rfl, by omega⟩
  case round =>
    obtain ⟨k, hk, rfl, hno⟩ := hrel
    have HN := Lib.hid hno
    clear hno
    by_cases hlt : k < 21
    · have p := pow20 (k := k) (by omega)
      have p1 := p.1
      have p2 := p.2
      clear p
      by_cases e : s = 2 ^ k
      · subst e
        have HM := Lib.hid (mask_i64 (k := k) h1 h2 (by omega))
        have HS : Hid (sizeB (2 ^ k) = true) := Lib.hid ((sizeB_iff _).2 ⟨k, by omega, rfl⟩)
        go_wp2
        go_ret2
        exact ⟨ret2 (by rw [placeV, if_pos HS.out]; exact HM.out) (by rw [placeE, if_pos HS.out]), rfl⟩
      · have e' : (s == 2 ^ k) = false := by simpa using e
        have HE := Lib.hid e
        clear e
        go_wp2
        go_round
        case rel => exact ⟨k + 1, by omega, by go_num, all_snoc HN.out HE.out⟩
        case measure => simp [intOf]; omega
    · have HS : Hid (¬ sizeB s = true) := Lib.hid (by rw [sizeB_iff]; rintro ⟨j, hj, e⟩; exact HN.out j (by omega) e)
      go_wp2
      go_ret2
      exact ⟨ret2 (by rw [placeV, if_neg HS.out]) (by rw [placeE, if_neg HS.out]), rfl⟩

end Go.Proofs.Ytkklmclnjmafaaa.hashW
