/- Which numbers fit, by a walk. -/
import Derived.Test.YtlbokbbgpalkaaaOcW6
namespace Go.Proofs.Ytlbokbbgpalkaaa.ocW
open Go.RowKit Go.Proofs.Ytlbokbbgpalkaaa.base Go.Proofs.Ytlbokbbgpalkaaa.ocP
set_option linter.unusedVariables false
set_option linter.unusedSimpArgs false

theorem fit_step (x : Int) (k : Nat) : x / 256 ^ k / 256 = x / 256 ^ (k + 1) := by
  rw [Int.pow_succ, Int.ediv_ediv_of_nonneg (Int.pow_nonneg (by omega))]
theorem fit_bd {x : Int} (h1 : 0 ≤ x) (h2 : x ≤ 18446744073709551615) (k : Nat) : 0 ≤ x / 256 ^ k ∧ x / 256 ^ k ≤ 18446744073709551615 :=
  ⟨Int.ediv_nonneg h1 (Int.pow_nonneg (by omega)), Int.le_trans (Int.ediv_le_self _ h1) h2⟩
set_option maxHeartbeats 1000000 in
theorem rFits_any (x : Int) (q : Nat) (w : World) (h1 : 0 ≤ x) (h2 : x ≤ 18446744073709551615) (hq : q ≤ 8) :
    Calls Try.prog 30 #[.int .u64 x, .int .i64 q] w fun e w' => e = .returned (.bool (x / 256 ^ q == 0)) ∧ w = w' := by
  have HQ := Lib.hid hq
  have q8 : (q : Int) ≤ 8 := by omega
  clear hq
  go_enter Try.func30, Try.ntmps30
  go_wp2_with fail
  go_loop [0, 5] (fun a i => ∃ k : Nat, k ≤ q ∧ i = .int .i64 (k : Int) ∧ a = .int .u64 (x / 256 ^ k)) (fun _ i => q - (intOf i).toNat)
  case atStart => exact ⟨0, Nat.zero_le _, rfl, by simp⟩
  case round =>
    obtain ⟨k, hk, rfl, rfl⟩ := hrel
    have hb := fit_bd h1 h2 k
    have HS := Lib.hid (fit_step x k)
    by_cases hlt : k < q
    · have k1 : (k : Int) < q := by omega
      have HLT := Lib.hid hlt
      clear hk hlt
      obtain ⟨v, hv⟩ : ∃ v, x / 256 ^ k = v := ⟨_, rfl⟩
      rw [hv] at hb ⊢
      have HVV := Lib.hid hv
      clear hv
      have v1 := hb.1
      have v2 := hb.2
      go_wp2
      go_round
      case rel => exact ⟨k + 1, HLT.out, by go_num, by rw [← HS.out, HVV.out]⟩
      case measure => simp [intOf]; have := HLT.out; omega
    · have hkl : k = q := by omega
      subst hkl
      clear hk hlt HS hb
      obtain ⟨v, hv⟩ : ∃ v, x / 256 ^ k = v := ⟨_, rfl⟩
      rw [hv]
      have HVV := Lib.hid hv
      clear hv
      go_wp2
      go_ret
      exact ⟨retb (by rw [HVV.out]), rfl⟩
end Go.Proofs.Ytlbokbbgpalkaaa.ocW
