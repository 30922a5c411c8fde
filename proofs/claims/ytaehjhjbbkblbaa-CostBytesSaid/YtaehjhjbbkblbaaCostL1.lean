/- CostLogs, by a walk. -/
import Derived.Test.YtaehjhjbbkblbaaCostL
import Derived.Test.YtaehjhjbbkblbaaCostMath2
namespace Go.Proofs.Ytaehjhjbbkblbaa.costL
open Go.RowKit Go.Proofs.Ytaehjhjbbkblbaa.base Go.Proofs.Ytaehjhjbbkblbaa.encP Go.Proofs.Ytaehjhjbbkblbaa.costP Go.Proofs.Ytaehjhjbbkblbaa.encW Go.Proofs.Ytaehjhjbbkblbaa.costW
set_option linter.unusedVariables false
set_option linter.unusedSimpArgs false

theorem v1 : lgV 1 = 0 ∧ lgE 1 = 0 := by decide +kernel
theorem v3 : lgV 3 = 103872 ∧ lgE 3 = 0 := by decide +kernel
theorem v4096 : lgV 4096 = 786432 ∧ lgE 4096 = 0 := by decide +kernel
theorem vb1 : btV 2048 true = 65536 ∧ btE 2048 = 0 := by decide +kernel
theorem vb2 : btV 2048 false = 65536 := by decide +kernel
theorem vb3 : btV 3072 true = 27200 ∧ btE 3072 = 0 := by decide +kernel
set_option maxRecDepth 100000 in
set_option maxHeartbeats 2000000 in
theorem alive (w : World) : Calls Try.prog 45 #[] w fun e w' => e = .returned (.bool true) ∧ w = w' := by
  have R1 := fun w => log_any 1 w (by omega)
  have R3 := fun w => log_any 3 w (by omega)
  have R4 := fun w => log_any 4096 w (by omega)
  have B1 := fun w => Bit_any 2048 true w
  have B2 := fun w => Bit_any 2048 false w
  have B3 := fun w => Bit_any 3072 true w
  rw [v1.1, v1.2] at R1
  rw [v3.1, v3.2] at R3
  rw [v4096.1, v4096.2] at R4
  rw [vb1.1, vb1.2] at B1
  rw [vb2, vb1.2] at B2
  rw [vb3.1, vb3.2] at B3
  go_enter Try.func45, Try.ntmps45
  go_wp2_with fail
  refine (R1 _).mono ?_
  rintro e w' ⟨rfl, rfl⟩
  go_wp2_with fail
  refine (R3 _).mono ?_
  rintro e w' ⟨rfl, rfl⟩
  go_wp2_with fail
  refine (R4 _).mono ?_
  rintro e w' ⟨rfl, rfl⟩
  go_wp2_with fail
  refine (B1 _).mono ?_
  rintro e w' ⟨rfl, rfl⟩
  go_wp2_with fail
  refine (B2 _).mono ?_
  rintro e w' ⟨rfl, rfl⟩
  go_wp2_with fail
  refine (B3 _).mono ?_
  rintro e w' ⟨rfl, rfl⟩
  go_wp2
  go_ret
  exact ⟨rfl, rfl⟩
set_option maxRecDepth 100000 in
set_option maxHeartbeats 2000000 in
theorem logs_bad (n m : Int) (w : World) (n1 : 0 ≤ n) (m1 : 0 ≤ m) (h : n < 1 ∨ 1 ≤ n ∧ (m < n ∨ n ≤ m ∧ (4294967296 < m ∨ m ≤ 4294967296 ∧ 4294967296 / n < m))) :
    Calls Try.prog 14 #[.int .u64 n, .int .u64 m] w fun e w' => e = .returned (.bool true) ∧ w = w' := by
  rcases h with h | ⟨h0, h | ⟨h1, h | ⟨h2, h3⟩⟩⟩
  · go_enter Try.func14, Try.ntmps14
    go_wp2_with (go_at_call 45; refine (alive _).mono ?_; rintro e w' ⟨rfl, rfl⟩)
    go_ret
    exact ⟨rfl, rfl⟩
  · go_enter Try.func14, Try.ntmps14
    go_wp2_with (go_at_call 45; refine (alive _).mono ?_; rintro e w' ⟨rfl, rfl⟩)
    go_ret
    exact ⟨rfl, rfl⟩
  · go_enter Try.func14, Try.ntmps14
    go_wp2_with (go_at_call 45; refine (alive _).mono ?_; rintro e w' ⟨rfl, rfl⟩)
    go_ret
    exact ⟨rfl, rfl⟩
  · have hn : ¬ n = 0 := by omega
    have hnb : (n == 0) = false := by simpa using hn
    go_enter Try.func14, Try.ntmps14
    go_wp2_with (go_at_call 45; refine (alive _).mono ?_; rintro e w' ⟨rfl, rfl⟩)
    go_ret
    exact ⟨rfl, rfl⟩
set_option maxRecDepth 100000 in
set_option maxHeartbeats 4000000 in
theorem logs_ok (n m : Int) (w : World) (h0 : 1 ≤ n) (h1 : n ≤ m) (h2 : m ≤ 4294967296) (h3 : m ≤ 4294967296 / n) :
    Calls Try.prog 14 #[.int .u64 n, .int .u64 m] w fun e w' => e = .returned (.bool true) ∧ w = w' := by
  have hn : ¬ n = 0 := by omega
  have hnb : (n == 0) = false := by simpa using hn
  have hP : n * m ≤ 4294967296 := by
    have := Int.mul_le_mul_of_nonneg_left h3 (by omega : 0 ≤ n)
    have := Int.mul_ediv_self_le (x := 4294967296) (k := n) (by omega)
    omega
  have hP1 : 1 ≤ n * m := by
    have := Int.mul_le_mul h0 (show 1 ≤ m by omega) (by omega) (by omega)
    omega
  obtain ⟨e1, e2, e3, e4⟩ := lg_of (n := n) h0 (by omega)
  obtain ⟨f1, f2, f3, f4⟩ := lg_of (n := m) (by omega) h2
  obtain ⟨g1, g2, g3, g4⟩ := lg_of (n := n * m) hP1 hP
  have ML := lgR_le h0 h1 h2
  have MM : lgR (n * m) ≤ lgR n + lgR m + 3 ∧ lgR n + lgR m - 1 ≤ lgR (n * m) := by
    obtain ⟨a, rfl⟩ := Int.eq_ofNat_of_zero_le (show 0 ≤ n by omega)
    obtain ⟨b, rfl⟩ := Int.eq_ofNat_of_zero_le (show 0 ≤ m by omega)
    exact lgR_mul (by omega) (by omega) (by rw [← Int.natCast_mul] at hP; omega)
  have RN := fun w => log_any n w (by omega)
  have RM := fun w => log_any m w (by omega)
  have RP := fun w => log_any (n * m) w (by omega)
  rw [e1, e2] at RN
  rw [f1, f2] at RM
  rw [g1, g2] at RP
  have HD : Hid (2 * m ≤ 4294967296 → lgV (2 * m) = lgR m + 65536 ∧ lgE (2 * m) = 0) := Lib.hid (fun h => by
    have := lg_of (n := 2 * m) (by omega) h
    exact ⟨by rw [this.1, lgR_two (by omega) h], this.2.1⟩)
  clear e1 e2 f1 f2 g1 g2
  obtain ⟨M1, M2⟩ := MM
  generalize hPE : n * m = P at *
  generalize lgR n = a at *
  generalize lgR m = b at *
  generalize lgR P = c at *
  by_cases c2 : 2 * m ≤ 4294967296
  · have RD := fun w => log_any (2 * m) w (by omega)
    rw [(HD.out c2).1, (HD.out c2).2] at RD
    go_enter Try.func14, Try.ntmps14
    go_wp2_with (go_at_call 45; refine (alive _).mono ?_; rintro e w' ⟨rfl, rfl⟩)
    refine (RN _).mono ?_
    rintro e w' ⟨rfl, rfl⟩
    go_wp2_with fail
    refine (RM _).mono ?_
    rintro e w' ⟨rfl, rfl⟩
    go_wp2_with fail
    refine (RP _).mono ?_
    rintro e w' ⟨rfl, rfl⟩
    go_wp2_with fail
    refine (RD _).mono ?_
    rintro e w' ⟨rfl, rfl⟩
    go_wp2
    go_ret
    exact ⟨rfl, rfl⟩
  · go_enter Try.func14, Try.ntmps14
    go_wp2_with (go_at_call 45; refine (alive _).mono ?_; rintro e w' ⟨rfl, rfl⟩)
    refine (RN _).mono ?_
    rintro e w' ⟨rfl, rfl⟩
    go_wp2_with fail
    refine (RM _).mono ?_
    rintro e w' ⟨rfl, rfl⟩
    go_wp2_with fail
    refine (RP _).mono ?_
    rintro e w' ⟨rfl, rfl⟩
    go_wp2
    go_ret
    exact ⟨rfl, rfl⟩
theorem logs (n m : Int) (w : World) (n1 : 0 ≤ n) (_ : n ≤ 18446744073709551615) (m1 : 0 ≤ m) (_ : m ≤ 18446744073709551615) :
    Calls Try.prog 14 #[.int .u64 n, .int .u64 m] w fun e w' => e = .returned (.bool true) ∧ w = w' := by
  by_cases a : n < 1
  · exact logs_bad n m w n1 m1 (.inl a)
  · by_cases b : m < n
    · exact logs_bad n m w n1 m1 (.inr ⟨by omega, .inl b⟩)
    · by_cases c : 4294967296 < m
      · exact logs_bad n m w n1 m1 (.inr ⟨by omega, .inr ⟨by omega, .inl c⟩⟩)
      · by_cases d : 4294967296 / n < m
        · exact logs_bad n m w n1 m1 (.inr ⟨by omega, .inr ⟨by omega, .inr ⟨by omega, d⟩⟩⟩)
        · exact logs_ok n m w (by omega) (by omega) (by omega) (by omega)
end Go.Proofs.Ytaehjhjbbkblbaa.costL
