/- What the logarithm returns, by walks. -/
import Derived.Test.YtaehjhjbbkblbaaEncW
import Derived.Test.YtaehjhjbbkblbaaLen
import Derived.Test.YtaehjhjbbkblbaaCostPlain
import Derived.Outline
import Derived.IntWalk
namespace Go.Proofs.Ytaehjhjbbkblbaa.costW
open Go.RowKit Go.Proofs.Ytaehjhjbbkblbaa.base Go.Proofs.Ytaehjhjbbkblbaa.encP Go.Proofs.Ytaehjhjbbkblbaa.costP Go.Proofs.Ytaehjhjbbkblbaa.encW
set_option linter.unusedVariables false
set_option linter.unusedSimpArgs false

theorem or_one (m : Int) (h0 : 0 ≤ m) (h1 : m ≤ 1073741824) : bits .or .i64 (m * 2) 1 = 2 * m + 1 := by
  obtain ⟨a, rfl⟩ := Int.eq_ofNat_of_zero_le h0
  have e : (BitVec.ofInt 64 ((a : Int) * 2)).toNat = 2 ^ 1 * a := by
    have : ((a : Int) * 2) = ((2 * a : Nat) : Int) := by omega
    rw [this, BitVec.ofInt_natCast, BitVec.toNat_ofNat]
    exact Nat.mod_eq_of_lt (Nat.lt_of_lt_of_le (show 2 * a < 4294967296 by omega) (by decide))
  show IntKind.i64.wrap (((BitVec.ofInt 64 ((a : Int) * 2)) ||| (BitVec.ofInt 64 1)).toNat : Int) = _
  have e2 : (BitVec.ofInt 64 1).toNat = 1 := by decide
  rw [BitVec.toNat_or, e, e2, ← Nat.two_pow_add_eq_or_of_lt (show 1 < 2 ^ 1 by omega) a, IntKind.wrap_i64]
  omega
set_option maxHeartbeats 1000000 in
theorem log_bad (n : Int) (w : World) (h : lgOk n = false) (h0 : 0 ≤ n) : Calls Try.prog 33 #[.int .u64 n] w fun e w' => e = .returned (.tuple #[.int .i64 (lgV n), .int .i64 (lgE n)]) ∧ w = w' := by
  have HE := Lib.hid h
  by_cases c : n < 1
  · clear h
    go_enter Try.func33, Try.ntmps33
    go_wp2
    go_ret2
    exact ⟨ret2 (by simp [lgV, HE.out]) (by simp [lgE, HE.out]), rfl⟩
  · have c2 : 4294967296 < n := by simp [lgOk] at h; omega
    clear h
    go_enter Try.func33, Try.ntmps33
    go_wp2
    go_ret2
    exact ⟨ret2 (by simp [lgV, HE.out]) (by simp [lgE, HE.out]), rfl⟩
set_option maxHeartbeats 2000000 in
theorem log_ok (n : Int) (w : World) (h1 : 1 ≤ n) (h2 : n ≤ 4294967296) : Calls Try.prog 33 #[.int .u64 n] w fun e w' => e = .returned (.tuple #[.int .i64 (lgV n), .int .i64 (lgE n)]) ∧ w = w' := by
  have HE : Hid (lgOk n = true) := Lib.hid ((lgOk_iff n).2 ⟨h1, h2⟩)
  obtain ⟨a, b, c, d⟩ := hN_spec h1 h2
  have HB := Lib.hid (fun k (hk : k ≤ 16) => lg_bd h1 h2 hk)
  have R := fun w => len64_any n w (by omega) h2
  rw [d] at R
  obtain ⟨q, hq⟩ : ∃ q : Int, q = n * 2147483648 / 2 ^ hN n := ⟨_, rfl⟩
  have H0 : Hid (lg0 n = (q, (hN n : Int))) := Lib.hid (by rw [hq]; rfl)
  have HQ := Lib.hid hq
  generalize hN n = h at *
  clear b c d hq
  go_enter Try.func33, Try.ntmps33
  go_wp2_with (go_at_call 55; refine (R _).mono ?_; rintro e w' ⟨rfl, rfl⟩)
  go_loop [5, 6, 21] (fun x l i => ∃ k : Nat, k ≤ 16 ∧ i = .int .i64 k ∧ x = .int .u64 (lgIt k (lg0 n)).1 ∧ l = .int .i64 (lgIt k (lg0 n)).2) (fun _ _ i => 16 - (intOf i).toNat)
  case atStart => exact ⟨0, by omega, rfl, by rw [H0.out, HQ.out]; rfl, by rw [H0.out]; rfl⟩
  case round =>
    obtain ⟨k, hk, rfl, rfl, rfl⟩ := hrel
    obtain ⟨x1, x2, l1, l2⟩ := HB.out k hk
    by_cases hlt : k < 16
    · have HS : Hid (lgIt (k + 1) (lg0 n) = lgStep (lgIt k (lg0 n))) := Lib.hid rfl
      obtain ⟨x, hx⟩ : ∃ x, x = (lgIt k (lg0 n)).1 := ⟨_, rfl⟩
      obtain ⟨l, hl⟩ : ∃ l, l = (lgIt k (lg0 n)).2 := ⟨_, rfl⟩
      rw [← hx] at x1 x2 ⊢
      rw [← hl] at l1 l2 ⊢
      obtain ⟨s1, s2⟩ := sq_bd x1 x2
      have EU : Hid (lgStep (lgIt k (lg0 n)) = if 4294967296 ≤ x * x / 2147483648 then (x * x / 2147483648 / 2, 2 * l + 1) else (x * x / 2147483648, 2 * l)) := Lib.hid (by rw [hx, hl]; rfl)
      clear hx hl
      have HO := or_one l l1 (by omega)
      by_cases c : 4294967296 ≤ x * x / 2147483648
      · have c1 : ¬ (x * x / 2147483648 / 4294967296 = 0) := by omega
        have c2 : ((x * x / 2147483648 / 4294967296) == 0) = false := by simpa using c1
        have EP : Hid (lgIt (k + 1) (lg0 n) = (x * x / 2147483648 / 2, 2 * l + 1)) := Lib.hid (by rw [HS.out, EU.out, if_pos c])
        go_wp2
        go_round
        case rel => exact ⟨k + 1, by omega, by go_num, by rw [EP.out], by rw [EP.out]⟩
        case measure => simp [intOf]; omega
      · have c1 : x * x / 2147483648 / 4294967296 = 0 := by omega
        have EP : Hid (lgIt (k + 1) (lg0 n) = (x * x / 2147483648, 2 * l)) := Lib.hid (by rw [HS.out, EU.out, if_neg c])
        clear HO
        go_wp2
        go_round
        case rel => exact ⟨k + 1, by omega, by go_num, by rw [EP.out], by rw [EP.out]; go_num⟩
        case measure => simp [intOf]; omega
    · have e16 : k = 16 := by omega
      have EV : Hid (lgV n = (lgIt k (lg0 n)).2) := Lib.hid (by rw [e16, lgV, if_pos HE.out]; rfl)
      clear e16
      go_wp2
      go_ret2
      exact ⟨ret2 EV.out.symm (by simp [lgE, HE.out]), rfl⟩
theorem log_any (n : Int) (w : World) (h0 : 0 ≤ n) : Calls Try.prog 33 #[.int .u64 n] w fun e w' => e = .returned (.tuple #[.int .i64 (lgV n), .int .i64 (lgE n)]) ∧ w = w' := by
  cases h : lgOk n
  · exact log_bad n w h h0
  · exact log_ok n w ((lgOk_iff n).1 h).1 ((lgOk_iff n).1 h).2
end Go.Proofs.Ytaehjhjbbkblbaa.costW
