/- What the reference's logarithm returns, by walks. -/
import Derived.Test.YtaehjhjbbkblbaaCostW
namespace Go.Proofs.Ytaehjhjbbkblbaa.costW
open Go.RowKit Go.Proofs.Ytaehjhjbbkblbaa.base Go.Proofs.Ytaehjhjbbkblbaa.encP Go.Proofs.Ytaehjhjbbkblbaa.costP Go.Proofs.Ytaehjhjbbkblbaa.encW
set_option linter.unusedVariables false
set_option linter.unusedSimpArgs false

theorem pow_bd : ∀ k : Nat, k ≤ 33 → 1 ≤ (2 : Int) ^ k ∧ (2 : Int) ^ k ≤ 8589934592 := by decide
/-- The worth of the digits. -/
def sc (k : Nat) : Int := 65536 / 2 ^ k
theorem sc_facts : ∀ k : Nat, k < 16 → sc k = 2 * sc (k + 1) ∧ 1 ≤ sc (k + 1) ∧ sc k ≤ 65536 ∧ sc (k + 1) / 2 = sc (k + 2) := by decide
theorem x2_bd {n : Int} {h k : Nat} (e : hN n = h) (h1 : 1 ≤ n) (h2 : n ≤ 4294967296) (a : h ≤ k) (b : k ≤ 31) :
    0 ≤ n * 2 ^ (k - h) ∧ n * 2 ^ (k - h) ≤ 8589934592 ∧ (k = 31 → n * 2 ^ (k - h) = (lg0 n).1) ∧ (k < 31 → n * 2 ^ (k + 1 - h) = n * 2 ^ (k - h) * 2) := by
  obtain ⟨_, c, d, _⟩ := hN_spec h1 h2
  rw [e] at c d
  have p : (1 : Int) ≤ 2 ^ (k - h) := (pow_bd (k - h) (by omega)).1
  refine ⟨Int.mul_nonneg (by omega) (by omega), ?_, ?_, ?_⟩
  · have x : n * 2 ^ (k - h) ≤ 2 ^ (h + 1) * 2 ^ (k - h) := Int.mul_le_mul_of_nonneg_right (by omega) (by omega)
    rw [← Int.pow_add] at x
    have := (pow_bd (h + 1 + (k - h)) (by omega)).2
    omega
  · rintro rfl
    show _ = n * 2147483648 / 2 ^ hN n
    rw [e]
    have e2 : (2147483648 : Int) = 2 ^ (31 - h) * 2 ^ h := by rw [← Int.pow_add, Nat.sub_add_cancel a]; decide
    have q : (2 : Int) ^ h ≠ 0 := by have := (pow_bd h (by omega)).1; omega
    rw [e2, ← Int.mul_assoc, Int.mul_ediv_cancel _ q]
  · intro _
    rw [show k + 1 - h = (k - h) + 1 by omega, Int.pow_succ, Int.mul_assoc]
set_option maxHeartbeats 4000000 in
theorem rLog_ok (n : Int) (w : World) (h1 : 1 ≤ n) (h2 : n ≤ 4294967296) : Calls Try.prog 46 #[.int .u64 n] w fun e w' => e = .returned (.int .i64 (lgR n)) ∧ w = w' := by
  have HB := Lib.hid (fun k (hk : k ≤ 16) => lg_bd h1 h2 hk)
  go_enter Try.func46, Try.ntmps46
  go_wp2
  go_loop [3] (fun q => ∃ h : Nat, h ≤ 32 ∧ (2 : Int) ^ h ≤ n ∧ q = .int .i64 h) (fun q => 32 - (intOf q).toNat)
  case atStart => exact ⟨0, by omega, by simpa using h1, rfl⟩
  case round =>
    obtain ⟨h, hh, hp, rfl⟩ := hrel
    have leave : ∀ k : Nat, 0 ≤ k → True := fun _ _ => trivial
    by_cases hlt : h < 32 ∧ (2 : Int) ^ (h + 1) ≤ n
    · obtain ⟨hl, c⟩ := hlt
      obtain ⟨p1, p2⟩ := pow_bd (h + 1) (by omega)
      go_wp2
      go_round
      case rel => exact ⟨h + 1, by omega, c, by go_num⟩
      case measure => simp [intOf]; omega
    · have HN : Hid (hN n = h) := Lib.hid (by
        obtain ⟨a, b, c, d⟩ := hN_spec h1 h2
        by_cases e : h < 32
        · exact hN_eq h1 h2 hp (by
            have : ¬ (2 : Int) ^ (h + 1) ≤ n := fun x => hlt ⟨e, x⟩
            omega)
        · have e32 : h = 32 := by omega
          subst e32
          have : n = 4294967296 := by have : (2 : Int) ^ 32 = 4294967296 := by decide
                                      omega
          subst this
          decide)
      have HP := Lib.hid (fun k (a : h ≤ k) (b : k ≤ 31) => x2_bd HN.out h1 h2 a b)
      have HL := Lib.hid hlt
      have HD := Lib.hid (sc_facts)
      clear leave hlt
      by_cases hl : h < 32
      · have c : ¬ (2 : Int) ^ (h + 1) ≤ n := fun x => HL.out ⟨hl, x⟩
        obtain ⟨p1, p2⟩ := pow_bd (h + 1) (by omega)
        have c31 : ¬ (h : Int) = 32 := by omega
        have c31' : ((h : Int) == 32) = false := by simpa using c31
        go_wp2
        clear c p1 p2 hp
        go_loop [4, 5] (fun x i => ∃ k : Nat, h ≤ k ∧ k ≤ 31 ∧ i = .int .i64 k ∧ x = .int .u64 (n * 2 ^ (k - h))) (fun _ i => 31 - (intOf i).toNat)
        case atStart => exact ⟨h, by omega, by omega, rfl, by simp⟩
        case round =>
          obtain ⟨k, hk, k31, rfl, rfl⟩ := hrel
          by_cases hlt : k < 31
          · obtain ⟨y1, y2, y3, y4⟩ := HP.out k hk (by omega)
            have Y4 := Lib.hid y4
            clear y4
            generalize n * 2 ^ (k - h) = y at *
            go_wp2
            go_round
            case rel => exact ⟨k + 1, by omega, by omega, by go_num, by rw [Y4.out (by omega)]⟩
            case measure => simp [intOf]; omega
          · have k31' : k = 31 := by omega
            subst k31'
            have HQ0 := Lib.hid (HP.out 31 hk (by omega)).2.2.1
            have HQ : Hid (n * 2 ^ (31 - h) = (lg0 n).1) := Lib.hid (HQ0.out rfl)
            have HH : Hid ((lg0 n).2 = h) := Lib.hid (by rw [← HN.out]; rfl)
            clear HQ0
            generalize n * 2 ^ (31 - h) = q at *
            go_wp2
            go_loop [4, 6, 7] (fun x o d => ∃ k : Nat, k ≤ 16 ∧ x = .int .u64 (lgIt k (lg0 n)).1 ∧ o = .int .i64 ((lgIt k (lg0 n)).2 * sc k) ∧ d = .int .i64 (sc (k + 1))) (fun _ _ d => (intOf d).toNat)
            case atStart => exact ⟨0, by omega, by rw [show lgIt 0 (lg0 n) = lg0 n from rfl, ← HQ.out], by rw [show lgIt 0 (lg0 n) = lg0 n from rfl, HH.out, show sc 0 = 65536 by decide], by rw [show sc (0 + 1) = 32768 by decide]⟩
            case round =>
              obtain ⟨k, hk, rfl, rfl, rfl⟩ := hrel
              obtain ⟨x1, x2, l1, l2⟩ := HB.out k hk
              by_cases hlt : k < 16
              · have HS : Hid (lgIt (k + 1) (lg0 n) = lgStep (lgIt k (lg0 n))) := Lib.hid rfl
                obtain ⟨d1, d2, d3, d4⟩ := HD.out k hlt
                obtain ⟨x, hx⟩ : ∃ x, x = (lgIt k (lg0 n)).1 := ⟨_, rfl⟩
                obtain ⟨l, hl⟩ : ∃ l, l = (lgIt k (lg0 n)).2 := ⟨_, rfl⟩
                rw [← hx] at x1 x2 ⊢
                rw [← hl] at l1 l2 ⊢
                obtain ⟨s1, s2⟩ := sq_bd x1 x2
                have EU : Hid (lgStep (lgIt k (lg0 n)) = if 4294967296 ≤ x * x / 2147483648 then (x * x / 2147483648 / 2, 2 * l + 1) else (x * x / 2147483648, 2 * l)) := Lib.hid (by rw [hx, hl]; rfl)
                have o1 : 0 ≤ l * sc k := Int.mul_nonneg l1 (by omega)
                have o2 : l * sc k ≤ 2162688 * 65536 := Int.mul_le_mul (by omega) d3 (by omega) (by omega)
                have O1 : Hid ((2 * l + 1) * sc (k + 1) = l * sc k + sc (k + 1)) := Lib.hid (by rw [d1, Int.add_mul, Int.one_mul, Int.mul_comm 2 l, Int.mul_assoc])
                have O2 : Hid ((2 * l) * sc (k + 1) = l * sc k) := Lib.hid (by rw [d1, Int.mul_comm 2 l, Int.mul_assoc])
                have D4 := Lib.hid d4
                generalize l * sc k = o at *
                generalize hdd : sc (k + 1) = dd at *
                have DD := Lib.hid hdd
                have dl : dd ≤ 65536 := by omega
                clear hx hl d1 d3 d4 hdd
                by_cases c : 4294967296 ≤ x * x / 2147483648
                · have EP : Hid (lgIt (k + 1) (lg0 n) = (x * x / 2147483648 / 2, 2 * l + 1)) := Lib.hid (by rw [HS.out, EU.out, if_pos c])
                  go_wp2
                  go_round
                  case rel => exact ⟨k + 1, by omega, by rw [EP.out], by rw [EP.out, DD.out, O1.out], by rw [← D4.out]⟩
                  case measure => simp [intOf]; omega
                · have EP : Hid (lgIt (k + 1) (lg0 n) = (x * x / 2147483648, 2 * l)) := Lib.hid (by rw [HS.out, EU.out, if_neg c])
                  go_wp2
                  go_round
                  case rel => exact ⟨k + 1, by omega, by rw [EP.out], by rw [EP.out, DD.out, O2.out], by rw [← D4.out]⟩
                  case measure => simp [intOf]; omega
              · have e16 : k = 16 := by omega
                subst e16
                have EV : Hid ((lgIt 16 (lg0 n)).2 * sc 16 = lgR n) := Lib.hid (by rw [show sc 16 = 1 by decide, Int.mul_one]; rfl)
                have ED : sc (16 + 1) = 0 := by decide
                go_wp2
                go_ret
                exact ⟨ret1 EV.out, rfl⟩
      · obtain rfl : h = 32 := by omega
        have hn : n = 4294967296 := by have : (2 : Int) ^ 32 = 4294967296 := by decide
                                       omega
        subst hn
        have HQ : Hid ((2147483648 : Int) = (lg0 4294967296).1) := Lib.hid (by decide)
        have HH : Hid ((lg0 4294967296).2 = 32) := Lib.hid (by decide)
        go_wp2
        go_loop [5] (fun i => i = .int .i64 32) (fun i => 0)
        case atStart => rfl
        case round =>
          subst hrel
          go_wp2
          go_loop [4, 6, 7] (fun x o d => ∃ k : Nat, k ≤ 16 ∧ x = .int .u64 (lgIt k (lg0 4294967296)).1 ∧ o = .int .i64 ((lgIt k (lg0 4294967296)).2 * sc k) ∧ d = .int .i64 (sc (k + 1))) (fun _ _ d => (intOf d).toNat)
          case atStart => exact ⟨0, by omega, by rw [show lgIt 0 (lg0 4294967296) = lg0 4294967296 from rfl, ← HQ.out], by rw [show lgIt 0 (lg0 4294967296) = lg0 4294967296 from rfl, HH.out, show sc 0 = 65536 by decide]; rfl, by rw [show sc (0 + 1) = 32768 by decide]⟩
          case round =>
            obtain ⟨k, hk, rfl, rfl, rfl⟩ := hrel
            obtain ⟨x1, x2, l1, l2⟩ := HB.out k hk
            by_cases hlt : k < 16
            · have HS : Hid (lgIt (k + 1) (lg0 4294967296) = lgStep (lgIt k (lg0 4294967296))) := Lib.hid rfl
              obtain ⟨d1, d2, d3, d4⟩ := HD.out k hlt
              obtain ⟨x, hx⟩ : ∃ x, x = (lgIt k (lg0 4294967296)).1 := ⟨_, rfl⟩
              obtain ⟨l, hl⟩ : ∃ l, l = (lgIt k (lg0 4294967296)).2 := ⟨_, rfl⟩
              rw [← hx] at x1 x2 ⊢
              rw [← hl] at l1 l2 ⊢
              obtain ⟨s1, s2⟩ := sq_bd x1 x2
              have EU : Hid (lgStep (lgIt k (lg0 4294967296)) = if 4294967296 ≤ x * x / 2147483648 then (x * x / 2147483648 / 2, 2 * l + 1) else (x * x / 2147483648, 2 * l)) := Lib.hid (by rw [hx, hl]; rfl)
              have o1 : 0 ≤ l * sc k := Int.mul_nonneg l1 (by omega)
              have o2 : l * sc k ≤ 2162688 * 65536 := Int.mul_le_mul (by omega) d3 (by omega) (by omega)
              have O1 : Hid ((2 * l + 1) * sc (k + 1) = l * sc k + sc (k + 1)) := Lib.hid (by rw [d1, Int.add_mul, Int.one_mul, Int.mul_comm 2 l, Int.mul_assoc])
              have O2 : Hid ((2 * l) * sc (k + 1) = l * sc k) := Lib.hid (by rw [d1, Int.mul_comm 2 l, Int.mul_assoc])
              have D4 := Lib.hid d4
              generalize l * sc k = o at *
              generalize hdd : sc (k + 1) = dd at *
              have DD := Lib.hid hdd
              have dl : dd ≤ 65536 := by omega
              clear hx hl d1 d3 d4 hdd
              by_cases c : 4294967296 ≤ x * x / 2147483648
              · have EP : Hid (lgIt (k + 1) (lg0 4294967296) = (x * x / 2147483648 / 2, 2 * l + 1)) := Lib.hid (by rw [HS.out, EU.out, if_pos c])
                go_wp2
                go_round
                case rel => exact ⟨k + 1, by omega, by rw [EP.out], by rw [EP.out, DD.out, O1.out], by rw [← D4.out]⟩
                case measure => simp [intOf]; omega
              · have EP : Hid (lgIt (k + 1) (lg0 4294967296) = (x * x / 2147483648, 2 * l)) := Lib.hid (by rw [HS.out, EU.out, if_neg c])
                go_wp2
                go_round
                case rel => exact ⟨k + 1, by omega, by rw [EP.out], by rw [EP.out, DD.out, O2.out], by rw [← D4.out]⟩
                case measure => simp [intOf]; omega
            · have e16 : k = 16 := by omega
              subst e16
              have EV : Hid ((lgIt 16 (lg0 4294967296)).2 * sc 16 = lgR 4294967296) := Lib.hid (by rw [show sc 16 = 1 by decide, Int.mul_one]; rfl)
              have ED : sc (16 + 1) = 0 := by decide
              go_wp2
              go_ret
              exact ⟨ret1 EV.out, rfl⟩
end Go.Proofs.Ytaehjhjbbkblbaa.costW
