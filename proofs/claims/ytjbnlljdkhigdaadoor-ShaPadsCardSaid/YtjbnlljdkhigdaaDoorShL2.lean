/- ShaPads, by a walk. -/
import Derived.Test.YtjbnlljdkhigdaaDoorShL1
namespace Go.Proofs.YtjbnlljdkhigdaaDoor.shL
open Go.RowKit Go.Proofs.YtjbnlljdkhigdaaDoor.base Go.Proofs.YtjbnlljdkhigdaaDoor.shP Go.Proofs.YtjbnlljdkhigdaaDoor.shW
set_option linter.unusedVariables false
set_option linter.unusedSimpArgs false
theorem bit_step (x : Int) (hx : 0 ≤ x) (t : Nat) (ht : t < 8) : 256 * (x / 2 ^ (8 * (8 - t))) + x / 2 ^ (8 * (7 - t)) % 256 = x / 2 ^ (8 * (8 - (t + 1))) := by
  have e : (2 : Int) ^ (8 * (8 - t)) = 2 ^ (8 * (7 - t)) * 256 := by
    rw [show 8 * (8 - t) = 8 * (7 - t) + 8 by omega, Int.pow_add]
    rfl
  have hp : (0 : Int) < 2 ^ (8 * (7 - t)) := Int.pow_pos (by omega)
  rw [e, ← Int.ediv_ediv_of_nonneg (Int.le_of_lt hp), show 8 - (t + 1) = 7 - t by omega]
  omega
theorem bit_bd (x : Int) (hx : 0 ≤ x) (t : Nat) : 0 ≤ x / 2 ^ (8 * (8 - t)) ∧ x / 2 ^ (8 * (8 - t)) ≤ x := by
  have hp : (0 : Int) < 2 ^ (8 * (8 - t)) := Int.pow_pos (by omega)
  exact ⟨Int.ediv_nonneg hx (Int.le_of_lt hp), Int.ediv_le_self _ hx⟩
set_option maxRecDepth 100000 in
set_option maxHeartbeats 4000000 in
theorem pads (n : Int) (w : World) (l1 : -9223372036854775808 ≤ n) (l2 : n ≤ 9223372036854775807) (hT : Tab w) :
    Calls Tryd.prog 7 #[.int .i64 n] w fun e w' => e = .returned (.bool true) ∧ Below w.heap.size w w' := by
  have HTB := Lib.hid hT
  by_cases hr : 0 ≤ n ∧ n ≤ 20000
  · obtain ⟨h1, h2⟩ := hr
    obtain ⟨q, rfl⟩ := Int.eq_ofNat_of_zero_le h1
    have HV : Hid (padE (q : Int) = 0 ∧ padV (q : Int) = padL q) := Lib.hid ⟨by rw [padE, if_pos ⟨h1, h2⟩], by rw [padV, if_pos ⟨h1, h2⟩, Int.toNat_natCast]⟩
    obtain ⟨z, hz⟩ : ∃ z, zerosN q = z := ⟨_, rfl⟩
    have hz64 := zerosN_lt q
    have HZ := Lib.hid hz
    have H64 : Hid (((q : Int) + ((z + 9 : Nat) : Int)) % 64 = 0) := Lib.hid (by have := pad_64 q; rw [padL_len, hz] at this; omega)
    have z1 : (z : Int) ≤ 63 := by omega
    obtain ⟨m, hm⟩ : ∃ m, z + 9 = m := ⟨_, rfl⟩
    have HM := Lib.hid hm
    have m1 : (m : Int) ≤ 72 := by omega
    have m2 : 9 ≤ (m : Int) := by omega
    have m3 : ((q : Int) + (m : Int)) % 64 = 0 := by have := H64.out; rwa [hm] at this
    clear hT hz hz64 hm
    go_enter Tryd.func7, Tryd.ntmps7
    go_wp2_with fail
    refine (Pad_any (q : Int) _).mono ?_
    rintro e w1 ⟨A, k, c, rfl, hk, own, hb1⟩
    rw [HV.out.1]
    rw [HV.out.2] at hk own
    rw [padL_len, HZ.out, HM.out] at hk
    obtain rfl : m = k := hk.symm
    obtain ⟨b, off, rfl, hb, hc⟩ := has_some own.has (by rw [padL_len]; omega)
    have HC := Lib.hid hc
    have HB1 := Lib.hid hb1
    have p0 := hc 0 (by rw [padL_len]; omega)
    rw [padL_at, if_pos rfl, Nat.add_zero] at p0
    clear own hb1 hc
    go_wp2_with fail
    clear p0
    go_loop [6] (fun i => ∃ t : Nat, 1 ≤ t ∧ t ≤ z + 1 ∧ i = .int .i64 t) (fun i => z + 1 - (intOf i).toNat)
    case atStart => exact ⟨1, by omega, by omega, rfl⟩
    case round =>
      obtain ⟨t, ht1, ht, rfl⟩ := hrel
      by_cases hlt : t < z + 1
      · have p1 := HC.out t (by rw [padL_len, HZ.out]; omega)
        rw [padL_at, if_neg (by omega), if_pos (by rw [HZ.out]; omega)] at p1
        have t1 : (t : Int) < (m : Int) - 8 := by have := HM.out; omega
        have t2 : (t : Int) < m := by omega
        have t0 : 0 ≤ (t : Int) := by omega
        have HLT := Lib.hid hlt
        clear ht1 ht hlt
        go_wp2_with fail
        go_round
        case rel => exact ⟨t + 1, by omega, by have := HLT.out; omega, by go_num⟩
        case measure => simp [intOf]; have := HLT.out; omega
      · have t1 : ¬ (t : Int) < (m : Int) - 8 := by have := HM.out; omega
        clear ht1 ht hlt
        go_wp2_with fail
        go_loop [7, 8] (fun v i => ∃ t j : Nat, t ≤ 8 ∧ j = z + 1 + t ∧ i = .int .i64 (j : Int) ∧ v = .int .i64 (8 * (q : Int) / 2 ^ (8 * (8 - t)))) (fun _ i => m - (intOf i).toNat)
        case atStart =>
          refine ⟨0, z + 1, by omega, rfl, ?_, ?_⟩
          · have := HM.out
            congr 1; omega
          · have e : 8 * (q : Int) / 2 ^ (8 * (8 - 0)) = 0 := by
              apply Int.ediv_eq_zero_of_lt (by omega)
              have : (2 : Int) ^ (8 * (8 - 0)) = 18446744073709551616 := by decide
              rw [this]; omega
            rw [e]
        case round =>
          obtain ⟨t, j, ht, hj, rfl, rfl⟩ := hrel
          by_cases hlt : t < 8
          · have p1 := HC.out j (by rw [padL_len, HZ.out]; omega)
            rw [padL_at, if_neg (by omega), if_neg (by rw [HZ.out]; omega), if_pos (by rw [HZ.out]; omega), show zerosN q + 8 - j = 7 - t by rw [HZ.out]; omega] at p1
            have HS := Lib.hid (bit_step (8 * (q : Int)) (by omega) t hlt)
            obtain ⟨b1, b2⟩ := bit_bd (8 * (q : Int)) (by omega) t
            obtain ⟨b3, b4⟩ := bit_bd (8 * (q : Int)) (by omega) (t + 1)
            have j1 : (j : Int) < m := by have := HM.out; omega
            have j0 : 0 ≤ (j : Int) := by omega
            have y0 : 0 ≤ 8 * (q : Int) / 2 ^ (8 * (7 - t)) % 256 := by omega
            have y1 : 8 * (q : Int) / 2 ^ (8 * (7 - t)) % 256 ≤ 255 := by omega
            have HLT : Hid (t < 8 ∧ j = z + 1 + t) := Lib.hid ⟨hlt, hj⟩
            have x2 : 8 * (q : Int) / 2 ^ (8 * (8 - t)) ≤ 160000 := by omega
            rw [← HS.out] at b3 b4
            generalize hx : 8 * (q : Int) / 2 ^ (8 * (8 - t)) = x at *
            generalize hy : 8 * (q : Int) / 2 ^ (8 * (7 - t)) % 256 = y at *
            have hn : ¬ 160000 < 256 * x + y := by omega
            clear hx hy ht hj hlt
            go_wp2_with fail
            go_round
            case rel => exact ⟨t + 1, j + 1, by have := HLT.out; omega, by have := HLT.out; omega, by go_num, by rw [HS.out]⟩
            case measure => simp [intOf]; have := HM.out; have := HLT.out; omega
          · have j1 : ¬ (j : Int) < m := by have := HM.out; omega
            have ev : 8 * (q : Int) / 2 ^ (8 * (8 - t)) = 8 * (q : Int) := by
              have : 8 * (8 - t) = 0 := by omega
              rw [this]; simp
            rw [ev]
            clear ht hj hlt ev
            go_wp2_with fail
            refine (alive _ (HTB.out.below HB1.out (Nat.le_refl _))).mono ?_
            rintro e w2 ⟨rfl, hb2⟩
            go_wp2_with fail
            go_ret
            exact ⟨rfl, HB1.out.trans (hb2.mono HB1.out.size)⟩
  · have HV : Hid (padE n = 2 ∧ padV n = []) := Lib.hid ⟨by rw [padE, if_neg hr], by rw [padV, if_neg hr]⟩
    by_cases h1 : 0 ≤ n
    · have h2 : ¬ n ≤ 20000 := by omega
      clear hT hr
      go_enter Tryd.func7, Tryd.ntmps7
      go_wp2_with fail
      refine (Pad_any n _).mono ?_
      rintro e w1 ⟨A, k, c, rfl, hk, own, hb1⟩
      rw [HV.out.1]
      rw [HV.out.2] at hk own
      obtain rfl : k = 0 := hk
      have HB1 := Lib.hid hb1
      clear own hb1
      go_wp2_with fail
      refine (alive _ (HTB.out.below HB1.out (Nat.le_refl _))).mono ?_
      rintro e w2 ⟨rfl, hb2⟩
      go_wp2_with fail
      go_ret
      exact ⟨rfl, HB1.out.trans (hb2.mono HB1.out.size)⟩
    · clear hT hr
      go_enter Tryd.func7, Tryd.ntmps7
      go_wp2_with fail
      refine (Pad_any n _).mono ?_
      rintro e w1 ⟨A, k, c, rfl, hk, own, hb1⟩
      rw [HV.out.1]
      rw [HV.out.2] at hk own
      obtain rfl : k = 0 := hk
      have HB1 := Lib.hid hb1
      clear own hb1
      go_wp2_with fail
      refine (alive _ (HTB.out.below HB1.out (Nat.le_refl _))).mono ?_
      rintro e w2 ⟨rfl, hb2⟩
      go_wp2_with fail
      go_ret
      exact ⟨rfl, HB1.out.trans (hb2.mono HB1.out.size)⟩
end Go.Proofs.YtjbnlljdkhigdaaDoor.shL
