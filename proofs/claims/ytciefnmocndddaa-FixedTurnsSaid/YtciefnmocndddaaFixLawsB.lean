/- More statements of layer 3 (fixed), by walks. -/
import Derived.Test.YtciefnmocndddaaFixLaws
namespace Go.Proofs.Ytciefnmocndddaa.fixL
open Go.RowKit Go.Proofs.Ytciefnmocndddaa.base Go.Proofs.Ytciefnmocndddaa.fixP Go.Proofs.Ytciefnmocndddaa.fixW
set_option linter.unusedVariables false

/-! Rounding: facts. -/
theorem rnd_off (n : Int) (k : Nat) : -(2 ^ k) ≤ 2 * (n - rnd n k * 2 ^ k) ∧ 2 * (n - rnd n k * 2 ^ k) < 2 ^ k := by
  cases k with
  | zero => rw [rnd_zero]; simp
  | succ k =>
    rw [rnd_half, Int.pow_succ]
    have hp := pow_pos2 k
    have a := Int.ediv_mul_le n (b := 2 ^ k) (by omega)
    have b := Int.lt_ediv_add_one_mul_self n (b := 2 ^ k) hp
    rw [Int.add_mul, Int.one_mul] at b
    generalize n / 2 ^ k = m at *
    generalize (2 : Int) ^ k = u at *
    obtain ⟨q, hq | hq⟩ : ∃ q, m = 2 * q ∨ m = 2 * q + 1 := ⟨m / 2, by omega⟩
    · have e : (m / 2 + m % 2) * (u * 2) = m * u := by
        rw [show m / 2 + m % 2 = q from by omega, hq, Int.mul_comm u 2, ← Int.mul_assoc, Int.mul_comm q 2]
      rw [e]; omega
    · have e : (m / 2 + m % 2) * (u * 2) = m * u + u := by
        rw [show m / 2 + m % 2 = q + 1 from by omega, hq, Int.mul_comm u 2, ← Int.mul_assoc, Int.add_mul, Int.add_mul, Int.add_mul, Int.mul_comm q 2]; omega
      rw [e]; omega

theorem ediv_mono {a b c : Int} (hc : 0 < c) (h : a ≤ b) : a / c ≤ b / c := Int.ediv_le_ediv hc h

theorem rnd_mono {n m : Int} (k : Nat) (h : n ≤ m) : rnd n k ≤ rnd m k := by
  cases k with
  | zero => exact h
  | succ k =>
    rw [rnd_half, rnd_half]
    have := ediv_mono (pow_pos2 k) h
    omega

/-- What a great power of two, rounded, is. -/
theorem rnd_exact (a : Int) (k : Nat) : rnd (a * 2 ^ k) k = a := by
  cases k with
  | zero => rw [rnd_zero]; simp
  | succ k =>
    rw [rnd_half, Int.pow_succ, ← Int.mul_assoc, Int.mul_right_comm, Int.mul_ediv_cancel _ (Int.ne_of_gt (pow_pos2 k))]
    omega

theorem big_split (k : Nat) (hk : k ≤ 60) : (2305843009213693952 : Int) = 2305843009213693952 / 2 ^ k * 2 ^ k := by
  have e : (2305843009213693952 : Int) = 2 ^ (61 - k) * 2 ^ k := by
    rw [← Int.pow_add, Nat.sub_add_cancel (by omega)]; decide
  rw [e, Int.mul_ediv_cancel _ (Int.ne_of_gt (pow_pos2 k))]

theorem rnd_in (n : Int) (k : Nat) (hk : k ≤ 60) (h1 : -2305843009213693952 ≤ n) (h2 : n ≤ 2305843009213693952) :
    rnd n k ≤ 2305843009213693952 / 2 ^ k ∧ -((2305843009213693952 : Int) / 2 ^ k) ≤ rnd n k ∧ -2305843009213693952 ≤ rnd n k * 2 ^ k ∧ rnd n k * 2 ^ k ≤ 2305843009213693952 ∧ -2305843009213693952 ≤ rnd n k ∧ rnd n k ≤ 2305843009213693952 := by
  have e := big_split k hk
  have hp := pow_pos2 k
  have a : rnd n k ≤ 2305843009213693952 / 2 ^ k := by
    have := rnd_mono k h2
    rw [e, rnd_exact] at this
    exact this
  have b : -(2305843009213693952 / 2 ^ k) ≤ rnd n k := by
    have := rnd_mono k h1
    rw [show (-2305843009213693952 : Int) = -(2305843009213693952 / 2 ^ k) * 2 ^ k from by rw [Int.neg_mul]; omega, rnd_exact] at this
    exact this
  have m1 := Int.mul_le_mul_of_nonneg_right a (Int.le_of_lt hp)
  have m2 := Int.mul_le_mul_of_nonneg_right b (Int.le_of_lt hp)
  rw [Int.neg_mul] at m2
  have q : (0 : Int) ≤ 2305843009213693952 / 2 ^ k := Int.ediv_nonneg (by omega) (by omega)
  have q2 : (2305843009213693952 : Int) / 2 ^ k * 1 ≤ 2305843009213693952 / 2 ^ k * 2 ^ k := Int.mul_le_mul_of_nonneg_left (by omega) q
  refine ⟨a, b, by omega, by omega, by omega, by omega⟩

set_option maxHeartbeats 2000000 in
theorem rounds_ex (n m : Int) (k : Nat) (w : World) (hk : k ≤ 60) (n1 : -2305843009213693952 ≤ n) (n2 : n ≤ 2305843009213693952) (m1 : -2305843009213693952 ≤ m) (m2 : m ≤ 2305843009213693952) :
    Calls Try.prog 7 #[.int .i64 n, .int .i64 m, .int .i64 k] w fun e w' => e = .returned (.bool true) ∧ Below w.heap.size w w' := by
  have hk0 : kOk (k : Int) = true := (kOk_iff _).2 (by omega)
  have v1 : rndV n k = rnd n k := by simp [rndV, hk0]
  have v2 : rndV m k = rnd m k := by simp [rndV, hk0]
  have v3 : rndE (k : Int) = 0 := by simp [rndE, hk0]
  have i := rnd_in n k hk n1 n2
  have i1 := i.1
  have i2 := i.2.1
  have i3 := i.2.2.1
  have i4 := i.2.2.2.1
  have i5 := i.2.2.2.2.1
  have i6 := i.2.2.2.2.2
  have o := rnd_off n k
  have o1 := o.1
  have o2 := o.2
  have p1 := pow_pos2 k
  have p2 : (2 : Int) ^ k ≤ 1152921504606846976 := by
    have : (2 : Nat) ^ k ≤ 2 ^ 60 := Nat.pow_le_pow_right (by omega) hk
    have e : (2 : Nat) ^ 60 = 1152921504606846976 := by decide
    rw [e] at this
    have c : ((2 ^ k : Nat) : Int) = 2 ^ k := by simp
    omega
  have i7 : Int.tdiv 2305843009213693952 (2 ^ k) = 2305843009213693952 / 2 ^ k := Int.tdiv_eq_ediv_of_nonneg (by omega)
  have i8 : (0 : Int) ≤ 2305843009213693952 / 2 ^ k := Int.ediv_nonneg (by omega) (by omega)
  have i9 : (2305843009213693952 : Int) / 2 ^ k ≤ 2305843009213693952 := Int.ediv_le_self _ (by omega)
  clear i o hk0
  have acc := Below.refl w.heap.size w
  by_cases hnm : n ≤ m
  · have hmo := rnd_mono k hnm
    go_enter Try.func7, Try.ntmps7
    go_wp2_with (first | (go_at_call 15; refine (round_any _ _ _ (by omega) (by omega)).mono ?_; rintro e w' ⟨rfl, hb⟩; replace acc := acc.trans (hb.mono acc.size); clear hb) | (go_at_call 18; refine (alive _).mono ?_; rintro e w' ⟨rfl, hb⟩; replace acc := acc.trans (hb.mono acc.size); clear hb))
    go_ret
    exact ⟨rfl, acc⟩
  · go_enter Try.func7, Try.ntmps7
    go_wp2_with (first | (go_at_call 15; refine (round_any _ _ _ (by omega) (by omega)).mono ?_; rintro e w' ⟨rfl, hb⟩; replace acc := acc.trans (hb.mono acc.size); clear hb) | (go_at_call 18; refine (alive _).mono ?_; rintro e w' ⟨rfl, hb⟩; replace acc := acc.trans (hb.mono acc.size); clear hb))
    go_ret
    exact ⟨rfl, acc⟩

set_option maxHeartbeats 2000000 in
theorem rounds (n m k : Int) (w : World) (_ : -9223372036854775808 ≤ n) (_ : n ≤ 9223372036854775807) (_ : -9223372036854775808 ≤ m) (_ : m ≤ 9223372036854775807) (_ : -9223372036854775808 ≤ k) (_ : k ≤ 9223372036854775807) :
    Calls Try.prog 7 #[.int .i64 n, .int .i64 m, .int .i64 k] w fun e w' => e = .returned (.bool true) ∧ Below w.heap.size w w' := by
  have acc := Below.refl w.heap.size w
  by_cases c0 : 2305843009213693952 < n
  · go_enter Try.func7, Try.ntmps7
    go_wp2_with (first | (go_at_call 18; refine (alive _).mono ?_; rintro e w' ⟨rfl, hb⟩; replace acc := acc.trans (hb.mono acc.size); clear hb))
    go_ret
    exact ⟨rfl, acc⟩
  · by_cases c1 : n < -2305843009213693952
    · go_enter Try.func7, Try.ntmps7
      go_wp2_with (first | (go_at_call 18; refine (alive _).mono ?_; rintro e w' ⟨rfl, hb⟩; replace acc := acc.trans (hb.mono acc.size); clear hb))
      go_ret
      exact ⟨rfl, acc⟩
    · by_cases c2 : 2305843009213693952 < m
      · go_enter Try.func7, Try.ntmps7
        go_wp2_with (first | (go_at_call 18; refine (alive _).mono ?_; rintro e w' ⟨rfl, hb⟩; replace acc := acc.trans (hb.mono acc.size); clear hb))
        go_ret
        exact ⟨rfl, acc⟩
      · by_cases c3 : m < -2305843009213693952
        · go_enter Try.func7, Try.ntmps7
          go_wp2_with (first | (go_at_call 18; refine (alive _).mono ?_; rintro e w' ⟨rfl, hb⟩; replace acc := acc.trans (hb.mono acc.size); clear hb))
          go_ret
          exact ⟨rfl, acc⟩
        · by_cases c4 : k < 0
          · go_enter Try.func7, Try.ntmps7
            go_wp2_with (first | (go_at_call 18; refine (alive _).mono ?_; rintro e w' ⟨rfl, hb⟩; replace acc := acc.trans (hb.mono acc.size); clear hb))
            go_ret
            exact ⟨rfl, acc⟩
          · by_cases c5 : 60 < k
            · go_enter Try.func7, Try.ntmps7
              go_wp2_with (first | (go_at_call 18; refine (alive _).mono ?_; rintro e w' ⟨rfl, hb⟩; replace acc := acc.trans (hb.mono acc.size); clear hb))
              go_ret
              exact ⟨rfl, acc⟩
            · obtain ⟨kk, rfl⟩ := Int.eq_ofNat_of_zero_le (by omega : 0 ≤ k)
              exact rounds_ex n m kk w (by omega) (by omega) (by omega) (by omega) (by omega)

theorem wf32 {zs : List Int} (h : ∀ n ∈ zs, (Lit.int .i32 n).wf = true) : In32 zs := fun z hz => bounds_i32 (h z hz)

set_option maxHeartbeats 1000000 in
theorem dots_out (A B : Option Addr) (n m c1 c2 : Nat) (w : World) (h : 40 < n ∨ n ≤ 40 ∧ 40 < m) :
    Calls Try.prog 5 #[.slice A n c1, .slice B m c2] w fun e w' => e = .returned (.bool true) ∧ Below w.heap.size w w' := by
  rcases h with h | ⟨h0, h⟩
  · go_enter Try.func5, Try.ntmps5
    go_wp2_with fail
    go_ret
    exact ⟨rfl, Below.refl _ _⟩
  · go_enter Try.func5, Try.ntmps5
    go_wp2_with fail
    go_ret
    exact ⟨rfl, Below.refl _ _⟩
set_option maxHeartbeats 1000000 in
theorem dots_many (A B : Option Addr) (n m c1 c2 : Nat) (w : World) (h1 : n ≤ 40) (h2 : m ≤ 40) (h : 16 < n ∨ n ≤ 16 ∧ 16 < m) :
    Calls Try.prog 5 #[.slice A n c1, .slice B m c2] w fun e w' => e = .returned (.bool true) ∧ Below w.heap.size w w' := by
  have H := Lib.hid h
  clear h
  go_enter Try.func5, Try.ntmps5
  go_wp2_with (first | (go_at_call 16; refine (dot_many _ _ _ _ _ _ _ H.out).mono ?_; rintro e w' ⟨rfl, rfl⟩) | (go_at_call 24; refine (rdot_many _ _ _ _ _ _ _ H.out).mono ?_; rintro e w' ⟨rfl, rfl⟩))
  go_ret
  exact ⟨rfl, Below.refl _ _⟩
set_option maxHeartbeats 1000000 in
theorem dots_arg (A B : Option Addr) (n m c1 c2 : Nat) (w : World) (h1 : n ≤ 16) (h2 : m ≤ 16) (h : ((n : Int) != (m : Int)) = true) :
    Calls Try.prog 5 #[.slice A n c1, .slice B m c2] w fun e w' => e = .returned (.bool true) ∧ Below w.heap.size w w' := by
  have H := Lib.hid h
  clear h
  go_enter Try.func5, Try.ntmps5
  go_wp2_with (first | (go_at_call 16; refine (dot_arg _ _ _ _ _ _ _ h1 h2 H.out).mono ?_; rintro e w' ⟨rfl, rfl⟩) | (go_at_call 24; refine (rdot_arg _ _ _ _ _ _ _ h1 h2 H.out).mono ?_; rintro e w' ⟨rfl, rfl⟩))
  go_ret
  exact ⟨rfl, Below.refl _ _⟩
set_option maxHeartbeats 1000000 in
theorem dots_in (A B : Option Addr) (n c1 c2 : Nat) (xs ys : List Int) (w : World) (h16 : n ≤ 16) (lx : xs.length = n) (ly : ys.length = n) (hA : Has .i32 w A xs) (hB : Has .i32 w B ys) (hx : In32 xs) (hy : In32 ys) :
    Calls Try.prog 5 #[.slice A n c1, .slice B n c2] w fun e w' => e = .returned (.bool true) ∧ Below w.heap.size w w' := by
  have HD := Lib.hid (dot_any A B n c1 c2 xs ys w h16 lx ly hA hB hx hy)
  have HR := Lib.hid (rdot_any A B n c1 c2 xs ys w h16 lx ly hA hB hx hy)
  clear lx ly hA hB hx hy
  go_enter Try.func5, Try.ntmps5
  go_wp2_with (first | (go_at_call 16; refine HD.out.mono ?_; rintro e w' ⟨rfl, rfl⟩; clear HD) | (go_at_call 24; refine HR.out.mono ?_; rintro e w' ⟨rfl, hb⟩; clear HR))
  go_ret
  exact ⟨rfl, hb⟩

theorem dots_law (A : Option Addr) (n c1 : Nat) (z1 : List Int) (B : Option Addr) (m c2 : Nat) (z2 : List Int) (w : World) (r1 : IsRow .i32 w A n c1 z1) (r2 : IsRow .i32 w B m c2 z2) :
    Calls Try.prog 5 #[.slice A n c1, .slice B m c2] w fun e w' => e = .returned (.bool true) ∧ Below w.heap.size w w' := by
  obtain ⟨hA, lA, _, wA⟩ := has_of_row r1
  obtain ⟨hB, lB, _, wB⟩ := has_of_row r2
  by_cases h0 : 40 < n ∨ n ≤ 40 ∧ 40 < m
  · exact dots_out A B n m c1 c2 w h0
  · by_cases h1 : 16 < n ∨ n ≤ 16 ∧ 16 < m
    · exact dots_many A B n m c1 c2 w (by omega) (by omega) h1
    · by_cases h2 : n = m
      · subst h2
        exact dots_in A B n c1 c2 _ _ w (by omega) lA lB hA hB (wf32 wA) (wf32 wB)
      · exact dots_arg A B n m c1 c2 w (by omega) (by omega) (by simp; omega)
end Go.Proofs.Ytciefnmocndddaa.fixL
