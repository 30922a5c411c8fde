/- More statements of layer 5 (recip), by walks. -/
import Derived.Test.YtnikphjhcicgbabRecipLaws
namespace Go.Proofs.Ytnikphjhcicgbab.recipL
open Go.RowKit Go.Proofs.Ytnikphjhcicgbab.recipP Go.Proofs.Ytnikphjhcicgbab.recipW
set_option linter.unusedVariables false

set_option maxHeartbeats 1600000 in
theorem rises (x y n : Int) (w : World) (b1 : -2147483648 ≤ x) (b2 : x ≤ 2147483647) (b3 : -2147483648 ≤ y) (b4 : y ≤ 2147483647) (_ : -2147483648 ≤ n) (_ : n ≤ 2147483647) :
    Calls Try.prog 7 #[.int .i32 x, .int .i32 y, .int .i32 n] w fun e w' => e = .returned (.bool true) ∧ w = w' := by
  cases hk : okN n
  · have e1 : ofE n = 2 := ofE_no hk
    go_enter Try.func7, Try.ntmps7
    go_wp2_with (first | (go_at_call 17; refine (div_any _ _ _ (by omega) (by omega)).mono ?_; rintro e w' ⟨rfl, rfl⟩) | (go_at_call 21; refine (alive _).mono ?_; rintro e w' ⟨rfl, rfl⟩) | go_in)
    go_ret
    exact ⟨rfl, rfl⟩
  · have h := (okN_iff n).1 hk
    have h1 := h.1
    have h2 := h.2
    clear h
    have e1 : ofE n = 0 := ofE_ok hk
    have e3 : divV x n = quo x n := by simp [divV, hk]
    have e4 : divV y n = quo y n := by simp [divV, hk]
    have e5 : divV (x + 1) n = quo (x + 1) n := by simp [divV, hk]
    have m1 := quo_mono (x := x) (y := x + 1) h1 h2 (by omega)
    have m2 := quo_next (x := x) h1 h2
    have qb := quo_bd b1 b2 h1 h2
    by_cases c0 : x = 2147483647
    · subst c0
      have qb1 := qb.1
      have qb2 := qb.2
      have m3 := quo_mono (x := y) (y := 2147483647) h1 h2 b4
      have c3 : y < 2147483647 ∨ 2147483647 ≤ y := by omega
      rcases c3 with c3 | c3
      · go_enter Try.func7, Try.ntmps7
        go_wp2_with (first | (go_at_call 17; refine (div_any _ _ _ (by omega) (by omega)).mono ?_; rintro e w' ⟨rfl, rfl⟩) | (go_at_call 21; refine (alive _).mono ?_; rintro e w' ⟨rfl, rfl⟩) | go_in)
        go_ret
        exact ⟨rfl, rfl⟩
      · obtain rfl : y = 2147483647 := by omega
        go_enter Try.func7, Try.ntmps7
        go_wp2_with (first | (go_at_call 17; refine (div_any _ _ _ (by omega) (by omega)).mono ?_; rintro e w' ⟨rfl, rfl⟩) | (go_at_call 21; refine (alive _).mono ?_; rintro e w' ⟨rfl, rfl⟩) | go_in)
        go_ret
        exact ⟨rfl, rfl⟩
    · have qc := quo_bd (x := x + 1) (by omega) (by omega) h1 h2
      have qb1 := qb.1
      have qb2 := qb.2
      have qc1 := qc.1
      have qc2 := qc.2
      clear qb qc
      have f1 : (x == 2147483647) = false := by simp; omega
      have f2 : x ≤ 2147483646 := by omega
      have f3 : quo x n ≤ 2147483646 := by
        have := quo_between (x := x) h1 h2
        by_cases h : 0 ≤ x
        · have := this.1 h; omega
        · have := this.2 (by omega); omega
      rcases Int.lt_trichotomy x y with c3 | c3 | c3
      · have m3 := quo_mono (x := x) (y := y) h1 h2 (by omega)
        go_enter Try.func7, Try.ntmps7
        go_wp2_with (first | (go_at_call 17; refine (div_any _ _ _ (by omega) (by omega)).mono ?_; rintro e w' ⟨rfl, rfl⟩) | (go_at_call 21; refine (alive _).mono ?_; rintro e w' ⟨rfl, rfl⟩) | go_in)
        go_ret
        exact ⟨rfl, rfl⟩
      · subst c3
        go_enter Try.func7, Try.ntmps7
        go_wp2_with (first | (go_at_call 17; refine (div_any _ _ _ (by omega) (by omega)).mono ?_; rintro e w' ⟨rfl, rfl⟩) | (go_at_call 21; refine (alive _).mono ?_; rintro e w' ⟨rfl, rfl⟩) | go_in)
        go_ret
        exact ⟨rfl, rfl⟩
      · have m3 := quo_mono (x := y) (y := x) h1 h2 (by omega)
        go_enter Try.func7, Try.ntmps7
        go_wp2_with (first | (go_at_call 17; refine (div_any _ _ _ (by omega) (by omega)).mono ?_; rintro e w' ⟨rfl, rfl⟩) | (go_at_call 21; refine (alive _).mono ?_; rintro e w' ⟨rfl, rfl⟩) | go_in)
        go_ret
        exact ⟨rfl, rfl⟩

/-- What the first half of the statement on powers comes to. -/
theorem pow_facts (k : Nat) (h : k ≤ 10) : (1 : Int) ≤ 2 ^ k ∧ (2 : Int) ^ k ≤ 1024 := by
  have : k = 0 ∨ k = 1 ∨ k = 2 ∨ k = 3 ∨ k = 4 ∨ k = 5 ∨ k = 6 ∨ k = 7 ∨ k = 8 ∨ k = 9 ∨ k = 10 := by omega
  rcases this with rfl | rfl | rfl | rfl | rfl | rfl | rfl | rfl | rfl | rfl | rfl <;> decide

set_option maxHeartbeats 1600000 in
theorem powers_in (x n m : Int) (k : Nat) (w : World) (hk : k ≤ 10) (b1 : -2147483648 ≤ x) (b2 : x ≤ 2147483647) :
    Calls Try.prog 6 #[.int .i32 x, .int .i64 k, .int .i32 n, .int .i32 m] w fun e w' => e = .returned (.bool true) ∧ w = w' := by
  have hp := pow_facts k hk
  have hp1 := hp.1
  have hp2 := hp.2
  clear hp
  have ew : wrap32 (2 ^ k) = 2 ^ k := by unfold wrap32; omega
  have ok : okN (2 ^ k) = true := (okN_iff _).2 ⟨hp1, hp2⟩
  have eo : ofE (2 ^ k) = 0 := ofE_ok ok
  have ed : divV x (2 ^ k) = x / 2 ^ k := by rw [divV, if_pos ok, quo_pow x k hk]
  cases hn : okN n
  · have e1 : ofE n = 2 := ofE_no hn
    cases hm : okN m
    · have e2 : ofE m = 2 := ofE_no hm
      go_enter Try.func6, Try.ntmps6
      go_wp2_with (first | (go_at_call 16; refine (of_any _ _).mono ?_; rintro e w' ⟨rfl, rfl⟩) | (go_at_call 17; refine (div_any _ _ _ (by omega) (by omega)).mono ?_; rintro e w' ⟨rfl, rfl⟩) | (go_at_call 25; refine (fits_any _ _).mono ?_; rintro e w' ⟨rfl, rfl⟩) | (go_at_call 21; refine (alive _).mono ?_; rintro e w' ⟨rfl, rfl⟩) | go_in)
      go_ret
      exact ⟨rfl, rfl⟩
    · have e2 : ofE m = 0 := ofE_ok hm
      go_enter Try.func6, Try.ntmps6
      go_wp2_with (first | (go_at_call 16; refine (of_any _ _).mono ?_; rintro e w' ⟨rfl, rfl⟩) | (go_at_call 17; refine (div_any _ _ _ (by omega) (by omega)).mono ?_; rintro e w' ⟨rfl, rfl⟩) | (go_at_call 25; refine (fits_any _ _).mono ?_; rintro e w' ⟨rfl, rfl⟩) | (go_at_call 21; refine (alive _).mono ?_; rintro e w' ⟨rfl, rfl⟩) | go_in)
      go_ret
      exact ⟨rfl, rfl⟩
  · have e1 : ofE n = 0 := ofE_ok hn
    cases hm : okN m
    · have e2 : ofE m = 2 := ofE_no hm
      go_enter Try.func6, Try.ntmps6
      go_wp2_with (first | (go_at_call 16; refine (of_any _ _).mono ?_; rintro e w' ⟨rfl, rfl⟩) | (go_at_call 17; refine (div_any _ _ _ (by omega) (by omega)).mono ?_; rintro e w' ⟨rfl, rfl⟩) | (go_at_call 25; refine (fits_any _ _).mono ?_; rintro e w' ⟨rfl, rfl⟩) | (go_at_call 21; refine (alive _).mono ?_; rintro e w' ⟨rfl, rfl⟩) | go_in)
      go_ret
      exact ⟨rfl, rfl⟩
    · have e2 : ofE m = 0 := ofE_ok hm
      have h := (okN_iff n).1 hn
      have h1 := h.1
      have h2 := h.2
      have h' := (okN_iff m).1 hm
      have r := rc_spec h1
      have rb := rc_bd h1 h2
      have r1 := r.1
      have r2 := r.2
      have r3 : (0 : Int) ≤ rc n * n := Int.mul_nonneg (by omega) (by omega)
      have r4 : (rc n + 1) * n ≤ 70000 := by rw [Int.add_mul, Int.one_mul]; omega
      have rb1 := rb.1
      have rb2 := rb.2
      have v1 : ofV n = rc n := by simp [ofV, hn]
      have v2 : ofV m = rc m := by simp [ofV, hm]
      have an : m < n ∨ rc m ≤ rc n := by
        by_cases c : m < n
        · exact .inl c
        · exact .inr (rc_anti h1 (by omega))
      clear h h' r rb
      rcases an with an | an
      · go_enter Try.func6, Try.ntmps6
        go_wp2_with (first | (go_at_call 16; refine (of_any _ _).mono ?_; rintro e w' ⟨rfl, rfl⟩) | (go_at_call 17; refine (div_any _ _ _ (by omega) (by omega)).mono ?_; rintro e w' ⟨rfl, rfl⟩) | (go_at_call 25; refine (fits_any _ _).mono ?_; rintro e w' ⟨rfl, rfl⟩) | (go_at_call 21; refine (alive _).mono ?_; rintro e w' ⟨rfl, rfl⟩) | go_in)
        go_ret
        exact ⟨rfl, rfl⟩
      · go_enter Try.func6, Try.ntmps6
        go_wp2_with (first | (go_at_call 16; refine (of_any _ _).mono ?_; rintro e w' ⟨rfl, rfl⟩) | (go_at_call 17; refine (div_any _ _ _ (by omega) (by omega)).mono ?_; rintro e w' ⟨rfl, rfl⟩) | (go_at_call 25; refine (fits_any _ _).mono ?_; rintro e w' ⟨rfl, rfl⟩) | (go_at_call 21; refine (alive _).mono ?_; rintro e w' ⟨rfl, rfl⟩) | go_in)
        all_goals (go_ret; exact ⟨rfl, rfl⟩)

set_option maxHeartbeats 1600000 in
theorem powers_out (x k n m : Int) (w : World) (hk : k < 0 ∨ 0 ≤ k ∧ 10 < k) (b1 : -2147483648 ≤ x) (b2 : x ≤ 2147483647) :
    Calls Try.prog 6 #[.int .i32 x, .int .i64 k, .int .i32 n, .int .i32 m] w fun e w' => e = .returned (.bool true) ∧ w = w' := by
  rcases hk with hk | ⟨hk0, hk⟩
  · cases hn : okN n
    · have e1 : ofE n = 2 := ofE_no hn
      cases hm : okN m
      · have e2 : ofE m = 2 := ofE_no hm
        go_enter Try.func6, Try.ntmps6
        go_wp2_with (first | (go_at_call 16; refine (of_any _ _).mono ?_; rintro e w' ⟨rfl, rfl⟩) | (go_at_call 17; refine (div_any _ _ _ (by omega) (by omega)).mono ?_; rintro e w' ⟨rfl, rfl⟩) | (go_at_call 25; refine (fits_any _ _).mono ?_; rintro e w' ⟨rfl, rfl⟩) | (go_at_call 21; refine (alive _).mono ?_; rintro e w' ⟨rfl, rfl⟩) | go_in)
        go_ret
        exact ⟨rfl, rfl⟩
      · have e2 : ofE m = 0 := ofE_ok hm
        go_enter Try.func6, Try.ntmps6
        go_wp2_with (first | (go_at_call 16; refine (of_any _ _).mono ?_; rintro e w' ⟨rfl, rfl⟩) | (go_at_call 17; refine (div_any _ _ _ (by omega) (by omega)).mono ?_; rintro e w' ⟨rfl, rfl⟩) | (go_at_call 25; refine (fits_any _ _).mono ?_; rintro e w' ⟨rfl, rfl⟩) | (go_at_call 21; refine (alive _).mono ?_; rintro e w' ⟨rfl, rfl⟩) | go_in)
        go_ret
        exact ⟨rfl, rfl⟩
    · have e1 : ofE n = 0 := ofE_ok hn
      cases hm : okN m
      · have e2 : ofE m = 2 := ofE_no hm
        go_enter Try.func6, Try.ntmps6
        go_wp2_with (first | (go_at_call 16; refine (of_any _ _).mono ?_; rintro e w' ⟨rfl, rfl⟩) | (go_at_call 17; refine (div_any _ _ _ (by omega) (by omega)).mono ?_; rintro e w' ⟨rfl, rfl⟩) | (go_at_call 25; refine (fits_any _ _).mono ?_; rintro e w' ⟨rfl, rfl⟩) | (go_at_call 21; refine (alive _).mono ?_; rintro e w' ⟨rfl, rfl⟩) | go_in)
        go_ret
        exact ⟨rfl, rfl⟩
      · have e2 : ofE m = 0 := ofE_ok hm
        have h := (okN_iff n).1 hn
        have h1 := h.1
        have h2 := h.2
        have h' := (okN_iff m).1 hm
        have r := rc_spec h1
        have rb := rc_bd h1 h2
        have r1 := r.1
        have r2 := r.2
        have r3 : (0 : Int) ≤ rc n * n := Int.mul_nonneg (by omega) (by omega)
        have r4 : (rc n + 1) * n ≤ 70000 := by rw [Int.add_mul, Int.one_mul]; omega
        have rb1 := rb.1
        have rb2 := rb.2
        have v1 : ofV n = rc n := by simp [ofV, hn]
        have v2 : ofV m = rc m := by simp [ofV, hm]
        have an : m < n ∨ rc m ≤ rc n := by
          by_cases c : m < n
          · exact .inl c
          · exact .inr (rc_anti h1 (by omega))
        clear h h' r rb
        rcases an with an | an
        · go_enter Try.func6, Try.ntmps6
          go_wp2_with (first | (go_at_call 16; refine (of_any _ _).mono ?_; rintro e w' ⟨rfl, rfl⟩) | (go_at_call 17; refine (div_any _ _ _ (by omega) (by omega)).mono ?_; rintro e w' ⟨rfl, rfl⟩) | (go_at_call 25; refine (fits_any _ _).mono ?_; rintro e w' ⟨rfl, rfl⟩) | (go_at_call 21; refine (alive _).mono ?_; rintro e w' ⟨rfl, rfl⟩) | go_in)
          go_ret
          exact ⟨rfl, rfl⟩
        · go_enter Try.func6, Try.ntmps6
          go_wp2_with (first | (go_at_call 16; refine (of_any _ _).mono ?_; rintro e w' ⟨rfl, rfl⟩) | (go_at_call 17; refine (div_any _ _ _ (by omega) (by omega)).mono ?_; rintro e w' ⟨rfl, rfl⟩) | (go_at_call 25; refine (fits_any _ _).mono ?_; rintro e w' ⟨rfl, rfl⟩) | (go_at_call 21; refine (alive _).mono ?_; rintro e w' ⟨rfl, rfl⟩) | go_in)
          all_goals (go_ret; exact ⟨rfl, rfl⟩)
  · cases hn : okN n
    · have e1 : ofE n = 2 := ofE_no hn
      cases hm : okN m
      · have e2 : ofE m = 2 := ofE_no hm
        go_enter Try.func6, Try.ntmps6
        go_wp2_with (first | (go_at_call 16; refine (of_any _ _).mono ?_; rintro e w' ⟨rfl, rfl⟩) | (go_at_call 17; refine (div_any _ _ _ (by omega) (by omega)).mono ?_; rintro e w' ⟨rfl, rfl⟩) | (go_at_call 25; refine (fits_any _ _).mono ?_; rintro e w' ⟨rfl, rfl⟩) | (go_at_call 21; refine (alive _).mono ?_; rintro e w' ⟨rfl, rfl⟩) | go_in)
        go_ret
        exact ⟨rfl, rfl⟩
      · have e2 : ofE m = 0 := ofE_ok hm
        go_enter Try.func6, Try.ntmps6
        go_wp2_with (first | (go_at_call 16; refine (of_any _ _).mono ?_; rintro e w' ⟨rfl, rfl⟩) | (go_at_call 17; refine (div_any _ _ _ (by omega) (by omega)).mono ?_; rintro e w' ⟨rfl, rfl⟩) | (go_at_call 25; refine (fits_any _ _).mono ?_; rintro e w' ⟨rfl, rfl⟩) | (go_at_call 21; refine (alive _).mono ?_; rintro e w' ⟨rfl, rfl⟩) | go_in)
        go_ret
        exact ⟨rfl, rfl⟩
    · have e1 : ofE n = 0 := ofE_ok hn
      cases hm : okN m
      · have e2 : ofE m = 2 := ofE_no hm
        go_enter Try.func6, Try.ntmps6
        go_wp2_with (first | (go_at_call 16; refine (of_any _ _).mono ?_; rintro e w' ⟨rfl, rfl⟩) | (go_at_call 17; refine (div_any _ _ _ (by omega) (by omega)).mono ?_; rintro e w' ⟨rfl, rfl⟩) | (go_at_call 25; refine (fits_any _ _).mono ?_; rintro e w' ⟨rfl, rfl⟩) | (go_at_call 21; refine (alive _).mono ?_; rintro e w' ⟨rfl, rfl⟩) | go_in)
        go_ret
        exact ⟨rfl, rfl⟩
      · have e2 : ofE m = 0 := ofE_ok hm
        have h := (okN_iff n).1 hn
        have h1 := h.1
        have h2 := h.2
        have h' := (okN_iff m).1 hm
        have r := rc_spec h1
        have rb := rc_bd h1 h2
        have r1 := r.1
        have r2 := r.2
        have r3 : (0 : Int) ≤ rc n * n := Int.mul_nonneg (by omega) (by omega)
        have r4 : (rc n + 1) * n ≤ 70000 := by rw [Int.add_mul, Int.one_mul]; omega
        have rb1 := rb.1
        have rb2 := rb.2
        have v1 : ofV n = rc n := by simp [ofV, hn]
        have v2 : ofV m = rc m := by simp [ofV, hm]
        have an : m < n ∨ rc m ≤ rc n := by
          by_cases c : m < n
          · exact .inl c
          · exact .inr (rc_anti h1 (by omega))
        clear h h' r rb
        rcases an with an | an
        · go_enter Try.func6, Try.ntmps6
          go_wp2_with (first | (go_at_call 16; refine (of_any _ _).mono ?_; rintro e w' ⟨rfl, rfl⟩) | (go_at_call 17; refine (div_any _ _ _ (by omega) (by omega)).mono ?_; rintro e w' ⟨rfl, rfl⟩) | (go_at_call 25; refine (fits_any _ _).mono ?_; rintro e w' ⟨rfl, rfl⟩) | (go_at_call 21; refine (alive _).mono ?_; rintro e w' ⟨rfl, rfl⟩) | go_in)
          go_ret
          exact ⟨rfl, rfl⟩
        · go_enter Try.func6, Try.ntmps6
          go_wp2_with (first | (go_at_call 16; refine (of_any _ _).mono ?_; rintro e w' ⟨rfl, rfl⟩) | (go_at_call 17; refine (div_any _ _ _ (by omega) (by omega)).mono ?_; rintro e w' ⟨rfl, rfl⟩) | (go_at_call 25; refine (fits_any _ _).mono ?_; rintro e w' ⟨rfl, rfl⟩) | (go_at_call 21; refine (alive _).mono ?_; rintro e w' ⟨rfl, rfl⟩) | go_in)
          all_goals (go_ret; exact ⟨rfl, rfl⟩)

theorem powers (x k n m : Int) (w : World) (b1 : -2147483648 ≤ x) (b2 : x ≤ 2147483647) (_ : -9223372036854775808 ≤ k) (_ : k ≤ 9223372036854775807) (b5 : -2147483648 ≤ n) (b6 : n ≤ 2147483647) (b7 : -2147483648 ≤ m) (b8 : m ≤ 2147483647) :
    Calls Try.prog 6 #[.int .i32 x, .int .i64 k, .int .i32 n, .int .i32 m] w fun e w' => e = .returned (.bool true) ∧ w = w' := by
  by_cases h : 0 ≤ k ∧ k ≤ 10
  · obtain ⟨kk, rfl⟩ := Int.eq_ofNat_of_zero_le h.1
    exact powers_in x n m kk w (by omega) b1 b2
  · exact powers_out x k n m w (by omega) b1 b2
end Go.Proofs.Ytnikphjhcicgbab.recipL
