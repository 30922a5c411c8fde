/- The last statement of layer 5 (recip): many steps. -/
import Derived.Test.YtnikphjhcicgbabRecipLaws
namespace Go.Proofs.Ytnikphjhcicgbab.recipL
open Go.RowKit Go.Proofs.Ytnikphjhcicgbab.recipP Go.Proofs.Ytnikphjhcicgbab.recipW
set_option linter.unusedVariables false

theorem step_facts (q t n : Int) (a1 : 0 ≤ q) (a2 : q < 65536) (a3 : 0 ≤ t) (a4 : t < 65536) (h1 : 1 ≤ n) (h2 : n ≤ 1024) :
    (q ≤ t → q ≤ q + quo (t - q) n ∧ q + quo (t - q) n ≤ t) ∧ (t < q → t ≤ q + quo (t - q) n ∧ q + quo (t - q) n < q) := by
  have h := quo_between (x := t - q) h1 h2
  constructor
  · intro c; have := h.1 (by omega); omega
  · intro c; have := h.2 (by omega); omega
theorem quo_one (x : Int) : quo x 1 = x := by unfold quo rc; omega
theorem stepV_ok {p t n : Int} (hp : prob p = true) (ht : prob t = true) (hn : okN n = true) : stepV p t n = p + quo (t - p) n := by simp [stepV, stepOk, hp, ht, hn]
theorem stepE_ok {p t n : Int} (hp : prob p = true) (ht : prob t = true) (hn : okN n = true) : stepE p t n = 0 := by simp [stepE, stepOk, hp, ht, hn]

set_option maxHeartbeats 1600000 in
theorem steps_in (p t n : Int) (m : Nat) (w : World) (a1 : 0 ≤ p) (a2 : p < 65536) (a3 : 0 ≤ t) (a4 : t < 65536) (h1 : 1 ≤ n) (h2 : n ≤ 1024) (hm : m ≤ 50) :
    Calls Try.prog 8 #[.int .i32 p, .int .i32 t, .int .i32 n, .int .i64 m] w fun e w' => e = .returned (.bool true) ∧ w = w' := by
  have hp : prob p = true := (prob_iff p).2 ⟨a1, a2⟩
  have ht : prob t = true := (prob_iff t).2 ⟨a3, a4⟩
  have hn : okN n = true := (okN_iff n).2 ⟨h1, h2⟩
  have hneg : decide ((m : Int) < 0) = false := by simp
  have hbig : decide ((50 : Int) < (m : Int)) = false := by simp; omega
  go_enter Try.func8, Try.ntmps8
  go_wp2_with (first | (go_at_call 26; refine (prob_any _ _).mono ?_; rintro e w' ⟨rfl, rfl⟩) | (go_at_call 25; refine (fits_any _ _).mono ?_; rintro e w' ⟨rfl, rfl⟩) | (go_at_call 21; refine (alive _).mono ?_; rintro e w' ⟨rfl, rfl⟩) | go_in)
  go_loop [0, 9] (fun p i => ∃ (q : Int) (k : Nat), p = .int .i32 q ∧ i = .int .i64 k ∧ 0 ≤ q ∧ q < 65536 ∧ k ≤ m) (fun _ i => m - (intOf i).toNat)
  case atStart => exact ⟨p, 0, rfl, rfl, a1, a2, Nat.zero_le _⟩
  case round =>
    obtain ⟨q, k, rfl, rfl, c1, c2, hk⟩ := hrel
    by_cases hlt : k < m
    · have hq : prob q = true := (prob_iff q).2 ⟨c1, c2⟩
      have hs := step_facts q t n c1 c2 a3 a4 h1 h2
      have hv := stepV_ok hq ht hn
      have he := stepE_ok hq ht hn
      generalize hy : q + quo (t - q) n = y at *
      have Hy := Lib.hid hy
      clear hy
      have hone : n = 1 → y = t := by intro h; have := Hy.out; rw [h, quo_one] at this; omega
      rcases Int.lt_or_le t q with c | c
      · have s1 := (hs.2 c).1
        have s2 := (hs.2 c).2
        have s3 : (y == q) = false := by simp; omega
        clear hs
        by_cases n1 : n = 1
        · have := hone n1
          have nb : (n == 1) = true := by simp [n1]
          clear hone n1
          have Hy' := Lib.hid Hy.out
          clear Hy
          subst this
          go_wp2_with (first | (go_at_call 18; refine (step_any _ _ _ _ (by omega) (by omega) (by omega) (by omega)).mono ?_; rintro e w' ⟨rfl, rfl⟩) | (go_at_call 21; refine (alive _).mono ?_; rintro e w' ⟨rfl, rfl⟩) | go_in)
          all_goals exact ⟨⟨y, k + 1, rfl, by go_num, by omega, by omega, by omega⟩, by simp [intOf]; omega⟩
        · have nb : (n == 1) = false := by simp [n1]
          clear hone n1
          go_wp2_with (first | (go_at_call 18; refine (step_any _ _ _ _ (by omega) (by omega) (by omega) (by omega)).mono ?_; rintro e w' ⟨rfl, rfl⟩) | (go_at_call 21; refine (alive _).mono ?_; rintro e w' ⟨rfl, rfl⟩) | go_in)
          all_goals exact ⟨⟨y, k + 1, rfl, by go_num, by omega, by omega, by omega⟩, by simp [intOf]; omega⟩
      · have s1 := (hs.1 c).1
        have s2 := (hs.1 c).2
        clear hs
        by_cases n1 : n = 1
        · have := hone n1
          have nb : (n == 1) = true := by simp [n1]
          clear hone n1
          have Hy' := Lib.hid Hy.out
          clear Hy
          subst this
          go_wp2_with (first | (go_at_call 18; refine (step_any _ _ _ _ (by omega) (by omega) (by omega) (by omega)).mono ?_; rintro e w' ⟨rfl, rfl⟩) | (go_at_call 21; refine (alive _).mono ?_; rintro e w' ⟨rfl, rfl⟩) | go_in)
          all_goals exact ⟨⟨y, k + 1, rfl, by go_num, by omega, by omega, by omega⟩, by simp [intOf]; omega⟩
        · have nb : (n == 1) = false := by simp [n1]
          clear hone n1
          go_wp2_with (first | (go_at_call 18; refine (step_any _ _ _ _ (by omega) (by omega) (by omega) (by omega)).mono ?_; rintro e w' ⟨rfl, rfl⟩) | (go_at_call 21; refine (alive _).mono ?_; rintro e w' ⟨rfl, rfl⟩) | go_in)
          all_goals exact ⟨⟨y, k + 1, rfl, by go_num, by omega, by omega, by omega⟩, by simp [intOf]; omega⟩
    · go_wp2_with (first | (go_at_call 21; refine (alive _).mono ?_; rintro e w' ⟨rfl, rfl⟩) | go_in)
      go_ret
      exact ⟨rfl, rfl⟩

set_option maxHeartbeats 1600000 in
theorem steps (p t n m : Int) (w : World) (b1 : -2147483648 ≤ p) (b2 : p ≤ 2147483647) (b3 : -2147483648 ≤ t) (b4 : t ≤ 2147483647) (b5 : -2147483648 ≤ n) (b6 : n ≤ 2147483647) (b7 : -9223372036854775808 ≤ m) (b8 : m ≤ 9223372036854775807) :
    Calls Try.prog 8 #[.int .i32 p, .int .i32 t, .int .i32 n, .int .i64 m] w fun e w' => e = .returned (.bool true) ∧ w = w' := by
  cases hp : prob p
  · clear b7 b8
    go_enter Try.func8, Try.ntmps8
    go_wp2_with (first | (go_at_call 26; refine (prob_any _ _).mono ?_; rintro e w' ⟨rfl, rfl⟩) | (go_at_call 25; refine (fits_any _ _).mono ?_; rintro e w' ⟨rfl, rfl⟩) | (go_at_call 21; refine (alive _).mono ?_; rintro e w' ⟨rfl, rfl⟩) | go_in)
    go_ret
    exact ⟨rfl, rfl⟩
  · cases ht : prob t
    · clear b7 b8
      go_enter Try.func8, Try.ntmps8
      go_wp2_with (first | (go_at_call 26; refine (prob_any _ _).mono ?_; rintro e w' ⟨rfl, rfl⟩) | (go_at_call 25; refine (fits_any _ _).mono ?_; rintro e w' ⟨rfl, rfl⟩) | (go_at_call 21; refine (alive _).mono ?_; rintro e w' ⟨rfl, rfl⟩) | go_in)
      go_ret
      exact ⟨rfl, rfl⟩
    · cases hn : okN n
      · clear b7 b8
        go_enter Try.func8, Try.ntmps8
        go_wp2_with (first | (go_at_call 26; refine (prob_any _ _).mono ?_; rintro e w' ⟨rfl, rfl⟩) | (go_at_call 25; refine (fits_any _ _).mono ?_; rintro e w' ⟨rfl, rfl⟩) | (go_at_call 21; refine (alive _).mono ?_; rintro e w' ⟨rfl, rfl⟩) | go_in)
        go_ret
        exact ⟨rfl, rfl⟩
      · by_cases c1 : m < 0
        · clear b7 b8
          go_enter Try.func8, Try.ntmps8
          go_wp2_with (first | (go_at_call 26; refine (prob_any _ _).mono ?_; rintro e w' ⟨rfl, rfl⟩) | (go_at_call 25; refine (fits_any _ _).mono ?_; rintro e w' ⟨rfl, rfl⟩) | (go_at_call 21; refine (alive _).mono ?_; rintro e w' ⟨rfl, rfl⟩) | go_in)
          go_ret
          exact ⟨rfl, rfl⟩
        · by_cases c2 : 50 < m
          · clear b7 b8
            go_enter Try.func8, Try.ntmps8
            go_wp2_with (first | (go_at_call 26; refine (prob_any _ _).mono ?_; rintro e w' ⟨rfl, rfl⟩) | (go_at_call 25; refine (fits_any _ _).mono ?_; rintro e w' ⟨rfl, rfl⟩) | (go_at_call 21; refine (alive _).mono ?_; rintro e w' ⟨rfl, rfl⟩) | go_in)
            go_ret
            exact ⟨rfl, rfl⟩
          · obtain ⟨k, rfl⟩ := Int.eq_ofNat_of_zero_le (by omega : 0 ≤ m)
            have a := (prob_iff p).1 hp
            have b := (prob_iff t).1 ht
            have c := (okN_iff n).1 hn
            exact steps_in p t n k w a.1 a.2 b.1 b.2 c.1 c.2 (by omega)
end Go.Proofs.Ytnikphjhcicgbab.recipL
