/- What the functions of package recip and of its reference return, by walks. -/
import Derived.Test.YtipbafcjmeibpaaRows
import Derived.Test.YtipbafcjmeibpaaRecipPlain
import Derived.WalkKit
import Derived.Lib.Hide
import Derived.WalkSpells
import Derived.WalkLawsBesides
namespace Go.Proofs.Ytipbafcjmeibpaa.recipW
open Go.RowKit Go.Proofs.Ytipbafcjmeibpaa.recipP

theorem ret2 {k k' : IntKind} {a b c d : Int} (h : a = b) (h' : c = d) :
    Ending.returned (.tuple #[.int k a, .int k' c]) = .returned (.tuple #[.int k b, .int k' d]) := by rw [h, h']
theorem ret1 {k : IntKind} {a b : Int} (h : a = b) : Ending.returned (.int k a) = .returned (.int k b) := by rw [h]
theorem retb {a b : Bool} (h : a = b) : Ending.returned (.bool a) = .returned (.bool b) := by rw [h]

set_option maxHeartbeats 400000 in
theorem of_any (n : Int) (w : World) :
    Calls Try.prog 54 #[.int .i32 n] w fun e w' => e = .returned (.tuple #[.int .i32 (ofV n), .int .i64 (ofE n)]) ∧ w = w' := by
  by_cases h1 : n < 1
  · go_enter Try.func54, Try.ntmps54
    go_wp2
    go_ret2
    have : okN n = false := by simp [okN]; omega
    exact ⟨ret2 (by simp [ofV, this]) (by simp [ofE, this]), rfl⟩
  · by_cases h2 : 1024 < n
    · go_enter Try.func54, Try.ntmps54
      go_wp2
      go_ret2
      have : okN n = false := by simp [okN]; omega
      exact ⟨ret2 (by simp [ofV, this]) (by simp [ofE, this]), rfl⟩
    · have h3 : 1 ≤ n := by omega
      have h4 : n ≤ 1024 := by omega
      go_enter Try.func54, Try.ntmps54
      go_wp2
      go_ret2
      have : okN n = true := by simp [okN]; omega
      exact ⟨ret2 (by simp [ofV, this, rc]) (by simp [ofE, this]), rfl⟩

set_option maxHeartbeats 400000 in
theorem div_any (x n : Int) (w : World) (h3 : -2147483648 ≤ x) (h4 : x ≤ 2147483647) :
    Calls Try.prog 55 #[.int .i32 x, .int .i32 n] w fun e w' => e = .returned (.tuple #[.int .i32 (divV x n), .int .i64 (ofE n)]) ∧ w = w' := by
  cases hk : okN n
  · have H := Lib.hid hk
    have e1 : (ofE n != 0) = true := by simp [ofE, hk]
    go_enter Try.func55, Try.ntmps55
    go_wp2_with (go_at_call 54; refine (of_any _ _).mono ?_; rintro e w' ⟨rfl, rfl⟩)
    go_ret2
    exact ⟨ret2 (by simp [divV, H.out]) rfl, rfl⟩
  · have H := Lib.hid hk
    have e1 : (ofE n != 0) = false := by simp [ofE, hk]
    go_enter Try.func55, Try.ntmps55
    go_wp2_with (go_at_call 54; refine (of_any _ _).mono ?_; rintro e w' ⟨rfl, rfl⟩)
    go_ret2
    have h := (okN_iff n).1 H.out
    refine ⟨ret2 ?_ (by simp [ofE, H.out]), rfl⟩
    rw [divV, if_pos H.out, ← quo_wrap h3 h4 h.1 h.2, ofV, if_pos H.out]

set_option maxHeartbeats 400000 in
theorem floor_any (y : Int) (w : World) (h3 : -140737488355328 ≤ y) (h4 : y ≤ 140737488355328) :
    Calls Try.prog 56 #[.int .i64 y, .int .i64 65536] w fun e w' => e = .returned (.int .i64 (y / 65536)) ∧ w = w' := by
  have hfl := floor_eq y
  have hb := tdiv_bd y
  have E2 : wrap64 (y.tdiv 65536 * 65536) = y.tdiv 65536 * 65536 := by unfold wrap64; omega
  have E3 : wrap64 (y.tdiv 65536 - 1) = y.tdiv 65536 - 1 := by unfold wrap64; omega
  by_cases hc : y < y.tdiv 65536 * 65536
  · rw [if_pos hc] at hfl
    have Hf := Lib.hid hfl
    clear hfl hb
    go_enter Try.func56, Try.ntmps56
    go_wp2
    go_ret
    exact ⟨ret1 (by rw [E3]; exact Hf.out), rfl⟩
  · rw [if_neg hc] at hfl
    have Hf := Lib.hid hfl
    clear hfl hb
    go_enter Try.func56, Try.ntmps56
    go_wp2
    go_ret
    exact ⟨ret1 Hf.out, rfl⟩

set_option maxHeartbeats 400000 in
theorem quotient_any (x n : Int) (w : World) (h3 : -2147483648 ≤ x) (h4 : x ≤ 2147483647) (h1 : 1 ≤ n) (h2 : n ≤ 1024) :
    Calls Try.prog 46 #[.int .i32 x, .int .i32 n] w fun e w' => e = .returned (.int .i32 (quo x n)) ∧ w = w' := by
  have hr := rc_bd h1 h2
  have hr1 := hr.1
  have hr2 := hr.2
  clear hr
  have hm := mul_bd h3 h4 hr1 hr2
  have hm1 : -140737488355328 ≤ x * rc n := by omega
  have hm2 : x * rc n ≤ 140737488355328 := by omega
  clear hm
  have hq := quo_bd h3 h4 h1 h2
  have E1 : Hid (rc n = 65536 / n) := Lib.hid rfl
  have E2 : wrap64 (65536 / n) = rc n := by rw [← E1.out]; unfold wrap64; omega
  have E3 : wrap32 (x * rc n / 65536) = quo x n := by unfold quo at *; unfold wrap32; omega
  clear hq
  go_enter Try.func46, Try.ntmps46
  go_wp2_with (first | (go_at_call 56; refine (floor_any _ _ hm1 hm2).mono ?_; rintro e w' ⟨rfl, rfl⟩) | go_in)
  go_ret
  exact ⟨ret1 E3, rfl⟩

set_option maxHeartbeats 400000 in
theorem prob_any (n : Int) (w : World) :
    Calls Try.prog 36 #[.int .i32 n] w fun e w' => e = .returned (.bool (prob n)) ∧ w = w' := by
  by_cases h1 : 0 ≤ n
  · go_enter Try.func36, Try.ntmps36
    go_wp2
    go_ret
    exact ⟨retb (by simp [prob]; omega), rfl⟩
  · go_enter Try.func36, Try.ntmps36
    go_wp2
    go_ret
    exact ⟨retb (by simp [prob]; omega), rfl⟩

set_option maxHeartbeats 400000 in
theorem step_any (p t n : Int) (w : World) (hp1 : -2147483648 ≤ p) (hp2 : p ≤ 2147483647) (ht1 : -2147483648 ≤ t) (ht2 : t ≤ 2147483647) :
    Calls Try.prog 45 #[.int .i32 p, .int .i32 t, .int .i32 n] w fun e w' => e = .returned (.tuple #[.int .i32 (stepV p t n), .int .i64 (stepE p t n)]) ∧ w = w' := by
  cases hk : okN n
  · have e1 : (ofE n != 0) = true := by simp [ofE, hk]
    go_enter Try.func45, Try.ntmps45
    go_wp2_with (first | (go_at_call 54; refine (of_any _ _).mono ?_; rintro e w' ⟨rfl, rfl⟩) | go_in)
    go_ret2
    exact ⟨ret2 (by simp [stepV, stepOk, hk]) (by simp [stepE, ofE, stepOk, hk]), rfl⟩
  · have e1 : (ofE n != 0) = false := by simp [ofE, hk]
    by_cases hr : prob p = true ∧ prob t = true
    · obtain ⟨hp, ht⟩ := hr
      have h := (okN_iff n).1 hk
      have h1 := h.1
      have h2 := h.2
      have a1 := (prob_iff p).1 hp
      have a2 := (prob_iff t).1 ht
      have a11 := a1.1
      have a12 := a1.2
      have a21 := a2.1
      have a22 := a2.2
      clear h a1 a2
      have hs := step_bd p t n a11 a12 a21 a22 h1 h2
      have hs1 := hs.1
      have hs2 := hs.2
      clear hs
      have e2 : divV (t - p) n = quo (t - p) n := by simp [divV, hk]
      go_enter Try.func45, Try.ntmps45
      go_wp2_with (first | (go_at_call 54; refine (of_any _ _).mono ?_; rintro e w' ⟨rfl, rfl⟩) | (go_at_call 55; refine (div_any _ _ _ (by omega) (by omega)).mono ?_; rintro e w' ⟨rfl, rfl⟩) | go_in)
      go_ret2
      exact ⟨ret2 (by simp [stepV, stepOk, hk, hp, ht]) (by simp [stepE, ofE, stepOk, hk, hp, ht]), rfl⟩
    · have hr' : ¬ stepOk p t n = true := by simp [stepOk]; simp at hr; intro _ h; exact hr h
      by_cases c1 : p < 0
      · go_enter Try.func45, Try.ntmps45
        go_wp2_with (first | (go_at_call 54; refine (of_any _ _).mono ?_; rintro e w' ⟨rfl, rfl⟩) | go_in)
        go_ret2
        exact ⟨ret2 (by simp [stepV, hr']) (by simp [stepE, hr']), rfl⟩
      · by_cases c2 : 65536 ≤ p
        · go_enter Try.func45, Try.ntmps45
          go_wp2_with (first | (go_at_call 54; refine (of_any _ _).mono ?_; rintro e w' ⟨rfl, rfl⟩) | go_in)
          go_ret2
          exact ⟨ret2 (by simp [stepV, hr']) (by simp [stepE, hr']), rfl⟩
        · by_cases c3 : t < 0
          · go_enter Try.func45, Try.ntmps45
            go_wp2_with (first | (go_at_call 54; refine (of_any _ _).mono ?_; rintro e w' ⟨rfl, rfl⟩) | go_in)
            go_ret2
            exact ⟨ret2 (by simp [stepV, hr']) (by simp [stepE, hr']), rfl⟩
          · have c4 : 65536 ≤ t := by simp [prob] at hr; omega
            go_enter Try.func45, Try.ntmps45
            go_wp2_with (first | (go_at_call 54; refine (of_any _ _).mono ?_; rintro e w' ⟨rfl, rfl⟩) | go_in)
            go_ret2
            exact ⟨ret2 (by simp [stepV, hr']) (by simp [stepE, hr']), rfl⟩
end Go.Proofs.Ytipbafcjmeibpaa.recipW
