/- Each statement of layer 5 (recip), by walks: the law returns true, and nothing in memory changes. -/
import Derived.Test.YtnikphjhcicgbabRecipWalks
namespace Go.Proofs.Ytnikphjhcicgbab.recipL
open Go.RowKit Go.Proofs.Ytnikphjhcicgbab.recipP Go.Proofs.Ytnikphjhcicgbab.recipW

set_option maxHeartbeats 4000000 in
theorem alive (w : World) :
    Calls Try.prog 21 #[] w fun e w' => e = .returned (.bool true) ∧ w = w' := by
  go_enter Try.func21, Try.ntmps21
  go_wp2
  go_ret
  exact ⟨rfl, rfl⟩

set_option maxHeartbeats 400000 in
theorem makes (x n p t : Int) (w : World) (b1 : -2147483648 ≤ x) (b2 : x ≤ 2147483647) (_ : -2147483648 ≤ n) (_ : n ≤ 2147483647) (b3 : -2147483648 ≤ p) (b4 : p ≤ 2147483647) (b5 : -2147483648 ≤ t) (b6 : t ≤ 2147483647) :
    Calls Try.prog 4 #[.int .i32 x, .int .i32 n, .int .i32 p, .int .i32 t] w fun e w' => e = .returned (.bool true) ∧ w = w' := by
  have g1 := ofE_bd n
  have g2 := stepE_bd p t n
  have g11 := g1.1
  have g12 := g1.2
  have g21 := g2.1
  have g22 := g2.2
  clear g1 g2
  go_enter Try.func4, Try.ntmps4
  go_wp2_with (first | (go_at_call 16; refine (of_any _ _).mono ?_; rintro e w' ⟨rfl, rfl⟩) | (go_at_call 22; refine (rof_any _ _).mono ?_; rintro e w' ⟨rfl, rfl⟩) | (go_at_call 17; refine (div_any _ _ _ b1 b2).mono ?_; rintro e w' ⟨rfl, rfl⟩) | (go_at_call 23; refine (rdiv_any _ _ _ b1 b2).mono ?_; rintro e w' ⟨rfl, rfl⟩) | (go_at_call 18; refine (step_any _ _ _ _ b3 b4 b5 b6).mono ?_; rintro e w' ⟨rfl, rfl⟩) | (go_at_call 24; refine (rstep_any _ _ _ _).mono ?_; rintro e w' ⟨rfl, rfl⟩) | go_in)
  go_ret
  exact ⟨rfl, rfl⟩

set_option maxRecDepth 100000 in
set_option maxHeartbeats 8000000 in
theorem names (w : World) :
    Calls Try.prog 3 #[] w fun e w' => e = .returned (.bool true) ∧ w = w' := by
  go_enter Try.func3, Try.ntmps3
  go_wp2_with (first | (go_at_call 21; refine (alive _).mono ?_; rintro e w' ⟨rfl, rfl⟩) | go_in)
  go_ret
  exact ⟨rfl, rfl⟩

set_option maxHeartbeats 800000 in
theorem near (x n : Int) (w : World) (b1 : -2147483648 ≤ x) (b2 : x ≤ 2147483647) (_ : -2147483648 ≤ n) (_ : n ≤ 2147483647) :
    Calls Try.prog 5 #[.int .i32 x, .int .i32 n] w fun e w' => e = .returned (.bool true) ∧ w = w' := by
  cases hk : okN n
  · go_enter Try.func5, Try.ntmps5
    go_wp2_with (first | (go_at_call 25; refine (fits_any _ _).mono ?_; rintro e w' ⟨rfl, rfl⟩) | (go_at_call 21; refine (alive _).mono ?_; rintro e w' ⟨rfl, rfl⟩) | go_in)
    go_ret
    exact ⟨rfl, rfl⟩
  · have h := (okN_iff n).1 hk
    have h1 := h.1
    have h2 := h.2
    clear h
    have e2 : ofE n = 0 := ofE_ok hk
    have e3 : divV x n = quo x n := by simp [divV, hk]
    have Hd := Lib.hid (down_eq x n h1)
    by_cases c1 : 65535 < x
    · go_enter Try.func5, Try.ntmps5
      go_wp2_with (first | (go_at_call 25; refine (fits_any _ _).mono ?_; rintro e w' ⟨rfl, rfl⟩) | (go_at_call 21; refine (alive _).mono ?_; rintro e w' ⟨rfl, rfl⟩) | go_in)
      go_ret
      exact ⟨rfl, rfl⟩
    · by_cases c2 : x < -65535
      · go_enter Try.func5, Try.ntmps5
        go_wp2_with (first | (go_at_call 25; refine (fits_any _ _).mono ?_; rintro e w' ⟨rfl, rfl⟩) | (go_at_call 21; refine (alive _).mono ?_; rintro e w' ⟨rfl, rfl⟩) | go_in)
        go_ret
        exact ⟨rfl, rfl⟩
      · by_cases c3 : x < 0
        · have nn := near_neg h1 c3 (by omega)
          have n1 := nn.1
          have n2 := nn.2
          clear nn
          by_cases c4 : x.tmod n = 0
          · have e5 : x.tdiv n = x / n := by rw [← Hd.out, if_neg (by simp [c4])]
            have q1 := ((ediv_bd (x := x) h1).2 c3).1
            have q2 := ((ediv_bd (x := x) h1).2 c3).2
            have e4 : (x.tmod n != 0) = false := by simp [c4]
            clear c4
            go_enter Try.func5, Try.ntmps5
            go_wp2_with (first | (go_at_call 25; refine (fits_any _ _).mono ?_; rintro e w' ⟨rfl, rfl⟩) | (go_at_call 21; refine (alive _).mono ?_; rintro e w' ⟨rfl, rfl⟩) | (go_at_call 17; refine (div_any _ _ _ b1 b2).mono ?_; rintro e w' ⟨rfl, rfl⟩) | go_in)
            go_ret
            exact ⟨rfl, rfl⟩
          · have e5 : x.tdiv n - 1 = x / n := by rw [← Hd.out, if_pos ⟨c3, c4⟩]
            have q1 : x ≤ x.tdiv n - 1 := by have := ((ediv_bd (x := x) h1).2 c3).1; omega
            have q2 : x.tdiv n ≤ 0 := by have := ((ediv_bd (x := x) h1).2 c3).2; omega
            have e4 : (x.tmod n != 0) = true := by simp [c4]
            clear c4
            go_enter Try.func5, Try.ntmps5
            go_wp2_with (first | (go_at_call 25; refine (fits_any _ _).mono ?_; rintro e w' ⟨rfl, rfl⟩) | (go_at_call 21; refine (alive _).mono ?_; rintro e w' ⟨rfl, rfl⟩) | (go_at_call 17; refine (div_any _ _ _ b1 b2).mono ?_; rintro e w' ⟨rfl, rfl⟩) | go_in)
            go_ret
            exact ⟨rfl, rfl⟩
        · have nn := near_pos h1 (by omega) (by omega : x ≤ 65535)
          have n1 := nn.1
          have n2 := nn.2
          clear nn
          have c3' : 0 ≤ x := by omega
          have q1 := ((ediv_bd (x := x) h1).1 c3').1
          have q2 := ((ediv_bd (x := x) h1).1 c3').2
          go_enter Try.func5, Try.ntmps5
          go_wp2_with (first | (go_at_call 25; refine (fits_any _ _).mono ?_; rintro e w' ⟨rfl, rfl⟩) | (go_at_call 21; refine (alive _).mono ?_; rintro e w' ⟨rfl, rfl⟩) | (go_at_call 17; refine (div_any _ _ _ b1 b2).mono ?_; rintro e w' ⟨rfl, rfl⟩) | go_in)
          go_ret
          exact ⟨rfl, rfl⟩
end Go.Proofs.Ytnikphjhcicgbab.recipL
