/- Statements of layer 4 (squash), by walks. -/
import Derived.Test.YtnikphjhcicgbaaDoorSqW
namespace Go.Proofs.YtnikphjhcicgbaaDoor.sqL
open Go.RowKit Go.Proofs.YtnikphjhcicgbaaDoor.base Go.Proofs.YtnikphjhcicgbaaDoor.sqP Go.Proofs.YtnikphjhcicgbaaDoor.sqW
set_option linter.unusedVariables false

theorem sq_b (d : Int) (w : World) (hT : Tab w) :
    Calls Tryd.prog 11 #[.int .i32 d] w fun e w' => e = .returned (.int .i32 (sq d)) ∧ Below w.heap.size w w' :=
  (sq_any d w hT).mono fun e w' ⟨he, n, hn⟩ => ⟨he, by rw [hn]; exact below_drewN (Below.refl _ _) n⟩

theorem val0 : sq 0 = 2047 := by decide +kernel
theorem val1 : sq 128 = 2549 := by decide +kernel
theorem val2 : sq 64 = 2298 := by decide +kernel
theorem val3 : sq (-2047) = 1 := by decide +kernel
theorem val4 : sq 2047 = 4094 := by decide +kernel
theorem val5 : sq 2048 = 4095 := by decide +kernel
theorem val6 : st 2047 = 0 := by decide +kernel
theorem val7 : st 0 = -2047 := by decide +kernel
theorem val8 : st 1 = -2047 := by decide +kernel
theorem val9 : st 4095 = 2047 := by decide +kernel

set_option maxHeartbeats 2000000 in
theorem alive (w : World) (hT : Tab w) :
    Calls Tryd.prog 13 #[] w fun e w' => e = .returned (.bool true) ∧ Below w.heap.size w w' := by
  have v0 := val0
  have v1 := val1
  have v2 := val2
  have v3 := val3
  have v4 := val4
  have v5 := val5
  have v6 := val6
  have v7 := val7
  have v8 := val8
  have v9 := val9
  have acc := Below.refl w.heap.size w
  go_enter Tryd.func13, Tryd.ntmps13
  go_wp2_with (first | (go_at_call 11; refine (sq_b _ _ hT).mono ?_; rintro e w' ⟨rfl, hb⟩; replace hT := hT.below hb; replace acc := acc.trans (hb.mono acc.size); clear hb) | (go_at_call 12; refine (st_any _ _ hT).mono ?_; rintro e w' ⟨rfl, hb⟩; replace hT := hT.below hb; replace acc := acc.trans (hb.mono acc.size); clear hb))
  go_ret
  exact ⟨rfl, acc⟩

set_option maxHeartbeats 2000000 in
theorem rises (a b : Int) (w : World) (a1 : -2147483648 ≤ a) (a2 : a ≤ 2147483647) (b1 : -2147483648 ≤ b) (b2 : b ≤ 2147483647) (hT : Tab w) :
    Calls Tryd.prog 6 #[.int .i32 a, .int .i32 b] w fun e w' => e = .returned (.bool true) ∧ Below w.heap.size w w' := by
  have x1 := (sq_bd a).1
  have x2 := (sq_bd a).2
  have y1 := (sq_bd b).1
  have y2 := (sq_bd b).2
  have acc := Below.refl w.heap.size w
  have hin : a < -2047 ∨ -2047 ≤ a ∧ 2046 < a ∨ -2047 ≤ a ∧ a ≤ 2046 := by omega
  rcases Int.lt_trichotomy a b with c | c | c
  · have m1 : sq a ≤ sq b := sq_mono (by omega)
    rcases hin with q | ⟨q0, q⟩ | ⟨q0, q⟩
    · go_enter Tryd.func6, Tryd.ntmps6
      go_wp2_with (first | (go_at_call 11; refine (sq_b _ _ hT).mono ?_; rintro e w' ⟨rfl, hb⟩; replace hT := hT.below hb; replace acc := acc.trans (hb.mono acc.size); clear hb) | (go_at_call 13; refine (alive _ hT).mono ?_; rintro e w' ⟨rfl, hb⟩; replace hT := hT.below hb; replace acc := acc.trans (hb.mono acc.size); clear hb))
      go_ret
      exact ⟨rfl, acc⟩
    · go_enter Tryd.func6, Tryd.ntmps6
      go_wp2_with (first | (go_at_call 11; refine (sq_b _ _ hT).mono ?_; rintro e w' ⟨rfl, hb⟩; replace hT := hT.below hb; replace acc := acc.trans (hb.mono acc.size); clear hb) | (go_at_call 13; refine (alive _ hT).mono ?_; rintro e w' ⟨rfl, hb⟩; replace hT := hT.below hb; replace acc := acc.trans (hb.mono acc.size); clear hb))
      go_ret
      exact ⟨rfl, acc⟩
    · have o := ok_at q0 q
      have n1 : sq a ≤ sq (a + 1) := by rw [sq_in q0 (by omega), sq_in (by omega) (by omega)]; exact o.2.1
      have n2 : sq (a + 1) ≤ sq a + 4 := by rw [sq_in q0 (by omega), sq_in (by omega) (by omega)]; exact o.2.2.1
      have n3 : 1 ≤ sq a := by rw [sq_in q0 (by omega)]; exact o.1
      have n4 : sq (a + 1) ≤ 4094 := by rw [sq_in (by omega) (by omega)]; exact o.2.2.2
      clear o
      go_enter Tryd.func6, Tryd.ntmps6
      go_wp2_with (first | (go_at_call 11; refine (sq_b _ _ hT).mono ?_; rintro e w' ⟨rfl, hb⟩; replace hT := hT.below hb; replace acc := acc.trans (hb.mono acc.size); clear hb) | (go_at_call 13; refine (alive _ hT).mono ?_; rintro e w' ⟨rfl, hb⟩; replace hT := hT.below hb; replace acc := acc.trans (hb.mono acc.size); clear hb))
      go_ret
      exact ⟨rfl, acc⟩
  · subst c
    rcases hin with q | ⟨q0, q⟩ | ⟨q0, q⟩
    · go_enter Tryd.func6, Tryd.ntmps6
      go_wp2_with (first | (go_at_call 11; refine (sq_b _ _ hT).mono ?_; rintro e w' ⟨rfl, hb⟩; replace hT := hT.below hb; replace acc := acc.trans (hb.mono acc.size); clear hb) | (go_at_call 13; refine (alive _ hT).mono ?_; rintro e w' ⟨rfl, hb⟩; replace hT := hT.below hb; replace acc := acc.trans (hb.mono acc.size); clear hb))
      go_ret
      exact ⟨rfl, acc⟩
    · go_enter Tryd.func6, Tryd.ntmps6
      go_wp2_with (first | (go_at_call 11; refine (sq_b _ _ hT).mono ?_; rintro e w' ⟨rfl, hb⟩; replace hT := hT.below hb; replace acc := acc.trans (hb.mono acc.size); clear hb) | (go_at_call 13; refine (alive _ hT).mono ?_; rintro e w' ⟨rfl, hb⟩; replace hT := hT.below hb; replace acc := acc.trans (hb.mono acc.size); clear hb))
      go_ret
      exact ⟨rfl, acc⟩
    · have o := ok_at q0 q
      have n1 : sq a ≤ sq (a + 1) := by rw [sq_in q0 (by omega), sq_in (by omega) (by omega)]; exact o.2.1
      have n2 : sq (a + 1) ≤ sq a + 4 := by rw [sq_in q0 (by omega), sq_in (by omega) (by omega)]; exact o.2.2.1
      have n3 : 1 ≤ sq a := by rw [sq_in q0 (by omega)]; exact o.1
      have n4 : sq (a + 1) ≤ 4094 := by rw [sq_in (by omega) (by omega)]; exact o.2.2.2
      clear o
      go_enter Tryd.func6, Tryd.ntmps6
      go_wp2_with (first | (go_at_call 11; refine (sq_b _ _ hT).mono ?_; rintro e w' ⟨rfl, hb⟩; replace hT := hT.below hb; replace acc := acc.trans (hb.mono acc.size); clear hb) | (go_at_call 13; refine (alive _ hT).mono ?_; rintro e w' ⟨rfl, hb⟩; replace hT := hT.below hb; replace acc := acc.trans (hb.mono acc.size); clear hb))
      go_ret
      exact ⟨rfl, acc⟩
  · have m1 : sq b ≤ sq a := sq_mono (by omega)
    rcases hin with q | ⟨q0, q⟩ | ⟨q0, q⟩
    · go_enter Tryd.func6, Tryd.ntmps6
      go_wp2_with (first | (go_at_call 11; refine (sq_b _ _ hT).mono ?_; rintro e w' ⟨rfl, hb⟩; replace hT := hT.below hb; replace acc := acc.trans (hb.mono acc.size); clear hb) | (go_at_call 13; refine (alive _ hT).mono ?_; rintro e w' ⟨rfl, hb⟩; replace hT := hT.below hb; replace acc := acc.trans (hb.mono acc.size); clear hb))
      go_ret
      exact ⟨rfl, acc⟩
    · go_enter Tryd.func6, Tryd.ntmps6
      go_wp2_with (first | (go_at_call 11; refine (sq_b _ _ hT).mono ?_; rintro e w' ⟨rfl, hb⟩; replace hT := hT.below hb; replace acc := acc.trans (hb.mono acc.size); clear hb) | (go_at_call 13; refine (alive _ hT).mono ?_; rintro e w' ⟨rfl, hb⟩; replace hT := hT.below hb; replace acc := acc.trans (hb.mono acc.size); clear hb))
      go_ret
      exact ⟨rfl, acc⟩
    · have o := ok_at q0 q
      have n1 : sq a ≤ sq (a + 1) := by rw [sq_in q0 (by omega), sq_in (by omega) (by omega)]; exact o.2.1
      have n2 : sq (a + 1) ≤ sq a + 4 := by rw [sq_in q0 (by omega), sq_in (by omega) (by omega)]; exact o.2.2.1
      have n3 : 1 ≤ sq a := by rw [sq_in q0 (by omega)]; exact o.1
      have n4 : sq (a + 1) ≤ 4094 := by rw [sq_in (by omega) (by omega)]; exact o.2.2.2
      clear o
      go_enter Tryd.func6, Tryd.ntmps6
      go_wp2_with (first | (go_at_call 11; refine (sq_b _ _ hT).mono ?_; rintro e w' ⟨rfl, hb⟩; replace hT := hT.below hb; replace acc := acc.trans (hb.mono acc.size); clear hb) | (go_at_call 13; refine (alive _ hT).mono ?_; rintro e w' ⟨rfl, hb⟩; replace hT := hT.below hb; replace acc := acc.trans (hb.mono acc.size); clear hb))
      go_ret
      exact ⟨rfl, acc⟩

theorem mid_turn_all : ((List.range 4095).all fun k => let d : Int := (k : Int) - 2047; decide (4094 ≤ mid d + mid (-d)) && decide (mid d + mid (-d) ≤ 4096)) = true := by decide +kernel
theorem sq_turn (d : Int) : 4094 ≤ sq d + sq (-d) ∧ sq d + sq (-d) ≤ 4096 := by
  by_cases c : -2047 ≤ d ∧ d ≤ 2047
  · rw [sq_in c.1 c.2, sq_in (by omega) (by omega)]
    have := List.all_eq_true.1 mid_turn_all (d + 2047).toNat (List.mem_range.2 (by omega))
    simp only [Bool.and_eq_true, decide_eq_true_eq] at this
    rw [show (((d + 2047).toNat : Nat) : Int) - 2047 = d from by omega] at this
    exact this
  · unfold sq
    (repeat split) <;> omega

set_option maxHeartbeats 2000000 in
theorem turns (d : Int) (w : World) (b1 : -2147483648 ≤ d) (b2 : d ≤ 2147483647) (hT : Tab w) :
    Calls Tryd.prog 8 #[.int .i32 d] w fun e w' => e = .returned (.bool true) ∧ Below w.heap.size w w' := by
  have acc := Below.refl w.heap.size w
  by_cases c : d = -2147483648
  · subst c
    have v : sq (-2147483648) = 0 := by decide +kernel
    go_enter Tryd.func8, Tryd.ntmps8
    go_wp2_with (first | (go_at_call 11; refine (sq_b _ _ hT).mono ?_; rintro e w' ⟨rfl, hb⟩; replace hT := hT.below hb; replace acc := acc.trans (hb.mono acc.size); clear hb) | (go_at_call 13; refine (alive _ hT).mono ?_; rintro e w' ⟨rfl, hb⟩; replace hT := hT.below hb; replace acc := acc.trans (hb.mono acc.size); clear hb))
    go_ret
    exact ⟨rfl, acc⟩
  · have e1 : (d == -2147483648) = false := by simpa using c
    have t1 := (sq_turn d).1
    have t2 := (sq_turn d).2
    have x1 := (sq_bd d).1
    have x2 := (sq_bd d).2
    have y1 := (sq_bd (-d)).1
    have y2 := (sq_bd (-d)).2
    have b3 : -2147483647 ≤ d := by omega
    clear c
    go_enter Tryd.func8, Tryd.ntmps8
    go_wp2_with (first | (go_at_call 11; refine (sq_b _ _ hT).mono ?_; rintro e w' ⟨rfl, hb⟩; replace hT := hT.below hb; replace acc := acc.trans (hb.mono acc.size); clear hb) | (go_at_call 13; refine (alive _ hT).mono ?_; rintro e w' ⟨rfl, hb⟩; replace hT := hT.below hb; replace acc := acc.trans (hb.mono acc.size); clear hb))
    go_ret
    exact ⟨rfl, acc⟩

theorem le_iff (d p : Int) (h1 : -2047 ≤ d) (h2 : d ≤ 2047) (hp : p ≤ 4094) : (decide (p ≤ sq d)) = decide (st p ≤ d) := by
  rw [decide_eq_decide]
  constructor
  · exact st_le h1
  · intro h
    by_cases c : st p < 2047
    · have := (st_is p).2.2.2 c
      have := sq_mono h
      omega
    · have : st p = 2047 := by have := (st_bd p).2; omega
      have hd : d = 2047 := by omega
      rw [hd, val4]; exact hp
theorem sq_st (p : Int) (hp : p ≤ 4094) : p ≤ sq (st p) := by
  by_cases c : st p < 2047
  · exact (st_is p).2.2.2 c
  · have : st p = 2047 := by have := (st_bd p).2; omega
    rw [this, val4]; exact hp

set_option maxHeartbeats 2000000 in
theorem back (d p q : Int) (w : World) (d1 : -2147483648 ≤ d) (d2 : d ≤ 2147483647) (p1 : -2147483648 ≤ p) (p2 : p ≤ 2147483647) (q1 : -2147483648 ≤ q) (q2 : q ≤ 2147483647) (hT : Tab w) :
    Calls Tryd.prog 7 #[.int .i32 d, .int .i32 p, .int .i32 q] w fun e w' => e = .returned (.bool true) ∧ Below w.heap.size w w' := by
  have x1 := (st_bd p).1
  have x2 := (st_bd p).2
  have y1 := (st_bd q).1
  have y2 := (st_bd q).2
  have acc := Below.refl w.heap.size w
  have hin : d < -2047 ∨ -2047 ≤ d ∧ 2047 < d ∨ -2047 ≤ d ∧ d ≤ 2047 ∧ 4094 < p ∨ -2047 ≤ d ∧ d ≤ 2047 ∧ p ≤ 4094 := by omega
  have hpq : p < q ∧ st p ≤ st q ∨ p = q ∨ q < p ∧ st q ≤ st p := by
    rcases Int.lt_trichotomy p q with c | c | c
    · exact .inl ⟨c, st_mono (by omega)⟩
    · exact .inr (.inl c)
    · exact .inr (.inr ⟨c, st_mono (by omega)⟩)
  rcases hpq with ⟨c, m1⟩ | c | ⟨c, m1⟩
  · rcases hin with r | ⟨r0, r⟩ | ⟨r0, r1, r⟩ | ⟨r0, r1, r⟩
    · go_enter Tryd.func7, Tryd.ntmps7
      go_wp2_with (first | (go_at_call 11; refine (sq_b _ _ hT).mono ?_; rintro e w' ⟨rfl, hb⟩; replace hT := hT.below hb; replace acc := acc.trans (hb.mono acc.size); clear hb) | (go_at_call 12; refine (st_any _ _ hT).mono ?_; rintro e w' ⟨rfl, hb⟩; replace hT := hT.below hb; replace acc := acc.trans (hb.mono acc.size); clear hb) | (go_at_call 13; refine (alive _ hT).mono ?_; rintro e w' ⟨rfl, hb⟩; replace hT := hT.below hb; replace acc := acc.trans (hb.mono acc.size); clear hb))
      go_ret
      exact ⟨rfl, acc⟩
    · go_enter Tryd.func7, Tryd.ntmps7
      go_wp2_with (first | (go_at_call 11; refine (sq_b _ _ hT).mono ?_; rintro e w' ⟨rfl, hb⟩; replace hT := hT.below hb; replace acc := acc.trans (hb.mono acc.size); clear hb) | (go_at_call 12; refine (st_any _ _ hT).mono ?_; rintro e w' ⟨rfl, hb⟩; replace hT := hT.below hb; replace acc := acc.trans (hb.mono acc.size); clear hb) | (go_at_call 13; refine (alive _ hT).mono ?_; rintro e w' ⟨rfl, hb⟩; replace hT := hT.below hb; replace acc := acc.trans (hb.mono acc.size); clear hb))
      go_ret
      exact ⟨rfl, acc⟩
    · go_enter Tryd.func7, Tryd.ntmps7
      go_wp2_with (first | (go_at_call 11; refine (sq_b _ _ hT).mono ?_; rintro e w' ⟨rfl, hb⟩; replace hT := hT.below hb; replace acc := acc.trans (hb.mono acc.size); clear hb) | (go_at_call 12; refine (st_any _ _ hT).mono ?_; rintro e w' ⟨rfl, hb⟩; replace hT := hT.below hb; replace acc := acc.trans (hb.mono acc.size); clear hb) | (go_at_call 13; refine (alive _ hT).mono ?_; rintro e w' ⟨rfl, hb⟩; replace hT := hT.below hb; replace acc := acc.trans (hb.mono acc.size); clear hb))
      go_ret
      exact ⟨rfl, acc⟩
    · have HL := Lib.hid (le_iff d p r0 r1 r)
      have l3 := sq_st p r
      have l4 : st (sq d) ≤ d := st_le r0 (by omega)
      by_cases g : p ≤ sq d
      · have g' : st p ≤ d := by have := HL.out; rw [decide_yes g] at this; simpa using this.symm
        go_enter Tryd.func7, Tryd.ntmps7
        go_wp2_with (first | (go_at_call 11; refine (sq_b _ _ hT).mono ?_; rintro e w' ⟨rfl, hb⟩; replace hT := hT.below hb; replace acc := acc.trans (hb.mono acc.size); clear hb) | (go_at_call 12; refine (st_any _ _ hT).mono ?_; rintro e w' ⟨rfl, hb⟩; replace hT := hT.below hb; replace acc := acc.trans (hb.mono acc.size); clear hb) | (go_at_call 13; refine (alive _ hT).mono ?_; rintro e w' ⟨rfl, hb⟩; replace hT := hT.below hb; replace acc := acc.trans (hb.mono acc.size); clear hb))
        go_ret
        exact ⟨rfl, acc⟩
      · have g' : ¬ st p ≤ d := by have := HL.out; rw [decide_no g] at this; simpa using this.symm
        go_enter Tryd.func7, Tryd.ntmps7
        go_wp2_with (first | (go_at_call 11; refine (sq_b _ _ hT).mono ?_; rintro e w' ⟨rfl, hb⟩; replace hT := hT.below hb; replace acc := acc.trans (hb.mono acc.size); clear hb) | (go_at_call 12; refine (st_any _ _ hT).mono ?_; rintro e w' ⟨rfl, hb⟩; replace hT := hT.below hb; replace acc := acc.trans (hb.mono acc.size); clear hb) | (go_at_call 13; refine (alive _ hT).mono ?_; rintro e w' ⟨rfl, hb⟩; replace hT := hT.below hb; replace acc := acc.trans (hb.mono acc.size); clear hb))
        go_ret
        exact ⟨rfl, acc⟩
  · subst c
    rcases hin with r | ⟨r0, r⟩ | ⟨r0, r1, r⟩ | ⟨r0, r1, r⟩
    · go_enter Tryd.func7, Tryd.ntmps7
      go_wp2_with (first | (go_at_call 11; refine (sq_b _ _ hT).mono ?_; rintro e w' ⟨rfl, hb⟩; replace hT := hT.below hb; replace acc := acc.trans (hb.mono acc.size); clear hb) | (go_at_call 12; refine (st_any _ _ hT).mono ?_; rintro e w' ⟨rfl, hb⟩; replace hT := hT.below hb; replace acc := acc.trans (hb.mono acc.size); clear hb) | (go_at_call 13; refine (alive _ hT).mono ?_; rintro e w' ⟨rfl, hb⟩; replace hT := hT.below hb; replace acc := acc.trans (hb.mono acc.size); clear hb))
      go_ret
      exact ⟨rfl, acc⟩
    · go_enter Tryd.func7, Tryd.ntmps7
      go_wp2_with (first | (go_at_call 11; refine (sq_b _ _ hT).mono ?_; rintro e w' ⟨rfl, hb⟩; replace hT := hT.below hb; replace acc := acc.trans (hb.mono acc.size); clear hb) | (go_at_call 12; refine (st_any _ _ hT).mono ?_; rintro e w' ⟨rfl, hb⟩; replace hT := hT.below hb; replace acc := acc.trans (hb.mono acc.size); clear hb) | (go_at_call 13; refine (alive _ hT).mono ?_; rintro e w' ⟨rfl, hb⟩; replace hT := hT.below hb; replace acc := acc.trans (hb.mono acc.size); clear hb))
      go_ret
      exact ⟨rfl, acc⟩
    · go_enter Tryd.func7, Tryd.ntmps7
      go_wp2_with (first | (go_at_call 11; refine (sq_b _ _ hT).mono ?_; rintro e w' ⟨rfl, hb⟩; replace hT := hT.below hb; replace acc := acc.trans (hb.mono acc.size); clear hb) | (go_at_call 12; refine (st_any _ _ hT).mono ?_; rintro e w' ⟨rfl, hb⟩; replace hT := hT.below hb; replace acc := acc.trans (hb.mono acc.size); clear hb) | (go_at_call 13; refine (alive _ hT).mono ?_; rintro e w' ⟨rfl, hb⟩; replace hT := hT.below hb; replace acc := acc.trans (hb.mono acc.size); clear hb))
      go_ret
      exact ⟨rfl, acc⟩
    · have HL := Lib.hid (le_iff d p r0 r1 r)
      have l3 := sq_st p r
      have l4 : st (sq d) ≤ d := st_le r0 (by omega)
      by_cases g : p ≤ sq d
      · have g' : st p ≤ d := by have := HL.out; rw [decide_yes g] at this; simpa using this.symm
        go_enter Tryd.func7, Tryd.ntmps7
        go_wp2_with (first | (go_at_call 11; refine (sq_b _ _ hT).mono ?_; rintro e w' ⟨rfl, hb⟩; replace hT := hT.below hb; replace acc := acc.trans (hb.mono acc.size); clear hb) | (go_at_call 12; refine (st_any _ _ hT).mono ?_; rintro e w' ⟨rfl, hb⟩; replace hT := hT.below hb; replace acc := acc.trans (hb.mono acc.size); clear hb) | (go_at_call 13; refine (alive _ hT).mono ?_; rintro e w' ⟨rfl, hb⟩; replace hT := hT.below hb; replace acc := acc.trans (hb.mono acc.size); clear hb))
        go_ret
        exact ⟨rfl, acc⟩
      · have g' : ¬ st p ≤ d := by have := HL.out; rw [decide_no g] at this; simpa using this.symm
        go_enter Tryd.func7, Tryd.ntmps7
        go_wp2_with (first | (go_at_call 11; refine (sq_b _ _ hT).mono ?_; rintro e w' ⟨rfl, hb⟩; replace hT := hT.below hb; replace acc := acc.trans (hb.mono acc.size); clear hb) | (go_at_call 12; refine (st_any _ _ hT).mono ?_; rintro e w' ⟨rfl, hb⟩; replace hT := hT.below hb; replace acc := acc.trans (hb.mono acc.size); clear hb) | (go_at_call 13; refine (alive _ hT).mono ?_; rintro e w' ⟨rfl, hb⟩; replace hT := hT.below hb; replace acc := acc.trans (hb.mono acc.size); clear hb))
        go_ret
        exact ⟨rfl, acc⟩
  · rcases hin with r | ⟨r0, r⟩ | ⟨r0, r1, r⟩ | ⟨r0, r1, r⟩
    · go_enter Tryd.func7, Tryd.ntmps7
      go_wp2_with (first | (go_at_call 11; refine (sq_b _ _ hT).mono ?_; rintro e w' ⟨rfl, hb⟩; replace hT := hT.below hb; replace acc := acc.trans (hb.mono acc.size); clear hb) | (go_at_call 12; refine (st_any _ _ hT).mono ?_; rintro e w' ⟨rfl, hb⟩; replace hT := hT.below hb; replace acc := acc.trans (hb.mono acc.size); clear hb) | (go_at_call 13; refine (alive _ hT).mono ?_; rintro e w' ⟨rfl, hb⟩; replace hT := hT.below hb; replace acc := acc.trans (hb.mono acc.size); clear hb))
      go_ret
      exact ⟨rfl, acc⟩
    · go_enter Tryd.func7, Tryd.ntmps7
      go_wp2_with (first | (go_at_call 11; refine (sq_b _ _ hT).mono ?_; rintro e w' ⟨rfl, hb⟩; replace hT := hT.below hb; replace acc := acc.trans (hb.mono acc.size); clear hb) | (go_at_call 12; refine (st_any _ _ hT).mono ?_; rintro e w' ⟨rfl, hb⟩; replace hT := hT.below hb; replace acc := acc.trans (hb.mono acc.size); clear hb) | (go_at_call 13; refine (alive _ hT).mono ?_; rintro e w' ⟨rfl, hb⟩; replace hT := hT.below hb; replace acc := acc.trans (hb.mono acc.size); clear hb))
      go_ret
      exact ⟨rfl, acc⟩
    · go_enter Tryd.func7, Tryd.ntmps7
      go_wp2_with (first | (go_at_call 11; refine (sq_b _ _ hT).mono ?_; rintro e w' ⟨rfl, hb⟩; replace hT := hT.below hb; replace acc := acc.trans (hb.mono acc.size); clear hb) | (go_at_call 12; refine (st_any _ _ hT).mono ?_; rintro e w' ⟨rfl, hb⟩; replace hT := hT.below hb; replace acc := acc.trans (hb.mono acc.size); clear hb) | (go_at_call 13; refine (alive _ hT).mono ?_; rintro e w' ⟨rfl, hb⟩; replace hT := hT.below hb; replace acc := acc.trans (hb.mono acc.size); clear hb))
      go_ret
      exact ⟨rfl, acc⟩
    · have HL := Lib.hid (le_iff d p r0 r1 r)
      have l3 := sq_st p r
      have l4 : st (sq d) ≤ d := st_le r0 (by omega)
      by_cases g : p ≤ sq d
      · have g' : st p ≤ d := by have := HL.out; rw [decide_yes g] at this; simpa using this.symm
        go_enter Tryd.func7, Tryd.ntmps7
        go_wp2_with (first | (go_at_call 11; refine (sq_b _ _ hT).mono ?_; rintro e w' ⟨rfl, hb⟩; replace hT := hT.below hb; replace acc := acc.trans (hb.mono acc.size); clear hb) | (go_at_call 12; refine (st_any _ _ hT).mono ?_; rintro e w' ⟨rfl, hb⟩; replace hT := hT.below hb; replace acc := acc.trans (hb.mono acc.size); clear hb) | (go_at_call 13; refine (alive _ hT).mono ?_; rintro e w' ⟨rfl, hb⟩; replace hT := hT.below hb; replace acc := acc.trans (hb.mono acc.size); clear hb))
        go_ret
        exact ⟨rfl, acc⟩
      · have g' : ¬ st p ≤ d := by have := HL.out; rw [decide_no g] at this; simpa using this.symm
        go_enter Tryd.func7, Tryd.ntmps7
        go_wp2_with (first | (go_at_call 11; refine (sq_b _ _ hT).mono ?_; rintro e w' ⟨rfl, hb⟩; replace hT := hT.below hb; replace acc := acc.trans (hb.mono acc.size); clear hb) | (go_at_call 12; refine (st_any _ _ hT).mono ?_; rintro e w' ⟨rfl, hb⟩; replace hT := hT.below hb; replace acc := acc.trans (hb.mono acc.size); clear hb) | (go_at_call 13; refine (alive _ hT).mono ?_; rintro e w' ⟨rfl, hb⟩; replace hT := hT.below hb; replace acc := acc.trans (hb.mono acc.size); clear hb))
        go_ret
        exact ⟨rfl, acc⟩
end Go.Proofs.YtnikphjhcicgbaaDoor.sqL
