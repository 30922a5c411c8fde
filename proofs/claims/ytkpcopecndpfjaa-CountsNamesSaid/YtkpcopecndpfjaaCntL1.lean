/- CountsBounds, by a walk. -/
import Derived.Test.YtkpcopecndpfjaaCntL
namespace Go.Proofs.Ytkpcopecndpfjaa.cntL
open Go.RowKit Go.Proofs.Ytkpcopecndpfjaa.base Go.Proofs.Ytkpcopecndpfjaa.cntP Go.Proofs.Ytkpcopecndpfjaa.cntW
set_option linter.unusedVariables false
set_option linter.unusedSimpArgs false
theorem nx_zero (a b l : Int) : nx ⟨a, b, l⟩ 0 = ⟨more a, shr b, 0⟩ := rfl
theorem nx_one (a b l : Int) : nx ⟨a, b, l⟩ 1 = ⟨shr a, more b, 1⟩ := rfl
theorem nxC_ok {c : Cnt} {bit : Int} (h : ok c = true) (hb : bit ≤ 1) : nxC c bit = nx c bit := by simp [nxC, h, hb]
theorem nxE_ok {c : Cnt} {bit : Int} (h : ok c = true) (hb : bit ≤ 1) : nxE c bit = 0 := by simp [nxE, h, hb]
theorem totV_ok {c : Cnt} (h : ok c = true) : totV c = c.a + c.b := by simp [totV, h]
theorem more_cases (n : Int) : (n + 1 ≤ 12 ∧ more n = n + 1) ∨ (12 < n + 1 ∧ more n = 12) := by unfold more; split <;> omega
theorem shr_cases (n : Int) : (n ≤ 2 ∧ shr n = n) ∨ (2 < n ∧ shr n = n / 2 + 1) := by unfold shr; split <;> omega
set_option maxHeartbeats 1000000 in
theorem bounds_bad (a b l bit : Int) (w : World) (hc : CntIn ⟨a, b, l⟩) (hb1 : 0 ≤ bit) (hb2 : bit ≤ 255) (h : ok ⟨a, b, l⟩ = false ∨ 1 < bit) :
    Calls Try.prog 6 #[.agg #[.int .i32 (a), .int .i32 (b), .int .u8 (l)], .int .u8 bit] w fun e w' => e = .returned (.bool true) ∧ Below w.heap.size w w' := by
  cases hok : ok ⟨a, b, l⟩
  · have E := chk_no hok
    clear hok h
    go_enter Try.func6, Try.ntmps6
    go_wp2_with (first | (go_at_call 25; refine (rcheck_any ⟨_, _, _⟩ _ hc).mono ?_; rintro e w1 ⟨rfl, hb⟩; obtain ⟨cl1, fr1⟩ := bcell hb; have sz1 := hb.size; (try simp at sz1); (try have sy1 : w.heap.size + 1 < (w1).heap.size := (by omega)); have sx1 : w.heap.size < (w1).heap.size := (by omega)) | (go_at_call 21; refine (alive _).mono ?_; rintro e w' ⟨rfl, hb3⟩))
    go_ret
    exact ⟨rfl, by (repeat' (first | (with_reducible exact Below.refl _ _) | (with_reducible assumption) | (with_reducible refine below_drewN ?_ _) | (with_reducible refine below_new ?_ _) | (with_reducible refine Below.alloc ?_ ?_ _) | (with_reducible refine Below.drew ?_) | (with_reducible refine Below.setCell ?_ ?_ _) | (with_reducible apply below_on; (with_reducible assumption)) | (go_size; done) | (with_reducible apply size_of)))⟩
  · have E := chk_yes hok
    have h1 : 1 < bit := by rcases h with h | h <;> simp_all
    clear hok h
    go_enter Try.func6, Try.ntmps6
    go_wp2_with (first | (go_at_call 25; refine (rcheck_any ⟨_, _, _⟩ _ hc).mono ?_; rintro e w1 ⟨rfl, hb⟩; obtain ⟨cl1, fr1⟩ := bcell hb; have sz1 := hb.size; (try simp at sz1); (try have sy1 : w.heap.size + 1 < (w1).heap.size := (by omega)); have sx1 : w.heap.size < (w1).heap.size := (by omega)) | (go_at_call 21; refine (alive _).mono ?_; rintro e w' ⟨rfl, hb3⟩))
    go_ret
    exact ⟨rfl, by (repeat' (first | (with_reducible exact Below.refl _ _) | (with_reducible assumption) | (with_reducible refine below_drewN ?_ _) | (with_reducible refine below_new ?_ _) | (with_reducible refine Below.alloc ?_ ?_ _) | (with_reducible refine Below.drew ?_) | (with_reducible refine Below.setCell ?_ ?_ _) | (with_reducible apply below_on; (with_reducible assumption)) | (go_size; done) | (with_reducible apply size_of)))⟩
set_option maxHeartbeats 1000000 in
theorem bounds_zero (a b l x y : Int) (w : World) (hok : ok ⟨a, b, l⟩ = true) (hd : ok ⟨x, y, 0⟩ = true) (hx : (a + 1 ≤ 12 ∧ x = a + 1) ∨ (12 < a + 1 ∧ x = 12)) (hy : (b ≤ 2 ∧ b = y) ∨ (2 < b ∧ y = b / 2 + 1)) (hn : nx ⟨a, b, l⟩ 0 = ⟨x, y, 0⟩) :
    Calls Try.prog 6 #[.agg #[.int .i32 (a), .int .i32 (b), .int .u8 (l)], .int .u8 0] w fun e w' => e = .returned (.bool true) ∧ Below w.heap.size w w' := by
  have hc := cin hok
  have E := chk_yes hok
  have E2 := chk_yes hd
  have n1 := (nxC_ok (bit := 0) hok (by omega)).trans hn
  have n2 := nxE_ok (bit := 0) hok (by omega)
  have n3 : totV ⟨x, y, 0⟩ = x + y := totV_ok hd
  obtain ⟨x1, x2, x3, x4, x5, x6⟩ := ok_bd hok
  obtain ⟨d1, d2, d3, d4, d5, d6⟩ := ok_bd hd
  simp only at x1 x2 x3 x4 x5 x6 d1 d2 d3 d4 d5 d6
  have HO := Lib.hid hok
  have HD := Lib.hid hd
  clear hok hd hn
  rcases hx with ⟨hx, rfl⟩ | ⟨hx, rfl⟩
  all_goals
    rcases hy with ⟨hy, rfl⟩ | ⟨hy, rfl⟩
    all_goals
      try (have t1 : (b / 2 + 1 == b) = false := by (rw [beq_eq_false_iff_ne]; omega))
      go_enter Try.func6, Try.ntmps6
      go_wp2_with (first | (go_at_call 25; refine (rcheck_any ⟨_, _, _⟩ _ hc).mono ?_; rintro e w1 ⟨rfl, hb⟩; obtain ⟨cl1, fr1⟩ := bcell hb; have sz1 := hb.size; (try simp at sz1); (try have sy1 : w.heap.size + 1 < (w1).heap.size := (by omega)); have sx1 : w.heap.size < (w1).heap.size := (by omega)))
      have A1 : Lies w1 w.heap.size 23 [.int .i32 a, .int .i32 b, .int .u8 l] := Lies.past (Lies.fresh _ _ _) hb
      clear cl1 fr1
      refine (Next_any _ _ _ _ _ hc (by omega) (by omega)).mono ?_
      rintro e w2 ⟨rfl, hb2⟩
      rw [n1, n2]
      have A2 : Lies w2 w.heap.size 23 [.int .i32 a, .int .i32 b, .int .u8 l] := Lies.past A1 hb2
      clear A1
      have HA2 := Lib.hid A2
      clear A2
      go_wp2_with fail
      refine (Total_any _ _ _ _ (cin HD.out)).mono ?_
      rintro e w3 ⟨rfl, hb3⟩
      rw [n3, E2]
      have A3 : Lies w3 w.heap.size 23 [.int .i32 a, .int .i32 b, .int .u8 l] := Lies.past (HA2.out.alloc _) hb3
      have B3 := Lies.past (Lies.fresh w2 23 _) hb3
      obtain ⟨b0, b1, b2, g0, g1, g2⟩ := B3.three
      have HA3 := Lib.hid A3
      have HB3 := Lib.hid B3
      clear A3 B3
      go_wp2_with fail
      refine (check_any ⟨_, _, _⟩ _ (cin HD.out)).mono ?_
      rintro e w4 ⟨rfl, hb4⟩
      rw [E2]
      have HA4 := Lib.hid (HA3.out.past hb4)
      have HB4 := Lib.hid (HB3.out.past hb4)
      obtain ⟨b0, b1, b2, g0, g1, g2⟩ := HB4.out.three
      go_wp2_with fail
      refine (rcheck_any ⟨_, _, _⟩ _ (cin HD.out)).mono ?_
      rintro e w5 ⟨rfl, hb5⟩
      rw [E2]
      have HA5 := Lib.hid (HA4.out.past hb5)
      have HB5 := Lib.hid (HB4.out.past hb5)
      obtain ⟨b0, b1, b2, g0, g1, g2⟩ := HB5.out.three
      obtain ⟨a0, a1, a2, f0, f1, f2⟩ := HA5.out.three
      go_wp2_with (first | (go_at_call 21; refine (alive _).mono ?_; rintro e w' ⟨rfl, hb6⟩))
      all_goals
        go_ret
        refine ⟨?_, by (repeat' (first | (with_reducible exact Below.refl _ _) | (with_reducible assumption) | (with_reducible refine below_drewN ?_ _) | (with_reducible refine below_new ?_ _) | (with_reducible refine Below.alloc ?_ ?_ _) | (with_reducible refine Below.drew ?_) | (with_reducible refine Below.setCell ?_ ?_ _) | (with_reducible apply below_on; (with_reducible assumption)) | (go_size; done) | (with_reducible apply size_of)))⟩
        first
        | exact rfl
        | exact retb (by simp; omega)
set_option maxHeartbeats 1000000 in
theorem bounds_one (a b l x y : Int) (w : World) (hok : ok ⟨a, b, l⟩ = true) (hd : ok ⟨x, y, 1⟩ = true) (hx : (a ≤ 2 ∧ a = x) ∨ (2 < a ∧ x = a / 2 + 1)) (hy : (b + 1 ≤ 12 ∧ y = b + 1) ∨ (12 < b + 1 ∧ y = 12)) (hn : nx ⟨a, b, l⟩ 1 = ⟨x, y, 1⟩) :
    Calls Try.prog 6 #[.agg #[.int .i32 (a), .int .i32 (b), .int .u8 (l)], .int .u8 1] w fun e w' => e = .returned (.bool true) ∧ Below w.heap.size w w' := by
  have hc := cin hok
  have E := chk_yes hok
  have E2 := chk_yes hd
  have n1 := (nxC_ok (bit := 1) hok (by omega)).trans hn
  have n2 := nxE_ok (bit := 1) hok (by omega)
  have n3 : totV ⟨x, y, 1⟩ = x + y := totV_ok hd
  obtain ⟨x1, x2, x3, x4, x5, x6⟩ := ok_bd hok
  obtain ⟨d1, d2, d3, d4, d5, d6⟩ := ok_bd hd
  simp only at x1 x2 x3 x4 x5 x6 d1 d2 d3 d4 d5 d6
  have HO := Lib.hid hok
  have HD := Lib.hid hd
  clear hok hd hn
  rcases hx with ⟨hx, rfl⟩ | ⟨hx, rfl⟩
  all_goals
    rcases hy with ⟨hy, rfl⟩ | ⟨hy, rfl⟩
    all_goals
      try (have t1 : (a / 2 + 1 == a) = false := by (rw [beq_eq_false_iff_ne]; omega))
      go_enter Try.func6, Try.ntmps6
      go_wp2_with (first | (go_at_call 25; refine (rcheck_any ⟨_, _, _⟩ _ hc).mono ?_; rintro e w1 ⟨rfl, hb⟩; obtain ⟨cl1, fr1⟩ := bcell hb; have sz1 := hb.size; (try simp at sz1); (try have sy1 : w.heap.size + 1 < (w1).heap.size := (by omega)); have sx1 : w.heap.size < (w1).heap.size := (by omega)))
      have A1 : Lies w1 w.heap.size 23 [.int .i32 a, .int .i32 b, .int .u8 l] := Lies.past (Lies.fresh _ _ _) hb
      clear cl1 fr1
      refine (Next_any _ _ _ _ _ hc (by omega) (by omega)).mono ?_
      rintro e w2 ⟨rfl, hb2⟩
      rw [n1, n2]
      have A2 : Lies w2 w.heap.size 23 [.int .i32 a, .int .i32 b, .int .u8 l] := Lies.past A1 hb2
      clear A1
      have HA2 := Lib.hid A2
      clear A2
      go_wp2_with fail
      refine (Total_any _ _ _ _ (cin HD.out)).mono ?_
      rintro e w3 ⟨rfl, hb3⟩
      rw [n3, E2]
      have A3 : Lies w3 w.heap.size 23 [.int .i32 a, .int .i32 b, .int .u8 l] := Lies.past (HA2.out.alloc _) hb3
      have B3 := Lies.past (Lies.fresh w2 23 _) hb3
      obtain ⟨b0, b1, b2, g0, g1, g2⟩ := B3.three
      have HA3 := Lib.hid A3
      have HB3 := Lib.hid B3
      clear A3 B3
      go_wp2_with fail
      refine (check_any ⟨_, _, _⟩ _ (cin HD.out)).mono ?_
      rintro e w4 ⟨rfl, hb4⟩
      rw [E2]
      have HA4 := Lib.hid (HA3.out.past hb4)
      have HB4 := Lib.hid (HB3.out.past hb4)
      obtain ⟨b0, b1, b2, g0, g1, g2⟩ := HB4.out.three
      go_wp2_with fail
      refine (rcheck_any ⟨_, _, _⟩ _ (cin HD.out)).mono ?_
      rintro e w5 ⟨rfl, hb5⟩
      rw [E2]
      have HA5 := Lib.hid (HA4.out.past hb5)
      have HB5 := Lib.hid (HB4.out.past hb5)
      obtain ⟨b0, b1, b2, g0, g1, g2⟩ := HB5.out.three
      obtain ⟨a0, a1, a2, f0, f1, f2⟩ := HA5.out.three
      go_wp2_with (first | (go_at_call 21; refine (alive _).mono ?_; rintro e w' ⟨rfl, hb6⟩))
      all_goals
        go_ret
        refine ⟨?_, by (repeat' (first | (with_reducible exact Below.refl _ _) | (with_reducible assumption) | (with_reducible refine below_drewN ?_ _) | (with_reducible refine below_new ?_ _) | (with_reducible refine Below.alloc ?_ ?_ _) | (with_reducible refine Below.drew ?_) | (with_reducible refine Below.setCell ?_ ?_ _) | (with_reducible apply below_on; (with_reducible assumption)) | (go_size; done) | (with_reducible apply size_of)))⟩
        first
        | exact rfl
        | exact retb (by simp; omega)
theorem bounds (c : Cnt) (bit : Int) (w : World) (hc : CntIn c) (h1 : 0 ≤ bit) (h2 : bit ≤ 255) :
    Calls Try.prog 6 #[.agg #[.int .i32 (c).a, .int .i32 (c).b, .int .u8 (c).l], .int .u8 bit] w fun e w' => e = .returned (.bool true) ∧ Below w.heap.size w w' := by
  obtain ⟨a, b, l⟩ := c
  cases hok : ok ⟨a, b, l⟩
  · exact bounds_bad a b l bit w hc h1 h2 (.inl hok)
  · by_cases hb : 1 < bit
    · exact bounds_bad a b l bit w hc h1 h2 (.inr hb)
    · rcases (show bit = 0 ∨ bit = 1 by omega) with rfl | rfl
      · refine bounds_zero a b l (more a) (shr b) w hok (nx_ok (bit := 0) hok (.inl rfl)) (more_cases a) ?_ rfl
        have := shr_cases b
        omega
      · refine bounds_one a b l (shr a) (more b) w hok (nx_ok (bit := 1) hok (.inr rfl)) ?_ (more_cases b) rfl
        have := shr_cases a
        omega
end Go.Proofs.Ytkpcopecndpfjaa.cntL
