/- What the functions of package states and of its reference return, by walks: the second part. -/
import Derived.Test.YtkklmclnjmafaaaStW
namespace Go.Proofs.Ytkklmclnjmafaaa.stW
set_option maxRecDepth 100000
open Go.RowKit Go.Proofs.Ytkklmclnjmafaaa.base Go.Proofs.Ytkklmclnjmafaaa.cntP Go.Proofs.Ytkklmclnjmafaaa.stP Go.Proofs.Ytkklmclnjmafaaa.cntW
set_option linter.unusedVariables false
set_option linter.unusedSimpArgs false
theorem cin' {c : Cnt} (h : ok c = true) : CntIn c := by
  have := ok_bd h
  exact ⟨by omega, by omega, by omega, by omega, by omega, by omega⟩
set_option maxHeartbeats 1000000 in
theorem Number_ok (a b l : Int) (w : World) (hok : ok ⟨a, b, l⟩ = true) :
    Calls Try.prog 57 #[.agg #[.int .i32 (a), .int .i32 (b), .int .u8 (l)]] w fun e w' => e = .returned (.tuple #[.int .u8 (sOf ⟨a, b, l⟩), .int .i64 0]) ∧ Below w.heap.size w w' := by
  have hc := cin' hok
  have E := chk_yes hok
  have hi := (ok_iff _).1 hok
  obtain ⟨x1, x2, x3, x4, x5, x6⟩ := ok_bd hok
  simp only at hi x1 x2 x3 x4 x5 x6
  by_cases h1 : a = 0 ∧ b = 0
  · obtain ⟨rfl, rfl⟩ := h1
    obtain rfl : l = 0 := by omega
    have e : sOf ⟨0, 0, 0⟩ = 0 := by simp [sOf]
    rw [e]
    clear e hi hok
    go_enter Try.func57, Try.ntmps57
    go_wp2_with (first | (go_at_call 55; refine (check_any ⟨_, _, _⟩ _ hc).mono ?_; rintro e w1 ⟨rfl, hb⟩; obtain ⟨cl1, fr1⟩ := bcell hb; have sz1 := hb.size; (try simp at sz1); (try have sy1 : w.heap.size + 1 < (w1).heap.size := (by omega)); have sx1 : w.heap.size < (w1).heap.size := (by omega)))
    go_ret2
    exact ⟨rfl, by (repeat' (first | (with_reducible exact Below.refl _ _) | (with_reducible assumption) | (with_reducible refine below_drewN ?_ _) | (with_reducible refine below_new ?_ _) | (with_reducible refine Below.alloc ?_ ?_ _) | (with_reducible refine Below.drew ?_) | (with_reducible refine Below.setCell ?_ ?_ _) | (with_reducible apply below_at; (case k => (with_reducible assumption)); (case hB => omega)) | (with_reducible apply below_on; (with_reducible assumption)) | (go_size; done) | (with_reducible apply size_of)))⟩
  · by_cases h2 : l = 0
    · subst h2
      have e : sOf ⟨a, b, 0⟩ = (a - 1) * 8 + b + 1 := by simp [sOf, h1]
      rw [e]
      clear e
      have y1 : 1 ≤ a := by omega
      have y2 : b ≤ 7 := by omega
      have y3 : (a == 0) = false := by rw [beq_eq_false_iff_ne]; omega
      clear hi hok h1
      go_enter Try.func57, Try.ntmps57
      go_wp2_with (first | (go_at_call 55; refine (check_any ⟨_, _, _⟩ _ hc).mono ?_; rintro e w1 ⟨rfl, hb⟩; obtain ⟨cl1, fr1⟩ := bcell hb; have sz1 := hb.size; (try simp at sz1); (try have sy1 : w.heap.size + 1 < (w1).heap.size := (by omega)); have sx1 : w.heap.size < (w1).heap.size := (by omega)))
      go_quiet (fail)
      go_wp2
      go_ret2
      exact ⟨rfl, by (repeat' (first | (with_reducible exact Below.refl _ _) | (with_reducible assumption) | (with_reducible refine below_drewN ?_ _) | (with_reducible refine below_new ?_ _) | (with_reducible refine Below.alloc ?_ ?_ _) | (with_reducible refine Below.drew ?_) | (with_reducible refine Below.setCell ?_ ?_ _) | (with_reducible apply below_at; (case k => (with_reducible assumption)); (case hB => omega)) | (with_reducible apply below_on; (with_reducible assumption)) | (go_size; done) | (with_reducible apply size_of)))⟩
    · obtain rfl : l = 1 := by omega
      have e : sOf ⟨a, b, 1⟩ = (11 + b) * 8 + a + 1 := by simp [sOf, h1]
      rw [e]
      clear e
      have y1 : 1 ≤ b := by omega
      have y2 : a ≤ 7 := by omega
      have y3 : (b == 0) = false := by rw [beq_eq_false_iff_ne]; omega
      have HY : Hid ((12 + b - 1) * 8 + a + 1 = (11 + b) * 8 + a + 1) := Lib.hid (by omega)
      clear hi hok h1 h2
      by_cases h3 : a = 0
      · subst h3
        go_enter Try.func57, Try.ntmps57
        go_wp2_with (first | (go_at_call 55; refine (check_any ⟨_, _, _⟩ _ hc).mono ?_; rintro e w1 ⟨rfl, hb⟩; obtain ⟨cl1, fr1⟩ := bcell hb; have sz1 := hb.size; (try simp at sz1); (try have sy1 : w.heap.size + 1 < (w1).heap.size := (by omega)); have sx1 : w.heap.size < (w1).heap.size := (by omega)))
        go_quiet (fail)
        go_wp2
        go_ret2
        exact ⟨ret2 (by omega) rfl, by (repeat' (first | (with_reducible exact Below.refl _ _) | (with_reducible assumption) | (with_reducible refine below_drewN ?_ _) | (with_reducible refine below_new ?_ _) | (with_reducible refine Below.alloc ?_ ?_ _) | (with_reducible refine Below.drew ?_) | (with_reducible refine Below.setCell ?_ ?_ _) | (with_reducible apply below_at; (case k => (with_reducible assumption)); (case hB => omega)) | (with_reducible apply below_on; (with_reducible assumption)) | (go_size; done) | (with_reducible apply size_of)))⟩
      · have y5 : (a == 0) = false := by simpa using h3
        clear h3
        go_enter Try.func57, Try.ntmps57
        go_wp2_with (first | (go_at_call 55; refine (check_any ⟨_, _, _⟩ _ hc).mono ?_; rintro e w1 ⟨rfl, hb⟩; obtain ⟨cl1, fr1⟩ := bcell hb; have sz1 := hb.size; (try simp at sz1); (try have sy1 : w.heap.size + 1 < (w1).heap.size := (by omega)); have sx1 : w.heap.size < (w1).heap.size := (by omega)))
        go_quiet (fail)
        go_wp2
        go_ret2
        exact ⟨ret2 (by omega) rfl, by (repeat' (first | (with_reducible exact Below.refl _ _) | (with_reducible assumption) | (with_reducible refine below_drewN ?_ _) | (with_reducible refine below_new ?_ _) | (with_reducible refine Below.alloc ?_ ?_ _) | (with_reducible refine Below.drew ?_) | (with_reducible refine Below.setCell ?_ ?_ _) | (with_reducible apply below_at; (case k => (with_reducible assumption)); (case hB => omega)) | (with_reducible apply below_on; (with_reducible assumption)) | (go_size; done) | (with_reducible apply size_of)))⟩
set_option maxHeartbeats 1000000 in
theorem Number_any (c : Cnt) (w : World) (hc : CntIn c) :
    Calls Try.prog 57 #[.agg #[.int .i32 (c).a, .int .i32 (c).b, .int .u8 (c).l]] w fun e w' => e = .returned (.tuple #[.int .u8 (numV c), .int .i64 (chk c)]) ∧ Below w.heap.size w w' := by
  cases hok : ok c
  · have E' : chk ⟨c.a, c.b, c.l⟩ = 8 := chk_no hok
    have e1 : numV c = 0 := by simp [numV, hok]
    rw [e1, chk_no hok]
    clear e1 hok
    go_enter Try.func57, Try.ntmps57
    go_wp2_with (first | (go_at_call 55; refine (check_any ⟨_, _, _⟩ _ hc).mono ?_; rintro e w1 ⟨rfl, hb⟩; obtain ⟨cl1, fr1⟩ := bcell hb; have sz1 := hb.size; (try simp at sz1); (try have sy1 : w.heap.size + 1 < (w1).heap.size := (by omega)); have sx1 : w.heap.size < (w1).heap.size := (by omega)))
    go_ret2
    exact ⟨rfl, by (repeat' (first | (with_reducible exact Below.refl _ _) | (with_reducible assumption) | (with_reducible refine below_drewN ?_ _) | (with_reducible refine below_new ?_ _) | (with_reducible refine Below.alloc ?_ ?_ _) | (with_reducible refine Below.drew ?_) | (with_reducible refine Below.setCell ?_ ?_ _) | (with_reducible apply below_at; (case k => (with_reducible assumption)); (case hB => omega)) | (with_reducible apply below_on; (with_reducible assumption)) | (go_size; done) | (with_reducible apply size_of)))⟩
  · have e1 : numV c = sOf c := by simp [numV, hok]
    rw [e1, chk_yes hok]
    exact Number_ok c.a c.b c.l w hok
set_option maxHeartbeats 1000000 in
theorem rThen_any (s bit : Int) (w : World) (h1 : 0 ≤ s) (h2 : s ≤ 192) (hb : bit = 0 ∨ bit = 1) :
    Calls Try.prog 43 #[.int .u8 s, .int .u8 bit] w fun e w' => e = .returned (.int .u8 (sNext s bit)) ∧ Below w.heap.size w w' := by
  have hok := sBack_ok h1 (by omega)
  obtain ⟨x1, x2, x3, x4, x5, x6⟩ := ok_bd hok
  have HN := Lib.hid (nx_ok hok hb)
  have HB := Lib.hid hb
  clear hok hb
  go_enter Try.func43, Try.ntmps43
  go_wp2_with (first | (go_at_call 54; refine (rBack_any _ _ h1 h2).mono ?_; rintro e w' ⟨rfl, hb1⟩) | (go_at_call 53; refine (rafter_any _ _ _ _ _ x1 x2 x3 x4 HB.out).mono ?_; rintro e w' ⟨rfl, hb2⟩) | (go_at_call 52; refine (rOf_any _ _ _ _ HN.out).mono ?_; rintro e w' ⟨rfl, hb3⟩))
  go_ret
  exact ⟨rfl, by (repeat' (first | (with_reducible exact Below.refl _ _) | (with_reducible assumption) | (with_reducible refine below_drewN ?_ _) | (with_reducible refine below_new ?_ _) | (with_reducible refine Below.alloc ?_ ?_ _) | (with_reducible refine Below.drew ?_) | (with_reducible refine Below.setCell ?_ ?_ _) | (with_reducible apply below_at; (case k => (with_reducible assumption)); (case hB => omega)) | (with_reducible apply below_on; (with_reducible assumption)) | (go_size; done) | (with_reducible apply size_of)))⟩
end Go.Proofs.Ytkklmclnjmafaaa.stW
