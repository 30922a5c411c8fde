/- Turn, by walks. -/
import Derived.Test.YtkpcopecndpfjaaCntW3
import Derived.Test.YtkpcopecndpfjaaCntW4
import Derived.Test.YtkpcopecndpfjaaBlock
namespace Go.Proofs.Ytkpcopecndpfjaa.cntW
open Go.RowKit Go.Proofs.Ytkpcopecndpfjaa.base Go.Proofs.Ytkpcopecndpfjaa.cntP
set_option linter.unusedVariables false
set_option linter.unusedSimpArgs false
set_option maxHeartbeats 400000 in
theorem rturned_any (a b l : Int) (w : World) (hok : ok ⟨a, b, l⟩ = true) :
    Calls Try.prog 43 #[.agg #[.int .i32 (a), .int .i32 (b), .int .u8 (l)]] w fun e w' => e = .returned (.agg #[.int .i32 (turn ⟨a, b, l⟩).a, .int .i32 (turn ⟨a, b, l⟩).b, .int .u8 (turn ⟨a, b, l⟩).l]) ∧ Below w.heap.size w w' := by
  have bd := ok_bd hok
  obtain ⟨x1, x2, x3, x4, x5, x6⟩ := bd
  simp only at x1 x2 x3 x4 x5 x6
  have hi := (ok_iff _).1 hok
  simp only at hi
  have HK := Lib.hid hi
  clear hok hi
  by_cases h1 : a = 0
  · subst h1
    by_cases h2 : b = 0
    · subst h2
      have hl : l = 0 := by have := HK.out; omega
      subst hl
      go_enter Try.func43, Try.ntmps43
      go_wp2
      go_returns
      exact ⟨by simp [turn, isZero], by (repeat' (first | (with_reducible exact Below.refl _ _) | (with_reducible assumption) | (with_reducible refine below_drewN ?_ _) | (with_reducible refine below_new ?_ _) | (with_reducible refine Below.alloc ?_ ?_ _) | (with_reducible refine Below.drew ?_) | (with_reducible refine Below.setCell ?_ ?_ _) | (with_reducible apply below_on; (with_reducible assumption)) | (go_size; done) | (with_reducible apply size_of)))⟩
    · have hb : (b == 0) = false := by simpa using h2
      go_enter Try.func43, Try.ntmps43
      go_wp2
      go_returns
      exact ⟨by simp [turn, isZero, h2], by (repeat' (first | (with_reducible exact Below.refl _ _) | (with_reducible assumption) | (with_reducible refine below_drewN ?_ _) | (with_reducible refine below_new ?_ _) | (with_reducible refine Below.alloc ?_ ?_ _) | (with_reducible refine Below.drew ?_) | (with_reducible refine Below.setCell ?_ ?_ _) | (with_reducible apply below_on; (with_reducible assumption)) | (go_size; done) | (with_reducible apply size_of)))⟩
  · have ha : (a == 0) = false := by simpa using h1
    go_enter Try.func43, Try.ntmps43
    go_wp2
    go_returns
    exact ⟨by simp [turn, isZero, h1], by (repeat' (first | (with_reducible exact Below.refl _ _) | (with_reducible assumption) | (with_reducible refine below_drewN ?_ _) | (with_reducible refine below_new ?_ _) | (with_reducible refine Below.alloc ?_ ?_ _) | (with_reducible refine Below.drew ?_) | (with_reducible refine Below.setCell ?_ ?_ _) | (with_reducible apply below_on; (with_reducible assumption)) | (go_size; done) | (with_reducible apply size_of)))⟩
set_option maxHeartbeats 400000 in
theorem rTurn_any (a b l : Int) (w : World) (hc : CntIn ⟨a, b, l⟩) :
    Calls Try.prog 24 #[.agg #[.int .i32 (a), .int .i32 (b), .int .u8 (l)]] w fun e w' => e = .returned (.tuple #[.agg #[.int .i32 (trC ⟨a, b, l⟩).a, .int .i32 (trC ⟨a, b, l⟩).b, .int .u8 (trC ⟨a, b, l⟩).l], .int .i64 (chk ⟨a, b, l⟩)]) ∧ Below w.heap.size w w' := by
  cases hok : ok ⟨a, b, l⟩
  · have E := chk_no hok
    have HK := Lib.hid hok
    clear hok
    go_enter Try.func24, Try.ntmps24
    go_wp2_with (first | (go_at_call 25; refine (rcheck_any ⟨_, _, _⟩ _ hc).mono ?_; rintro e w1 ⟨rfl, hb⟩; obtain ⟨cl1, fr1⟩ := bcell hb; have sz1 := hb.size; (try simp at sz1); (try have sy1 : w.heap.size + 1 < (w1).heap.size := (by omega)); have sx1 : w.heap.size < (w1).heap.size := (by omega)))
    refine bodyPost_ret (by simp [results, Try.results24, go_sem, cl1, sy1]; try rfl) rfl ?_
    exact ⟨by simp [trC, HK.out, E], by (repeat' (first | (with_reducible exact Below.refl _ _) | (with_reducible assumption) | (with_reducible refine below_drewN ?_ _) | (with_reducible refine below_new ?_ _) | (with_reducible refine Below.alloc ?_ ?_ _) | (with_reducible refine Below.drew ?_) | (with_reducible refine Below.setCell ?_ ?_ _) | (with_reducible apply below_on; (with_reducible assumption)) | (go_size; done) | (with_reducible apply size_of)))⟩
  · have E := chk_yes hok
    have HK := Lib.hid hok
    clear hok
    go_enter Try.func24, Try.ntmps24
    go_wp2_with (first | (go_at_call 25; refine (rcheck_any ⟨_, _, _⟩ _ hc).mono ?_; rintro e w1 ⟨rfl, hb⟩; obtain ⟨cl1, fr1⟩ := bcell hb; have sz1 := hb.size; (try simp at sz1); (try have sy1 : w.heap.size + 1 < (w1).heap.size := (by omega)); have sx1 : w.heap.size < (w1).heap.size := (by omega)) | (go_at_call 43; refine (rturned_any _ _ _ _ HK.out).mono ?_; rintro e w' ⟨rfl, hb3⟩; obtain ⟨cl2, fr2⟩ := bcell hb3; have sz2 := hb3.size; (try simp at sz2); (try have sy2 : w.heap.size + 1 < (w').heap.size := (by omega)); have sx2 : w.heap.size < (w').heap.size := (by omega)))
    refine bodyPost_ret (by simp [results, Try.results24, go_sem, cl1, sy1, cl2, sy2]; try rfl) rfl ?_
    exact ⟨by simp [trC, HK.out, E], by (repeat' (first | (with_reducible exact Below.refl _ _) | (with_reducible assumption) | (with_reducible refine below_drewN ?_ _) | (with_reducible refine below_new ?_ _) | (with_reducible refine Below.alloc ?_ ?_ _) | (with_reducible refine Below.drew ?_) | (with_reducible refine Below.setCell ?_ ?_ _) | (with_reducible apply below_on; (with_reducible assumption)) | (go_size; done) | (with_reducible apply size_of)))⟩
set_option maxHeartbeats 400000 in
theorem Turn_any (a b l : Int) (w : World) (hc : CntIn ⟨a, b, l⟩) :
    Calls Try.prog 19 #[.agg #[.int .i32 (a), .int .i32 (b), .int .u8 (l)]] w fun e w' => e = .returned (.tuple #[.agg #[.int .i32 (trC ⟨a, b, l⟩).a, .int .i32 (trC ⟨a, b, l⟩).b, .int .u8 (trC ⟨a, b, l⟩).l], .int .i64 (chk ⟨a, b, l⟩)]) ∧ Below w.heap.size w w' := by
  cases hok : ok ⟨a, b, l⟩
  · have E := chk_no hok
    have HK := Lib.hid hok
    clear hok
    go_enter Try.func19, Try.ntmps19
    go_wp2_with (first | (go_at_call 20; refine (check_any ⟨_, _, _⟩ _ hc).mono ?_; rintro e w1 ⟨rfl, hb⟩; obtain ⟨cl1, fr1⟩ := bcell hb; have sz1 := hb.size; (try simp at sz1); (try have sy1 : w.heap.size + 1 < (w1).heap.size := (by omega)); have sx1 : w.heap.size < (w1).heap.size := (by omega)))
    refine bodyPost_ret (by simp [results, Try.results19, go_sem, cl1, sy1]; try rfl) rfl ?_
    exact ⟨by simp [trC, HK.out, E], by (repeat' (first | (with_reducible exact Below.refl _ _) | (with_reducible assumption) | (with_reducible refine below_drewN ?_ _) | (with_reducible refine below_new ?_ _) | (with_reducible refine Below.alloc ?_ ?_ _) | (with_reducible refine Below.drew ?_) | (with_reducible refine Below.setCell ?_ ?_ _) | (with_reducible apply below_on; (with_reducible assumption)) | (go_size; done) | (with_reducible apply size_of)))⟩
  · have E := chk_yes hok
    have HK := Lib.hid hok
    have bd := ok_bd hok
    obtain ⟨x1, x2, x3, x4, x5, x6⟩ := bd
    simp only at x1 x2 x3 x4 x5 x6
    clear hok
    cases hz : isZero ⟨a, b, l⟩
    · have hne : ¬ (a = 0 ∧ b = 0 ∧ l = 0) := by simpa [isZero] using hz
      have ht : trC ⟨a, b, l⟩ = ⟨b, a, 1 - l⟩ := by simp [trC, turn, hz, HK.out]
      have HT := Lib.hid ht
      clear hz ht
      by_cases h1 : a = 0
      · subst h1
        by_cases h2 : b = 0
        · subst h2
          have hl : (l == 0) = false := by simpa using fun h => hne ⟨rfl, rfl, h⟩
          clear hne
          go_enter Try.func19, Try.ntmps19
          go_wp2_with (first | (go_at_call 20; refine (check_any ⟨_, _, _⟩ _ hc).mono ?_; rintro e w1 ⟨rfl, hb⟩; obtain ⟨cl1, fr1⟩ := bcell hb; have sz1 := hb.size; (try simp at sz1); (try have sy1 : w.heap.size + 1 < (w1).heap.size := (by omega)); have sx1 : w.heap.size < (w1).heap.size := (by omega)))
          refine bodyPost_ret (by simp [results, Try.results19, go_sem, cl1, sy1]; try rfl) rfl ?_
          exact ⟨by rw [HT.out, E], by (repeat' (first | (with_reducible exact Below.refl _ _) | (with_reducible assumption) | (with_reducible refine below_drewN ?_ _) | (with_reducible refine below_new ?_ _) | (with_reducible refine Below.alloc ?_ ?_ _) | (with_reducible refine Below.drew ?_) | (with_reducible refine Below.setCell ?_ ?_ _) | (with_reducible apply below_on; (with_reducible assumption)) | (go_size; done) | (with_reducible apply size_of)))⟩
        · have hb' : (b == 0) = false := by simpa using h2
          clear hne h2
          go_enter Try.func19, Try.ntmps19
          go_wp2_with (first | (go_at_call 20; refine (check_any ⟨_, _, _⟩ _ hc).mono ?_; rintro e w1 ⟨rfl, hb⟩; obtain ⟨cl1, fr1⟩ := bcell hb; have sz1 := hb.size; (try simp at sz1); (try have sy1 : w.heap.size + 1 < (w1).heap.size := (by omega)); have sx1 : w.heap.size < (w1).heap.size := (by omega)))
          refine bodyPost_ret (by simp [results, Try.results19, go_sem, cl1, sy1]; try rfl) rfl ?_
          exact ⟨by rw [HT.out, E], by (repeat' (first | (with_reducible exact Below.refl _ _) | (with_reducible assumption) | (with_reducible refine below_drewN ?_ _) | (with_reducible refine below_new ?_ _) | (with_reducible refine Below.alloc ?_ ?_ _) | (with_reducible refine Below.drew ?_) | (with_reducible refine Below.setCell ?_ ?_ _) | (with_reducible apply below_on; (with_reducible assumption)) | (go_size; done) | (with_reducible apply size_of)))⟩
      · have ha' : (a == 0) = false := by simpa using h1
        clear hne h1
        go_enter Try.func19, Try.ntmps19
        go_wp2_with (first | (go_at_call 20; refine (check_any ⟨_, _, _⟩ _ hc).mono ?_; rintro e w1 ⟨rfl, hb⟩; obtain ⟨cl1, fr1⟩ := bcell hb; have sz1 := hb.size; (try simp at sz1); (try have sy1 : w.heap.size + 1 < (w1).heap.size := (by omega)); have sx1 : w.heap.size < (w1).heap.size := (by omega)))
        refine bodyPost_ret (by simp [results, Try.results19, go_sem, cl1, sy1]; try rfl) rfl ?_
        exact ⟨by rw [HT.out, E], by (repeat' (first | (with_reducible exact Below.refl _ _) | (with_reducible assumption) | (with_reducible refine below_drewN ?_ _) | (with_reducible refine below_new ?_ _) | (with_reducible refine Below.alloc ?_ ?_ _) | (with_reducible refine Below.drew ?_) | (with_reducible refine Below.setCell ?_ ?_ _) | (with_reducible apply below_on; (with_reducible assumption)) | (go_size; done) | (with_reducible apply size_of)))⟩
    · have hn : a = 0 ∧ b = 0 ∧ l = 0 := by simpa [isZero, and_assoc] using hz
      obtain ⟨rfl, rfl, rfl⟩ := hn
      clear hz
      go_enter Try.func19, Try.ntmps19
      go_wp2_with (first | (go_at_call 20; refine (check_any ⟨_, _, _⟩ _ hc).mono ?_; rintro e w1 ⟨rfl, hb⟩; obtain ⟨cl1, fr1⟩ := bcell hb; have sz1 := hb.size; (try simp at sz1); (try have sy1 : w.heap.size + 1 < (w1).heap.size := (by omega)); have sx1 : w.heap.size < (w1).heap.size := (by omega)))
      refine bodyPost_ret (by simp [results, Try.results19, go_sem, cl1, sy1]; try rfl) rfl ?_
      exact ⟨by simp [trC, turn, isZero, HK.out, E], by (repeat' (first | (with_reducible exact Below.refl _ _) | (with_reducible assumption) | (with_reducible refine below_drewN ?_ _) | (with_reducible refine below_new ?_ _) | (with_reducible refine Below.alloc ?_ ?_ _) | (with_reducible refine Below.drew ?_) | (with_reducible refine Below.setCell ?_ ?_ _) | (with_reducible apply below_on; (with_reducible assumption)) | (go_size; done) | (with_reducible apply size_of)))⟩
end Go.Proofs.Ytkpcopecndpfjaa.cntW
