/- What the functions of package states and of its reference return, by walks. -/
import Derived.Test.YtkklmclnjmafaaaCntW8
import Derived.Test.YtkklmclnjmafaaaCntW9
import Derived.Test.YtkklmclnjmafaaaStPlain
namespace Go.Proofs.Ytkklmclnjmafaaa.stW
set_option maxRecDepth 100000
open Go.RowKit Go.Proofs.Ytkklmclnjmafaaa.base Go.Proofs.Ytkklmclnjmafaaa.cntP Go.Proofs.Ytkklmclnjmafaaa.stP Go.Proofs.Ytkklmclnjmafaaa.cntW
set_option linter.unusedVariables false
set_option linter.unusedSimpArgs false
set_option maxHeartbeats 1000000 in
theorem Count_low (s : Int) (w : World) (h1 : 1 ≤ s) (h2 : s ≤ 96) :
    Calls Try.prog 44 #[.int .u8 s] w fun e w' => e = .returned (.tuple #[.agg #[.int .i32 ((s - 1) / 8 + 1), .int .i32 ((s - 1) % 8), .int .u8 (0)], .int .i64 0]) ∧ Below w.heap.size w w' := by
  have q1 : 0 ≤ (s - 1) / 8 := by omega
  have q2 : (s - 1) / 8 < 12 := by omega
  have q3 : (s - 1) / 8 / 12 = 0 := by omega
  have q4 : (s - 1) / 8 % 12 = (s - 1) / 8 := by omega
  go_enter Try.func44, Try.ntmps44
  go_wp2
  go_returns
  exact ⟨rfl, by (repeat' (first | (with_reducible exact Below.refl _ _) | (with_reducible assumption) | (with_reducible refine below_drewN ?_ _) | (with_reducible refine below_new ?_ _) | (with_reducible refine Below.alloc ?_ ?_ _) | (with_reducible refine Below.drew ?_) | (with_reducible refine Below.setCell ?_ ?_ _) | (with_reducible apply below_at; (case k => (with_reducible assumption)); (case hB => omega)) | (with_reducible apply below_on; (with_reducible assumption)) | (go_size; done) | (with_reducible apply size_of)))⟩
set_option maxHeartbeats 1000000 in
theorem Count_high (s : Int) (w : World) (h1 : 97 ≤ s) (h2 : s ≤ 192) :
    Calls Try.prog 44 #[.int .u8 s] w fun e w' => e = .returned (.tuple #[.agg #[.int .i32 ((s - 1) % 8), .int .i32 ((s - 1) / 8 - 11), .int .u8 (1)], .int .i64 0]) ∧ Below w.heap.size w w' := by
  have q1 : 12 ≤ (s - 1) / 8 := by omega
  have q2 : (s - 1) / 8 < 24 := by omega
  have q3 : (s - 1) / 8 / 12 = 1 := by omega
  have q4 : (s - 1) / 8 % 12 = (s - 1) / 8 - 12 := by omega
  have q5 : (s - 1) / 8 - 12 + 1 = (s - 1) / 8 - 11 := by omega
  go_enter Try.func44, Try.ntmps44
  go_wp2
  go_returns
  exact ⟨rfl, by (repeat' (first | (with_reducible exact Below.refl _ _) | (with_reducible assumption) | (with_reducible refine below_drewN ?_ _) | (with_reducible refine below_new ?_ _) | (with_reducible refine Below.alloc ?_ ?_ _) | (with_reducible refine Below.drew ?_) | (with_reducible refine Below.setCell ?_ ?_ _) | (with_reducible apply below_at; (case k => (with_reducible assumption)); (case hB => omega)) | (with_reducible apply below_on; (with_reducible assumption)) | (go_size; done) | (with_reducible apply size_of)))⟩
set_option maxHeartbeats 1000000 in
theorem Count_any (s : Int) (w : World) (h1 : 0 ≤ s) (h2 : s ≤ 255) :
    Calls Try.prog 44 #[.int .u8 s] w fun e w' => e = .returned (.tuple #[.agg #[.int .i32 (cntC s).a, .int .i32 (cntC s).b, .int .u8 (cntC s).l], .int .i64 (cntE s)]) ∧ Below w.heap.size w w' := by
  by_cases c1 : 193 ≤ s
  · have e1 : cntC s = ⟨0, 0, 0⟩ := by unfold cntC; rw [if_neg (by omega)]
    have e2 : cntE s = 2 := by unfold cntE; rw [if_neg (by omega)]
    rw [e1, e2]
    clear e1 e2
    go_enter Try.func44, Try.ntmps44
    go_wp2
    go_returns
    exact ⟨rfl, by (repeat' (first | (with_reducible exact Below.refl _ _) | (with_reducible assumption) | (with_reducible refine below_drewN ?_ _) | (with_reducible refine below_new ?_ _) | (with_reducible refine Below.alloc ?_ ?_ _) | (with_reducible refine Below.drew ?_) | (with_reducible refine Below.setCell ?_ ?_ _) | (with_reducible apply below_at; (case k => (with_reducible assumption)); (case hB => omega)) | (with_reducible apply below_on; (with_reducible assumption)) | (go_size; done) | (with_reducible apply size_of)))⟩
  · have e1 : cntC s = sBack s := by unfold cntC; rw [if_pos (by omega)]
    have e2 : cntE s = 0 := by unfold cntE; rw [if_pos (by omega)]
    rw [e1, e2]
    clear e1 e2
    by_cases c2 : s = 0
    · subst c2
      have e3 : sBack 0 = ⟨0, 0, 0⟩ := rfl
      rw [e3]
      clear e3
      go_enter Try.func44, Try.ntmps44
      go_wp2
      go_returns
      exact ⟨rfl, by (repeat' (first | (with_reducible exact Below.refl _ _) | (with_reducible assumption) | (with_reducible refine below_drewN ?_ _) | (with_reducible refine below_new ?_ _) | (with_reducible refine Below.alloc ?_ ?_ _) | (with_reducible refine Below.drew ?_) | (with_reducible refine Below.setCell ?_ ?_ _) | (with_reducible apply below_at; (case k => (with_reducible assumption)); (case hB => omega)) | (with_reducible apply below_on; (with_reducible assumption)) | (go_size; done) | (with_reducible apply size_of)))⟩
    · by_cases c3 : s ≤ 96
      · rw [sBack_low (by omega) c3]
        exact Count_low s w (by omega) c3
      · rw [sBack_high (by omega)]
        exact Count_high s w (by omega) (by omega)
set_option maxHeartbeats 1000000 in
theorem rBack_any (s : Int) (w : World) (h1 : 0 ≤ s) (h2 : s ≤ 192) :
    Calls Try.prog 54 #[.int .u8 s] w fun e w' => e = .returned (.agg #[.int .i32 (sBack s).a, .int .i32 (sBack s).b, .int .u8 (sBack s).l]) ∧ Below w.heap.size w w' := by
  by_cases c2 : s = 0
  · subst c2
    have e3 : sBack 0 = ⟨0, 0, 0⟩ := rfl
    rw [e3]
    clear e3
    go_enter Try.func54, Try.ntmps54
    go_wp2
    go_returns
    exact ⟨rfl, by (repeat' (first | (with_reducible exact Below.refl _ _) | (with_reducible assumption) | (with_reducible refine below_drewN ?_ _) | (with_reducible refine below_new ?_ _) | (with_reducible refine Below.alloc ?_ ?_ _) | (with_reducible refine Below.drew ?_) | (with_reducible refine Below.setCell ?_ ?_ _) | (with_reducible apply below_at; (case k => (with_reducible assumption)); (case hB => omega)) | (with_reducible apply below_on; (with_reducible assumption)) | (go_size; done) | (with_reducible apply size_of)))⟩
  · by_cases c3 : s ≤ 96
    · rw [sBack_low (by omega) c3]
      have q1 : 0 ≤ (s - 1) / 8 := by omega
      have q2 : (s - 1) / 8 < 12 := by omega
      go_enter Try.func54, Try.ntmps54
      go_wp2
      go_returns
      exact ⟨rfl, by (repeat' (first | (with_reducible exact Below.refl _ _) | (with_reducible assumption) | (with_reducible refine below_drewN ?_ _) | (with_reducible refine below_new ?_ _) | (with_reducible refine Below.alloc ?_ ?_ _) | (with_reducible refine Below.drew ?_) | (with_reducible refine Below.setCell ?_ ?_ _) | (with_reducible apply below_at; (case k => (with_reducible assumption)); (case hB => omega)) | (with_reducible apply below_on; (with_reducible assumption)) | (go_size; done) | (with_reducible apply size_of)))⟩
    · rw [sBack_high (by omega)]
      have q1 : 12 ≤ (s - 1) / 8 := by omega
      have q2 : (s - 1) / 8 < 24 := by omega
      have q5 : (s - 1) / 8 - 12 + 1 = (s - 1) / 8 - 11 := by omega
      go_enter Try.func54, Try.ntmps54
      go_wp2
      go_returns
      exact ⟨rfl, by (repeat' (first | (with_reducible exact Below.refl _ _) | (with_reducible assumption) | (with_reducible refine below_drewN ?_ _) | (with_reducible refine below_new ?_ _) | (with_reducible refine Below.alloc ?_ ?_ _) | (with_reducible refine Below.drew ?_) | (with_reducible refine Below.setCell ?_ ?_ _) | (with_reducible apply below_at; (case k => (with_reducible assumption)); (case hB => omega)) | (with_reducible apply below_on; (with_reducible assumption)) | (go_size; done) | (with_reducible apply size_of)))⟩
theorem rState_any (s : Int) (w : World) : Calls Try.prog 31 #[.int .u8 s] w fun e w' => e = .returned (.bool (decide (s < 193))) ∧ w = w' := by
  go_enter Try.func31, Try.ntmps31
  go_wp2
  go_ret
  exact ⟨rfl, rfl⟩
set_option maxHeartbeats 1000000 in
theorem rOf_any (a b l : Int) (w : World) (hok : ok ⟨a, b, l⟩ = true) :
    Calls Try.prog 52 #[.agg #[.int .i32 (a), .int .i32 (b), .int .u8 (l)]] w fun e w' => e = .returned (.int .u8 (sOf ⟨a, b, l⟩)) ∧ Below w.heap.size w w' := by
  have hi := (ok_iff _).1 hok
  obtain ⟨x1, x2, x3, x4, x5, x6⟩ := ok_bd hok
  simp only at hi x1 x2 x3 x4 x5 x6
  by_cases h1 : a = 0 ∧ b = 0
  · obtain ⟨rfl, rfl⟩ := h1
    have e : sOf ⟨0, 0, l⟩ = 0 := by simp [sOf]
    rw [e]
    clear e hi hok
    go_enter Try.func52, Try.ntmps52
    go_wp2
    go_ret
    exact ⟨rfl, by (repeat' (first | (with_reducible exact Below.refl _ _) | (with_reducible assumption) | (with_reducible refine below_drewN ?_ _) | (with_reducible refine below_new ?_ _) | (with_reducible refine Below.alloc ?_ ?_ _) | (with_reducible refine Below.drew ?_) | (with_reducible refine Below.setCell ?_ ?_ _) | (with_reducible apply below_at; (case k => (with_reducible assumption)); (case hB => omega)) | (with_reducible apply below_on; (with_reducible assumption)) | (go_size; done) | (with_reducible apply size_of)))⟩
  · by_cases h2 : l = 0
    · subst h2
      have e : sOf ⟨a, b, 0⟩ = (a - 1) * 8 + b + 1 := by simp [sOf, h1]
      rw [e]
      clear e
      have y1 : 1 ≤ a := by omega
      have y2 : b ≤ 7 := by omega
      have y3 : (a == 0) = false := by rw [beq_eq_false_iff_ne]; omega
      clear hi hok h1
      go_enter Try.func52, Try.ntmps52
      go_wp2
      go_ret
      exact ⟨rfl, by (repeat' (first | (with_reducible exact Below.refl _ _) | (with_reducible assumption) | (with_reducible refine below_drewN ?_ _) | (with_reducible refine below_new ?_ _) | (with_reducible refine Below.alloc ?_ ?_ _) | (with_reducible refine Below.drew ?_) | (with_reducible refine Below.setCell ?_ ?_ _) | (with_reducible apply below_at; (case k => (with_reducible assumption)); (case hB => omega)) | (with_reducible apply below_on; (with_reducible assumption)) | (go_size; done) | (with_reducible apply size_of)))⟩
    · obtain rfl : l = 1 := by omega
      have e : sOf ⟨a, b, 1⟩ = (11 + b) * 8 + a + 1 := by simp [sOf, h1]
      rw [e]
      clear e
      have y1 : 1 ≤ b := by omega
      have y2 : a ≤ 7 := by omega
      have y3 : (b == 0) = false := by rw [beq_eq_false_iff_ne]; omega
      have y4 : (12 + b - 1) * 8 = (11 + b) * 8 := by omega
      clear hi hok h1 h2
      by_cases h3 : a = 0
      all_goals
        go_enter Try.func52, Try.ntmps52
        go_wp2
        go_ret
        refine ⟨ret1 ?_, by (repeat' (first | (with_reducible exact Below.refl _ _) | (with_reducible assumption) | (with_reducible refine below_drewN ?_ _) | (with_reducible refine below_new ?_ _) | (with_reducible refine Below.alloc ?_ ?_ _) | (with_reducible refine Below.drew ?_) | (with_reducible refine Below.setCell ?_ ?_ _) | (with_reducible apply below_at; (case k => (with_reducible assumption)); (case hB => omega)) | (with_reducible apply below_on; (with_reducible assumption)) | (go_size; done) | (with_reducible apply size_of)))⟩
        first
        | rfl
        | omega
end Go.Proofs.Ytkklmclnjmafaaa.stW
