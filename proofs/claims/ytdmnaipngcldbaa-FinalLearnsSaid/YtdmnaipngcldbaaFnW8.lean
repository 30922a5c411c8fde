/- Learning of the reference; copies and comparisons of maps: walks. -/
import Derived.Test.YtdmnaipngcldbaaFnW7
import Derived.Test.YtdmnaipngcldbaaFnW3
import Derived.Test.YtdmnaipngcldbaaRfWE
namespace Go.Proofs.Ytdmnaipngcldbaa.fnP
set_option maxRecDepth 100000
open Go.Proofs.Ytdmnaipngcldbaa.base Go.Proofs.Ytdmnaipngcldbaa.rfP Go.Proofs.Ytdmnaipngcldbaa.rfW
def rowB18 (r : Int) : Bool := decide (0 ≤ r) && decide (r < 256)
def chB (r0 r1 j0 j1 : Int) : Bool := decide (0 ≤ r0 ∧ r0 < 256 ∧ 0 ≤ r1 ∧ r1 < 256 ∧ 0 ≤ j0 ∧ j0 < 33 ∧ 0 ≤ j1 ∧ j1 < 33)
theorem learn_one {x : List (List Int)} {r j : Int} (h : rfB x = true) (hl : x.length = 256) : learnE x r j = if 0 ≤ r ∧ r < 256 ∧ 0 ≤ j ∧ j < 33 then 0 else 2 := by
  unfold learnE askE
  rw [if_pos h, hl]
  by_cases h1 : r < 0 ∨ ((256 : Nat) : Int) ≤ r
  · rw [if_pos h1, if_neg (by decide), if_neg (by omega)]
  · rw [if_neg h1, if_pos rfl]
    by_cases h2 : j < 0 ∨ 33 ≤ j
    · rw [if_pos h2, if_neg (by omega)]
    · rw [if_neg h2, if_pos (by omega)]
theorem ch_yes {x y : List (List Int)} {r0 r1 j0 j1 : Int} (h : fnB x y = true) (hc : chB r0 r1 j0 j1 = true) : learnE x r0 j0 = 0 ∧ learnE y r1 j1 = 0 ∧ gE x y r0 r1 j0 j1 = 0 := by
  obtain ⟨a1, a2, a3, a4⟩ := (fnB_iff x y).1 h
  have hc := of_decide_eq_true hc
  have e1 : learnE x r0 j0 = 0 := by rw [learn_one a3 a1, if_pos (by omega)]
  have e2 : learnE y r1 j1 = 0 := by rw [learn_one a4 a2, if_pos (by omega)]
  exact ⟨e1, e2, by rw [gE_two h e1, e2]⟩
theorem ch_no {x y : List (List Int)} {r0 r1 j0 j1 : Int} (h : fnB x y = true) (hc : chB r0 r1 j0 j1 = false) : gE x y r0 r1 j0 j1 = 2 := by
  obtain ⟨a1, a2, a3, a4⟩ := (fnB_iff x y).1 h
  have hc := of_decide_eq_false hc
  by_cases h1 : learnE x r0 j0 = 0
  · rw [gE_two h h1]
    rw [learn_one a3 a1] at h1
    rw [learn_one a4 a2]
    split at h1
    · rw [if_neg (by omega)]
    · cases h1
  · rw [gE_one h h1]
    rw [learn_one a3 a1] at h1 ⊢
    split at h1
    · exact absurd rfl h1
    · rw [if_neg (by assumption)]
end Go.Proofs.Ytdmnaipngcldbaa.fnP
namespace Go.Proofs.Ytdmnaipngcldbaa.fnW
set_option maxRecDepth 100000
open Go.RowKit Go.Proofs.Ytdmnaipngcldbaa.base Go.Proofs.Ytdmnaipngcldbaa.rfP Go.Proofs.Ytdmnaipngcldbaa.rfW Go.Proofs.Ytdmnaipngcldbaa.fnP
set_option linter.unusedVariables false
set_option linter.unusedSimpArgs false
theorem row_any (r : Int) (w : World) : Calls Try.prog 22 #[.int .i64 r] w fun e w' => e = .returned (.bool (rowB18 r)) ∧ w' = w := by
  by_cases c1 : 0 ≤ r
  · by_cases c2 : r < 256
    · rw [show rowB18 r = true by simp [rowB18, c1, c2]]
      go_enter Try.func22, Try.ntmps22
      go_wp2_with fail
      go_ret
      exact ⟨rfl, rfl⟩
    · rw [show rowB18 r = false by simp [rowB18, c2]]
      go_enter Try.func22, Try.ntmps22
      go_wp2_with fail
      go_ret
      exact ⟨rfl, rfl⟩
  · rw [show rowB18 r = false by simp [rowB18, c1]]
    have c2 : decide (0 ≤ r) = false := decide_eq_false c1
    go_enter Try.func22, Try.ntmps22
    go_wp2_with fail
    go_ret
    exact ⟨rfl, rfl⟩
set_option maxHeartbeats 800000 in
theorem Chosen_any (r0 r1 j0 j1 : Int) (w : World) :
    Calls Try.prog 14 #[.agg #[.int .i64 r0, .int .i64 r1, .int .i64 j0, .int .i64 j1]] w fun e w' => e = .returned (.bool (chB r0 r1 j0 j1)) ∧ Below w.heap.size w w' := by
  have S0 : Hid (Lies ((w.alloc (.cells #[.int .i64 r0, .int .i64 r1, .int .i64 j0, .int .i64 j1] 29))) (w.heap.size) 29 [.int .i64 (r0), .int .i64 (r1), .int .i64 (j0), .int .i64 (j1)] ∧ Below w.heap.size w (w.alloc (.cells #[.int .i64 r0, .int .i64 r1, .int .i64 j0, .int .i64 j1] 29))) := Lib.hid ⟨Lies.fresh _ _ _, by (repeat' (first | (with_reducible exact Below.refl _ _) | (with_reducible assumption) | (with_reducible refine below_drewN ?_ _) | (with_reducible refine below_new ?_ _) | (with_reducible refine Below.alloc ?_ ?_ _) | (with_reducible refine Below.drew ?_) | (with_reducible refine Below.setCell ?_ ?_ _) | (with_reducible apply below_at; (case k => (with_reducible assumption)); (case hB => omega)) | (with_reducible apply below_on; (with_reducible assumption)) | (go_size; done) | (with_reducible apply size_of)))⟩
  obtain ⟨c0, c1, c2, c3⟩ := four S0.out.1
  go_enter Try.func14, Try.ntmps14
  go_wp2_with fail
  refine (row_any r0 _).mono ?_
  rintro e w1 ⟨rfl, rfl⟩
  cases h0 : rowB18 r0
  · have HC : chB r0 r1 j0 j1 = false := by simp [rowB18] at h0; simp [chB]; omega
    clear h0
    go_wp2_with fail
    go_ret
    exact ⟨by rw [HC]; rfl, S0.out.2⟩
  have d0 : 0 ≤ r0 ∧ r0 < 256 := by simpa [rowB18] using h0
  clear h0
  go_wp2_with fail
  refine (row_any r1 _).mono ?_
  rintro e w2 ⟨rfl, rfl⟩
  cases h1 : rowB18 r1
  · have HC : chB r0 r1 j0 j1 = false := by simp [rowB18] at h1; simp [chB]; omega
    clear h1
    go_wp2_with fail
    go_ret
    exact ⟨by rw [HC]; rfl, S0.out.2⟩
  have d1 : 0 ≤ r1 ∧ r1 < 256 := by simpa [rowB18] using h1
  clear h1
  by_cases a0 : 0 ≤ j0
  case neg =>
    have HC : chB r0 r1 j0 j1 = false := by simp [chB]; omega
    have n0 : decide (0 ≤ j0) = false := decide_eq_false a0
    go_wp2_with fail
    go_ret
    exact ⟨by rw [HC]; rfl, S0.out.2⟩
  by_cases a1 : j0 < 33
  case neg =>
    have HC : chB r0 r1 j0 j1 = false := by simp [chB]; omega
    have n0 : decide (j0 < 33) = false := decide_eq_false a1
    go_wp2_with fail
    go_ret
    exact ⟨by rw [HC]; rfl, S0.out.2⟩
  by_cases b0 : 0 ≤ j1
  case neg =>
    have HC : chB r0 r1 j0 j1 = false := by simp [chB]; omega
    have n0 : decide (0 ≤ j1) = false := decide_eq_false b0
    go_wp2_with fail
    go_ret
    exact ⟨by rw [HC]; rfl, S0.out.2⟩
  by_cases b1 : j1 < 33
  case neg =>
    have HC : chB r0 r1 j0 j1 = false := by simp [chB]; omega
    have n0 : decide (j1 < 33) = false := decide_eq_false b1
    go_wp2_with fail
    go_ret
    exact ⟨by rw [HC]; rfl, S0.out.2⟩
  have HC : chB r0 r1 j0 j1 = true := by simp [chB]; omega
  go_wp2_with fail
  go_ret
  exact ⟨by rw [HC]; rfl, S0.out.2⟩
set_option maxHeartbeats 800000 in
theorem Same_yes (P : Option Addr) (m c : Nat) (rs : List RY) (Q : Option Addr) (n e : Nat) (qs : List RY) (A : Option Addr) (k d : Nat) (us : List RY) (B : Option Addr) (l f : Nat) (vs : List RY) (w : World) (h : RowsY w P m c rs) (h' : RowsY w Q n e qs) (g : RowsY w A k d us) (g' : RowsY w B l f vs) (e1 : numsY rs = numsY us) (e2 : numsY qs = numsY vs) :
    Calls Try.prog 8 #[.agg #[.slice P m c, .slice Q n e], .agg #[.slice A k d, .slice B l f]] w fun v w' => v = .returned (.bool true) ∧ Below w.heap.size w w' := by
  have S0 : Hid (FnAt ((w.alloc (.cells #[.slice P m c, .slice Q n e] 26)).alloc (.cells #[.slice A k d, .slice B l f] 26)) w.heap.size P m c rs Q n e qs ∧ FnAt ((w.alloc (.cells #[.slice P m c, .slice Q n e] 26)).alloc (.cells #[.slice A k d, .slice B l f] 26)) (w.heap.size + 1) A k d us B l f vs ∧ Below w.heap.size w ((w.alloc (.cells #[.slice P m c, .slice Q n e] 26)).alloc (.cells #[.slice A k d, .slice B l f] 26))) := Lib.hid ⟨(fnAt_new h h').alloc _, ⟨Lies.fresh_at (cs := [.slice A k d, .slice B l f]) (by simp), g.past (by (repeat' (first | (with_reducible exact Below.refl _ _) | (with_reducible assumption) | (with_reducible refine below_drewN ?_ _) | (with_reducible refine below_new ?_ _) | (with_reducible refine Below.alloc ?_ ?_ _) | (with_reducible refine Below.drew ?_) | (with_reducible refine Below.setCell ?_ ?_ _) | (with_reducible apply below_at; (case k => (with_reducible assumption)); (case hB => omega)) | (with_reducible apply below_on; (with_reducible assumption)) | (go_size; done) | (with_reducible apply size_of)))), g'.past (by (repeat' (first | (with_reducible exact Below.refl _ _) | (with_reducible assumption) | (with_reducible refine below_drewN ?_ _) | (with_reducible refine below_new ?_ _) | (with_reducible refine Below.alloc ?_ ?_ _) | (with_reducible refine Below.drew ?_) | (with_reducible refine Below.setCell ?_ ?_ _) | (with_reducible apply below_at; (case k => (with_reducible assumption)); (case hB => omega)) | (with_reducible apply below_on; (with_reducible assumption)) | (go_size; done) | (with_reducible apply size_of))))⟩, by (repeat' (first | (with_reducible exact Below.refl _ _) | (with_reducible assumption) | (with_reducible refine below_drewN ?_ _) | (with_reducible refine below_new ?_ _) | (with_reducible refine Below.alloc ?_ ?_ _) | (with_reducible refine Below.drew ?_) | (with_reducible refine Below.setCell ?_ ?_ _) | (with_reducible apply below_at; (case k => (with_reducible assumption)); (case hB => omega)) | (with_reducible apply below_on; (with_reducible assumption)) | (go_size; done) | (with_reducible apply size_of)))⟩
  have E := Lib.hid (And.intro e1 e2)
  clear h h' g g' e1 e2
  go_enter Try.func8, Try.ntmps8
  go_wp2_with fail
  generalize hw0 : ((w.alloc (.cells #[.slice P m c, .slice Q n e] 26)).alloc (.cells #[.slice A k d, .slice B l f] 26)) = w0 at *
  generalize w.heap.size + 1 = g2 at *
  clear hw0
  have x0 := S0.out.2.1.c0
  go_wp2_with fail
  clear x0
  refine (rfW.same17_any P A m c k d rs us w0 S0.out.1.r1 S0.out.2.1.r1).mono ?_
  rintro v w1 ⟨rfl, b1⟩
  rw [show decide (numsY rs = numsY us) = true from decide_eq_true E.out.1]
  have S1 : Hid (FnAt w1 w.heap.size P m c rs Q n e qs ∧ FnAt w1 g2 A k d us B l f vs ∧ Below w.heap.size w w1) := Lib.hid ⟨S0.out.1.past b1, S0.out.2.1.past b1, below_bs S0.out.2.2 b1⟩
  clear b1 S0
  have x0 := S1.out.2.1.c1
  have x1 := S1.out.1.c1
  go_wp2_with fail
  clear x0 x1
  refine (rfW.same17_any Q B n e l f qs vs w1 S1.out.1.r2 S1.out.2.1.r2).mono ?_
  rintro v w2 ⟨rfl, b2⟩
  rw [show decide (numsY qs = numsY vs) = true from decide_eq_true E.out.2]
  have S2 := Lib.hid (below_bs S1.out.2.2 b2)
  clear b2 S1
  go_wp2_with fail
  go_ret
  exact ⟨rfl, S2.out⟩
end Go.Proofs.Ytdmnaipngcldbaa.fnW
