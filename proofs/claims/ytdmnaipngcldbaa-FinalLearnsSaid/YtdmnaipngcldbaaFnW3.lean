/- Whether maps are valid, of the reference; great ones: walks. -/
import Derived.Test.YtdmnaipngcldbaaFnW2
namespace Go.Proofs.Ytdmnaipngcldbaa.fnW
set_option maxRecDepth 100000
open Go.RowKit Go.Proofs.Ytdmnaipngcldbaa.base Go.Proofs.Ytdmnaipngcldbaa.rfP Go.Proofs.Ytdmnaipngcldbaa.rfW Go.Proofs.Ytdmnaipngcldbaa.fnP
set_option linter.unusedVariables false
set_option linter.unusedSimpArgs false
set_option maxHeartbeats 800000 in
theorem rCheck_any (P : Option Addr) (m c : Nat) (rs : List RY) (Q : Option Addr) (n d : Nat) (qs : List RY) (w : World) (h : RowsY w P m c rs) (h' : RowsY w Q n d qs) :
    Calls Try.prog 13 #[.agg #[.slice P m c, .slice Q n d]] w fun e w' => e = .returned (.int .i64 (fnE (numsY rs) (numsY qs))) ∧ Below w.heap.size w w' := by
  have HL : Hid ((numsY rs).length = m ∧ (numsY qs).length = n) := Lib.hid ⟨by rw [nums_len]; exact h.l, by rw [nums_len]; exact h'.l⟩
  have m9 : (m : Int) ≤ 9223372036854775807 := by have := h.c1; have := h.c2; omega
  have n9 : (n : Int) ≤ 9223372036854775807 := by have := h'.c1; have := h'.c2; omega
  have S0 : Hid (FnAt (w.alloc (.cells #[.slice P m c, .slice Q n d] 26)) w.heap.size P m c rs Q n d qs ∧ Below w.heap.size w (w.alloc (.cells #[.slice P m c, .slice Q n d] 26))) := Lib.hid ⟨fnAt_new h h', by (repeat' (first | (with_reducible exact Below.refl _ _) | (with_reducible assumption) | (with_reducible refine below_drewN ?_ _) | (with_reducible refine below_new ?_ _) | (with_reducible refine Below.alloc ?_ ?_ _) | (with_reducible refine Below.drew ?_) | (with_reducible refine Below.setCell ?_ ?_ _) | (with_reducible apply below_at; (case k => (with_reducible assumption)); (case hB => omega)) | (with_reducible apply below_on; (with_reducible assumption)) | (go_size; done) | (with_reducible apply size_of)))⟩
  clear h h'
  by_cases c1 : m = 256
  · subst c1
    by_cases c2 : n = 256
    · subst c2
      go_enter Try.func13, Try.ntmps13
      go_wp2_with fail
      generalize hw0 : (w.alloc (.cells #[.slice P 256 c, .slice Q 256 d] 26)) = w0 at *
      clear hw0
      refine (rfW.rCheck_any P 256 c rs w0 S0.out.1.r1).mono ?_
      rintro e w1 ⟨rfl, b1⟩
      have S1 : Hid (FnAt w1 w.heap.size P 256 c rs Q 256 d qs ∧ Below w.heap.size w w1) := Lib.hid ⟨S0.out.1.past b1, below_bs S0.out.2 b1⟩
      clear b1 S0
      cases hr : rfB (numsY rs)
      · have HN := Lib.hid (fnE_no (fn_a (x := numsY rs) (y := numsY qs) (good_no hr)))
        rw [rfE_no hr]
        clear hr
        go_wp2_with fail
        go_ret
        exact ⟨by rw [HN.out]; rfl, S1.out.2⟩
      have HR := Lib.hid hr
      rw [rfE_yes hr]
      clear hr
      have x1 := S1.out.1.c1
      go_wp2_with fail
      clear x1
      refine (rfW.rCheck_any Q 256 d qs w1 S1.out.1.r2).mono ?_
      rintro e w2 ⟨rfl, b2⟩
      have S2 := Lib.hid (below_bs S1.out.2 b2)
      clear b2 S1
      cases hq : rfB (numsY qs)
      · have HN := Lib.hid (fnE_no (fn_b (x := numsY rs) (y := numsY qs) (good_no hq)))
        rw [rfE_no hq]
        clear hq
        go_wp2_with fail
        go_ret
        exact ⟨by rw [HN.out]; rfl, S2.out⟩
      have HY := Lib.hid (fnE_yes (fn_both (good_yes (by have := HL.out; omega) HR.out) (good_yes (by have := HL.out; omega) hq)))
      rw [rfE_yes hq]
      clear hq
      go_wp2_with fail
      go_ret
      exact ⟨by rw [HY.out]; rfl, S2.out⟩
    · have HN := Lib.hid (fnE_no (fn_b (x := numsY rs) (y := numsY qs) (good_len (by have := HL.out; omega))))
      have c3 : ((n : Int) != 256) = true := by simp; omega
      have c4 : ¬ (n : Int) = 256 := by omega
      clear c2
      go_enter Try.func13, Try.ntmps13
      go_wp2_with fail
      go_ret
      exact ⟨by rw [HN.out]; rfl, S0.out.2⟩
  · have HN := Lib.hid (fnE_no (fn_a (x := numsY rs) (y := numsY qs) (good_len (by have := HL.out; omega))))
    have c3 : ((m : Int) != 256) = true := by simp; omega
    have c4 : ¬ (m : Int) = 256 := by omega
    clear c1
    go_enter Try.func13, Try.ntmps13
    go_wp2_with fail
    go_ret
    exact ⟨by rw [HN.out]; rfl, S0.out.2⟩
set_option maxHeartbeats 400000 in
theorem Great_any (P : Option Addr) (m c : Nat) (rs : List RY) (Q : Option Addr) (n d : Nat) (qs : List RY) (w : World) (h : RowsY w P m c rs) (h' : RowsY w Q n d qs) :
    Calls Try.prog 4 #[.agg #[.slice P m c, .slice Q n d]] w fun e w' => e = .returned (.bool (greatB (numsY rs) || greatB (numsY qs))) ∧ Below w.heap.size w w' := by
  have S0 : Hid (FnAt (w.alloc (.cells #[.slice P m c, .slice Q n d] 26)) w.heap.size P m c rs Q n d qs ∧ Below w.heap.size w (w.alloc (.cells #[.slice P m c, .slice Q n d] 26))) := Lib.hid ⟨fnAt_new h h', by (repeat' (first | (with_reducible exact Below.refl _ _) | (with_reducible assumption) | (with_reducible refine below_drewN ?_ _) | (with_reducible refine below_new ?_ _) | (with_reducible refine Below.alloc ?_ ?_ _) | (with_reducible refine Below.drew ?_) | (with_reducible refine Below.setCell ?_ ?_ _) | (with_reducible apply below_at; (case k => (with_reducible assumption)); (case hB => omega)) | (with_reducible apply below_on; (with_reducible assumption)) | (go_size; done) | (with_reducible apply size_of)))⟩
  clear h h'
  go_enter Try.func4, Try.ntmps4
  go_wp2_with fail
  generalize hw0 : (w.alloc (.cells #[.slice P m c, .slice Q n d] 26)) = w0 at *
  clear hw0
  refine (rfW.Great_any P m c rs w0 S0.out.1.r1).mono ?_
  rintro e w1 ⟨rfl, rfl⟩
  cases hr : greatB (numsY rs)
  · have x1 := S0.out.1.c1
    go_wp2_with fail
    clear x1
    refine (rfW.Great_any Q n d qs _ S0.out.1.r2).mono ?_
    rintro e w2 ⟨rfl, rfl⟩
    go_wp2_with fail
    go_ret
    exact ⟨by simp [hr], S0.out.2⟩
  · go_wp2_with fail
    go_ret
    exact ⟨by simp [hr], S0.out.2⟩
end Go.Proofs.Ytdmnaipngcldbaa.fnW
