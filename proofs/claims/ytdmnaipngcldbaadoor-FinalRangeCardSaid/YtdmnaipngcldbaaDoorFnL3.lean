/- FinalRange, by a walk. -/
import Derived.Test.YtdmnaipngcldbaaDoorFnW3
import Derived.Test.YtdmnaipngcldbaaDoorFnA1
import Derived.Test.YtdmnaipngcldbaaDoorRfA3
namespace Go.Proofs.YtdmnaipngcldbaaDoor.fnL
set_option maxRecDepth 100000
open Go.RowKit Go.Proofs.YtdmnaipngcldbaaDoor.base Go.Proofs.YtdmnaipngcldbaaDoor.rfP Go.Proofs.YtdmnaipngcldbaaDoor.rfW Go.Proofs.YtdmnaipngcldbaaDoor.fnP Go.Proofs.YtdmnaipngcldbaaDoor.fnW Go.Proofs.YtdmnaipngcldbaaDoor.sqP Go.Proofs.YtdmnaipngcldbaaDoor.sqW
set_option linter.unusedVariables false
set_option linter.unusedSimpArgs false
theorem nearj_bd (t : Nat) (h : t ≤ 4095) : nearJ t < 33 := by unfold nearJ; split <;> omega
theorem lookJ_bd (x : List (List Int)) (r d : Int) (h1 : -2147483648 ≤ d) (h2 : d ≤ 2147483647) : 0 ≤ lookJ x r d ∧ lookJ x r d ≤ 32 := by
  unfold lookJ lookE
  by_cases h : askE x r = 0
  · rw [if_pos h]
    by_cases hd : d < -2047 ∨ 2047 < d
    · rw [if_pos hd, if_neg (by decide)]; decide
    · rw [if_neg hd, if_pos rfl]
      have := nearj_bd (d + 2048).toNat (by omega)
      omega
  · rw [if_neg h, if_neg h]; decide
theorem lookE_bd (x : List (List Int)) (r d : Int) (h : rfB x = true) : lookE x r d = 0 ∨ lookE x r d = 2 := by
  unfold lookE
  by_cases h1 : askE x r = 0
  · rw [if_pos h1]; split <;> simp
  · rw [if_neg h1]
    right
    unfold askE at h1 ⊢
    split
    · next hh => simp_all [rfE]
    · split
      · rfl
      · simp_all
theorem lookV_bd {x : List (List Int)} {r d : Int} (h : rfB x = true) : 0 ≤ lookV x r d ∧ lookV x r d ≤ 4095 := by
  unfold lookV
  by_cases he : lookE x r d = 0
  · rw [if_pos he]
    have ha : askE x r = 0 := by
      unfold lookE at he
      split at he
      · assumption
      · exact he
    have hd : -2047 ≤ d ∧ d ≤ 2047 := by
      unfold lookE at he
      rw [if_pos ha] at he
      split at he
      · cases he
      · omega
    obtain ⟨_, h2, h3⟩ := ask_zero ha
    exact (seen_between (rf_row h r.toNat (by omega)) (t := (d + 2048).toNat) (by omega)).2.2
  · rw [if_neg he]; decide
set_option maxHeartbeats 1500000 in
theorem range (P : Option Addr) (m c : Nat) (rs : List RY) (Q : Option Addr) (n e : Nat) (qs : List RY) (r0 r1 d p : Int) (w : World) (h : RowsY w P m c rs) (h' : RowsY w Q n e qs) (hd : -2147483648 ≤ d ∧ d ≤ 2147483647) (hr0 : -9223372036854775808 ≤ r0 ∧ r0 ≤ 9223372036854775807) (hr1 : -9223372036854775808 ≤ r1 ∧ r1 ≤ 9223372036854775807) (hT : Tab w) :
    Calls Tryd.prog 5 #[.agg #[.slice P m c, .slice Q n e], .agg #[.int .i64 r0, .int .i64 r1], .int .i32 d, .int .i32 p] w fun v w' => v = .returned (.bool true) ∧ Below w.heap.size w w' := by
  have HT := Lib.hid hT
  have HD := Lib.hid (And.intro hd (And.intro hr0 hr1))
  have S0 : Hid (FnAt ((w.alloc (.cells #[.slice P m c, .slice Q n e] 26)).alloc (.cells #[.int .i64 r0, .int .i64 r1] 27)) w.heap.size P m c rs Q n e qs ∧ Lies ((w.alloc (.cells #[.slice P m c, .slice Q n e] 26)).alloc (.cells #[.int .i64 r0, .int .i64 r1] 27)) (w.heap.size + 1) 27 [.int .i64 r0, .int .i64 r1] ∧ Below w.heap.size w ((w.alloc (.cells #[.slice P m c, .slice Q n e] 26)).alloc (.cells #[.int .i64 r0, .int .i64 r1] 27))) := Lib.hid ⟨(fnAt_new h h').alloc _, Lies.fresh_at (cs := [.int .i64 r0, .int .i64 r1]) (by simp), by (repeat' (first | (with_reducible exact Below.refl _ _) | (with_reducible assumption) | (with_reducible refine below_drewN ?_ _) | (with_reducible refine below_new ?_ _) | (with_reducible refine Below.alloc ?_ ?_ _) | (with_reducible refine Below.drew ?_) | (with_reducible refine Below.setCell ?_ ?_ _) | (with_reducible apply below_at; (case k => (with_reducible assumption)); (case hB => omega)) | (with_reducible apply below_on; (with_reducible assumption)) | (go_size; done) | (with_reducible apply size_of)))⟩
  clear h h' hT hd hr0 hr1
  go_enter Tryd.func5, Tryd.ntmps5
  go_wp2_with fail
  generalize hw0 : ((w.alloc (.cells #[.slice P m c, .slice Q n e] 26)).alloc (.cells #[.int .i64 r0, .int .i64 r1] 27)) = w0 at *
  generalize w.heap.size + 1 = g1 at *
  clear hw0
  refine (alive w0 (HT.out.below S0.out.2.2)).mono ?_
  rintro v w1 ⟨rfl, b1⟩
  have S1 : Hid (FnAt w1 w.heap.size P m c rs Q n e qs ∧ Lies w1 g1 27 [.int .i64 r0, .int .i64 r1] ∧ Below w.heap.size w w1) := Lib.hid ⟨S0.out.1.past b1, S0.out.2.1.past b1, below_bs S0.out.2.2 b1⟩
  clear b1 S0
  have x0 := S1.out.1.c0
  have x1 := S1.out.1.c1
  go_wp2_with fail
  clear x0 x1
  refine (fnW.Great_any P m c rs Q n e qs w1 S1.out.1.r1 S1.out.1.r2).mono ?_
  rintro v w2 ⟨rfl, b2⟩
  have S2 : Hid (FnAt w2 w.heap.size P m c rs Q n e qs ∧ Lies w2 g1 27 [.int .i64 r0, .int .i64 r1] ∧ Below w.heap.size w w2) := Lib.hid ⟨S1.out.1.past b2, S1.out.2.1.past b2, below_bs S1.out.2.2 b2⟩
  clear b2 S1
  cases hg : (greatB (numsY rs) || greatB (numsY qs))
  case true =>
    clear hg
    go_wp2_with fail
    go_ret
    exact ⟨rfl, S2.out.2.2⟩
  clear hg
  have x0 := S2.out.1.c0
  have x1 := S2.out.1.c1
  go_wp2_with fail
  clear x0 x1
  refine (fnW.rCheck_any P m c rs Q n e qs w2 S2.out.1.r1 S2.out.1.r2).mono ?_
  rintro v w3 ⟨rfl, b3⟩
  have S3 : Hid (FnAt w3 w.heap.size P m c rs Q n e qs ∧ Lies w3 g1 27 [.int .i64 r0, .int .i64 r1] ∧ Below w.heap.size w w3) := Lib.hid ⟨S2.out.1.past b3, S2.out.2.1.past b3, below_bs S2.out.2.2 b3⟩
  clear b3 S2
  cases hf : fnB (numsY rs) (numsY qs)
  · rw [fnE_no hf]
    clear hf
    go_wp2_with fail
    go_ret
    exact ⟨rfl, S3.out.2.2⟩
  rw [fnE_yes hf]
  have HF := Lib.hid hf
  clear hf
  have x0 := S3.out.1.c0
  have x1 := S3.out.1.c1
  obtain ⟨x2, x3, -, -⟩ := S3.out.2.1.two
  go_wp2_with fail
  clear x0 x1 x2 x3
  refine (fnW.Look_any P m c rs Q n e qs r0 r1 d p w3 S3.out.1.r1 S3.out.1.r2).mono ?_
  rintro v w4 ⟨rfl, b4⟩
  obtain ⟨x, hx⟩ : ∃ x, numsY rs = x := ⟨_, rfl⟩
  obtain ⟨y, hy⟩ : ∃ y, numsY qs = y := ⟨_, rfl⟩
  have HXY := Lib.hid (And.intro hx hy)
  rw [hx, hy]
  rw [hx, hy] at HF
  clear hx hy
  obtain ⟨z0, hz0⟩ : ∃ z, fZ x y r0 r1 d p r0 = z := ⟨_, rfl⟩
  obtain ⟨z1, hz1⟩ : ∃ z, fZ x y r0 r1 d p r1 = z := ⟨_, rfl⟩
  obtain ⟨z2, hz2⟩ : ∃ z, fZ x y r0 r1 d p (lookJ x r0 d) = z := ⟨_, rfl⟩
  obtain ⟨z3, hz3⟩ : ∃ z, fZ x y r0 r1 d p (lookJ y r1 d) = z := ⟨_, rfl⟩
  obtain ⟨fv, hfv⟩ : ∃ z, fV x y r0 r1 d p = z := ⟨_, rfl⟩
  obtain ⟨fe, hfe⟩ : ∃ z, fE x y r0 r1 d p = z := ⟨_, rfl⟩
  have HZ := Lib.hid (And.intro hz0 (And.intro hz1 (And.intro hz2 (And.intro hz3 (And.intro hfv hfe)))))
  rw [hz0, hz1, hz2, hz3, hfv, hfe]
  clear hz0 hz1 hz2 hz3 hfv hfe
  have S4 : Hid (FnAt (w4.alloc (.cells #[.int .i64 z0, .int .i64 z1, .int .i64 z2, .int .i64 z3] 39)) w.heap.size P m c rs Q n e qs ∧ Lies (w4.alloc (.cells #[.int .i64 z0, .int .i64 z1, .int .i64 z2, .int .i64 z3] 39)) g1 27 [.int .i64 r0, .int .i64 r1] ∧ Lies (w4.alloc (.cells #[.int .i64 z0, .int .i64 z1, .int .i64 z2, .int .i64 z3] 39)) w4.heap.size 39 [.int .i64 z0, .int .i64 z1, .int .i64 z2, .int .i64 z3] ∧ Below w.heap.size w (w4.alloc (.cells #[.int .i64 z0, .int .i64 z1, .int .i64 z2, .int .i64 z3] 39))) := Lib.hid ⟨(S3.out.1.past b4).alloc _, (S3.out.2.1.past b4).alloc _, Lies.fresh _ _ _, below_al (below_bs S3.out.2.2 b4) _⟩
  clear b4 S3
  go_upto_region 5 with fail
  generalize hw5 : (w4.alloc (.cells #[.int .i64 z0, .int .i64 z1, .int .i64 z2, .int .i64 z3] 39)) = w5 at *
  generalize w4.heap.size = g4 at *
  clear hw5
  have x0 := S4.out.1.c0
  obtain ⟨x2, -, -, -⟩ := S4.out.2.1.two
  go_wp2_with fail
  clear x0 x2
  refine (rfW.Look_any P m c rs r0 d w5 S4.out.1.r1).mono ?_
  rintro v w6 ⟨rfl, b6⟩
  rw [HXY.out.1]
  have S6 : Hid (FnAt w6 w.heap.size P m c rs Q n e qs ∧ Lies w6 g1 27 [.int .i64 r0, .int .i64 r1] ∧ Lies w6 g4 39 [.int .i64 z0, .int .i64 z1, .int .i64 z2, .int .i64 z3] ∧ Below w.heap.size w w6) := Lib.hid ⟨S4.out.1.past b6, S4.out.2.1.past b6, S4.out.2.2.1.past b6, below_bs S4.out.2.2.2 b6⟩
  clear b6 S4
  have x0 := S6.out.1.c1
  obtain ⟨-, x2, -, -⟩ := S6.out.2.1.two
  go_wp2_with fail
  clear x0 x2
  refine (rfW.Look_any Q n e qs r1 d w6 S6.out.1.r2).mono ?_
  rintro v w7 ⟨rfl, b7⟩
  rw [HXY.out.2]
  have S7 : Hid (Lies w7 g1 27 [.int .i64 r0, .int .i64 r1] ∧ Lies w7 g4 39 [.int .i64 z0, .int .i64 z1, .int .i64 z2, .int .i64 z3] ∧ Below w.heap.size w w7) := Lib.hid ⟨S6.out.2.1.past b7, S6.out.2.2.1.past b7, below_bs S6.out.2.2.2 b7⟩
  clear b7 S6
  by_cases hfe : fe = 0
  · subst hfe
    have hfe := HZ.out.2.2.2.2.2
    have hfe2 := hfe
    unfold fE at hfe2
    rw [if_pos HF.out] at hfe2
    have ha : lookE x r0 d = 0 := by
      split at hfe2
      · assumption
      · exact hfe2
    rw [if_pos ha] at hfe2
    have hb : lookE y r1 d = 0 := by
      split at hfe2
      · assumption
      · exact hfe2
    rw [if_pos hb] at hfe2
    obtain ⟨f1, f2⟩ := f_ok hfe
    have hjb : joinB p (lookV x r0 d) (lookV y r1 d) = true := by
      cases hj : joinB p (lookV x r0 d) (lookV y r1 d)
      · rw [(join_no hj).1] at hfe2; cases hfe2
      · rfl
    obtain ⟨j1, j2⟩ := join_yes hjb
    have jb := join_bd p (lookV x r0 d) (lookV y r1 d)
    have e0 : r0 = z0 := by rw [← HZ.out.1, f2]
    have e1 : r1 = z1 := by rw [← HZ.out.2.1, f2]
    have e2 : lookJ x r0 d = z2 := by rw [← HZ.out.2.2.1, f2]
    have e3 : lookJ y r1 d = z3 := by rw [← HZ.out.2.2.2.1, f2]
    have e4 : joinN p (lookV x r0 d) (lookV y r1 d) = fv := by rw [← HZ.out.2.2.2.2.1, f1]
    have k0 := lookJ_bd x r0 d HD.out.1.1 HD.out.1.2
    have k1 := lookJ_bd y r1 d HD.out.1.1 HD.out.1.2
    rw [e2] at k0
    rw [e3] at k1
    rw [e4] at jb j2
    have q1 := eq2 (a := r0) (b := r1) HD.out.2.1 HD.out.2.2
    have q2 := eq2 (a := z2) (b := z3) (by omega) (by omega)
    rw [ha, hb, e2, e3]
    rw [ha, e2] at *
    have HJ := Lib.hid (And.intro j1 (And.intro j2 jb))
    clear hfe hfe2 f1 f2 hjb j1 j2 e4 k0 k1 HZ jb
    subst e0 e1
    go_wp2_with fail
    refine (Join_any p (lookV x r0 d) (lookV y r1 d) w7).mono ?_
    rintro v w8 ⟨rfl, rfl⟩
    rw [HJ.out.1, HJ.out.2.1]
    obtain ⟨j3, j4⟩ := HJ.out.2.2
    obtain ⟨c0, c1, c2, c3⟩ := four S7.out.2.1
    obtain ⟨y0, y1, -, -⟩ := S7.out.1.two
    go_wp2_with fail
    go_ret
    exact ⟨rfl, S7.out.2.2⟩
  · have hfx := HZ.out.2.2.2.2.2
    obtain ⟨g1x, g2x, g3x, g4x⟩ := (fnB_iff x y).1 HF.out
    rcases lookE_bd x r0 d g3x with ha | ha
    · rcases lookE_bd y r1 d g4x with hb | hb
      · rw [fE_join HF.out ha hb] at hfx
        have hj : joinB p (lookV x r0 d) (lookV y r1 d) = false := by
          cases hj : joinB p (lookV x r0 d) (lookV y r1 d)
          · rfl
          · rw [(join_yes hj).1] at hfx; exact absurd hfx.symm hfe
        rw [(join_no hj).1] at hfx
        subst hfx
        have va := lookV_bd (r := r0) (d := d) g3x
        have vb := lookV_bd (r := r1) (d := d) g4x
        have hp : p < 0 ∨ 4095 < p := by
          by_cases h : p < 0
          · exact .inl h
          · by_cases h2 : 4095 < p
            · exact .inr h2
            · have := (joinB_iff p (lookV x r0 d) (lookV y r1 d)).2 ⟨⟨by omega, by omega⟩, va, vb⟩
              rw [hj] at this
              cases this
        rw [ha, hb]
        clear hj va vb hfe HZ ha hb g1x g2x g3x g4x
        rcases hp with hp | hp
        · go_wp2_with fail
          go_ret
          exact ⟨rfl, S7.out.2.2⟩
        · have hp2 : decide (p < 0) = false := decide_eq_false (by omega)
          go_wp2_with fail
          go_ret
          exact ⟨rfl, S7.out.2.2⟩
      · rw [fE_two HF.out ha (by rw [hb]; decide), hb] at hfx
        subst hfx
        rw [ha, hb]
        clear hfe HZ ha hb g1x g2x g3x g4x
        go_wp2_with fail
        go_ret
        exact ⟨rfl, S7.out.2.2⟩
    · rw [fE_one HF.out (by rw [ha]; decide), ha] at hfx
      subst hfx
      rw [ha]
      generalize lookE y r1 d = le at *
      clear hfe HZ ha g1x g2x g3x g4x
      go_wp2_with fail
      go_ret
      exact ⟨rfl, S7.out.2.2⟩
theorem range_law (P : Option Addr) (m c : Nat) (rs : List RY) (Q : Option Addr) (n e : Nat) (qs : List RY) (r0 r1 d p : Int) (w : World) (h : RowsY w P m c rs ∧ RowsY w Q n e qs) (hr : (-9223372036854775808 ≤ r0 ∧ r0 ≤ 9223372036854775807) ∧ -9223372036854775808 ≤ r1 ∧ r1 ≤ 9223372036854775807) (d0 : -2147483648 ≤ d) (d1 : d ≤ 2147483647) (_ : -2147483648 ≤ p) (_ : p ≤ 2147483647) (hT : Tab w) :
    Calls Tryd.prog 5 #[.agg #[.slice P m c, .slice Q n e], .agg #[.int .i64 r0, .int .i64 r1], .int .i32 d, .int .i32 p] w fun v w' => v = .returned (.bool true) ∧ Below w.heap.size w w' :=
  range P m c rs Q n e qs r0 r1 d p w h.1 h.2 ⟨d0, d1⟩ hr.1 hr.2 hT
end Go.Proofs.YtdmnaipngcldbaaDoor.fnL
