/- What fits; the examples' walk. -/
import Derived.Test.YtkklmclnjmafaaaSlA
namespace Go.Proofs.Ytkklmclnjmafaaa.slL
set_option maxRecDepth 100000
open Go.RowKit Go.Proofs.Ytkklmclnjmafaaa.base Go.Proofs.Ytkklmclnjmafaaa.slP Go.Proofs.Ytkklmclnjmafaaa.slW
set_option linter.unusedVariables false
set_option linter.unusedSimpArgs false
set_option maxRecDepth 100000
set_option maxHeartbeats 800000 in
theorem fit_any (lv : Int) (A : Option Addr) (n c : Nat) (fl : List Int) (v : Bool) (w : World) (l1 : -9223372036854775808 ≤ lv) (l2 : lv ≤ 9223372036854775807) (hi : InS w A n c fl) (hv : okB lv n fl = v) :
    Calls Try.prog 25 #[.agg #[.int .i64 lv, .slice A n c]] w fun e w' => e = .returned (.bool v) ∧ Below w.heap.size w w' := by
  subst hv
  have HI := Lib.hid hi
  have t0 := (tb_new w lv A n c).c0
  have t1 := (tb_new w lv A n c).c1
  have T0 := Lib.hid (tb_new w lv A n c)
  have B0 := Lib.hid (tb_box w lv A n c)
  clear hi
  go_enter Try.func25, Try.ntmps25
  go_upto_region 1 with fail
  generalize (w.alloc (.cells #[.int .i64 lv, .slice A n c] 24)) = w0 at *
  go_wp2_with fail
  refine (Great_any lv A n c fl w0 (HI.out.past B0.out)).mono ?_
  rintro e w1 ⟨rfl, b1⟩
  have B1 := Lib.hid (below_bs B0.out b1)
  have T1 := Lib.hid (T0.out.past b1)
  have HI1 := Lib.hid ((HI.out.past B0.out).past b1)
  clear t0 t1 T0 b1 B0 HI
  by_cases hg : 2100 < n
  · rw [decide_eq_true (show (2100 : Int) < n by omega)]
    have HF : Hid (okB lv n fl = false) := Lib.hid (by
      cases e : okB lv n fl
      · rfl
      · have := (ok_iff lv n fl).1 e
        have := sz_le this.1.2
        omega)
    clear hg
    go_wp2_with fail
    go_ret
    exact ⟨by rw [HF.out]; rfl, B1.out⟩
  rw [decide_eq_false (show ¬ (2100 : Int) < n by omega)]
  clear hg
  have t0 := T1.out.c0
  have t1 := T1.out.c1
  go_wp2_with fail
  refine (rCheck lv A n c fl w1 l1 l2 HI1.out).mono ?_
  rintro e w2 ⟨rfl, b2⟩
  have B2 := Lib.hid (below_bs B1.out b2)
  clear t0 t1 T1 b2 B1 HI1
  cases hk : okB lv n fl
  · have HE : Hid (okE lv n fl = 8) := Lib.hid (okE_bad (by rw [hk]; decide))
    have HK := Lib.hid hk
    rw [HE.out]
    clear hk
    go_wp2_with fail
    go_ret
    exact ⟨by rw [HK.out]; rfl, B2.out⟩
  · have HE : Hid (okE lv n fl = 0) := Lib.hid (okE_ok hk)
    have HK := Lib.hid hk
    rw [HE.out]
    clear hk
    go_wp2_with fail
    go_ret
    exact ⟨by rw [HK.out]; rfl, B2.out⟩
attribute [local irreducible] al0 al1 al2 al3 al4
theorem lv_in {x : Int} (h : x = 0) : -9223372036854775808 ≤ x ∧ x ≤ 9223372036854775807 := by omega
set_option maxHeartbeats 1600000 in
theorem alive_any (w : World) : Calls Try.prog 17 #[] w fun e w' => e = .returned (.bool true) ∧ Below w.heap.size w w' := by
  have HV := Lib.hid al_lv
  have HB := Lib.hid al_bd
  go_enter Try.func17, Try.ntmps17
  go_wp2_with fail
  refine (New_any 0 w (by decide) (by decide)).mono ?_
  rintro e w0 ⟨A0, c0, rfl, o0, b0⟩
  rw [al_e0]
  rw [show nwT 0 = al0 by unfold al0; rfl] at o0 ⊢
  have I0 := Lib.hid (ins_own o0 HB.out.1)
  have B0 := Lib.hid b0
  clear o0 b0
  go_upto_region 2 with fail
  have gg := tb_box w0 al0.lv A0 al0.n c0
  have P1 := Lib.hid (tb_new w0 al0.lv A0 al0.n c0)
  have B1 := Lib.hid (below_bs B0.out gg)
  have I1 := Lib.hid (I0.out.past gg)
  clear gg B0 I0
  generalize ((w0).alloc (.cells #[.int .i64 (al0.lv), .slice A0 (al0.n) c0] 24)) = w1 at *
  generalize w0.heap.size = gP at *
  have t0 := P1.out.c0
  have t1 := P1.out.c1
  go_wp2_with fail
  refine (Find_any al0.lv A0 al0.n c0 al0.fl 16777221 w1 (lv_in HV.out.1).1 (lv_in HV.out.1).2 I1.out (by decide) (by decide)).mono ?_
  rintro e w2 ⟨A1, c1, rfl, o2, b2⟩
  rw [al_e1.1, al_e1.2]
  rw [show fdT al0.lv al0.n al0.fl 16777221 = al1 by unfold al1; rfl] at o2 ⊢
  have I2 := Lib.hid (ins_own o2 HB.out.2.1)
  have B2 := Lib.hid (below_bs B1.out b2)
  clear o2 b2 B1 I1 P1 t0 t1
  go_upto_region 3 with fail
  have gg := tb_box w2 al1.lv A1 al1.n c1
  have P3 := Lib.hid (tb_new w2 al1.lv A1 al1.n c1)
  have B3 := Lib.hid (below_bs B2.out gg)
  have I3 := Lib.hid (I2.out.past gg)
  clear gg B2 I2
  generalize ((w2).alloc (.cells #[.int .i64 (al1.lv), .slice A1 (al1.n) c1] 24)) = w3 at *
  generalize w2.heap.size = gP at *
  have t0 := P3.out.c0
  have t1 := P3.out.c1
  go_wp2_with fail
  refine (Bit_any al1.lv A1 al1.n c1 al1.fl 5 1 1 w3 (lv_in HV.out.2.1).1 (lv_in HV.out.2.1).2 I3.out (by decide) (by decide)).mono ?_
  rintro e w4 ⟨A2, c2, rfl, o4, b4⟩
  rw [al_e2]
  rw [show bitT al1.lv al1.n al1.fl 5 1 1 = al2 by unfold al2; rfl] at o4 ⊢
  have I4 := Lib.hid (ins_own o4 HB.out.2.2.1)
  have B4 := Lib.hid (below_bs B3.out b4)
  clear o4 b4 B3 I3 P3 t0 t1
  go_upto_region 4 with fail
  have gg := tb_box w4 al2.lv A2 al2.n c2
  have P5 := Lib.hid (tb_new w4 al2.lv A2 al2.n c2)
  have B5 := Lib.hid (below_bs B4.out gg)
  have I5 := Lib.hid (I4.out.past gg)
  clear gg B4 I4
  generalize ((w4).alloc (.cells #[.int .i64 (al2.lv), .slice A2 (al2.n) c2] 24)) = w5 at *
  generalize w4.heap.size = gP at *
  have t0 := P5.out.c0
  have t1 := P5.out.c1
  go_wp2_with fail
  refine (Find_any al2.lv A2 al2.n c2 al2.fl 33554437 w5 (lv_in HV.out.2.2.1).1 (lv_in HV.out.2.2.1).2 I5.out (by decide) (by decide)).mono ?_
  rintro e w6 ⟨A3, c3, rfl, o6, b6⟩
  rw [al_e3.1, al_e3.2]
  rw [show fdT al2.lv al2.n al2.fl 33554437 = al3 by unfold al3; rfl] at o6 ⊢
  have I6 := Lib.hid (ins_own o6 HB.out.2.2.2.1)
  have B6 := Lib.hid (below_bs B5.out b6)
  clear o6 b6 B5 I5 P5 t0 t1
  go_upto_region 5 with fail
  have gg := tb_box w6 al3.lv A3 al3.n c3
  have P7 := Lib.hid (tb_new w6 al3.lv A3 al3.n c3)
  have B7 := Lib.hid (below_bs B6.out gg)
  have I7 := Lib.hid (I6.out.past gg)
  clear gg B6 I6
  generalize ((w6).alloc (.cells #[.int .i64 (al3.lv), .slice A3 (al3.n) c3] 24)) = w7 at *
  generalize w6.heap.size = gP at *
  have t0 := P7.out.c0
  have t1 := P7.out.c1
  go_wp2_with fail
  refine (Find_any al3.lv A3 al3.n c3 al3.fl 16777221 w7 (lv_in HV.out.2.2.2.1).1 (lv_in HV.out.2.2.2.1).2 I7.out (by decide) (by decide)).mono ?_
  rintro e w8 ⟨A4, c4, rfl, o8, b8⟩
  rw [al_e4.1, al_e4.2]
  have B8 := Lib.hid (below_bs B7.out b8)
  clear o8 b8 B7 I7 P7 t0 t1
  go_upto_region 6 with fail
  have G9 := tb_box w8 (fdT al3.lv al3.n al3.fl 16777221).lv A4 (fdT al3.lv al3.n al3.fl 16777221).n c4
  have B9 := Lib.hid (below_bs B8.out G9)
  clear G9 B8
  generalize ((w8).alloc (.cells #[.int .i64 ((fdT al3.lv al3.n al3.fl 16777221).lv), .slice A4 ((fdT al3.lv al3.n al3.fl 16777221).n) c4] 24)) = w9 at *
  go_wp2_with fail
  go_ret
  exact ⟨rfl, B9.out⟩
end Go.Proofs.Ytkklmclnjmafaaa.slL
