/- The law SlotsSets, by a walk. -/
import Derived.Test.YtkklmclnjmafaaaSlT
namespace Go.Proofs.Ytkklmclnjmafaaa.slL
set_option maxRecDepth 100000
open Go.RowKit Go.Proofs.Ytkklmclnjmafaaa.base Go.Proofs.Ytkklmclnjmafaaa.slP Go.Proofs.Ytkklmclnjmafaaa.slW
set_option linter.unusedVariables false
set_option linter.unusedSimpArgs false
set_option maxRecDepth 100000
set_option maxHeartbeats 3200000 in
theorem sets (lv : Int) (A : Option Addr) (n c : Nat) (fl : List Int) (p k x y : Int) (w : World) (hh : (-9223372036854775808 ≤ lv ∧ lv ≤ 9223372036854775807) ∧ InS w A n c fl)
    (p0 : -9223372036854775808 ≤ p) (p1 : p ≤ 9223372036854775807) (k0 : -9223372036854775808 ≤ k) (k1 : k ≤ 9223372036854775807) (x0 : 0 ≤ x) (x1 : x ≤ 255) (y0 : 0 ≤ y) (y1 : y ≤ 255) :
    Calls Try.prog 5 #[.agg #[.int .i64 lv, .slice A n c], .int .i64 p, .int .i64 k, .int .u8 x, .int .u8 y] w fun e w' => e = .returned (.bool true) ∧ Below w.heap.size w w' := by
  obtain ⟨hlv, hi⟩ := hh
  have HB := Lib.hid (And.intro hlv (And.intro (And.intro x0 x1) (And.intro y0 y1)))
  have HI := Lib.hid hi
  have t0 := (tb_new w lv A n c).c0
  have t1 := (tb_new w lv A n c).c1
  have T0 := Lib.hid (tb_new w lv A n c)
  have B0 := Lib.hid (tb_box w lv A n c)
  clear hi hlv p0 p1 k0 k1 x0 x1 y0 y1
  go_enter Try.func5, Try.ntmps5
  go_upto_region 1 with fail
  generalize (w.alloc (.cells #[.int .i64 lv, .slice A n c] 24)) = w0 at *
  go_wp2_with fail
  refine (Great_any lv A n c fl w0 (HI.out.past B0.out)).mono ?_
  rintro e w1 ⟨rfl, b1⟩
  have B1 := Lib.hid (below_bs B0.out b1)
  have T1 := Lib.hid (T0.out.past b1)
  have HI1 := Lib.hid ((HI.out.past B0.out).past b1)
  clear t0 t1 T0 b1 B0 HI
  by_cases hg : 2100 < n
  · rw [decide_eq_true (show (2100 : Int) < n by omega)]
    clear hg
    go_wp2_with fail
    go_ret
    exact ⟨rfl, B1.out⟩
  have HM : Hid (n ≤ 1000000) := Lib.hid (by omega)
  rw [decide_eq_false (show ¬ (2100 : Int) < n by omega)]
  clear hg
  have t0 := T1.out.c0
  have t1 := T1.out.c1
  go_wp2_with fail
  refine (Twin_any lv A n c fl w1 HI1.out HM.out).mono ?_
  rintro e w2 ⟨D, d, rfl, -, i2, b2⟩
  have B2 := Lib.hid (below_bs B1.out b2)
  have T2 := Lib.hid (T1.out.past b2)
  have HI2 := Lib.hid (HI1.out.past b2)
  have HD2 := Lib.hid i2
  clear t0 t1 T1 b2 B1 HI1 i2
  go_upto_region 4 with fail
  have D3 := Lib.hid (tb_new w2 lv D n d)
  have g3 := tb_box w2 lv D n d
  have B3 := Lib.hid (below_bs B2.out g3)
  have T3 := Lib.hid (T2.out.past g3)
  have HI3 := Lib.hid (HI2.out.past g3)
  have HD3 := Lib.hid (HD2.out.past g3)
  clear g3 B2 T2 HI2 HD2
  generalize ((w2).alloc (.cells #[.int .i64 (lv), .slice D (n) d] 24)) = w3 at *
  generalize w2.heap.size = gd at *
  have d0 := D3.out.c0
  have d1 := D3.out.c1
  go_wp2_with fail
  refine (Get_any lv D n d fl p k w3 HB.out.1.1 HB.out.1.2 HD3.out).mono ?_
  rintro e w4 ⟨rfl, b4⟩
  have B4 := Lib.hid (below_bs B3.out b4)
  have T4 := Lib.hid (T3.out.past b4)
  have D4 := Lib.hid (D3.out.past b4)
  have HI4 := Lib.hid (HI3.out.past b4)
  have HD4 := Lib.hid (HD3.out.past b4)
  clear d0 d1 b4 B3 T3 D3 HI3 HD3
  have t0 := T4.out.c0
  have t1 := T4.out.c1
  go_wp2_with fail
  refine (rGet lv A n c fl p k w4 HB.out.1.1 HB.out.1.2 HI4.out).mono ?_
  rintro e w5 ⟨rfl, b5⟩
  have B5 := Lib.hid (below_bs B4.out b5)
  have T5 := Lib.hid (T4.out.past b5)
  have D5 := Lib.hid (D4.out.past b5)
  have HI5 := Lib.hid (HI4.out.past b5)
  have HD5 := Lib.hid (HD4.out.past b5)
  clear t0 t1 b5 B4 T4 D4 HI4 HD4
  generalize gtV lv n fl p k = gv at *
  generalize atE lv n fl p k = ge at *
  have d0 := D5.out.c0
  have d1 := D5.out.c1
  go_wp2_with fail
  refine (Set_any lv D n d fl p k x w5 HB.out.1.1 HB.out.1.2 HD5.out HB.out.2.1.1 HB.out.2.1.2).mono ?_
  rintro e w6 ⟨A1, c1, rfl, o6, b6⟩
  have B6 := Lib.hid (below_bs B5.out b6)
  have T6 := Lib.hid (T5.out.past b6)
  have D6 := Lib.hid (D5.out.past b6)
  have HI6 := Lib.hid (HI5.out.past b6)
  have HD6 := Lib.hid (HD5.out.past b6)
  have HM6 := Lib.hid (ins_own o6 (setT_bd HI5.out.b HB.out.2.1.1 HB.out.2.1.2))
  clear d0 d1 b6 o6 B5 T5 D5 HI5 HD5
  generalize hS1 : setT lv n fl p k x = S1 at *
  generalize hE1 : stE' lv n fl p k x = E1 at *
  have HS1 := Lib.hid (And.intro hS1 hE1)
  clear hS1 hE1
  go_upto_region 7 with fail
  have g7 := tb_box w6 S1.lv A1 S1.n c1
  have M7 := Lib.hid (tb_new w6 S1.lv A1 S1.n c1)
  have B7 := Lib.hid (below_bs B6.out g7)
  have T7 := Lib.hid (T6.out.past g7)
  have D7 := Lib.hid (D6.out.past g7)
  have HI7 := Lib.hid (HI6.out.past g7)
  have HD7 := Lib.hid (HD6.out.past g7)
  have HM7 := Lib.hid (HM6.out.past g7)
  clear g7 B6 T6 D6 HI6 HD6 HM6
  generalize ((w6).alloc (.cells #[.int .i64 (S1.lv), .slice A1 (S1.n) c1] 24)) = w7 at *
  generalize w6.heap.size = g1 at *
  have t0 := T7.out.c0
  have t1 := T7.out.c1
  go_wp2_with fail
  refine (rSet lv A n c fl p k x w7 HB.out.1.1 HB.out.1.2 HI7.out HB.out.2.1.1 HB.out.2.1.2).mono ?_
  rintro e w8 ⟨A2, c2, rfl, o8, b8⟩
  have HSB : Hid (∀ z ∈ S1.fl, 0 ≤ z ∧ z ≤ 255) := Lib.hid (by rw [← HS1.out.1]; exact setT_bd HI7.out.b HB.out.2.1.1 HB.out.2.1.2)
  rw [HS1.out.1] at o8 ⊢
  rw [HS1.out.2]
  have B8 := Lib.hid (below_bs B7.out b8)
  have T8 := Lib.hid (T7.out.past b8)
  have D8 := Lib.hid (D7.out.past b8)
  have M8 := Lib.hid (M7.out.past b8)
  have HI8 := Lib.hid (HI7.out.past b8)
  have HD8 := Lib.hid (HD7.out.past b8)
  have HM8 := Lib.hid (HM7.out.past b8)
  have HN8 := Lib.hid (ins_own o8 HSB.out)
  clear t0 t1 b8 o8 B7 T7 D7 M7 HI7 HD7 HM7
  go_upto_region 8 with fail
  have gg := tb_box w8 S1.lv A2 S1.n c2
  have R9 := Lib.hid (tb_new w8 S1.lv A2 S1.n c2)
  have B9 := Lib.hid (below_bs B8.out gg)
  have T9 := Lib.hid (T8.out.past gg)
  have D9 := Lib.hid (D8.out.past gg)
  have M9 := Lib.hid (M8.out.past gg)
  have HI9 := Lib.hid (HI8.out.past gg)
  have HD9 := Lib.hid (HD8.out.past gg)
  have HM9 := Lib.hid (HM8.out.past gg)
  have HN9 := Lib.hid (HN8.out.past gg)
  clear gg B8 T8 D8 M8 HI8 HD8 HM8 HN8
  generalize ((w8).alloc (.cells #[.int .i64 (S1.lv), .slice A2 (S1.n) c2] 24)) = w9 at *
  generalize w8.heap.size = g2 at *
  have t0 := D9.out.c0
  have t1 := D9.out.c1
  go_wp2_with fail
  refine (Bit_any lv D n d fl p k y w9 HB.out.1.1 HB.out.1.2 HD9.out HB.out.2.2.1 HB.out.2.2.2).mono ?_
  rintro e w10 ⟨A3, c3, rfl, o10, b10⟩
  generalize hS2 : bitT lv n fl p k y = S2 at *
  generalize hE2 : bitE lv n fl p k y = E2 at *
  have HS2 := Lib.hid (And.intro hS2 hE2)
  clear hS2 hE2
  have HSC : Hid (∀ z ∈ S2.fl, 0 ≤ z ∧ z ≤ 255) := Lib.hid (by rw [← HS2.out.1]; exact bitT_bd HI9.out.b HB.out.2.2.1)
  have B10 := Lib.hid (below_bs B9.out b10)
  have T10 := Lib.hid (T9.out.past b10)
  have D10 := Lib.hid (D9.out.past b10)
  have M10 := Lib.hid (M9.out.past b10)
  have HI10 := Lib.hid (HI9.out.past b10)
  have HD10 := Lib.hid (HD9.out.past b10)
  have HM10 := Lib.hid (HM9.out.past b10)
  have HN10 := Lib.hid (HN9.out.past b10)
  have R10 := Lib.hid (R9.out.past b10)
  have HO10 := Lib.hid (ins_own o10 HSC.out)
  clear t0 t1 b10 o10 B9 T9 D9 M9 HI9 HD9 HM9 HN9 R9
  go_upto_region 9 with fail
  have gg := tb_box w10 S2.lv A3 S2.n c3
  have U11 := Lib.hid (tb_new w10 S2.lv A3 S2.n c3)
  have B11 := Lib.hid (below_bs B10.out gg)
  have T11 := Lib.hid (T10.out.past gg)
  have D11 := Lib.hid (D10.out.past gg)
  have M11 := Lib.hid (M10.out.past gg)
  have HI11 := Lib.hid (HI10.out.past gg)
  have HD11 := Lib.hid (HD10.out.past gg)
  have HM11 := Lib.hid (HM10.out.past gg)
  have HN11 := Lib.hid (HN10.out.past gg)
  have R11 := Lib.hid (R10.out.past gg)
  have HO11 := Lib.hid (HO10.out.past gg)
  clear gg B10 T10 D10 M10 HI10 HD10 HM10 HN10 R10 HO10
  generalize ((w10).alloc (.cells #[.int .i64 (S2.lv), .slice A3 (S2.n) c3] 24)) = w11 at *
  generalize w10.heap.size = g3 at *
  have t0 := T11.out.c0
  have t1 := T11.out.c1
  go_wp2_with fail
  refine (rBit lv A n c fl p k y w11 HB.out.1.1 HB.out.1.2 HI11.out HB.out.2.2.1 HB.out.2.2.2).mono ?_
  rintro e w12 ⟨A4, c4, rfl, o12, b12⟩
  rw [HS2.out.1] at o12 ⊢
  rw [HS2.out.2]
  have B12 := Lib.hid (below_bs B11.out b12)
  have T12 := Lib.hid (T11.out.past b12)
  have D12 := Lib.hid (D11.out.past b12)
  have M12 := Lib.hid (M11.out.past b12)
  have HI12 := Lib.hid (HI11.out.past b12)
  have HD12 := Lib.hid (HD11.out.past b12)
  have HM12 := Lib.hid (HM11.out.past b12)
  have HN12 := Lib.hid (HN11.out.past b12)
  have R12 := Lib.hid (R11.out.past b12)
  have HO12 := Lib.hid (HO11.out.past b12)
  have U12 := Lib.hid (U11.out.past b12)
  have HP12 := Lib.hid (ins_own o12 HSC.out)
  clear t0 t1 b12 o12 B11 T11 D11 M11 HI11 HD11 HM11 HN11 R11 HO11 U11
  go_upto_region 10 with fail
  have gg := tb_box w12 S2.lv A4 S2.n c4
  have V13 := Lib.hid (tb_new w12 S2.lv A4 S2.n c4)
  have B13 := Lib.hid (below_bs B12.out gg)
  have T13 := Lib.hid (T12.out.past gg)
  have D13 := Lib.hid (D12.out.past gg)
  have M13 := Lib.hid (M12.out.past gg)
  have HI13 := Lib.hid (HI12.out.past gg)
  have HD13 := Lib.hid (HD12.out.past gg)
  have HM13 := Lib.hid (HM12.out.past gg)
  have HN13 := Lib.hid (HN12.out.past gg)
  have R13 := Lib.hid (R12.out.past gg)
  have HO13 := Lib.hid (HO12.out.past gg)
  have U13 := Lib.hid (U12.out.past gg)
  have HP13 := Lib.hid (HP12.out.past gg)
  clear gg B12 T12 D12 M12 HI12 HD12 HM12 HN12 R12 HO12 U12 HP12
  generalize ((w12).alloc (.cells #[.int .i64 (S2.lv), .slice A4 (S2.n) c4] 24)) = w13 at *
  generalize w12.heap.size = g4 at *
  have m0 := M13.out.c0
  have m1 := M13.out.c1
  have r0 := R13.out.c0
  have r1 := R13.out.c1
  go_wp2_with fail
  refine (Same_yes S1.lv A1 A2 S1.n c1 c2 S1.fl w13 HM13.out HN13.out).mono ?_
  rintro e w14 ⟨rfl, b14⟩
  have B14 := Lib.hid (below_bs B13.out b14)
  have u0 := (U13.out.past b14).c0
  have u1 := (U13.out.past b14).c1
  have v0 := (V13.out.past b14).c0
  have v1 := (V13.out.past b14).c1
  have HB14 := Lib.hid b14
  clear m0 m1 r0 r1 b14
  go_wp2_with fail
  refine (Same_yes S2.lv A3 A4 S2.n c3 c4 S2.fl w14 (HO13.out.past HB14.out) (HP13.out.past HB14.out)).mono ?_
  rintro e w15 ⟨rfl, b15⟩
  have B15 := Lib.hid (below_bs B14.out b15)
  have HB15 := Lib.hid (HB14.out.trans (b15.mono HB14.out.size))
  have t0 := (T13.out.past HB15.out).c0
  have t1 := (T13.out.past HB15.out).c1
  have d0 := (D13.out.past HB15.out).c0
  have d1 := (D13.out.past HB15.out).c1
  clear u0 u1 v0 v1 b15
  go_wp2_with fail
  refine (Same_yes lv D A n d c fl w15 (HD13.out.past HB15.out) (HI13.out.past HB15.out)).mono ?_
  rintro e w16 ⟨rfl, b16⟩
  have B16 := Lib.hid (below_bs B15.out b16)
  clear t0 t1 d0 d1 b16
  go_wp2_with fail
  go_ret
  exact ⟨rfl, B16.out⟩
end Go.Proofs.Ytkklmclnjmafaaa.slL
