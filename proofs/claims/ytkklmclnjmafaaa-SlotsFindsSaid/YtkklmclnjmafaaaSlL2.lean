/- The law SlotsFinds, by a walk. -/
import Derived.Test.YtkklmclnjmafaaaSlT2
namespace Go.Proofs.Ytkklmclnjmafaaa.slL
set_option maxRecDepth 100000
open Go.RowKit Go.Proofs.Ytkklmclnjmafaaa.base Go.Proofs.Ytkklmclnjmafaaa.slP Go.Proofs.Ytkklmclnjmafaaa.slW
set_option linter.unusedVariables false
set_option linter.unusedSimpArgs false
set_option maxRecDepth 100000
set_option maxHeartbeats 6400000 in
theorem finds (l : Int) (lv : Int) (A : Option Addr) (n c : Nat) (fl : List Int) (h : Int) (w : World) (p0 : -9223372036854775808 ≤ l) (p1 : l ≤ 9223372036854775807) (hh : (-9223372036854775808 ≤ lv ∧ lv ≤ 9223372036854775807) ∧ InS w A n c fl) (x0 : 0 ≤ h) (x1 : h ≤ 4294967295) :
    Calls Try.prog 4 #[.int .i64 l, .agg #[.int .i64 lv, .slice A n c], .int .u32 h] w fun e w' => e = .returned (.bool true) ∧ Below w.heap.size w w' := by
  obtain ⟨hlv, hi⟩ := hh
  have n9 : (n : Int) ≤ 9223372036854775807 := by have := hi.c1; have := hi.c2; omega
  have HB := Lib.hid (And.intro hlv (And.intro (And.intro p0 p1) (And.intro x0 x1)))
  have HI := Lib.hid hi
  have t0 := (tb_new w lv A n c).c0
  have t1 := (tb_new w lv A n c).c1
  have T0 := Lib.hid (tb_new w lv A n c)
  have B0 := Lib.hid (tb_box w lv A n c)
  clear hi hlv p0 p1 x0 x1
  go_enter Try.func4, Try.ntmps4
  go_upto_region 1 with fail
  generalize (w.alloc (.cells #[.int .i64 lv, .slice A n c] 24)) = w0 at *
  go_wp2_with fail
  refine (Great_any lv A n c fl w0 (HI.out.past B0.out)).mono ?_
  rintro e w1 ⟨rfl, b1⟩
  have B1 := Lib.hid (below_bs B0.out b1)
  have T1 := Lib.hid (T0.out.past b1)
  have HI1 := Lib.hid ((HI.out.past B0.out).past b1)
  clear t0 t1 T0 b1 B0 HI
  by_cases hg : 2100 < n
  · rw [decide_eq_true (show (2100 : Int) < n by omega)]
    clear hg
    go_wp2_with fail
    go_ret
    exact ⟨rfl, B1.out⟩
  have HM : Hid (n ≤ 2100) := Lib.hid (by omega)
  rw [decide_eq_false (show ¬ (2100 : Int) < n by omega)]
  clear hg
  have t0 := T1.out.c0
  have t1 := T1.out.c1
  go_wp2_with fail
  refine (Twin_any lv A n c fl w1 HI1.out (by have := HM.out; omega)).mono ?_
  rintro e w2 ⟨D, d, rfl, o2, i2, b2⟩
  have HO2 := Lib.hid o2
  have HSZ : Hid (w.heap.size ≤ w1.heap.size) := Lib.hid B1.out.size
  have HGD : Hid (0 < n → ∃ g, D = some ⟨g, 0, none⟩ ∧ w1.heap.size ≤ g ∧ g < w2.heap.size) := Lib.hid (fun hp => by
    rcases o2 with k | k
    · omega
    · exact k.form hp)
  have B2 := Lib.hid (below_bs B1.out b2)
  have T2 := Lib.hid (T1.out.past b2)
  have HI2 := Lib.hid (HI1.out.past b2)
  have HD2 := Lib.hid i2
  have OD2 : Hid (n = 0 ∨ OwnS w2 w1.heap.size (.slice D n d) n fl) := HO2
  have HW12 : Hid (w1.heap.size ≤ w2.heap.size) := Lib.hid b2.size
  clear t0 t1 T1 b2 B1 HI1 i2 o2 HO2
  go_upto_region 4 with fail
  have gg := tb_box w2 lv D n d
  have D3 := Lib.hid (tb_new w2 lv D n d)
  have B3 := Lib.hid (below_bs B2.out gg)
  have T3 := Lib.hid (T2.out.past gg)
  have HI3 := Lib.hid (HI2.out.past gg)
  have HD3 := Lib.hid (HD2.out.past gg)
  have OD3 : Hid (n = 0 ∨ OwnS ((w2).alloc (.cells #[.int .i64 (lv), .slice D (n) d] 24)) w1.heap.size (.slice D n d) n fl) := Lib.hid (OD2.out.imp id (fun k => k.past gg))
  have HW3 : Hid (w2.heap.size < (((w2).alloc (.cells #[.int .i64 (lv), .slice D (n) d] 24))).heap.size) := Lib.hid (Lies.lt D3.out)
  clear gg B2 T2 HI2 HD2 OD2
  generalize ((w2).alloc (.cells #[.int .i64 (lv), .slice D (n) d] 24)) = w3 at *
  generalize w2.heap.size = gd at *
  go_wp2_with fail
  refine (New_any l w3 HB.out.2.1.1 HB.out.2.1.2).mono ?_
  rintro e w4 ⟨A1, c1, rfl, o4, b4⟩
  generalize hS1 : nwT l = S1 at *
  generalize hE1 : nwE l = E1 at *
  have HS1 := Lib.hid (And.intro hS1 hE1)
  clear hS1 hE1
  have HSB : Hid (∀ z ∈ S1.fl, 0 ≤ z ∧ z ≤ 255) := Lib.hid (by rw [← HS1.out.1]; exact nwT_bd)
  have B4 := Lib.hid (below_bs B3.out b4)
  have D4 := Lib.hid (D3.out.past b4)
  have T4 := Lib.hid (T3.out.past b4)
  have HI4 := Lib.hid (HI3.out.past b4)
  have HD4 := Lib.hid (HD3.out.past b4)
  have OD4 : Hid (n = 0 ∨ OwnS w4 w1.heap.size (.slice D n d) n fl) := Lib.hid (OD3.out.imp id (fun k => k.past b4))
  have HP4 := Lib.hid (ins_own o4 HSB.out)
  clear b4 o4 B3 D3 T3 HI3 HD3 OD3
  go_upto_region 5 with fail
  have gg := tb_box w4 S1.lv A1 S1.n c1
  have P5 := Lib.hid (tb_new w4 S1.lv A1 S1.n c1)
  have B5 := Lib.hid (below_bs B4.out gg)
  have D5 := Lib.hid (D4.out.past gg)
  have T5 := Lib.hid (T4.out.past gg)
  have HI5 := Lib.hid (HI4.out.past gg)
  have HD5 := Lib.hid (HD4.out.past gg)
  have HP5 := Lib.hid (HP4.out.past gg)
  have OD5 : Hid (n = 0 ∨ OwnS ((w4).alloc (.cells #[.int .i64 (S1.lv), .slice A1 (S1.n) c1] 24)) w1.heap.size (.slice D n d) n fl) := Lib.hid (OD4.out.imp id (fun k => k.past gg))
  clear gg OD4 B4 D4 T4 HI4 HD4 HP4
  generalize ((w4).alloc (.cells #[.int .i64 (S1.lv), .slice A1 (S1.n) c1] 24)) = w5 at *
  generalize w4.heap.size = gp at *
  go_wp2_with fail
  refine (rNew l w5 HB.out.2.1.1 HB.out.2.1.2).mono ?_
  rintro e w6 ⟨A2, c2, rfl, o6, b6⟩
  rw [HS1.out.1] at o6 ⊢
  rw [HS1.out.2]
  have B6 := Lib.hid (below_bs B5.out b6)
  have D6 := Lib.hid (D5.out.past b6)
  have T6 := Lib.hid (T5.out.past b6)
  have HI6 := Lib.hid (HI5.out.past b6)
  have HD6 := Lib.hid (HD5.out.past b6)
  have HP6 := Lib.hid (HP5.out.past b6)
  have P6 := Lib.hid (P5.out.past b6)
  have OD6 : Hid (n = 0 ∨ OwnS w6 w1.heap.size (.slice D n d) n fl) := Lib.hid (OD5.out.imp id (fun k => k.past b6))
  have HQ6 := Lib.hid (ins_own o6 HSB.out)
  clear b6 o6 B5 D5 T5 HI5 HD5 HP5 P5 OD5
  go_upto_region 6 with fail
  have gg := tb_box w6 S1.lv A2 S1.n c2
  have Q7 := Lib.hid (tb_new w6 S1.lv A2 S1.n c2)
  have B7 := Lib.hid (below_bs B6.out gg)
  have D7 := Lib.hid (D6.out.past gg)
  have T7 := Lib.hid (T6.out.past gg)
  have HI7 := Lib.hid (HI6.out.past gg)
  have HD7 := Lib.hid (HD6.out.past gg)
  have HP7 := Lib.hid (HP6.out.past gg)
  have P7 := Lib.hid (P6.out.past gg)
  have HQ7 := Lib.hid (HQ6.out.past gg)
  have OD7 : Hid (n = 0 ∨ OwnS ((w6).alloc (.cells #[.int .i64 (S1.lv), .slice A2 (S1.n) c2] 24)) w1.heap.size (.slice D n d) n fl) := Lib.hid (OD6.out.imp id (fun k => k.past gg))
  clear gg OD6 B6 D6 T6 HI6 HD6 HP6 P6 HQ6
  generalize ((w6).alloc (.cells #[.int .i64 (S1.lv), .slice A2 (S1.n) c2] 24)) = w7 at *
  generalize w6.heap.size = gq at *
  have t0 := D7.out.c0
  have t1 := D7.out.c1
  go_wp2_with fail
  refine (Find_any lv D n d fl h w7 HB.out.1.1 HB.out.1.2 HD7.out HB.out.2.2.1 HB.out.2.2.2).mono ?_
  rintro e w8 ⟨A3, c3, rfl, o8, b8⟩
  generalize hS2 : fdT lv n fl h = S2 at *
  generalize hP2 : fdP lv n fl h = P2 at *
  have HS2 := Lib.hid (And.intro hS2 hP2)
  clear hS2 hP2
  have HSC : Hid (∀ z ∈ S2.fl, 0 ≤ z ∧ z ≤ 255) := Lib.hid (by rw [← HS2.out.1]; exact fdT_bd HI7.out.b HB.out.2.2.1 HB.out.2.2.2)
  have B8 := Lib.hid (below_bs B7.out b8)
  have HW7 : Hid (gd < w7.heap.size ∧ w7.heap.size ≤ w8.heap.size) := Lib.hid ⟨Lies.lt D7.out, b8.size⟩
  have D8 := Lib.hid (D7.out.past b8)
  have T8 := Lib.hid (T7.out.past b8)
  have HI8 := Lib.hid (HI7.out.past b8)
  have HD8 := Lib.hid (HD7.out.past b8)
  have HP8 := Lib.hid (HP7.out.past b8)
  have P8 := Lib.hid (P7.out.past b8)
  have HQ8 := Lib.hid (HQ7.out.past b8)
  have Q8 := Lib.hid (Q7.out.past b8)
  have OD8 : Hid (n = 0 ∨ OwnS w8 w1.heap.size (.slice D n d) n fl) := Lib.hid (OD7.out.imp id (fun k => k.past b8))
  have OX8 := Lib.hid o8
  clear b8 o8 t0 t1 B7 D7 T7 HI7 HD7 HP7 P7 HQ7 Q7 OD7
  go_upto_region 7 with fail
  have gg := tb_box w8 S2.lv A3 S2.n c3
  have X9 := Lib.hid (tb_new w8 S2.lv A3 S2.n c3)
  have B9 := Lib.hid (below_bs B8.out gg)
  have D9 := Lib.hid (D8.out.past gg)
  have T9 := Lib.hid (T8.out.past gg)
  have HI9 := Lib.hid (HI8.out.past gg)
  have HD9 := Lib.hid (HD8.out.past gg)
  have HP9 := Lib.hid (HP8.out.past gg)
  have P9 := Lib.hid (P8.out.past gg)
  have HQ9 := Lib.hid (HQ8.out.past gg)
  have Q9 := Lib.hid (Q8.out.past gg)
  have OD9 : Hid (n = 0 ∨ OwnS ((w8).alloc (.cells #[.int .i64 (S2.lv), .slice A3 (S2.n) c3] 24)) w1.heap.size (.slice D n d) n fl) := Lib.hid (OD8.out.imp id (fun k => k.past gg))
  have OX9 := Lib.hid (OX8.out.past gg)
  clear gg OD8 OX8 B8 D8 T8 HI8 HD8 HP8 P8 HQ8 Q8
  generalize ((w8).alloc (.cells #[.int .i64 (S2.lv), .slice A3 (S2.n) c3] 24)) = w9 at *
  generalize w8.heap.size = gx at *
  have t0 := T9.out.c0
  have t1 := T9.out.c1
  go_wp2_with fail
  refine (rFind lv A n c fl h w9 HB.out.1.1 HB.out.1.2 HI9.out HB.out.2.2.1 HB.out.2.2.2).mono ?_
  rintro e w10 ⟨A4, c4, rfl, o10, b10⟩
  rw [HS2.out.1] at o10 ⊢
  rw [HS2.out.2]
  have B10 := Lib.hid (below_bs B9.out b10)
  have HW9 : Hid (gx < w9.heap.size ∧ w9.heap.size ≤ w10.heap.size ∧ gd < gx) := Lib.hid ⟨Lies.lt X9.out, b10.size, by have := HW7.out; omega⟩
  have D10 := Lib.hid (D9.out.past b10)
  have T10 := Lib.hid (T9.out.past b10)
  have HI10 := Lib.hid (HI9.out.past b10)
  have HD10 := Lib.hid (HD9.out.past b10)
  have HP10 := Lib.hid (HP9.out.past b10)
  have P10 := Lib.hid (P9.out.past b10)
  have HQ10 := Lib.hid (HQ9.out.past b10)
  have Q10 := Lib.hid (Q9.out.past b10)
  have X10 := Lib.hid (X9.out.past b10)
  have OD10 : Hid (n = 0 ∨ OwnS w10 w1.heap.size (.slice D n d) n fl) := Lib.hid (OD9.out.imp id (fun k => k.past b10))
  have OX10 := Lib.hid (OX9.out.past b10)
  have OY10 := Lib.hid o10
  clear b10 o10 t0 t1 B9 D9 T9 HI9 HD9 HP9 P9 HQ9 Q9 X9 OD9 OX9
  go_upto_region 8 with fail
  have gg := tb_box w10 S2.lv A4 S2.n c4
  have Y11 := Lib.hid (tb_new w10 S2.lv A4 S2.n c4)
  have B11 := Lib.hid (below_bs B10.out gg)
  have D11 := Lib.hid (D10.out.past gg)
  have T11 := Lib.hid (T10.out.past gg)
  have HI11 := Lib.hid (HI10.out.past gg)
  have HD11 := Lib.hid (HD10.out.past gg)
  have HP11 := Lib.hid (HP10.out.past gg)
  have P11 := Lib.hid (P10.out.past gg)
  have HQ11 := Lib.hid (HQ10.out.past gg)
  have Q11 := Lib.hid (Q10.out.past gg)
  have X11 := Lib.hid (X10.out.past gg)
  have OD11 : Hid (n = 0 ∨ OwnS ((w10).alloc (.cells #[.int .i64 (S2.lv), .slice A4 (S2.n) c4] 24)) w1.heap.size (.slice D n d) n fl) := Lib.hid (OD10.out.imp id (fun k => k.past gg))
  have OX11 := Lib.hid (OX10.out.past gg)
  have OY11 := Lib.hid (OY10.out.past gg)
  clear gg OD10 OX10 OY10 B10 D10 T10 HI10 HD10 HP10 P10 HQ10 Q10 X10
  generalize ((w10).alloc (.cells #[.int .i64 (S2.lv), .slice A4 (S2.n) c4] 24)) = w11 at *
  generalize w10.heap.size = gy at *
  go_upto_region 8 with fail
  have HC : Hid ((n : Int) ≤ 2100) := Lib.hid (by have := HM.out; omega)
  (have RD := grows_roads (S := fun x' => Below w11.heap.size w11 x') (fun a b h1 h2 => below_bs h2 h1)); refine region_ord _ Grows RD (Below.drew (Below.refl w11.heap.size w11)) (by kernel_rfl) ?_; intro ops Q' hops hPQ hN; (have HNS : Hid (Region.noSelect ops = true) := Lib.hid (by rw [hops]; kernel_rfl)); (have hsz : ops.size = 22 := (by rw [hops]; rfl)); have HOP := Lib.hid hops; have HPQ := Lib.hid hPQ; have HN := Lib.hid hN; rw [hsz]; clear hops hsz hPQ hN
  refine ord_take RD 0 (at_list (by rw [HOP.out]; rfl)) HNS.out HPQ.out (by rw [HOP.out]; kernel_rfl) (by rw [HOP.out]; kernel_rfl) (by rw [HOP.out]; rfl) (fun K hK => ?_); apply Exists.intro; refine ⟨fun W hSW => ?_, hK _ ?_⟩; (focus ((try dsimp only at hSW); (have z := (P11.out.past hSW).c0; have z' := (P11.out.past hSW).c1); go_simp; try with_reducible rfl)); clear hK K; (try simp only [Act.put, List.setIfInBounds_toArray, List.set_cons_zero, List.set_cons_succ])
  refine ord_take RD 1 (at_list (by rw [HOP.out]; rfl)) HNS.out HPQ.out (by rw [HOP.out]; kernel_rfl) (by rw [HOP.out]; kernel_rfl) (by rw [HOP.out]; rfl) (fun K hK => ?_); apply Exists.intro; refine ⟨fun W hSW => ?_, hK _ ?_⟩; (focus ((try dsimp only at hSW); (have z := (Q11.out.past hSW).c0; have z' := (Q11.out.past hSW).c1); go_simp; try with_reducible rfl)); clear hK K; (try simp only [Act.put, List.setIfInBounds_toArray, List.set_cons_zero, List.set_cons_succ])
  refine ord_take RD 2 (at_list (by rw [HOP.out]; rfl)) HNS.out HPQ.out (by rw [HOP.out]; kernel_rfl) (by rw [HOP.out]; kernel_rfl) (by rw [HOP.out]; rfl) (fun K hK => ?_); apply Exists.intro; refine ⟨fun W hSW => ?_, hK _ ?_⟩; (focus ((try dsimp only at hSW); go_simp; exact (Same_yes S1.lv A1 A2 S1.n c1 c2 S1.fl W (HP11.out.past hSW) (HQ11.out.past hSW)))); clear hK K; (try simp only [Act.put, List.setIfInBounds_toArray, List.set_cons_zero, List.set_cons_succ])
  refine ord_take RD 3 (at_list (by rw [HOP.out]; rfl)) HNS.out HPQ.out (by rw [HOP.out]; kernel_rfl) (by rw [HOP.out]; kernel_rfl) (by rw [HOP.out]; rfl) (fun K hK => ?_); apply Exists.intro; refine ⟨fun W hSW => ?_, hK _ ?_⟩; (focus ((try dsimp only at hSW); go_simp; try with_reducible rfl)); clear hK K; (try simp only [Act.put, List.setIfInBounds_toArray, List.set_cons_zero, List.set_cons_succ])
  refine ord_take RD 4 (at_list (by rw [HOP.out]; rfl)) HNS.out HPQ.out (by rw [HOP.out]; kernel_rfl) (by rw [HOP.out]; kernel_rfl) (by rw [HOP.out]; rfl) (fun K hK => ?_); apply Exists.intro; refine ⟨fun W hSW => ?_, hK _ ?_⟩; (focus ((try dsimp only at hSW); go_simp; try with_reducible rfl)); clear hK K; (try simp only [Act.put, List.setIfInBounds_toArray, List.set_cons_zero, List.set_cons_succ])
  refine ord_take RD 5 (at_list (by rw [HOP.out]; rfl)) HNS.out HPQ.out (by rw [HOP.out]; kernel_rfl) (by rw [HOP.out]; kernel_rfl) (by rw [HOP.out]; rfl) (fun K hK => ?_); apply Exists.intro; refine ⟨fun W hSW => ?_, hK _ ?_⟩; (focus ((try dsimp only at hSW); go_simp; try with_reducible rfl)); clear hK K; (try simp only [Act.put, List.setIfInBounds_toArray, List.set_cons_zero, List.set_cons_succ])
  refine ord_take RD 6 (at_list (by rw [HOP.out]; rfl)) HNS.out HPQ.out (by rw [HOP.out]; kernel_rfl) (by rw [HOP.out]; kernel_rfl) (by rw [HOP.out]; rfl) (fun K hK => ?_); apply Exists.intro; refine ⟨fun W hSW => ?_, hK _ ?_⟩; (focus ((try dsimp only at hSW); go_simp; try with_reducible rfl)); clear hK K; (try simp only [Act.put, List.setIfInBounds_toArray, List.set_cons_zero, List.set_cons_succ])
  refine ord_take RD 7 (at_list (by rw [HOP.out]; rfl)) HNS.out HPQ.out (by rw [HOP.out]; kernel_rfl) (by rw [HOP.out]; kernel_rfl) (by rw [HOP.out]; rfl) (fun K hK => ?_); apply Exists.intro; refine ⟨fun W hSW => ?_, hK _ ?_⟩; (focus ((try dsimp only at hSW); go_simp; try with_reducible rfl)); clear hK K; (try simp only [Act.put, List.setIfInBounds_toArray, List.set_cons_zero, List.set_cons_succ])
  refine ord_take RD 8 (at_list (by rw [HOP.out]; rfl)) HNS.out HPQ.out (by rw [HOP.out]; kernel_rfl) (by rw [HOP.out]; kernel_rfl) (by rw [HOP.out]; rfl) (fun K hK => ?_); apply Exists.intro; refine ⟨fun W hSW => ?_, hK _ ?_⟩; (focus ((try dsimp only at hSW); go_simp; try with_reducible rfl)); clear hK K; (try simp only [Act.put, List.setIfInBounds_toArray, List.set_cons_zero, List.set_cons_succ])
  refine ord_take RD 9 (at_list (by rw [HOP.out]; rfl)) HNS.out HPQ.out (by rw [HOP.out]; kernel_rfl) (by rw [HOP.out]; kernel_rfl) (by rw [HOP.out]; rfl) (fun K hK => ?_); apply Exists.intro; refine ⟨fun W hSW => ?_, hK _ ?_⟩; (focus ((try dsimp only at hSW); go_simp; try with_reducible rfl)); clear hK K; (try simp only [Act.put, List.setIfInBounds_toArray, List.set_cons_zero, List.set_cons_succ])
  refine ord_take RD 10 (at_list (by rw [HOP.out]; rfl)) HNS.out HPQ.out (by rw [HOP.out]; kernel_rfl) (by rw [HOP.out]; kernel_rfl) (by rw [HOP.out]; rfl) (fun K hK => ?_); apply Exists.intro; refine ⟨fun W hSW => ?_, hK _ ?_⟩; (focus ((try dsimp only at hSW); (have z := (D11.out.past hSW).c0; have z' := (D11.out.past hSW).c1); go_simp; try with_reducible rfl)); clear hK K; (try simp only [Act.put, List.setIfInBounds_toArray, List.set_cons_zero, List.set_cons_succ])
  refine ord_take RD 11 (at_list (by rw [HOP.out]; rfl)) HNS.out HPQ.out (by rw [HOP.out]; kernel_rfl) (by rw [HOP.out]; kernel_rfl) (by rw [HOP.out]; rfl) (fun K hK => ?_); apply Exists.intro; refine ⟨fun W hSW => ?_, hK _ ?_⟩; (focus ((try dsimp only at hSW); go_simp; exact (Check_any lv D n d fl W HB.out.1.1 HB.out.1.2 (HD11.out.past hSW)))); clear hK K; (try simp only [Act.put, List.setIfInBounds_toArray, List.set_cons_zero, List.set_cons_succ])
  refine ord_take RD 12 (at_list (by rw [HOP.out]; rfl)) HNS.out HPQ.out (by rw [HOP.out]; kernel_rfl) (by rw [HOP.out]; kernel_rfl) (by rw [HOP.out]; rfl) (fun K hK => ?_); apply Exists.intro; refine ⟨fun W hSW => ?_, hK _ ?_⟩; (focus ((try dsimp only at hSW); (have z := (T11.out.past hSW).c0; have z' := (T11.out.past hSW).c1); go_simp; try with_reducible rfl)); clear hK K; (try simp only [Act.put, List.setIfInBounds_toArray, List.set_cons_zero, List.set_cons_succ])
  refine ord_take RD 13 (at_list (by rw [HOP.out]; rfl)) HNS.out HPQ.out (by rw [HOP.out]; kernel_rfl) (by rw [HOP.out]; kernel_rfl) (by rw [HOP.out]; rfl) (fun K hK => ?_); apply Exists.intro; refine ⟨fun W hSW => ?_, hK _ ?_⟩; (focus ((try dsimp only at hSW); go_simp; exact (rCheck lv A n c fl W HB.out.1.1 HB.out.1.2 (HI11.out.past hSW)))); clear hK K; (try simp only [Act.put, List.setIfInBounds_toArray, List.set_cons_zero, List.set_cons_succ])
  refine ord_take RD 14 (at_list (by rw [HOP.out]; rfl)) HNS.out HPQ.out (by rw [HOP.out]; kernel_rfl) (by rw [HOP.out]; kernel_rfl) (by rw [HOP.out]; rfl) (fun K hK => ?_); apply Exists.intro; refine ⟨fun W hSW => ?_, hK _ ?_⟩; (focus ((try dsimp only at hSW); go_simp; try with_reducible rfl)); clear hK K; (try simp only [Act.put, List.setIfInBounds_toArray, List.set_cons_zero, List.set_cons_succ])
  refine ord_take RD 15 (at_list (by rw [HOP.out]; rfl)) HNS.out HPQ.out (by rw [HOP.out]; kernel_rfl) (by rw [HOP.out]; kernel_rfl) (by rw [HOP.out]; rfl) (fun K hK => ?_); apply Exists.intro; refine ⟨fun W hSW => ?_, hK _ ?_⟩; (focus ((try dsimp only at hSW); go_simp; try with_reducible rfl)); clear hK K; (try simp only [Act.put, List.setIfInBounds_toArray, List.set_cons_zero, List.set_cons_succ])
  refine ord_take RD 16 (at_list (by rw [HOP.out]; rfl)) HNS.out HPQ.out (by rw [HOP.out]; kernel_rfl) (by rw [HOP.out]; kernel_rfl) (by rw [HOP.out]; rfl) (fun K hK => ?_); apply Exists.intro; refine ⟨fun W hSW => ?_, hK _ ?_⟩; (focus ((try dsimp only at hSW); go_simp; try with_reducible rfl)); clear hK K; (try simp only [Act.put, List.setIfInBounds_toArray, List.set_cons_zero, List.set_cons_succ])
  refine ord_take RD 17 (at_list (by rw [HOP.out]; rfl)) HNS.out HPQ.out (by rw [HOP.out]; kernel_rfl) (by rw [HOP.out]; kernel_rfl) (by rw [HOP.out]; rfl) (fun K hK => ?_); apply Exists.intro; refine ⟨fun W hSW => ?_, hK _ ?_⟩; (focus ((try dsimp only at hSW); (have z := (D11.out.past hSW).c0; have z' := (D11.out.past hSW).c1); go_simp; try with_reducible rfl)); clear hK K; (try simp only [Act.put, List.setIfInBounds_toArray, List.set_cons_zero, List.set_cons_succ])
  refine ord_take RD 18 (at_list (by rw [HOP.out]; rfl)) HNS.out HPQ.out (by rw [HOP.out]; kernel_rfl) (by rw [HOP.out]; kernel_rfl) (by rw [HOP.out]; rfl) (fun K hK => ?_); apply Exists.intro; refine ⟨fun W hSW => ?_, hK _ ?_⟩; (focus ((try dsimp only at hSW); (have z := (T11.out.past hSW).c0; have z' := (T11.out.past hSW).c1); go_simp; try with_reducible rfl)); clear hK K; (try simp only [Act.put, List.setIfInBounds_toArray, List.set_cons_zero, List.set_cons_succ])
  refine ord_take RD 19 (at_list (by rw [HOP.out]; rfl)) HNS.out HPQ.out (by rw [HOP.out]; kernel_rfl) (by rw [HOP.out]; kernel_rfl) (by rw [HOP.out]; rfl) (fun K hK => ?_); apply Exists.intro; refine ⟨fun W hSW => ?_, hK _ ?_⟩; (focus ((try dsimp only at hSW); go_simp; exact (Same_yes lv D A n d c fl W (HD11.out.past hSW) (HI11.out.past hSW)))); clear hK K; (try simp only [Act.put, List.setIfInBounds_toArray, List.set_cons_zero, List.set_cons_succ])
  refine ord_take RD 20 (at_list (by rw [HOP.out]; rfl)) HNS.out HPQ.out (by rw [HOP.out]; kernel_rfl) (by rw [HOP.out]; kernel_rfl) (by rw [HOP.out]; rfl) (fun K hK => ?_); apply Exists.intro; refine ⟨fun W hSW => ?_, hK _ ?_⟩; (focus ((try dsimp only at hSW); go_simp; try with_reducible rfl)); clear hK K; (try simp only [Act.put, List.setIfInBounds_toArray, List.set_cons_zero, List.set_cons_succ])
  refine ord_take RD 21 (at_list (by rw [HOP.out]; rfl)) HNS.out HPQ.out (by rw [HOP.out]; kernel_rfl) (by rw [HOP.out]; kernel_rfl) (by rw [HOP.out]; rfl) (fun K hK => ?_); apply Exists.intro; refine ⟨fun W hSW => ?_, hK _ ?_⟩; (focus ((try dsimp only at hSW); go_simp; try with_reducible rfl)); clear hK K; (try simp only [Act.put, List.setIfInBounds_toArray, List.set_cons_zero, List.set_cons_succ])
  refine ord_done (by rw [HOP.out]; kernel_rfl) (fun w12 hWW hSW => HN.out _ _ ?_); clear HOP HNS HPQ HN RD; (try dsimp only at hSW)
  have B12 := Lib.hid (below_bs B11.out hSW)
  have D12 := Lib.hid (D11.out.past hSW)
  have X12 := Lib.hid (X11.out.past hSW)
  have Y12 := Lib.hid (Y11.out.past hSW)
  have OD12 : Hid (n = 0 ∨ OwnS w12 w1.heap.size (.slice D n d) n fl) := Lib.hid (OD11.out.imp id (fun k => k.past hSW))
  have OX12 := Lib.hid (OX11.out.past hSW)
  have OY12 := Lib.hid (OY11.out.past hSW)
  have HGX : Hid (gx ≠ gd ∧ gy ≠ gd) := Lib.hid (by have := HW9.out; have := HW7.out; omega)
  clear hSW hWW B11 D11 X11 Y11 T11 P11 Q11 HP11 HQ11 HI11 HD11 OD11 OX11 OY11
  go_wp2_with fail
  go_loopw [18] (fun iv wz => ∃ i : Nat, i ≤ n ∧ iv = .int .i64 i ∧ ∃ fz, (n = 0 ∨ OwnS wz w1.heap.size (.slice D n d) n fz) ∧ OwnS wz w7.heap.size (.slice A3 S2.n c3) S2.n S2.fl ∧ OwnS wz w9.heap.size (.slice A4 S2.n c4) S2.n S2.fl ∧ TbAt wz gd lv D n d ∧ TbAt wz gx S2.lv A3 S2.n c3 ∧ TbAt wz gy S2.lv A4 S2.n c4 ∧ Below w.heap.size w wz) (fun iv _ => n - (intOf iv).toNat)
  case atStart => exact ⟨0, by omega, rfl, fl, OD12.out, OX12.out, OY12.out, D12.out, X12.out, Y12.out, B12.out⟩
  case round =>
    obtain ⟨i, hi, rfl, fz, hod, hox, hoy, hd, hx, hy, hb⟩ := hrel
    rename World => wz
    clear B12 D12 X12 Y12 OD12 OX12 OY12
    have BZ := Lib.hid hb
    have DZ := Lib.hid hd
    have XZ := Lib.hid hx
    have YZ := Lib.hid hy
    have ODZ := Lib.hid hod
    have OXZ := Lib.hid hox
    have OYZ := Lib.hid hoy
    clear hb hd hx hy hod hox hoy
    by_cases hlt : i < n
    · have HLT := Lib.hid hlt
      have k1 : (i : Int) < n := by omega
      have HGG := Lib.hid (HGD.out (by omega))
      obtain ⟨g, hg1, hg2, hg3⟩ := HGG.out
      subst hg1
      have HG := Lib.hid (And.intro hg2 hg3)
      have OZ : Hid (OwnS wz w1.heap.size (.slice (some ⟨g, 0, none⟩) n d) n fz) := Lib.hid (by
        rcases ODZ.out with k | k
        · omega
        · exact k)
      have HLEN := Lib.hid OZ.out.len
      have hcl := OZ.out.cell (i * 16) (by rw [HLEN.out]; omega)
      have hfr := OZ.out.frozen (i * 16)
      have d1 := DZ.out.c1
      generalize fz.getD (i * 16) 0 = vv at *
      clear hi hlt hg2 hg3 HGG HGD ODZ
      go_wp2_with fail
      exact ⟨⟨i + 1, by have := HLT.out; omega, by go_num, _, .inr (OZ.out.store (i * 16) _), own_low OXZ.out (by have := HG.out; have := HW7.out; simp; omega) _, own_low OYZ.out (by have := HG.out; have := HW7.out; have := HW9.out; simp; omega) _, Lies.other DZ.out (by have := HG.out; simp; omega) _, Lies.other XZ.out (by have := HG.out; have := HW7.out; have := HW9.out; simp; omega) _, Lies.other YZ.out (by have := HG.out; have := HW7.out; have := HW9.out; simp; omega) _, Below.setCell BZ.out (by have := HG.out; have := HSZ.out; simp; omega) _⟩, by simp [intOf]; have := HLT.out; omega⟩
    · have k1 : ¬ (i : Int) < n := by omega
      have d1 := DZ.out.c1
      have x0 := XZ.out.c0
      have x1 := XZ.out.c1
      have y0 := YZ.out.c0
      have y1 := YZ.out.c1
      clear hi hlt
      go_wp2_with fail
      refine (Same_yes S2.lv A3 A4 S2.n c3 c4 S2.fl wz (ins_own OXZ.out HSC.out) (ins_own OYZ.out HSC.out)).mono ?_
      rintro e wl ⟨rfl, bl⟩
      have BL := Lib.hid (below_bs BZ.out bl)
      clear bl d1 x0 x1 y0 y1
      go_wp2_with fail
      go_ret
      exact ⟨rfl, BL.out⟩
end Go.Proofs.Ytkklmclnjmafaaa.slL
