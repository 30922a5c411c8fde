/- The law SlotsAgain, by a walk. -/
import Derived.Test.YtkklmclnjmafaaaSlA2
import Derived.Test.YtkklmclnjmafaaaSlPl2
namespace Go.Proofs.Ytkklmclnjmafaaa.slL
set_option maxRecDepth 100000
open Go.RowKit Go.Proofs.Ytkklmclnjmafaaa.base Go.Proofs.Ytkklmclnjmafaaa.slP Go.Proofs.Ytkklmclnjmafaaa.slW
set_option linter.unusedVariables false
set_option linter.unusedSimpArgs false
set_option maxRecDepth 100000
set_option maxHeartbeats 6400000 in
theorem again (lv : Int) (A : Option Addr) (n c : Nat) (fl : List Int) (h p k x : Int) (w : World) (hh : (-9223372036854775808 ≤ lv ∧ lv ≤ 9223372036854775807) ∧ InS w A n c fl) (h0 : 0 ≤ h) (h1 : h ≤ 4294967295) (p0 : -9223372036854775808 ≤ p) (p1 : p ≤ 9223372036854775807) (k0 : -9223372036854775808 ≤ k) (k1 : k ≤ 9223372036854775807) (x0 : 0 ≤ x) (x1 : x ≤ 255) :
    Calls Try.prog 7 #[.agg #[.int .i64 lv, .slice A n c], .int .u32 h, .int .i64 p, .int .i64 k, .int .u8 x] w fun e w' => e = .returned (.bool true) ∧ Below w.heap.size w w' := by
  obtain ⟨hlv, hi⟩ := hh
  have HB := Lib.hid (And.intro hlv (And.intro (And.intro h0 h1) (And.intro x0 x1)))
  have HI := Lib.hid hi
  have t0 := (tb_new w lv A n c).c0
  have t1 := (tb_new w lv A n c).c1
  have T0 := Lib.hid (tb_new w lv A n c)
  have B0 := Lib.hid (tb_box w lv A n c)
  clear hi hlv h0 h1 p0 p1 k0 k1 x0 x1
  go_enter Try.func7, Try.ntmps7
  go_upto_region 1 with fail
  generalize (w.alloc (.cells #[.int .i64 lv, .slice A n c] 24)) = w0 at *
  obtain ⟨v, hv⟩ : ∃ v, okB lv n fl = v := ⟨_, rfl⟩
  go_wp2_with fail
  refine (fit_any lv A n c fl v w0 HB.out.1.1 HB.out.1.2 (HI.out.past B0.out) hv).mono ?_
  rintro e w1 ⟨rfl, b1⟩
  have B1 := Lib.hid (below_bs B0.out b1)
  have T1 := Lib.hid (T0.out.past b1)
  have HI1 := Lib.hid ((HI.out.past B0.out).past b1)
  clear t0 t1 T0 b1 B0 HI
  cases v
  · clear hv
    go_wp2_with fail
    refine (alive_any w1).mono ?_
    rintro e w2 ⟨rfl, b2⟩
    have B2 := Lib.hid (below_bs B1.out b2)
    clear b2
    go_wp2_with fail
    go_ret
    exact ⟨rfl, B2.out⟩
  have HOK := Lib.hid hv
  have HPL := Lib.hid (place_ok h hv)
  have HF := Lib.hid (fd_ok (h := h) hv)
  have HAG := Lib.hid (fd_again (h := h) hv HI1.out.e HPL.out.2.2.1 HPL.out.2.2.2.1)
  have HF2 := Lib.hid (fd_ok (h := h) HAG.out.1)
  clear hv
  have t0 := T1.out.c0
  have t1 := T1.out.c1
  go_wp2_with fail
  refine (Find_any lv A n c fl h w1 HB.out.1.1 HB.out.1.2 HI1.out HB.out.2.1.1 HB.out.2.1.2).mono ?_
  rintro e w2 ⟨A1, c1, rfl, o2, b2⟩
  have HSB : Hid (∀ z ∈ fdL fl n h, 0 ≤ z ∧ z ≤ 255) := Lib.hid (by
    have := fdT_bd (lv := lv) (n := n) (h := h) HI1.out.b HB.out.2.1.1 HB.out.2.1.2
    rw [HF.out.1] at this; exact this)
  rw [HF.out.1] at o2 ⊢
  rw [HF.out.2.1, HF.out.2.2]
  have I2 := Lib.hid (ins_own o2 HSB.out)
  have B2 := Lib.hid (below_bs B1.out b2)
  clear o2 b2 B1 HI1 T1 t0 t1
  obtain ⟨f1, hf1⟩ : ∃ f1, fdL fl n h = f1 := ⟨_, rfl⟩
  obtain ⟨q, hq⟩ : ∃ q, lkN fl n h = q := ⟨_, rfl⟩
  rw [hf1] at I2 HSB HAG HF2
  rw [hq] at HAG ⊢
  rw [HAG.out.2.1, HAG.out.2.2.2.1] at HF2
  simp only [hf1]
  clear hf1 hq
  go_upto_region 4 with fail
  have gg := tb_box w2 lv A1 n c1
  have X3 := Lib.hid (tb_new w2 lv A1 n c1)
  have B3 := Lib.hid (below_bs B2.out gg)
  have I3 := Lib.hid (I2.out.past gg)
  clear gg B2 I2
  generalize ((w2).alloc (.cells #[.int .i64 (lv), .slice A1 (n) c1] 24)) = w3 at *
  generalize w2.heap.size = gx at *
  have t0 := X3.out.c0
  have t1 := X3.out.c1
  go_wp2_with fail
  refine (Find_any lv A1 n c1 f1 h w3 HB.out.1.1 HB.out.1.2 I3.out HB.out.2.1.1 HB.out.2.1.2).mono ?_
  rintro e w4 ⟨A2, c2, rfl, o4, b4⟩
  rw [HF2.out.1] at o4 ⊢
  rw [HF2.out.2.1, HF2.out.2.2]
  have J4 := Lib.hid (ins_own o4 HSB.out)
  have B4 := Lib.hid (below_bs B3.out b4)
  have I4 := Lib.hid (I3.out.past b4)
  have X4 := Lib.hid (X3.out.past b4)
  clear o4 b4 B3 I3 X3 t0 t1
  go_upto_region 5 with fail
  have gg := tb_box w4 lv A2 n c2
  have Y5 := Lib.hid (tb_new w4 lv A2 n c2)
  have B5 := Lib.hid (below_bs B4.out gg)
  have I5 := Lib.hid (I4.out.past gg)
  have X5 := Lib.hid (X4.out.past gg)
  have J5 := Lib.hid (J4.out.past gg)
  clear gg B4 I4 X4 J4
  generalize ((w4).alloc (.cells #[.int .i64 (lv), .slice A2 (n) c2] 24)) = w5 at *
  generalize w4.heap.size = gy at *
  have x0 := X5.out.c0
  have x1 := X5.out.c1
  have y0 := Y5.out.c0
  have y1 := Y5.out.c1
  go_wp2_with fail
  refine (Same_yes lv A1 A2 n c1 c2 f1 w5 I5.out J5.out).mono ?_
  rintro e w6 ⟨rfl, b6⟩
  have B6 := Lib.hid (below_bs B5.out b6)
  have I6 := Lib.hid (I5.out.past b6)
  have X6 := Lib.hid (X5.out.past b6)
  clear b6 B5 I5 X5 J5 Y5 x0 x1 y0 y1
  have t0 := X6.out.c0
  have t1 := X6.out.c1
  go_wp2_with fail
  refine (rCheck lv A1 n c1 f1 w6 HB.out.1.1 HB.out.1.2 I6.out).mono ?_
  rintro e w7 ⟨rfl, b7⟩
  rw [okE_ok HAG.out.1]
  have B7 := Lib.hid (below_bs B6.out b7)
  have I7 := Lib.hid (I6.out.past b7)
  have X7 := Lib.hid (X6.out.past b7)
  clear b7 B6 I6 X6 t0 t1
  have t0 := X7.out.c0
  have t1 := X7.out.c1
  go_wp2_with fail
  refine (Bit_any lv A1 n c1 f1 p k x w7 HB.out.1.1 HB.out.1.2 I7.out HB.out.2.2.1 HB.out.2.2.2).mono ?_
  rintro e w8 ⟨A3, c3, rfl, o8, b8⟩
  by_cases hz : bitE lv n f1 p k x = 0
  · obtain ⟨fz, hfz, hzo, hzc⟩ := bit_same HAG.out.1 I7.out.e HSB.out HB.out.2.2.1 hz
    have HZB : Hid (∀ z ∈ fz, 0 ≤ z ∧ z ≤ 255) := Lib.hid (by
      have := bitT_bd (lv := lv) (n := n) (p := p) (k := k) HSB.out HB.out.2.2.1
      rw [hfz] at this; exact this)
    have hsf := same_find (fl := f1) (fl' := fz) HPL.out.2.2.1 HPL.out.2.2.2.1 (fun i _ => hzc i) HAG.out.2.2.1
    have hff := fd_ok (h := h) hzo
    rw [hsf.1, HAG.out.2.1, hsf.2.2] at hff
    have HFZ := Lib.hid hff
    rw [hfz] at o8 ⊢
    rw [hz]
    have K8 := Lib.hid (ins_own o8 HZB.out)
    have B8 := Lib.hid (below_bs B7.out b8)
    clear o8 b8 B7 I7 X7 t0 t1 hz hfz hzo hzc hsf hff
    go_upto_region 8 with fail
    have gg := tb_box w8 lv A3 n c3
    have Z9 := Lib.hid (tb_new w8 lv A3 n c3)
    have B9 := Lib.hid (below_bs B8.out gg)
    have K9 := Lib.hid (K8.out.past gg)
    clear gg B8 K8
    generalize ((w8).alloc (.cells #[.int .i64 (lv), .slice A3 (n) c3] 24)) = w9 at *
    generalize w8.heap.size = gz at *
    have t0 := Z9.out.c0
    have t1 := Z9.out.c1
    go_wp2_with fail
    refine (Find_any lv A3 n c3 fz h w9 HB.out.1.1 HB.out.1.2 K9.out HB.out.2.1.1 HB.out.2.1.2).mono ?_
    rintro e w10 ⟨A4, c4, rfl, o10, b10⟩
    rw [HFZ.out.1] at o10 ⊢
    rw [HFZ.out.2.1, HFZ.out.2.2]
    have L10 := Lib.hid (ins_own o10 HZB.out)
    have B10 := Lib.hid (below_bs B9.out b10)
    have K10 := Lib.hid (K9.out.past b10)
    have Z10 := Lib.hid (Z9.out.past b10)
    clear o10 b10 B9 K9 Z9 t0 t1
    go_upto_region 11 with fail
    have gg := tb_box w10 lv A4 n c4
    have U11 := Lib.hid (tb_new w10 lv A4 n c4)
    have B11 := Lib.hid (below_bs B10.out gg)
    have K11 := Lib.hid (K10.out.past gg)
    have Z11 := Lib.hid (Z10.out.past gg)
    have L11 := Lib.hid (L10.out.past gg)
    clear gg B10 K10 Z10 L10
    generalize ((w10).alloc (.cells #[.int .i64 (lv), .slice A4 (n) c4] 24)) = w11 at *
    generalize w10.heap.size = gu at *
    have x0 := Z11.out.c0
    have x1 := Z11.out.c1
    have y0 := U11.out.c0
    have y1 := U11.out.c1
    go_wp2_with fail
    refine (Same_yes lv A4 A3 n c4 c3 fz w11 L11.out K11.out).mono ?_
    rintro e w12 ⟨rfl, b12⟩
    have B12 := Lib.hid (below_bs B11.out b12)
    clear b12 B11 x0 x1 y0 y1
    go_wp2_with fail
    refine (alive_any w12).mono ?_
    rintro e w13 ⟨rfl, b13⟩
    have B13 := Lib.hid (below_bs B12.out b13)
    clear b13
    go_wp2_with fail
    go_ret
    exact ⟨rfl, B13.out⟩
  · have h2 : bitE lv n f1 p k x = 2 := by
      rcases bitE_vals (p := p) (k := k) (x := x) HAG.out.1 with e | e
      · exact absurd e hz
      · exact e
    rw [h2]
    have B8 := Lib.hid (below_bs B7.out b8)
    clear o8 b8 B7 I7 X7 t0 t1 hz h2
    go_upto_region 8 with fail
    have G9 := tb_box w8 (bitT lv n f1 p k x).lv A3 (bitT lv n f1 p k x).n c3
    have B9 := Lib.hid (below_bs B8.out G9)
    clear G9 B8
    generalize ((w8).alloc (.cells #[.int .i64 ((bitT lv n f1 p k x).lv), .slice A3 ((bitT lv n f1 p k x).n) c3] 24)) = w9 at *
    go_wp2_with fail
    refine (alive_any w9).mono ?_
    rintro e w10 ⟨rfl, b10⟩
    have B10 := Lib.hid (below_bs B9.out b10)
    clear b10
    go_wp2_with fail
    go_ret
    exact ⟨rfl, B10.out⟩
end Go.Proofs.Ytkklmclnjmafaaa.slL
