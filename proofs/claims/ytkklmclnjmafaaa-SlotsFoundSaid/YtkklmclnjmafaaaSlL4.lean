/- The law SlotsFound, by a walk. -/
import Derived.Test.YtkklmclnjmafaaaSlPl3
namespace Go.Proofs.Ytkklmclnjmafaaa.slL
set_option maxRecDepth 100000
open Go.RowKit Go.Proofs.Ytkklmclnjmafaaa.base Go.Proofs.Ytkklmclnjmafaaa.slP Go.Proofs.Ytkklmclnjmafaaa.slW
set_option linter.unusedVariables false
set_option linter.unusedSimpArgs false
set_option maxRecDepth 100000
set_option maxHeartbeats 6400000 in
theorem found (lv : Int) (A : Option Addr) (n c : Nat) (fl : List Int) (h : Int) (w : World) (hh : (-9223372036854775808 ≤ lv ∧ lv ≤ 9223372036854775807) ∧ InS w A n c fl) (h0 : 0 ≤ h) (h1 : h ≤ 4294967295) :
    Calls Try.prog 6 #[.agg #[.int .i64 lv, .slice A n c], .int .u32 h] w fun e w' => e = .returned (.bool true) ∧ Below w.heap.size w w' := by
  obtain ⟨hlv, hi⟩ := hh
  have HB := Lib.hid (And.intro hlv (And.intro h0 h1))
  have HI := Lib.hid hi
  have t0 := (tb_new w lv A n c).c0
  have t1 := (tb_new w lv A n c).c1
  have T0 := Lib.hid (tb_new w lv A n c)
  have B0 := Lib.hid (tb_box w lv A n c)
  clear hi hlv h0 h1
  go_enter Try.func6, Try.ntmps6
  go_upto_region 1 with fail
  generalize (w.alloc (.cells #[.int .i64 lv, .slice A n c] 24)) = w0 at *
  obtain ⟨v, hv⟩ : ∃ v, okB lv n fl = v := ⟨_, rfl⟩
  go_wp2_with fail
  refine (fit_any lv A n c fl v w0 HB.out.1.1 HB.out.1.2 (HI.out.past B0.out) hv).mono ?_
  rintro e w1 ⟨rfl, b1⟩
  have B1 := Lib.hid (below_bs B0.out b1)
  have T1 := Lib.hid (T0.out.past b1)
  have HI1 := Lib.hid ((HI.out.past B0.out).past b1)
  clear t0 t1 T0 b1 B0 HI
  cases v
  · clear hv
    go_wp2_with fail
    refine (alive_any w1).mono ?_
    rintro e w2 ⟨rfl, b2⟩
    have B2 := Lib.hid (below_bs B1.out b2)
    clear b2
    go_wp2_with fail
    go_ret
    exact ⟨rfl, B2.out⟩
  have HOK := Lib.hid hv
  have HPL := Lib.hid (place_ok h hv)
  have HF := Lib.hid (fd_ok (h := h) hv)
  have HAG := Lib.hid (fd_again (h := h) hv HI1.out.e HPL.out.2.2.1 HPL.out.2.2.2.1)
  have HSL := Lib.hid (fd_slots (lv := lv) (h := h) HI1.out.e HPL.out.2.2.1 HPL.out.2.2.2.1)
  have HST : Hid (∀ i, i < n → stA fl i 0 < 193) := Lib.hid (fun i hi => ((ok_iff lv n fl).1 hv).2.2 i hi 0 (by decide))
  have HLK : Hid (lkN fl n h < n ∧ bes (lkN fl n h) < n ∧ lkN fl n h / 2 = plN n h / 2) := Lib.hid ⟨lk_bound HPL.out.2.2.1 HPL.out.2.2.2.1, by
    rcases lk_two fl n h with e | e
    · rw [e]; exact HPL.out.2.2.2.1
    · rw [e, bes_bes]; exact HPL.out.2.2.1, lk_half fl n h⟩
  clear hv
  have t0 := T1.out.c0
  have t1 := T1.out.c1
  go_wp2_with fail
  refine (Find_any lv A n c fl h w1 HB.out.1.1 HB.out.1.2 HI1.out HB.out.2.1 HB.out.2.2).mono ?_
  rintro e w2 ⟨A1, c1, rfl, o2, b2⟩
  have HSB : Hid (∀ z ∈ fdL fl n h, 0 ≤ z ∧ z ≤ 255) := Lib.hid (by
    have := fdT_bd (lv := lv) (n := n) (h := h) HI1.out.b HB.out.2.1 HB.out.2.2
    rw [HF.out.1] at this; exact this)
  rw [HF.out.1] at o2 ⊢
  rw [HF.out.2.1, HF.out.2.2]
  have I2 := Lib.hid (ins_own o2 HSB.out)
  have B2 := Lib.hid (below_bs B1.out b2)
  have HI2 := Lib.hid (HI1.out.past b2)
  have T2 := Lib.hid (T1.out.past b2)
  clear o2 b2 B1 HI1 T1 t0 t1
  obtain ⟨f1, hf1⟩ : ∃ f1, fdL fl n h = f1 := ⟨_, rfl⟩
  obtain ⟨m, hm⟩ : ∃ m, lkN fl n h = m := ⟨_, rfl⟩
  obtain ⟨q, hq⟩ : ∃ q, plN n h = q := ⟨_, rfl⟩
  obtain ⟨d, hd⟩ : ∃ d, bes m = d := ⟨_, rfl⟩
  obtain ⟨ck, hck⟩ : ∃ ck, h / 16777216 = ck := ⟨_, rfl⟩
  have HCK : Hid (ckN h = ck) := Lib.hid hck
  have HD := Lib.hid hd
  rw [hf1] at I2 HSB HAG HSL
  rw [hm] at HAG HSL HLK ⊢
  rw [hq] at HPL HLK HSL
  rw [hd] at HLK HSL
  rw [HCK.out] at HAG HSL
  simp only [hf1]
  clear hf1 hm hd
  go_upto_region 4 with fail
  have gg := tb_box w2 lv A1 n c1
  have X3 := Lib.hid (tb_new w2 lv A1 n c1)
  have B3 := Lib.hid (below_bs B2.out gg)
  have I3 := Lib.hid (I2.out.past gg)
  have HI3 := Lib.hid (HI2.out.past gg)
  have T3 := Lib.hid (T2.out.past gg)
  clear gg B2 I2 HI2 T2
  generalize ((w2).alloc (.cells #[.int .i64 (lv), .slice A1 (n) c1] 24)) = w3 at *
  generalize w2.heap.size = gx at *
  have t1 := T3.out.c1
  go_wp2_with fail
  refine (hashW.place_any h n w3 HB.out.2.1 HB.out.2.2).mono ?_
  rintro e _ ⟨rfl, rfl⟩
  rw [HPL.out.1, HPL.out.2.1]
  clear hq
  go_wp2_with fail
  refine (hashW.check_any h w3 HB.out.2.1 HB.out.2.2).mono ?_
  rintro e _ ⟨rfl, rfl⟩
  rw [hck]
  clear hck t1
  have HMN : Hid (0 < n ∧ n ≤ 2048) := Lib.hid (by have := HPL.out; omega)
  obtain ⟨bx, ox, hA1, -, hcx⟩ := I3.out.at_ HMN.out.1
  obtain ⟨bt, ot, hA, -, hct⟩ := HI3.out.at_ HMN.out.1
  subst hA1
  subst hA
  have cx := hcx (16 * m) (by have := HLK.out; omega)
  rw [show ox + 16 * m = ox + m * 16 by omega, show f1.getD (16 * m) 0 = chA f1 m from rfl, HAG.out.2.2.2.2] at cx
  have HCT : Hid (∀ j, j < n → ∀ r, r < 16 → w3.cell? ⟨bt, ot + j * 16 + r, none⟩ = some (.int .u8 (fl.getD (16 * j + r) 0))) := Lib.hid (fun j hj r hr => by
    have := hct (16 * j + r) (by omega)
    rw [show ot + (16 * j + r) = ot + j * 16 + r by omega] at this; exact this)
  have ctm := HCT.out m HLK.out.1 0 (by decide)
  have ctq := HCT.out q HPL.out.2.2.1 0 (by decide)
  have ctd := HCT.out d HLK.out.2.1 0 (by decide)
  have ctm1 := HCT.out m HLK.out.1 1 (by decide)
  have ctd1 := HCT.out d HLK.out.2.1 1 (by decide)
  rw [show ot + m * 16 + 0 = ot + m * 16 by omega, show fl.getD (16 * m + 0) 0 = chA fl m from rfl] at ctm
  rw [show ot + q * 16 + 0 = ot + q * 16 by omega, show fl.getD (16 * q + 0) 0 = chA fl q from rfl] at ctq
  rw [show ot + d * 16 + 0 = ot + d * 16 by omega, show fl.getD (16 * d + 0) 0 = chA fl d from rfl] at ctd
  rw [show fl.getD (16 * m + 1) 0 = stA fl m 0 from rfl] at ctm1
  rw [show fl.getD (16 * d + 1) 0 = stA fl d 0 from rfl] at ctd1
  have HCELL := Lib.hid (And.intro ctm (And.intro ctq (And.intro ctd (And.intro ctm1 ctd1))))
  clear ctm ctq ctd ctm1 ctd1 hcx hct
  have km : (m : Int) < n := by have := HLK.out; omega
  have kq : (q : Int) < n := by have := HPL.out; omega
  have kd : (d : Int) < n := by have := HLK.out; omega
  obtain ⟨rr, hrr⟩ : ∃ rr, q / 2 = rr := ⟨_, rfl⟩
  have htq : Int.tdiv (q : Int) 2 = (rr : Int) := by rw [Int.tdiv_eq_ediv_of_nonneg (by omega)]; omega
  have htm : Int.tdiv (m : Int) 2 = (rr : Int) := by rw [Int.tdiv_eq_ediv_of_nonneg (by omega)]; have := HLK.out; omega
  have hwr : IntKind.i64.wrap (rr : Int) = (rr : Int) := IntWalk.i64_in _ (by have := HPL.out; omega)
  have n9 : (n : Int) ≤ 9223372036854775807 := by have := HMN.out; omega
  clear hrr
  have x1 := X3.out.c1
  have t1 := T3.out.c1
  go_wp2_with fail
  refine (rBeside m w3 (by have := HLK.out; have := HMN.out; omega)).mono ?_
  rintro e w4 ⟨rfl, b4⟩
  rw [HD.out]
  clear x1 t1 cx htq htm hwr
  have B4 := Lib.hid (below_bs B3.out b4)
  have I4 := Lib.hid (I3.out.past b4)
  have HI4 := Lib.hid (HI3.out.past b4)
  have T4 := Lib.hid (T3.out.past b4)
  have X4 := Lib.hid (X3.out.past b4)
  have HKC : Hid (∀ W, Below w4.heap.size w4 W → ∀ p v, p.block = bt → w3.cell? p = some v → W.cell? p = some v) := Lib.hid (fun W hb p v hp hc => by
    have hlt : bt < w3.heap.size := by
      obtain ⟨b', o', e, h1, h2⟩ := HI3.out.at_ HMN.out.1
      injection e with e; injection e with e; omega
    exact cell_keep hb (cell_keep b4 hc (by rw [hp]; exact hlt)) (by rw [hp]; exact Nat.lt_of_lt_of_le hlt b4.size))
  clear b4 B3 I3 HI3 T3 X3
  have HRX : Hid (∀ W, Below w4.heap.size w4 W → ∀ i, i < n → W.rangeAt bx (ox + i * 16) ((slA f1 i).map (Value.int .u8))) := Lib.hid (fun W h i hi => (I4.out.past h).rng rfl HMN.out.1 i)
  have HRT : Hid (∀ W, Below w4.heap.size w4 W → ∀ i, i < n → W.rangeAt bt (ot + i * 16) ((slA fl i).map (Value.int .u8))) := Lib.hid (fun W h i hi => (HI4.out.past h).rng rfl HMN.out.1 i)
  have HSN : Hid (∀ i, i < n → (slA fl i).length = 16 ∧ (∀ z ∈ slA fl i, 0 ≤ z ∧ z ≤ 255)) := Lib.hid (fun i hi => ⟨slA_len HI4.out.e hi, slA_bd HI4.out.b i⟩)
  have t1 := T4.out.c1
  have ctm := HKC.out w4 (Below.refl _ _) ⟨bt, ot + m * 16, none⟩ _ rfl HCELL.out.1
  by_cases hc : chA fl m = ck
  · have e1 : (chA fl m == ck) = true := by simpa using hc
    go_wp2_with fail
    go_loopw [13] (fun iv wz => ∃ i : Nat, i ≤ n ∧ iv = .int .i64 i ∧ Below w4.heap.size w4 wz) (fun iv _ => n - (intOf iv).toNat)
    case atStart => exact ⟨0, by omega, rfl, Below.refl _ _⟩
    case round =>
      obtain ⟨i, hi, rfl, hbz⟩ := hrel
      rename World => wz
      have BZ := Lib.hid hbz
      have TZ := Lib.hid (T4.out.past hbz)
      have XZ := Lib.hid (X4.out.past hbz)
      clear hbz ctm t1
      by_cases hlt : i < n
      · have HLT := Lib.hid hlt
        have k1 : (i : Int) < n := by omega
        have HLI := Lib.hid (HSN.out i hlt)
        have HTI : Hid (∀ W, Below wz.heap.size wz W → W.rangeAt bt (ot + i * 16) ((slA fl i).map (Value.int .u8))) := Lib.hid (fun W h => HRT.out W (below_bs BZ.out h) i HLT.out)
        have t1 := TZ.out.c1
        by_cases hne : i = m
        · have e2 : ((i : Int) == (m : Int)) = true := by simp [hne]
          have e2b : ((i : Int) != (m : Int)) = false := by simp [hne]
          have hs : slA f1 i = slA fl i := by rw [(HSL.out.2.1 hc).1]
          have HXI : Hid (∀ W, Below wz.heap.size wz W → W.rangeAt bx (ox + i * 16) ((slA fl i).map (Value.int .u8))) := Lib.hid (fun W h => by rw [← hs]; exact HRX.out W (below_bs BZ.out h) i HLT.out)
          clear hi hlt hne hs
          go_upto_region 13 with fail
          clear t1
          generalize slA fl i = sl at *
          (have RD := grows_roads (S := fun x' => Below wz.heap.size wz x') (fun a b h1 h2 => below_bs h2 h1)); refine region_ord _ Grows RD (Below.drew (Below.refl wz.heap.size wz)) (by kernel_rfl) ?_; intro ops Q' hops hPQ hN; (have HNS : Hid (Region.noSelect ops = true) := Lib.hid (by rw [hops]; kernel_rfl)); (have hsz : ops.size = 19 := (by rw [hops]; rfl)); have HOP := Lib.hid hops; have HPQ := Lib.hid hPQ; have HN := Lib.hid hN; rw [hsz]; clear hops hsz hPQ hN
          refine ord_take RD 0 (at_list (by rw [HOP.out]; rfl)) HNS.out HPQ.out (by rw [HOP.out]; kernel_rfl) (by rw [HOP.out]; kernel_rfl) (by rw [HOP.out]; rfl) (fun K hK => ?_); apply Exists.intro; refine ⟨fun W hSW => ?_, hK _ ?_⟩; (focus ((try dsimp only at hSW); go_simp; try with_reducible rfl)); clear hK K; (try simp only [Act.put, List.setIfInBounds_toArray, List.set_cons_zero, List.set_cons_succ])
          refine ord_take RD 1 (at_list (by rw [HOP.out]; rfl)) HNS.out HPQ.out (by rw [HOP.out]; kernel_rfl) (by rw [HOP.out]; kernel_rfl) (by rw [HOP.out]; rfl) (fun K hK => ?_); apply Exists.intro; refine ⟨fun W hSW => ?_, hK _ ?_⟩; (focus ((try dsimp only at hSW); go_simp; try with_reducible rfl)); clear hK K; (try simp only [Act.put, List.setIfInBounds_toArray, List.set_cons_zero, List.set_cons_succ])
          refine ord_take RD 2 (at_list (by rw [HOP.out]; rfl)) HNS.out HPQ.out (by rw [HOP.out]; kernel_rfl) (by rw [HOP.out]; kernel_rfl) (by rw [HOP.out]; rfl) (fun K hK => ?_); apply Exists.intro; refine ⟨fun W hSW => ?_, hK _ ?_⟩; (focus ((try dsimp only at hSW); go_simp; try with_reducible rfl)); clear hK K; (try simp only [Act.put, List.setIfInBounds_toArray, List.set_cons_zero, List.set_cons_succ])
          refine ord_take RD 3 (at_list (by rw [HOP.out]; rfl)) HNS.out HPQ.out (by rw [HOP.out]; kernel_rfl) (by rw [HOP.out]; kernel_rfl) (by rw [HOP.out]; rfl) (fun K hK => ?_); apply Exists.intro; refine ⟨fun W hSW => ?_, hK _ ?_⟩; (focus ((try dsimp only at hSW); go_simp; try with_reducible rfl)); clear hK K; (try simp only [Act.put, List.setIfInBounds_toArray, List.set_cons_zero, List.set_cons_succ])
          (try simp only [e2b])
          refine ord_take RD 4 (at_list (by rw [HOP.out]; rfl)) HNS.out HPQ.out (by rw [HOP.out]; kernel_rfl) (by rw [HOP.out]; kernel_rfl) (by rw [HOP.out]; rfl) (fun K hK => ?_); apply Exists.intro; refine ⟨fun W hSW => ?_, hK _ ?_⟩; (focus ((try dsimp only at hSW); go_simp; try with_reducible rfl)); clear hK K; (try simp only [Act.put, List.setIfInBounds_toArray, List.set_cons_zero, List.set_cons_succ])
          refine ord_take RD 5 (at_list (by rw [HOP.out]; rfl)) HNS.out HPQ.out (by rw [HOP.out]; kernel_rfl) (by rw [HOP.out]; kernel_rfl) (by rw [HOP.out]; rfl) (fun K hK => ?_); apply Exists.intro; refine ⟨fun W hSW => ?_, hK _ ?_⟩; (focus ((try dsimp only at hSW); go_simp; try with_reducible rfl)); clear hK K; (try simp only [Act.put, List.setIfInBounds_toArray, List.set_cons_zero, List.set_cons_succ])
          refine ord_take RD 6 (at_list (by rw [HOP.out]; rfl)) HNS.out HPQ.out (by rw [HOP.out]; kernel_rfl) (by rw [HOP.out]; kernel_rfl) (by rw [HOP.out]; rfl) (fun K hK => ?_); apply Exists.intro; refine ⟨fun W hSW => ?_, hK _ ?_⟩; (focus ((try dsimp only at hSW); go_simp; try with_reducible rfl)); clear hK K; (try simp only [Act.put, List.setIfInBounds_toArray, List.set_cons_zero, List.set_cons_succ])
          refine ord_take RD 7 (at_list (by rw [HOP.out]; rfl)) HNS.out HPQ.out (by rw [HOP.out]; kernel_rfl) (by rw [HOP.out]; kernel_rfl) (by rw [HOP.out]; rfl) (fun K hK => ?_); apply Exists.intro; refine ⟨fun W hSW => ?_, hK _ ?_⟩; (focus ((try dsimp only at hSW); go_simp; try with_reducible rfl)); clear hK K; (try simp only [Act.put, List.setIfInBounds_toArray, List.set_cons_zero, List.set_cons_succ])
          refine ord_take RD 8 (at_list (by rw [HOP.out]; rfl)) HNS.out HPQ.out (by rw [HOP.out]; kernel_rfl) (by rw [HOP.out]; kernel_rfl) (by rw [HOP.out]; rfl) (fun K hK => ?_); apply Exists.intro; refine ⟨fun W hSW => ?_, hK _ ?_⟩; (focus ((try dsimp only at hSW); (have z := (XZ.out.past hSW).c1); go_simp; try with_reducible rfl)); clear hK K; (try simp only [Act.put, List.setIfInBounds_toArray, List.set_cons_zero, List.set_cons_succ])
          refine ord_take RD 9 (at_list (by rw [HOP.out]; rfl)) HNS.out HPQ.out (by rw [HOP.out]; kernel_rfl) (by rw [HOP.out]; kernel_rfl) (by rw [HOP.out]; rfl) (fun K hK => ?_); apply Exists.intro; refine ⟨fun W hSW => ?_, hK _ ?_⟩; (focus ((try dsimp only at hSW); go_simp; try with_reducible rfl)); clear hK K; (try simp only [Act.put, List.setIfInBounds_toArray, List.set_cons_zero, List.set_cons_succ])
          refine ord_take RD 10 (at_list (by rw [HOP.out]; rfl)) HNS.out HPQ.out (by rw [HOP.out]; kernel_rfl) (by rw [HOP.out]; kernel_rfl) (by rw [HOP.out]; rfl) (fun K hK => ?_); apply Exists.intro; refine ⟨fun W hSW => ?_, hK _ ?_⟩; (focus ((try dsimp only at hSW); go_simp; try with_reducible rfl)); clear hK K; (try simp only [Act.put, List.setIfInBounds_toArray, List.set_cons_zero, List.set_cons_succ])
          refine ord_take RD 11 (at_list (by rw [HOP.out]; rfl)) HNS.out HPQ.out (by rw [HOP.out]; kernel_rfl) (by rw [HOP.out]; kernel_rfl) (by rw [HOP.out]; rfl) (fun K hK => ?_); apply Exists.intro; refine ⟨fun W hSW => ?_, hK _ ?_⟩; (focus ((try dsimp only at hSW); exact quiet_slot _ rfl (HXI.out W hSW) (HLI.out.1) rfl)); clear hK K; (try simp only [Act.put, List.setIfInBounds_toArray, List.set_cons_zero, List.set_cons_succ])
          refine ord_take RD 12 (at_list (by rw [HOP.out]; rfl)) HNS.out HPQ.out (by rw [HOP.out]; kernel_rfl) (by rw [HOP.out]; kernel_rfl) (by rw [HOP.out]; rfl) (fun K hK => ?_); apply Exists.intro; refine ⟨fun W hSW => ?_, hK _ ?_⟩; (focus ((try dsimp only at hSW); go_simp; try with_reducible rfl)); clear hK K; (try simp only [Act.put, List.setIfInBounds_toArray, List.set_cons_zero, List.set_cons_succ])
          refine ord_take RD 13 (at_list (by rw [HOP.out]; rfl)) HNS.out HPQ.out (by rw [HOP.out]; kernel_rfl) (by rw [HOP.out]; kernel_rfl) (by rw [HOP.out]; rfl) (fun K hK => ?_); apply Exists.intro; refine ⟨fun W hSW => ?_, hK _ ?_⟩; (focus ((try dsimp only at hSW); (have z := (TZ.out.past hSW).c1); go_simp; try with_reducible rfl)); clear hK K; (try simp only [Act.put, List.setIfInBounds_toArray, List.set_cons_zero, List.set_cons_succ])
          refine ord_take RD 14 (at_list (by rw [HOP.out]; rfl)) HNS.out HPQ.out (by rw [HOP.out]; kernel_rfl) (by rw [HOP.out]; kernel_rfl) (by rw [HOP.out]; rfl) (fun K hK => ?_); apply Exists.intro; refine ⟨fun W hSW => ?_, hK _ ?_⟩; (focus ((try dsimp only at hSW); go_simp; try with_reducible rfl)); clear hK K; (try simp only [Act.put, List.setIfInBounds_toArray, List.set_cons_zero, List.set_cons_succ])
          refine ord_take RD 15 (at_list (by rw [HOP.out]; rfl)) HNS.out HPQ.out (by rw [HOP.out]; kernel_rfl) (by rw [HOP.out]; kernel_rfl) (by rw [HOP.out]; rfl) (fun K hK => ?_); apply Exists.intro; refine ⟨fun W hSW => ?_, hK _ ?_⟩; (focus ((try dsimp only at hSW); go_simp; try with_reducible rfl)); clear hK K; (try simp only [Act.put, List.setIfInBounds_toArray, List.set_cons_zero, List.set_cons_succ])
          refine ord_take RD 16 (at_list (by rw [HOP.out]; rfl)) HNS.out HPQ.out (by rw [HOP.out]; kernel_rfl) (by rw [HOP.out]; kernel_rfl) (by rw [HOP.out]; rfl) (fun K hK => ?_); apply Exists.intro; refine ⟨fun W hSW => ?_, hK _ ?_⟩; (focus ((try dsimp only at hSW); exact quiet_slot _ rfl (HTI.out W hSW) (HLI.out.1) rfl)); clear hK K; (try simp only [Act.put, List.setIfInBounds_toArray, List.set_cons_zero, List.set_cons_succ])
          refine ord_take RD 17 (at_list (by rw [HOP.out]; rfl)) HNS.out HPQ.out (by rw [HOP.out]; kernel_rfl) (by rw [HOP.out]; kernel_rfl) (by rw [HOP.out]; rfl) (fun K hK => ?_); apply Exists.intro; refine ⟨fun W hSW => ?_, hK _ ?_⟩; (focus ((try dsimp only at hSW); exact quiet_neq _ _ _ rfl (HLI.out.1) (HLI.out.2) rfl rfl)); clear hK K; (try simp only [Act.put, List.setIfInBounds_toArray, List.set_cons_zero, List.set_cons_succ])
          refine ord_take RD 18 (at_list (by rw [HOP.out]; rfl)) HNS.out HPQ.out (by rw [HOP.out]; kernel_rfl) (by rw [HOP.out]; kernel_rfl) (by rw [HOP.out]; rfl) (fun K hK => ?_); apply Exists.intro; refine ⟨fun W hSW => ?_, hK _ ?_⟩; (focus ((try dsimp only at hSW); go_simp; try with_reducible rfl)); clear hK K; (try simp only [Act.put, List.setIfInBounds_toArray, List.set_cons_zero, List.set_cons_succ])
          refine ord_done (by rw [HOP.out]; kernel_rfl) (fun wo hWW hSW => HN.out _ _ ?_); clear HOP HNS HPQ HN RD; (try dsimp only at hSW)
          have HB2 := Lib.hid (below_bs BZ.out hSW)
          clear hSW hWW
          go_wp2_with fail
          exact ⟨⟨i + 1, by have := HLT.out; omega, by go_num, HB2.out⟩, by simp [intOf]; have := HLT.out; omega⟩
        · have e2 : ((i : Int) == (m : Int)) = false := by simp; omega
          have e2b : ((i : Int) != (m : Int)) = true := by simp; omega
          have hs : slA f1 i = slA fl i := HSL.out.1 i hlt hne
          have HXI : Hid (∀ W, Below wz.heap.size wz W → W.rangeAt bx (ox + i * 16) ((slA fl i).map (Value.int .u8))) := Lib.hid (fun W h => by rw [← hs]; exact HRX.out W (below_bs BZ.out h) i HLT.out)
          clear hi hlt hne hs
          go_upto_region 13 with fail
          clear t1
          generalize slA fl i = sl at *
          (have RD := grows_roads (S := fun x' => Below wz.heap.size wz x') (fun a b h1 h2 => below_bs h2 h1)); refine region_ord _ Grows RD (Below.drew (Below.refl wz.heap.size wz)) (by kernel_rfl) ?_; intro ops Q' hops hPQ hN; (have HNS : Hid (Region.noSelect ops = true) := Lib.hid (by rw [hops]; kernel_rfl)); (have hsz : ops.size = 19 := (by rw [hops]; rfl)); have HOP := Lib.hid hops; have HPQ := Lib.hid hPQ; have HN := Lib.hid hN; rw [hsz]; clear hops hsz hPQ hN
          refine ord_take RD 0 (at_list (by rw [HOP.out]; rfl)) HNS.out HPQ.out (by rw [HOP.out]; kernel_rfl) (by rw [HOP.out]; kernel_rfl) (by rw [HOP.out]; rfl) (fun K hK => ?_); apply Exists.intro; refine ⟨fun W hSW => ?_, hK _ ?_⟩; (focus ((try dsimp only at hSW); go_simp; try with_reducible rfl)); clear hK K; (try simp only [Act.put, List.setIfInBounds_toArray, List.set_cons_zero, List.set_cons_succ])
          refine ord_take RD 1 (at_list (by rw [HOP.out]; rfl)) HNS.out HPQ.out (by rw [HOP.out]; kernel_rfl) (by rw [HOP.out]; kernel_rfl) (by rw [HOP.out]; rfl) (fun K hK => ?_); apply Exists.intro; refine ⟨fun W hSW => ?_, hK _ ?_⟩; (focus ((try dsimp only at hSW); go_simp; try with_reducible rfl)); clear hK K; (try simp only [Act.put, List.setIfInBounds_toArray, List.set_cons_zero, List.set_cons_succ])
          refine ord_take RD 2 (at_list (by rw [HOP.out]; rfl)) HNS.out HPQ.out (by rw [HOP.out]; kernel_rfl) (by rw [HOP.out]; kernel_rfl) (by rw [HOP.out]; rfl) (fun K hK => ?_); apply Exists.intro; refine ⟨fun W hSW => ?_, hK _ ?_⟩; (focus ((try dsimp only at hSW); go_simp; try with_reducible rfl)); clear hK K; (try simp only [Act.put, List.setIfInBounds_toArray, List.set_cons_zero, List.set_cons_succ])
          refine ord_take RD 3 (at_list (by rw [HOP.out]; rfl)) HNS.out HPQ.out (by rw [HOP.out]; kernel_rfl) (by rw [HOP.out]; kernel_rfl) (by rw [HOP.out]; rfl) (fun K hK => ?_); apply Exists.intro; refine ⟨fun W hSW => ?_, hK _ ?_⟩; (focus ((try dsimp only at hSW); go_simp; try with_reducible rfl)); clear hK K; (try simp only [Act.put, List.setIfInBounds_toArray, List.set_cons_zero, List.set_cons_succ])
          (try simp only [e2b])
          refine ord_skip RD 4 (at_list (by rw [HOP.out]; rfl)) HNS.out HPQ.out (by rw [HOP.out]; kernel_rfl) (by rw [HOP.out]; kernel_rfl) (by rw [HOP.out]; rfl) ?_; (try simp only [Act.put, List.setIfInBounds_toArray, List.set_cons_zero, List.set_cons_succ])
          refine ord_take RD 5 (at_list (by rw [HOP.out]; rfl)) HNS.out HPQ.out (by rw [HOP.out]; kernel_rfl) (by rw [HOP.out]; kernel_rfl) (by rw [HOP.out]; rfl) (fun K hK => ?_); apply Exists.intro; refine ⟨fun W hSW => ?_, hK _ ?_⟩; (focus ((try dsimp only at hSW); go_simp; try with_reducible rfl)); clear hK K; (try simp only [Act.put, List.setIfInBounds_toArray, List.set_cons_zero, List.set_cons_succ])
          refine ord_take RD 6 (at_list (by rw [HOP.out]; rfl)) HNS.out HPQ.out (by rw [HOP.out]; kernel_rfl) (by rw [HOP.out]; kernel_rfl) (by rw [HOP.out]; rfl) (fun K hK => ?_); apply Exists.intro; refine ⟨fun W hSW => ?_, hK _ ?_⟩; (focus ((try dsimp only at hSW); go_simp; try with_reducible rfl)); clear hK K; (try simp only [Act.put, List.setIfInBounds_toArray, List.set_cons_zero, List.set_cons_succ])
          refine ord_take RD 7 (at_list (by rw [HOP.out]; rfl)) HNS.out HPQ.out (by rw [HOP.out]; kernel_rfl) (by rw [HOP.out]; kernel_rfl) (by rw [HOP.out]; rfl) (fun K hK => ?_); apply Exists.intro; refine ⟨fun W hSW => ?_, hK _ ?_⟩; (focus ((try dsimp only at hSW); go_simp; try with_reducible rfl)); clear hK K; (try simp only [Act.put, List.setIfInBounds_toArray, List.set_cons_zero, List.set_cons_succ])
          refine ord_take RD 8 (at_list (by rw [HOP.out]; rfl)) HNS.out HPQ.out (by rw [HOP.out]; kernel_rfl) (by rw [HOP.out]; kernel_rfl) (by rw [HOP.out]; rfl) (fun K hK => ?_); apply Exists.intro; refine ⟨fun W hSW => ?_, hK _ ?_⟩; (focus ((try dsimp only at hSW); (have z := (XZ.out.past hSW).c1); go_simp; try with_reducible rfl)); clear hK K; (try simp only [Act.put, List.setIfInBounds_toArray, List.set_cons_zero, List.set_cons_succ])
          refine ord_take RD 9 (at_list (by rw [HOP.out]; rfl)) HNS.out HPQ.out (by rw [HOP.out]; kernel_rfl) (by rw [HOP.out]; kernel_rfl) (by rw [HOP.out]; rfl) (fun K hK => ?_); apply Exists.intro; refine ⟨fun W hSW => ?_, hK _ ?_⟩; (focus ((try dsimp only at hSW); go_simp; try with_reducible rfl)); clear hK K; (try simp only [Act.put, List.setIfInBounds_toArray, List.set_cons_zero, List.set_cons_succ])
          refine ord_take RD 10 (at_list (by rw [HOP.out]; rfl)) HNS.out HPQ.out (by rw [HOP.out]; kernel_rfl) (by rw [HOP.out]; kernel_rfl) (by rw [HOP.out]; rfl) (fun K hK => ?_); apply Exists.intro; refine ⟨fun W hSW => ?_, hK _ ?_⟩; (focus ((try dsimp only at hSW); go_simp; try with_reducible rfl)); clear hK K; (try simp only [Act.put, List.setIfInBounds_toArray, List.set_cons_zero, List.set_cons_succ])
          refine ord_take RD 11 (at_list (by rw [HOP.out]; rfl)) HNS.out HPQ.out (by rw [HOP.out]; kernel_rfl) (by rw [HOP.out]; kernel_rfl) (by rw [HOP.out]; rfl) (fun K hK => ?_); apply Exists.intro; refine ⟨fun W hSW => ?_, hK _ ?_⟩; (focus ((try dsimp only at hSW); exact quiet_slot _ rfl (HXI.out W hSW) (HLI.out.1) rfl)); clear hK K; (try simp only [Act.put, List.setIfInBounds_toArray, List.set_cons_zero, List.set_cons_succ])
          refine ord_take RD 12 (at_list (by rw [HOP.out]; rfl)) HNS.out HPQ.out (by rw [HOP.out]; kernel_rfl) (by rw [HOP.out]; kernel_rfl) (by rw [HOP.out]; rfl) (fun K hK => ?_); apply Exists.intro; refine ⟨fun W hSW => ?_, hK _ ?_⟩; (focus ((try dsimp only at hSW); go_simp; try with_reducible rfl)); clear hK K; (try simp only [Act.put, List.setIfInBounds_toArray, List.set_cons_zero, List.set_cons_succ])
          refine ord_take RD 13 (at_list (by rw [HOP.out]; rfl)) HNS.out HPQ.out (by rw [HOP.out]; kernel_rfl) (by rw [HOP.out]; kernel_rfl) (by rw [HOP.out]; rfl) (fun K hK => ?_); apply Exists.intro; refine ⟨fun W hSW => ?_, hK _ ?_⟩; (focus ((try dsimp only at hSW); (have z := (TZ.out.past hSW).c1); go_simp; try with_reducible rfl)); clear hK K; (try simp only [Act.put, List.setIfInBounds_toArray, List.set_cons_zero, List.set_cons_succ])
          refine ord_take RD 14 (at_list (by rw [HOP.out]; rfl)) HNS.out HPQ.out (by rw [HOP.out]; kernel_rfl) (by rw [HOP.out]; kernel_rfl) (by rw [HOP.out]; rfl) (fun K hK => ?_); apply Exists.intro; refine ⟨fun W hSW => ?_, hK _ ?_⟩; (focus ((try dsimp only at hSW); go_simp; try with_reducible rfl)); clear hK K; (try simp only [Act.put, List.setIfInBounds_toArray, List.set_cons_zero, List.set_cons_succ])
          refine ord_take RD 15 (at_list (by rw [HOP.out]; rfl)) HNS.out HPQ.out (by rw [HOP.out]; kernel_rfl) (by rw [HOP.out]; kernel_rfl) (by rw [HOP.out]; rfl) (fun K hK => ?_); apply Exists.intro; refine ⟨fun W hSW => ?_, hK _ ?_⟩; (focus ((try dsimp only at hSW); go_simp; try with_reducible rfl)); clear hK K; (try simp only [Act.put, List.setIfInBounds_toArray, List.set_cons_zero, List.set_cons_succ])
          refine ord_take RD 16 (at_list (by rw [HOP.out]; rfl)) HNS.out HPQ.out (by rw [HOP.out]; kernel_rfl) (by rw [HOP.out]; kernel_rfl) (by rw [HOP.out]; rfl) (fun K hK => ?_); apply Exists.intro; refine ⟨fun W hSW => ?_, hK _ ?_⟩; (focus ((try dsimp only at hSW); exact quiet_slot _ rfl (HTI.out W hSW) (HLI.out.1) rfl)); clear hK K; (try simp only [Act.put, List.setIfInBounds_toArray, List.set_cons_zero, List.set_cons_succ])
          refine ord_take RD 17 (at_list (by rw [HOP.out]; rfl)) HNS.out HPQ.out (by rw [HOP.out]; kernel_rfl) (by rw [HOP.out]; kernel_rfl) (by rw [HOP.out]; rfl) (fun K hK => ?_); apply Exists.intro; refine ⟨fun W hSW => ?_, hK _ ?_⟩; (focus ((try dsimp only at hSW); exact quiet_neq _ _ _ rfl (HLI.out.1) (HLI.out.2) rfl rfl)); clear hK K; (try simp only [Act.put, List.setIfInBounds_toArray, List.set_cons_zero, List.set_cons_succ])
          refine ord_take RD 18 (at_list (by rw [HOP.out]; rfl)) HNS.out HPQ.out (by rw [HOP.out]; kernel_rfl) (by rw [HOP.out]; kernel_rfl) (by rw [HOP.out]; rfl) (fun K hK => ?_); apply Exists.intro; refine ⟨fun W hSW => ?_, hK _ ?_⟩; (focus ((try dsimp only at hSW); go_simp; try with_reducible rfl)); clear hK K; (try simp only [Act.put, List.setIfInBounds_toArray, List.set_cons_zero, List.set_cons_succ])
          refine ord_done (by rw [HOP.out]; kernel_rfl) (fun wo hWW hSW => HN.out _ _ ?_); clear HOP HNS HPQ HN RD; (try dsimp only at hSW)
          have HB2 := Lib.hid (below_bs BZ.out hSW)
          clear hSW hWW
          go_wp2_with fail
          exact ⟨⟨i + 1, by have := HLT.out; omega, by go_num, HB2.out⟩, by simp [intOf]; have := HLT.out; omega⟩
      · have k1 : ¬ (i : Int) < n := by omega
        have t1 := TZ.out.c1
        have B5 := Lib.hid (below_bs B4.out BZ.out)
        clear hi hlt
        by_cases hmq : m = q
        · have e3 : ((m : Int) == (q : Int)) = true := by simp [hmq]
          clear hmq
          go_wp2_with fail
          refine (alive_any wz).mono ?_
          rintro e w6 ⟨rfl, b6⟩
          have B6 := Lib.hid (below_bs B5.out b6)
          clear b6
          go_wp2_with fail
          go_ret
          exact ⟨rfl, B6.out⟩
        · have e3 : ((m : Int) == (q : Int)) = false := by simp; omega
          have hcq : ¬ chA fl q = ck := by
            rcases (HSL.out.2.1 hc).2 with e | e
            · exact absurd e hmq
            · exact e
          have e4 : (chA fl q == ck) = false := by simpa using hcq
          have e4b : (chA fl q != ck) = true := by simpa using hcq
          have ctq := HKC.out wz BZ.out ⟨bt, ot + q * 16, none⟩ _ rfl HCELL.out.2.1
          clear hmq hcq
          go_wp2_with fail
          refine (alive_any wz).mono ?_
          rintro e w6 ⟨rfl, b6⟩
          have B6 := Lib.hid (below_bs B5.out b6)
          clear b6
          go_wp2_with fail
          go_ret
          exact ⟨rfl, B6.out⟩
  · have e1 : (chA fl m == ck) = false := by simpa using hc
    go_wp2_with fail
    go_loopw [13] (fun iv wz => ∃ i : Nat, i ≤ n ∧ iv = .int .i64 i ∧ Below w4.heap.size w4 wz) (fun iv _ => n - (intOf iv).toNat)
    case atStart => exact ⟨0, by omega, rfl, Below.refl _ _⟩
    case round =>
      obtain ⟨i, hi, rfl, hbz⟩ := hrel
      rename World => wz
      have BZ := Lib.hid hbz
      have TZ := Lib.hid (T4.out.past hbz)
      have XZ := Lib.hid (X4.out.past hbz)
      clear hbz ctm t1
      by_cases hlt : i < n
      · have HLT := Lib.hid hlt
        have k1 : (i : Int) < n := by omega
        have HLI := Lib.hid (HSN.out i hlt)
        have HTI : Hid (∀ W, Below wz.heap.size wz W → W.rangeAt bt (ot + i * 16) ((slA fl i).map (Value.int .u8))) := Lib.hid (fun W h => HRT.out W (below_bs BZ.out h) i HLT.out)
        have t1 := TZ.out.c1
        by_cases hne : i = m
        · have e2 : ((i : Int) == (m : Int)) = true := by simp [hne]
          have e2b : ((i : Int) != (m : Int)) = false := by simp [hne]
          clear hi hlt hne
          go_upto_region 13 with fail
          clear t1
          (have RD := grows_roads (S := fun x' => Below wz.heap.size wz x') (fun a b h1 h2 => below_bs h2 h1)); refine region_ord _ Grows RD (Below.drew (Below.refl wz.heap.size wz)) (by kernel_rfl) ?_; intro ops Q' hops hPQ hN; (have HNS : Hid (Region.noSelect ops = true) := Lib.hid (by rw [hops]; kernel_rfl)); (have hsz : ops.size = 19 := (by rw [hops]; rfl)); have HOP := Lib.hid hops; have HPQ := Lib.hid hPQ; have HN := Lib.hid hN; rw [hsz]; clear hops hsz hPQ hN
          refine ord_take RD 0 (at_list (by rw [HOP.out]; rfl)) HNS.out HPQ.out (by rw [HOP.out]; kernel_rfl) (by rw [HOP.out]; kernel_rfl) (by rw [HOP.out]; rfl) (fun K hK => ?_); apply Exists.intro; refine ⟨fun W hSW => ?_, hK _ ?_⟩; (focus ((try dsimp only at hSW); go_simp; try with_reducible rfl)); clear hK K; (try simp only [Act.put, List.setIfInBounds_toArray, List.set_cons_zero, List.set_cons_succ])
          refine ord_take RD 1 (at_list (by rw [HOP.out]; rfl)) HNS.out HPQ.out (by rw [HOP.out]; kernel_rfl) (by rw [HOP.out]; kernel_rfl) (by rw [HOP.out]; rfl) (fun K hK => ?_); apply Exists.intro; refine ⟨fun W hSW => ?_, hK _ ?_⟩; (focus ((try dsimp only at hSW); go_simp; try with_reducible rfl)); clear hK K; (try simp only [Act.put, List.setIfInBounds_toArray, List.set_cons_zero, List.set_cons_succ])
          refine ord_take RD 2 (at_list (by rw [HOP.out]; rfl)) HNS.out HPQ.out (by rw [HOP.out]; kernel_rfl) (by rw [HOP.out]; kernel_rfl) (by rw [HOP.out]; rfl) (fun K hK => ?_); apply Exists.intro; refine ⟨fun W hSW => ?_, hK _ ?_⟩; (focus ((try dsimp only at hSW); go_simp; try with_reducible rfl)); clear hK K; (try simp only [Act.put, List.setIfInBounds_toArray, List.set_cons_zero, List.set_cons_succ])
          refine ord_take RD 3 (at_list (by rw [HOP.out]; rfl)) HNS.out HPQ.out (by rw [HOP.out]; kernel_rfl) (by rw [HOP.out]; kernel_rfl) (by rw [HOP.out]; rfl) (fun K hK => ?_); apply Exists.intro; refine ⟨fun W hSW => ?_, hK _ ?_⟩; (focus ((try dsimp only at hSW); go_simp; try with_reducible rfl)); clear hK K; (try simp only [Act.put, List.setIfInBounds_toArray, List.set_cons_zero, List.set_cons_succ])
          (try simp only [e2b])
          refine ord_take RD 4 (at_list (by rw [HOP.out]; rfl)) HNS.out HPQ.out (by rw [HOP.out]; kernel_rfl) (by rw [HOP.out]; kernel_rfl) (by rw [HOP.out]; rfl) (fun K hK => ?_); apply Exists.intro; refine ⟨fun W hSW => ?_, hK _ ?_⟩; (focus ((try dsimp only at hSW); go_simp; try with_reducible rfl)); clear hK K; (try simp only [Act.put, List.setIfInBounds_toArray, List.set_cons_zero, List.set_cons_succ])
          refine ord_take RD 5 (at_list (by rw [HOP.out]; rfl)) HNS.out HPQ.out (by rw [HOP.out]; kernel_rfl) (by rw [HOP.out]; kernel_rfl) (by rw [HOP.out]; rfl) (fun K hK => ?_); apply Exists.intro; refine ⟨fun W hSW => ?_, hK _ ?_⟩; (focus ((try dsimp only at hSW); go_simp; try with_reducible rfl)); clear hK K; (try simp only [Act.put, List.setIfInBounds_toArray, List.set_cons_zero, List.set_cons_succ])
          refine ord_take RD 6 (at_list (by rw [HOP.out]; rfl)) HNS.out HPQ.out (by rw [HOP.out]; kernel_rfl) (by rw [HOP.out]; kernel_rfl) (by rw [HOP.out]; rfl) (fun K hK => ?_); apply Exists.intro; refine ⟨fun W hSW => ?_, hK _ ?_⟩; (focus ((try dsimp only at hSW); go_simp; try with_reducible rfl)); clear hK K; (try simp only [Act.put, List.setIfInBounds_toArray, List.set_cons_zero, List.set_cons_succ])
          refine ord_skip RD 7 (at_list (by rw [HOP.out]; rfl)) HNS.out HPQ.out (by rw [HOP.out]; kernel_rfl) (by rw [HOP.out]; kernel_rfl) (by rw [HOP.out]; rfl) ?_; (try simp only [Act.put, List.setIfInBounds_toArray, List.set_cons_zero, List.set_cons_succ])
          refine ord_skip RD 8 (at_list (by rw [HOP.out]; rfl)) HNS.out HPQ.out (by rw [HOP.out]; kernel_rfl) (by rw [HOP.out]; kernel_rfl) (by rw [HOP.out]; rfl) ?_; (try simp only [Act.put, List.setIfInBounds_toArray, List.set_cons_zero, List.set_cons_succ])
          refine ord_skip RD 9 (at_list (by rw [HOP.out]; rfl)) HNS.out HPQ.out (by rw [HOP.out]; kernel_rfl) (by rw [HOP.out]; kernel_rfl) (by rw [HOP.out]; rfl) ?_; (try simp only [Act.put, List.setIfInBounds_toArray, List.set_cons_zero, List.set_cons_succ])
          refine ord_skip RD 10 (at_list (by rw [HOP.out]; rfl)) HNS.out HPQ.out (by rw [HOP.out]; kernel_rfl) (by rw [HOP.out]; kernel_rfl) (by rw [HOP.out]; rfl) ?_; (try simp only [Act.put, List.setIfInBounds_toArray, List.set_cons_zero, List.set_cons_succ])
          refine ord_skip RD 11 (at_list (by rw [HOP.out]; rfl)) HNS.out HPQ.out (by rw [HOP.out]; kernel_rfl) (by rw [HOP.out]; kernel_rfl) (by rw [HOP.out]; rfl) ?_; (try simp only [Act.put, List.setIfInBounds_toArray, List.set_cons_zero, List.set_cons_succ])
          refine ord_skip RD 12 (at_list (by rw [HOP.out]; rfl)) HNS.out HPQ.out (by rw [HOP.out]; kernel_rfl) (by rw [HOP.out]; kernel_rfl) (by rw [HOP.out]; rfl) ?_; (try simp only [Act.put, List.setIfInBounds_toArray, List.set_cons_zero, List.set_cons_succ])
          refine ord_skip RD 13 (at_list (by rw [HOP.out]; rfl)) HNS.out HPQ.out (by rw [HOP.out]; kernel_rfl) (by rw [HOP.out]; kernel_rfl) (by rw [HOP.out]; rfl) ?_; (try simp only [Act.put, List.setIfInBounds_toArray, List.set_cons_zero, List.set_cons_succ])
          refine ord_skip RD 14 (at_list (by rw [HOP.out]; rfl)) HNS.out HPQ.out (by rw [HOP.out]; kernel_rfl) (by rw [HOP.out]; kernel_rfl) (by rw [HOP.out]; rfl) ?_; (try simp only [Act.put, List.setIfInBounds_toArray, List.set_cons_zero, List.set_cons_succ])
          refine ord_skip RD 15 (at_list (by rw [HOP.out]; rfl)) HNS.out HPQ.out (by rw [HOP.out]; kernel_rfl) (by rw [HOP.out]; kernel_rfl) (by rw [HOP.out]; rfl) ?_; (try simp only [Act.put, List.setIfInBounds_toArray, List.set_cons_zero, List.set_cons_succ])
          refine ord_skip RD 16 (at_list (by rw [HOP.out]; rfl)) HNS.out HPQ.out (by rw [HOP.out]; kernel_rfl) (by rw [HOP.out]; kernel_rfl) (by rw [HOP.out]; rfl) ?_; (try simp only [Act.put, List.setIfInBounds_toArray, List.set_cons_zero, List.set_cons_succ])
          refine ord_skip RD 17 (at_list (by rw [HOP.out]; rfl)) HNS.out HPQ.out (by rw [HOP.out]; kernel_rfl) (by rw [HOP.out]; kernel_rfl) (by rw [HOP.out]; rfl) ?_; (try simp only [Act.put, List.setIfInBounds_toArray, List.set_cons_zero, List.set_cons_succ])
          refine ord_take RD 18 (at_list (by rw [HOP.out]; rfl)) HNS.out HPQ.out (by rw [HOP.out]; kernel_rfl) (by rw [HOP.out]; kernel_rfl) (by rw [HOP.out]; rfl) (fun K hK => ?_); apply Exists.intro; refine ⟨fun W hSW => ?_, hK _ ?_⟩; (focus ((try dsimp only at hSW); go_simp; try with_reducible rfl)); clear hK K; (try simp only [Act.put, List.setIfInBounds_toArray, List.set_cons_zero, List.set_cons_succ])
          refine ord_done (by rw [HOP.out]; kernel_rfl) (fun wo hWW hSW => HN.out _ _ ?_); clear HOP HNS HPQ HN RD; (try dsimp only at hSW)
          have HB2 := Lib.hid (below_bs BZ.out hSW)
          clear hSW hWW
          go_wp2_with fail
          exact ⟨⟨i + 1, by have := HLT.out; omega, by go_num, HB2.out⟩, by simp [intOf]; have := HLT.out; omega⟩
        · have e2 : ((i : Int) == (m : Int)) = false := by simp; omega
          have e2b : ((i : Int) != (m : Int)) = true := by simp; omega
          have hs : slA f1 i = slA fl i := HSL.out.1 i hlt hne
          have HXI : Hid (∀ W, Below wz.heap.size wz W → W.rangeAt bx (ox + i * 16) ((slA fl i).map (Value.int .u8))) := Lib.hid (fun W h => by rw [← hs]; exact HRX.out W (below_bs BZ.out h) i HLT.out)
          clear hi hlt hne hs
          go_upto_region 13 with fail
          clear t1
          generalize slA fl i = sl at *
          (have RD := grows_roads (S := fun x' => Below wz.heap.size wz x') (fun a b h1 h2 => below_bs h2 h1)); refine region_ord _ Grows RD (Below.drew (Below.refl wz.heap.size wz)) (by kernel_rfl) ?_; intro ops Q' hops hPQ hN; (have HNS : Hid (Region.noSelect ops = true) := Lib.hid (by rw [hops]; kernel_rfl)); (have hsz : ops.size = 19 := (by rw [hops]; rfl)); have HOP := Lib.hid hops; have HPQ := Lib.hid hPQ; have HN := Lib.hid hN; rw [hsz]; clear hops hsz hPQ hN
          refine ord_take RD 0 (at_list (by rw [HOP.out]; rfl)) HNS.out HPQ.out (by rw [HOP.out]; kernel_rfl) (by rw [HOP.out]; kernel_rfl) (by rw [HOP.out]; rfl) (fun K hK => ?_); apply Exists.intro; refine ⟨fun W hSW => ?_, hK _ ?_⟩; (focus ((try dsimp only at hSW); go_simp; try with_reducible rfl)); clear hK K; (try simp only [Act.put, List.setIfInBounds_toArray, List.set_cons_zero, List.set_cons_succ])
          refine ord_take RD 1 (at_list (by rw [HOP.out]; rfl)) HNS.out HPQ.out (by rw [HOP.out]; kernel_rfl) (by rw [HOP.out]; kernel_rfl) (by rw [HOP.out]; rfl) (fun K hK => ?_); apply Exists.intro; refine ⟨fun W hSW => ?_, hK _ ?_⟩; (focus ((try dsimp only at hSW); go_simp; try with_reducible rfl)); clear hK K; (try simp only [Act.put, List.setIfInBounds_toArray, List.set_cons_zero, List.set_cons_succ])
          refine ord_take RD 2 (at_list (by rw [HOP.out]; rfl)) HNS.out HPQ.out (by rw [HOP.out]; kernel_rfl) (by rw [HOP.out]; kernel_rfl) (by rw [HOP.out]; rfl) (fun K hK => ?_); apply Exists.intro; refine ⟨fun W hSW => ?_, hK _ ?_⟩; (focus ((try dsimp only at hSW); go_simp; try with_reducible rfl)); clear hK K; (try simp only [Act.put, List.setIfInBounds_toArray, List.set_cons_zero, List.set_cons_succ])
          refine ord_take RD 3 (at_list (by rw [HOP.out]; rfl)) HNS.out HPQ.out (by rw [HOP.out]; kernel_rfl) (by rw [HOP.out]; kernel_rfl) (by rw [HOP.out]; rfl) (fun K hK => ?_); apply Exists.intro; refine ⟨fun W hSW => ?_, hK _ ?_⟩; (focus ((try dsimp only at hSW); go_simp; try with_reducible rfl)); clear hK K; (try simp only [Act.put, List.setIfInBounds_toArray, List.set_cons_zero, List.set_cons_succ])
          (try simp only [e2b])
          refine ord_skip RD 4 (at_list (by rw [HOP.out]; rfl)) HNS.out HPQ.out (by rw [HOP.out]; kernel_rfl) (by rw [HOP.out]; kernel_rfl) (by rw [HOP.out]; rfl) ?_; (try simp only [Act.put, List.setIfInBounds_toArray, List.set_cons_zero, List.set_cons_succ])
          refine ord_take RD 5 (at_list (by rw [HOP.out]; rfl)) HNS.out HPQ.out (by rw [HOP.out]; kernel_rfl) (by rw [HOP.out]; kernel_rfl) (by rw [HOP.out]; rfl) (fun K hK => ?_); apply Exists.intro; refine ⟨fun W hSW => ?_, hK _ ?_⟩; (focus ((try dsimp only at hSW); go_simp; try with_reducible rfl)); clear hK K; (try simp only [Act.put, List.setIfInBounds_toArray, List.set_cons_zero, List.set_cons_succ])
          refine ord_take RD 6 (at_list (by rw [HOP.out]; rfl)) HNS.out HPQ.out (by rw [HOP.out]; kernel_rfl) (by rw [HOP.out]; kernel_rfl) (by rw [HOP.out]; rfl) (fun K hK => ?_); apply Exists.intro; refine ⟨fun W hSW => ?_, hK _ ?_⟩; (focus ((try dsimp only at hSW); go_simp; try with_reducible rfl)); clear hK K; (try simp only [Act.put, List.setIfInBounds_toArray, List.set_cons_zero, List.set_cons_succ])
          refine ord_take RD 7 (at_list (by rw [HOP.out]; rfl)) HNS.out HPQ.out (by rw [HOP.out]; kernel_rfl) (by rw [HOP.out]; kernel_rfl) (by rw [HOP.out]; rfl) (fun K hK => ?_); apply Exists.intro; refine ⟨fun W hSW => ?_, hK _ ?_⟩; (focus ((try dsimp only at hSW); go_simp; try with_reducible rfl)); clear hK K; (try simp only [Act.put, List.setIfInBounds_toArray, List.set_cons_zero, List.set_cons_succ])
          refine ord_take RD 8 (at_list (by rw [HOP.out]; rfl)) HNS.out HPQ.out (by rw [HOP.out]; kernel_rfl) (by rw [HOP.out]; kernel_rfl) (by rw [HOP.out]; rfl) (fun K hK => ?_); apply Exists.intro; refine ⟨fun W hSW => ?_, hK _ ?_⟩; (focus ((try dsimp only at hSW); (have z := (XZ.out.past hSW).c1); go_simp; try with_reducible rfl)); clear hK K; (try simp only [Act.put, List.setIfInBounds_toArray, List.set_cons_zero, List.set_cons_succ])
          refine ord_take RD 9 (at_list (by rw [HOP.out]; rfl)) HNS.out HPQ.out (by rw [HOP.out]; kernel_rfl) (by rw [HOP.out]; kernel_rfl) (by rw [HOP.out]; rfl) (fun K hK => ?_); apply Exists.intro; refine ⟨fun W hSW => ?_, hK _ ?_⟩; (focus ((try dsimp only at hSW); go_simp; try with_reducible rfl)); clear hK K; (try simp only [Act.put, List.setIfInBounds_toArray, List.set_cons_zero, List.set_cons_succ])
          refine ord_take RD 10 (at_list (by rw [HOP.out]; rfl)) HNS.out HPQ.out (by rw [HOP.out]; kernel_rfl) (by rw [HOP.out]; kernel_rfl) (by rw [HOP.out]; rfl) (fun K hK => ?_); apply Exists.intro; refine ⟨fun W hSW => ?_, hK _ ?_⟩; (focus ((try dsimp only at hSW); go_simp; try with_reducible rfl)); clear hK K; (try simp only [Act.put, List.setIfInBounds_toArray, List.set_cons_zero, List.set_cons_succ])
          refine ord_take RD 11 (at_list (by rw [HOP.out]; rfl)) HNS.out HPQ.out (by rw [HOP.out]; kernel_rfl) (by rw [HOP.out]; kernel_rfl) (by rw [HOP.out]; rfl) (fun K hK => ?_); apply Exists.intro; refine ⟨fun W hSW => ?_, hK _ ?_⟩; (focus ((try dsimp only at hSW); exact quiet_slot _ rfl (HXI.out W hSW) (HLI.out.1) rfl)); clear hK K; (try simp only [Act.put, List.setIfInBounds_toArray, List.set_cons_zero, List.set_cons_succ])
          refine ord_take RD 12 (at_list (by rw [HOP.out]; rfl)) HNS.out HPQ.out (by rw [HOP.out]; kernel_rfl) (by rw [HOP.out]; kernel_rfl) (by rw [HOP.out]; rfl) (fun K hK => ?_); apply Exists.intro; refine ⟨fun W hSW => ?_, hK _ ?_⟩; (focus ((try dsimp only at hSW); go_simp; try with_reducible rfl)); clear hK K; (try simp only [Act.put, List.setIfInBounds_toArray, List.set_cons_zero, List.set_cons_succ])
          refine ord_take RD 13 (at_list (by rw [HOP.out]; rfl)) HNS.out HPQ.out (by rw [HOP.out]; kernel_rfl) (by rw [HOP.out]; kernel_rfl) (by rw [HOP.out]; rfl) (fun K hK => ?_); apply Exists.intro; refine ⟨fun W hSW => ?_, hK _ ?_⟩; (focus ((try dsimp only at hSW); (have z := (TZ.out.past hSW).c1); go_simp; try with_reducible rfl)); clear hK K; (try simp only [Act.put, List.setIfInBounds_toArray, List.set_cons_zero, List.set_cons_succ])
          refine ord_take RD 14 (at_list (by rw [HOP.out]; rfl)) HNS.out HPQ.out (by rw [HOP.out]; kernel_rfl) (by rw [HOP.out]; kernel_rfl) (by rw [HOP.out]; rfl) (fun K hK => ?_); apply Exists.intro; refine ⟨fun W hSW => ?_, hK _ ?_⟩; (focus ((try dsimp only at hSW); go_simp; try with_reducible rfl)); clear hK K; (try simp only [Act.put, List.setIfInBounds_toArray, List.set_cons_zero, List.set_cons_succ])
          refine ord_take RD 15 (at_list (by rw [HOP.out]; rfl)) HNS.out HPQ.out (by rw [HOP.out]; kernel_rfl) (by rw [HOP.out]; kernel_rfl) (by rw [HOP.out]; rfl) (fun K hK => ?_); apply Exists.intro; refine ⟨fun W hSW => ?_, hK _ ?_⟩; (focus ((try dsimp only at hSW); go_simp; try with_reducible rfl)); clear hK K; (try simp only [Act.put, List.setIfInBounds_toArray, List.set_cons_zero, List.set_cons_succ])
          refine ord_take RD 16 (at_list (by rw [HOP.out]; rfl)) HNS.out HPQ.out (by rw [HOP.out]; kernel_rfl) (by rw [HOP.out]; kernel_rfl) (by rw [HOP.out]; rfl) (fun K hK => ?_); apply Exists.intro; refine ⟨fun W hSW => ?_, hK _ ?_⟩; (focus ((try dsimp only at hSW); exact quiet_slot _ rfl (HTI.out W hSW) (HLI.out.1) rfl)); clear hK K; (try simp only [Act.put, List.setIfInBounds_toArray, List.set_cons_zero, List.set_cons_succ])
          refine ord_take RD 17 (at_list (by rw [HOP.out]; rfl)) HNS.out HPQ.out (by rw [HOP.out]; kernel_rfl) (by rw [HOP.out]; kernel_rfl) (by rw [HOP.out]; rfl) (fun K hK => ?_); apply Exists.intro; refine ⟨fun W hSW => ?_, hK _ ?_⟩; (focus ((try dsimp only at hSW); exact quiet_neq _ _ _ rfl (HLI.out.1) (HLI.out.2) rfl rfl)); clear hK K; (try simp only [Act.put, List.setIfInBounds_toArray, List.set_cons_zero, List.set_cons_succ])
          refine ord_take RD 18 (at_list (by rw [HOP.out]; rfl)) HNS.out HPQ.out (by rw [HOP.out]; kernel_rfl) (by rw [HOP.out]; kernel_rfl) (by rw [HOP.out]; rfl) (fun K hK => ?_); apply Exists.intro; refine ⟨fun W hSW => ?_, hK _ ?_⟩; (focus ((try dsimp only at hSW); go_simp; try with_reducible rfl)); clear hK K; (try simp only [Act.put, List.setIfInBounds_toArray, List.set_cons_zero, List.set_cons_succ])
          refine ord_done (by rw [HOP.out]; kernel_rfl) (fun wo hWW hSW => HN.out _ _ ?_); clear HOP HNS HPQ HN RD; (try dsimp only at hSW)
          have HB2 := Lib.hid (below_bs BZ.out hSW)
          clear hSW hWW
          go_wp2_with fail
          exact ⟨⟨i + 1, by have := HLT.out; omega, by go_num, HB2.out⟩, by simp [intOf]; have := HLT.out; omega⟩
      · have k1 : ¬ (i : Int) < n := by omega
        have t1 := TZ.out.c1
        have B5 := Lib.hid (below_bs B4.out BZ.out)
        clear hi hlt
        have ctm1 := HKC.out wz BZ.out ⟨bt, ot + m * 16 + 1, none⟩ _ rfl HCELL.out.2.2.2.1
        have HSS : Hid ((0 ≤ stA fl m 0 ∧ stA fl m 0 < 193) ∧ 0 ≤ stA fl d 0 ∧ stA fl d 0 < 193) := Lib.hid ⟨⟨(HI4.out.bd _).1, HST.out m HLK.out.1⟩, (HI4.out.bd _).1, HST.out d HLK.out.2.1⟩
        obtain ⟨hs1, hs2, hs3⟩ := HSL.out.2.2 hc
        have HN1 := Lib.hid hs1
        have e5 : (chA fl d == ck) = false := by simpa using hs2
        have e5b : (chA fl d != ck) = true := by simpa using hs2
        have HN3 := Lib.hid hs3
        clear hs1 hs2 hs3
        go_wp2_with fail
        refine (stW.Total_any' (stA fl m 0) wz HSS.out.1.1 (by have := HSS.out; omega)).mono ?_
        rintro e w6 ⟨rfl, b6⟩
        rw [show stP.cntE (stA fl m 0) = 0 from if_pos HSS.out.1.2]
        have HB6 := Lib.hid (below_bs BZ.out b6)
        have t1' := (TZ.out.past b6).c1
        have ctd1 := HKC.out w6 HB6.out ⟨bt, ot + d * 16 + 1, none⟩ _ rfl HCELL.out.2.2.2.2
        clear b6 ctm1 t1
        go_wp2_with fail
        refine (stW.Total_any' (stA fl d 0) w6 HSS.out.2.1 (by have := HSS.out; omega)).mono ?_
        rintro e w7 ⟨rfl, b7⟩
        rw [show stP.cntE (stA fl d 0) = 0 from if_pos HSS.out.2.2]
        have HB7 := Lib.hid (below_bs HB6.out b7)
        have B7 := Lib.hid (below_bs B4.out HB7.out)
        have t1 := (T4.out.past HB7.out).c1
        have x1 := (X4.out.past HB7.out).c1
        have ctd := HKC.out w7 HB7.out ⟨bt, ot + d * 16, none⟩ _ rfl HCELL.out.2.2.1
        have HRM : Hid (w7.rangeAt bx (ox + m * 16) ([ck, 0, 0, 0, 0, 0, 0, 0, 0, 0, 0, 0, 0, 0, 0, 0].map (Value.int .u8))) := Lib.hid (by
          have := HRX.out w7 HB7.out m HLK.out.1
          rw [HN1.out, newS, HCK.out] at this; exact this)
        have HBL : Hid (∀ z ∈ [ck, 0, 0, 0, 0, 0, 0, 0, 0, 0, 0, 0, 0, 0, 0, 0], 0 ≤ z ∧ z ≤ 255) := Lib.hid (by
          have := newS_bd HB.out.2.1 HB.out.2.2
          rw [newS, HCK.out] at this; exact this)
        clear b7 ctd1 t1'
        generalize stP.stT (stA fl m 0) = s1 at *
        generalize stP.stT (stA fl d 0) = s2 at *
        by_cases h12 : s1 < s2
        · go_wp2_with (first | (show wpList _ _ _ ({ dst := _, op := Op.load 31 _, type := _, pos := _, after := _, guard := _ } :: _) _ _; go_must (refine wp_load_slot (l := [ck, 0, 0, 0, 0, 0, 0, 0, 0, 0, 0, 0, 0, 0, 0, 0]) (by rfl) _ rfl HRM.out rfl rfl ?_)) | (show wpList _ _ _ ({ dst := _, op := Op.binOp .eql 31 _ _ _, type := _, pos := _, after := _, guard := _ } :: _) _ _; go_must (refine wp_eql_slot (l := [ck, 0, 0, 0, 0, 0, 0, 0, 0, 0, 0, 0, 0, 0, 0, 0]) (by rfl) _ _ _ rfl rfl HBL.out rfl (by unfold va; rfl) ?_)))
          refine (alive_any w7).mono ?_
          rintro e w8 ⟨rfl, b8⟩
          have B8 := Lib.hid (below_bs B7.out b8)
          clear b8
          go_wp2_with fail
          go_ret
          exact ⟨rfl, B8.out⟩
        · have hes : s1 = s2 ∧ m = q := by
            rcases HN3.out with e | e
            · exact absurd e h12
            · exact e
          have e6 : (s1 == s2) = true := by simpa using hes.1
          have e7 : ((m : Int) == (q : Int)) = true := by simp [hes.2]
          clear hes
          go_wp2_with (first | (show wpList _ _ _ ({ dst := _, op := Op.load 31 _, type := _, pos := _, after := _, guard := _ } :: _) _ _; go_must (refine wp_load_slot (l := [ck, 0, 0, 0, 0, 0, 0, 0, 0, 0, 0, 0, 0, 0, 0, 0]) (by rfl) _ rfl HRM.out rfl rfl ?_)) | (show wpList _ _ _ ({ dst := _, op := Op.binOp .eql 31 _ _ _, type := _, pos := _, after := _, guard := _ } :: _) _ _; go_must (refine wp_eql_slot (l := [ck, 0, 0, 0, 0, 0, 0, 0, 0, 0, 0, 0, 0, 0, 0, 0]) (by rfl) _ _ _ rfl rfl HBL.out rfl (by unfold va; rfl) ?_)))
          refine (alive_any w7).mono ?_
          rintro e w8 ⟨rfl, b8⟩
          have B8 := Lib.hid (below_bs B7.out b8)
          clear b8
          go_wp2_with fail
          go_ret
          exact ⟨rfl, B8.out⟩
end Go.Proofs.Ytkklmclnjmafaaa.slL
