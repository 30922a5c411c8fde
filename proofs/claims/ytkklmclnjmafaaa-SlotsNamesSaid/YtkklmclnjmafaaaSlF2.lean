/- Find, by a walk. -/
import Derived.Test.YtkklmclnjmafaaaSlF
namespace Go.Proofs.Ytkklmclnjmafaaa.slW
set_option maxRecDepth 100000
open Go.RowKit Go.Proofs.Ytkklmclnjmafaaa.base Go.Proofs.Ytkklmclnjmafaaa.slP
set_option linter.unusedVariables false
set_option linter.unusedSimpArgs false
set_option maxRecDepth 100000
set_option maxHeartbeats 3200000 in
theorem Find_any (lv : Int) (A : Option Addr) (n c : Nat) (fl : List Int) (h : Int) (w : World) (l1 : -9223372036854775808 ≤ lv) (l2 : lv ≤ 9223372036854775807) (hi : InS w A n c fl) (x0 : 0 ≤ h) (x1 : h ≤ 4294967295) :
    Calls Try.prog 11 #[.agg #[.int .i64 lv, .slice A n c], .int .u32 h] w fun e w' => ∃ A' c', e = .returned (.tuple #[.agg #[.int .i64 (fdT lv n fl h).lv, .slice A' (fdT lv n fl h).n c'], .int .i64 (fdP lv n fl h), .int .i64 (okE lv n fl)]) ∧ OwnS w' w.heap.size (.slice A' (fdT lv n fl h).n c') (fdT lv n fl h).n (fdT lv n fl h).fl ∧ Below w.heap.size w w' := by
  have n9 : (n : Int) ≤ 9223372036854775807 := by have := hi.c1; have := hi.c2; omega
  have HI := Lib.hid hi
  have HX := Lib.hid (And.intro x0 x1)
  have G0 := tb_box w lv A n c
  have S0 : (w.alloc (.cells #[.int .i64 lv, .slice A n c] 24)).heap.size = w.heap.size + 1 := by simp
  have R0 := tb_new (w.alloc (.cells #[.int .i64 lv, .slice A n c] 24)) 0 none 0 0
  have G1 := tb_box (w.alloc (.cells #[.int .i64 lv, .slice A n c] 24)) 0 none 0 0
  rw [S0] at R0
  have T0 := (tb_new w lv A n c).past G1
  have t0 := T0.c0
  have t1 := T0.c1
  have HT0 := Lib.hid T0
  have HR0 := Lib.hid R0
  have B0 := Lib.hid (below_bs G0 G1)
  clear hi G0 G1 S0 R0 T0 x0 x1
  go_enter Try.func11, Try.ntmps11
  go_upto_region 1 with fail
  generalize ((w.alloc (.cells #[.int .i64 lv, .slice A n c] 24)).alloc (.cells #[.int .i64 0, .slice none 0 0] 24)) = w0 at *
  have HGR : Hid (w.heap.size ≤ w.heap.size + 1) := Lib.hid (Nat.le_succ _)
  generalize w.heap.size + 1 = gr at *
  go_wp2_with fail
  refine (Check_any lv A n c fl w0 l1 l2 (HI.out.past B0.out)).mono ?_
  rintro e w1 ⟨rfl, b1⟩
  have B1 := Lib.hid (below_bs B0.out b1)
  have T1 := Lib.hid (HT0.out.past b1)
  have R1 := Lib.hid (HR0.out.past b1)
  have HI1 := Lib.hid ((HI.out.past B0.out).past b1)
  have HWW : Hid (w.heap.size ≤ w1.heap.size) := Lib.hid B1.out.size
  clear t0 t1 HT0 HR0 B0 b1 HI
  by_cases hok : okB lv n fl = true
  · have HF := Lib.hid (fd_ok (h := h) hok)
    have HPL := Lib.hid (place_ok h hok)
    have HST : Hid (∀ i, i < n → stA fl i 0 < 193) := Lib.hid (fun i hi => ((ok_iff lv n fl).1 hok).2.2 i hi 0 (by decide))
    rw [okE_ok hok]
    clear hok
    have t1 := T1.out.c1
    go_wp2_with fail
    refine (hashW.place_any h n w1 HX.out.1 HX.out.2).mono ?_
    rintro e _ ⟨rfl, rfl⟩
    rw [HPL.out.1, HPL.out.2.1]
    obtain ⟨q, hq⟩ : ∃ q, plN n h = q := ⟨_, rfl⟩
    have HQ := Lib.hid hq
    rw [hq] at HPL ⊢
    go_wp2_with fail
    refine (hashW.check_any h w1 HX.out.1 HX.out.2).mono ?_
    rintro e _ ⟨rfl, rfl⟩
    have hxr := xor_bes (q := q) (by have := HPL.out; omega)
    obtain ⟨d, hd⟩ : ∃ d, bes q = d := ⟨_, rfl⟩
    obtain ⟨ck, hck⟩ : ∃ ck, h / 16777216 = ck := ⟨_, rfl⟩
    have HD := Lib.hid hd
    have HCK : Hid (ckN h = ck) := Lib.hid hck
    rw [hd] at HPL hxr
    rw [hck]
    clear hq hd hck t1
    have t0 := T1.out.c0
    have t1 := T1.out.c1
    have HM : Hid (n ≤ 1000000 ∧ 0 < n) := Lib.hid (by have := HPL.out; omega)
    go_wp2_with fail
    refine (clone_any lv A n c fl w1 HI1.out HM.out.1 HM.out.2).mono ?_
    rintro e w3 ⟨g, c3, rfl, o3, b3⟩
    have O3 := Lib.hid o3
    have B3 := Lib.hid (below_bs B1.out b3)
    have R3 := Lib.hid (R1.out.past b3)
    have T3 := Lib.hid (T1.out.past b3)
    have HI3 := Lib.hid (HI1.out.past b3)
    have HG : Hid (w1.heap.size ≤ g ∧ gr < w1.heap.size ∧ g < w3.heap.size ∧ w1.heap.size ≤ w3.heap.size) := Lib.hid (by
      obtain ⟨g', e, h1, h2⟩ := O3.out.form HM.out.2
      injection e with e; injection e with e; exact ⟨by omega, Lies.lt R1.out, by omega, b3.size⟩)
    clear o3 b3 t0 t1 T1 R1 B1 HI1 hxr
    have G4 := tb_box w3 lv (some ⟨g, 0, none⟩) n c3
    have N4 := Lib.hid (tb_new w3 lv (some ⟨g, 0, none⟩) n c3)
    have O4 := Lib.hid (O3.out.past G4)
    have R4 := Lib.hid (R3.out.past G4)
    have T4 := Lib.hid (T3.out.past G4)
    have HI4 := Lib.hid (HI3.out.past G4)
    have B4 := Lib.hid (below_bs B3.out G4)
    clear G4 O3 R3 T3 HI3 B3
    go_upto_region 9 with fail
    generalize (w3.alloc (.cells #[.int .i64 lv, .slice (some ⟨g, 0, none⟩) n c3] 24)) = w4 at *
    generalize hgn : w3.heap.size = gn at *
    clear hgn
    obtain ⟨bb, off, hA, hbb, hc⟩ := HI4.out.at_ HM.out.2
    subst hA
    have hcq := hc (16 * q) (by have := HPL.out; omega)
    have hcd := hc (16 * d) (by have := HPL.out; omega)
    rw [show off + 16 * q = off + q * 16 by omega, show fl.getD (16 * q) 0 = chA fl q from rfl] at hcq
    rw [show off + 16 * d = off + d * 16 by omega, show fl.getD (16 * d) 0 = chA fl d from rfl] at hcd
    have k1 : (q : Int) < n := by have := HPL.out; omega
    have k2 : (d : Int) < n := by have := HPL.out; omega
    have t1 := T4.out.c1
    clear hc hbb
    have n0 := N4.out.c0
    have n1 := N4.out.c1
    have z0 := R4.out.c0
    have z1 := R4.out.c1
    have z2 := R4.out.f0
    have z3 := R4.out.f1
    by_cases e0 : chA fl q = ck
    · have HL := Lib.hid (lk_1 HQ.out (e0.trans HCK.out.symm))
      have e0' : (chA fl q == ck) = true := by simpa using e0
      clear e0
      have FLE := HL.out.2.1
      have R9 := Lib.hid (tb_set (lv := lv) (A := some ⟨g, 0, none⟩) (n := n) (c := c3) R4.out)
      have r0 := R9.out.c0
      have r1 := R9.out.c1
      go_wp2_with fail
      refine bodyPost_ret (by simp [results, Try.results11, go_sem, r0, r1]; try rfl) rfl ?_
      exact ⟨some ⟨g, 0, none⟩, c3, by rw [HF.out.1, HF.out.2.1, HF.out.2.2, HL.out.1], by rw [HF.out.1]; exact own_other (own_other (by rw [show (TV.mk lv n (fdL fl n h)).fl = fdL fl n h from rfl, FLE]; exact O4.out.mono (by have := HWW.out; omega)) ⟨gr, 0, none⟩ (by have := HG.out; simp; omega) _) ⟨gr, 1, none⟩ (by have := HG.out; simp; omega) _, below_set2 B4.out HGR.out _ _⟩
    have e0' : (chA fl q == ck) = false := by simpa using e0
    have HE0 : Hid (¬ chA fl q = ckN h) := Lib.hid (fun e => e0 (e.trans HCK.out))
    clear e0
    by_cases e1 : chA fl d = ck
    · have HL := Lib.hid (lk_2 HQ.out HE0.out (by rw [HD.out, HCK.out]; exact e1))
      rw [HD.out] at HL
      have e1' : (chA fl d == ck) = true := by simpa using e1
      clear e1
      have FLE := HL.out.2.1
      have R9 := Lib.hid (tb_set (lv := lv) (A := some ⟨g, 0, none⟩) (n := n) (c := c3) R4.out)
      have r0 := R9.out.c0
      have r1 := R9.out.c1
      go_wp2_with fail
      refine bodyPost_ret (by simp [results, Try.results11, go_sem, r0, r1]; try rfl) rfl ?_
      exact ⟨some ⟨g, 0, none⟩, c3, by rw [HF.out.1, HF.out.2.1, HF.out.2.2, HL.out.1], by rw [HF.out.1]; exact own_other (own_other (by rw [show (TV.mk lv n (fdL fl n h)).fl = fdL fl n h from rfl, FLE]; exact O4.out.mono (by have := HWW.out; omega)) ⟨gr, 0, none⟩ (by have := HG.out; simp; omega) _) ⟨gr, 1, none⟩ (by have := HG.out; simp; omega) _, below_set2 B4.out HGR.out _ _⟩
    have e1' : (chA fl d == ck) = false := by simpa using e1
    have HE1 : Hid (¬ chA fl (bes q) = ckN h) := Lib.hid (fun e => e1 (by rw [HD.out, HCK.out] at e; exact e))
    clear e1
    have HLS : Hid ((slA fl d).length = 16 ∧ (slA fl q).length = 16 ∧ (slA fl d).getD 1 0 = stA fl d 0 ∧ (slA fl q).getD 1 0 = stA fl q 0) := Lib.hid ⟨slA_len HI4.out.e (by omega), slA_len HI4.out.e (by omega), slA_get (by decide), slA_get (by decide)⟩
    have HSS : Hid ((0 ≤ stA fl d 0 ∧ stA fl d 0 < 193) ∧ 0 ≤ stA fl q 0 ∧ stA fl q 0 < 193) := Lib.hid ⟨⟨(HI4.out.bd _).1, HST.out d (by omega)⟩, (HI4.out.bd _).1, HST.out q (by omega)⟩
    have HRD : Hid (∀ W, Below w4.heap.size w4 W → W.rangeAt bb (off + d * 16) ((slA fl d).map (Value.int .u8))) := Lib.hid (fun W h => (HI4.out.past h).rng rfl HM.out.2 d)
    have HRQ : Hid (∀ W, Below w4.heap.size w4 W → W.rangeAt bb (off + q * 16) ((slA fl q).map (Value.int .u8))) := Lib.hid (fun W h => (HI4.out.past h).rng rfl HM.out.2 q)
    have HC34 : Hid (¬ stP.stT (stA fl (bes q) 0) < stP.stT (stA fl q 0) → lkN fl n h = q ∧ fdL fl n h = setL fl (q * 16) (newS h)) := Lib.hid (lk_4 HQ.out HE0.out HE1.out)
    have HC33 : Hid (stP.stT (stA fl (bes q) 0) < stP.stT (stA fl q 0) → lkN fl n h = bes q ∧ fdL fl n h = setL fl (bes q * 16) (newS h)) := Lib.hid (lk_3 HQ.out HE0.out HE1.out)
    rw [HD.out] at HC33 HC34
    go_upto_region 13 with fail
    clear hcq hcd t1 n0 n1 z0 z1 z2 z3
    generalize slA fl d = ld at *
    generalize slA fl q = lq at *
    generalize hsd : stA fl d 0 = sd at *
    generalize hsq : stA fl q 0 = sq at *
    clear hsd hsq
    by_cases k3 : stP.stT sd < stP.stT sq
    · have HL := Lib.hid (HC33.out k3)
      (have RD := grows_roads (S := fun x' => Below w4.heap.size w4 x') (fun a b h1 h2 => below_bs h2 h1)); refine region_ord _ Grows RD (Below.drew (Below.refl w4.heap.size w4)) (by kernel_rfl) ?_; intro ops Q' hops hPQ hN; (have HNS : Hid (Region.noSelect ops = true) := Lib.hid (by rw [hops]; kernel_rfl)); (have hsz : ops.size = 13 := (by rw [hops]; rfl)); have HOP := Lib.hid hops; have HPQ := Lib.hid hPQ; have HN := Lib.hid hN; rw [hsz]; clear hops hsz hPQ hN
      refine ord_take RD 0 (at_list (by rw [HOP.out]; rfl)) HNS.out HPQ.out (by rw [HOP.out]; kernel_rfl) (by rw [HOP.out]; kernel_rfl) (by rw [HOP.out]; rfl) (fun K hK => ?_); apply Exists.intro; refine ⟨fun W hSW => ?_, hK _ ?_⟩; (focus ((try dsimp only at hSW); go_simp; try with_reducible rfl)); clear hK K; (try simp only [Act.put, List.setIfInBounds_toArray, List.set_cons_zero, List.set_cons_succ])
      refine ord_take RD 1 (at_list (by rw [HOP.out]; rfl)) HNS.out HPQ.out (by rw [HOP.out]; kernel_rfl) (by rw [HOP.out]; kernel_rfl) (by rw [HOP.out]; rfl) (fun K hK => ?_); apply Exists.intro; refine ⟨fun W hSW => ?_, hK _ ?_⟩; (focus ((try dsimp only at hSW); (have z := (T4.out.past hSW).c1); go_simp; try with_reducible rfl)); clear hK K; (try simp only [Act.put, List.setIfInBounds_toArray, List.set_cons_zero, List.set_cons_succ])
      refine ord_take RD 2 (at_list (by rw [HOP.out]; rfl)) HNS.out HPQ.out (by rw [HOP.out]; kernel_rfl) (by rw [HOP.out]; kernel_rfl) (by rw [HOP.out]; rfl) (fun K hK => ?_); apply Exists.intro; refine ⟨fun W hSW => ?_, hK _ ?_⟩; (focus ((try dsimp only at hSW); go_simp; try with_reducible rfl)); clear hK K; (try simp only [Act.put, List.setIfInBounds_toArray, List.set_cons_zero, List.set_cons_succ])
      refine ord_take RD 3 (at_list (by rw [HOP.out]; rfl)) HNS.out HPQ.out (by rw [HOP.out]; kernel_rfl) (by rw [HOP.out]; kernel_rfl) (by rw [HOP.out]; rfl) (fun K hK => ?_); apply Exists.intro; refine ⟨fun W hSW => ?_, hK _ ?_⟩; (focus ((try dsimp only at hSW); go_simp; try with_reducible rfl)); clear hK K; (try simp only [Act.put, List.setIfInBounds_toArray, List.set_cons_zero, List.set_cons_succ])
      refine ord_take RD 4 (at_list (by rw [HOP.out]; rfl)) HNS.out HPQ.out (by rw [HOP.out]; kernel_rfl) (by rw [HOP.out]; kernel_rfl) (by rw [HOP.out]; rfl) (fun K hK => ?_); apply Exists.intro; refine ⟨fun W hSW => ?_, hK _ ?_⟩; (focus ((try dsimp only at hSW); exact quiet_slot _ rfl (HRD.out W hSW) (HLS.out.1) rfl)); clear hK K; (try simp only [Act.put, List.setIfInBounds_toArray, List.set_cons_zero, List.set_cons_succ])
      refine ord_take RD 5 (at_list (by rw [HOP.out]; rfl)) HNS.out HPQ.out (by rw [HOP.out]; kernel_rfl) (by rw [HOP.out]; kernel_rfl) (by rw [HOP.out]; rfl) (fun K hK => ?_); apply Exists.intro; refine ⟨fun W hSW => ?_, hK _ ?_⟩; (focus ((try dsimp only at hSW); go_simp; exact (prioW ld sd W HLS.out.1 HLS.out.2.2.1 HSS.out.1.1 HSS.out.1.2))); clear hK K; (try simp only [Act.put, List.setIfInBounds_toArray, List.set_cons_zero, List.set_cons_succ])
      refine ord_take RD 6 (at_list (by rw [HOP.out]; rfl)) HNS.out HPQ.out (by rw [HOP.out]; kernel_rfl) (by rw [HOP.out]; kernel_rfl) (by rw [HOP.out]; rfl) (fun K hK => ?_); apply Exists.intro; refine ⟨fun W hSW => ?_, hK _ ?_⟩; (focus ((try dsimp only at hSW); go_simp; try with_reducible rfl)); clear hK K; (try simp only [Act.put, List.setIfInBounds_toArray, List.set_cons_zero, List.set_cons_succ])
      refine ord_take RD 7 (at_list (by rw [HOP.out]; rfl)) HNS.out HPQ.out (by rw [HOP.out]; kernel_rfl) (by rw [HOP.out]; kernel_rfl) (by rw [HOP.out]; rfl) (fun K hK => ?_); apply Exists.intro; refine ⟨fun W hSW => ?_, hK _ ?_⟩; (focus ((try dsimp only at hSW); (have z := (T4.out.past hSW).c1); go_simp; try with_reducible rfl)); clear hK K; (try simp only [Act.put, List.setIfInBounds_toArray, List.set_cons_zero, List.set_cons_succ])
      refine ord_take RD 8 (at_list (by rw [HOP.out]; rfl)) HNS.out HPQ.out (by rw [HOP.out]; kernel_rfl) (by rw [HOP.out]; kernel_rfl) (by rw [HOP.out]; rfl) (fun K hK => ?_); apply Exists.intro; refine ⟨fun W hSW => ?_, hK _ ?_⟩; (focus ((try dsimp only at hSW); go_simp; try with_reducible rfl)); clear hK K; (try simp only [Act.put, List.setIfInBounds_toArray, List.set_cons_zero, List.set_cons_succ])
      refine ord_take RD 9 (at_list (by rw [HOP.out]; rfl)) HNS.out HPQ.out (by rw [HOP.out]; kernel_rfl) (by rw [HOP.out]; kernel_rfl) (by rw [HOP.out]; rfl) (fun K hK => ?_); apply Exists.intro; refine ⟨fun W hSW => ?_, hK _ ?_⟩; (focus ((try dsimp only at hSW); go_simp; try with_reducible rfl)); clear hK K; (try simp only [Act.put, List.setIfInBounds_toArray, List.set_cons_zero, List.set_cons_succ])
      refine ord_take RD 10 (at_list (by rw [HOP.out]; rfl)) HNS.out HPQ.out (by rw [HOP.out]; kernel_rfl) (by rw [HOP.out]; kernel_rfl) (by rw [HOP.out]; rfl) (fun K hK => ?_); apply Exists.intro; refine ⟨fun W hSW => ?_, hK _ ?_⟩; (focus ((try dsimp only at hSW); exact quiet_slot _ rfl (HRQ.out W hSW) (HLS.out.2.1) rfl)); clear hK K; (try simp only [Act.put, List.setIfInBounds_toArray, List.set_cons_zero, List.set_cons_succ])
      refine ord_take RD 11 (at_list (by rw [HOP.out]; rfl)) HNS.out HPQ.out (by rw [HOP.out]; kernel_rfl) (by rw [HOP.out]; kernel_rfl) (by rw [HOP.out]; rfl) (fun K hK => ?_); apply Exists.intro; refine ⟨fun W hSW => ?_, hK _ ?_⟩; (focus ((try dsimp only at hSW); go_simp; exact (prioW lq sq W HLS.out.2.1 HLS.out.2.2.2 HSS.out.2.1 HSS.out.2.2))); clear hK K; (try simp only [Act.put, List.setIfInBounds_toArray, List.set_cons_zero, List.set_cons_succ])
      refine ord_take RD 12 (at_list (by rw [HOP.out]; rfl)) HNS.out HPQ.out (by rw [HOP.out]; kernel_rfl) (by rw [HOP.out]; kernel_rfl) (by rw [HOP.out]; rfl) (fun K hK => ?_); apply Exists.intro; refine ⟨fun W hSW => ?_, hK _ ?_⟩; (focus ((try dsimp only at hSW); go_simp; try with_reducible rfl)); clear hK K; (try simp only [Act.put, List.setIfInBounds_toArray, List.set_cons_zero, List.set_cons_succ])
      refine ord_done (by rw [HOP.out]; kernel_rfl) (fun w5 hWW hSW => HN.out _ _ ?_); clear HOP HNS HPQ HN RD; (try dsimp only at hSW)
      have B5 := Lib.hid (below_bs B4.out hSW)
      have N5 := Lib.hid (N4.out.past hSW)
      have O5 := Lib.hid (O4.out.past hSW)
      have R5 := Lib.hid (R4.out.past hSW)
      clear hSW hWW B4 N4 O4 R4 T4 HI4 HRD HRQ
      have O4 := O5
      have HLEN : Hid (d * 16 + 16 ≤ fl.length) := Lib.hid (by rw [O5.out.len]; have := HPL.out; omega)
      have n1 := N5.out.c1
      go_upto_region 16 with (first | (show wpList _ _ _ ({ dst := none, op := Op.store 31 _ _, type := _, pos := _, after := _, guard := none } :: _) _ _; go_must (refine wp_slot (l := [ck, 0, 0, 0, 0, 0, 0, 0, 0, 0, 0, 0, 0, 0, 0, 0]) rfl _ _ rfl O4.out rfl HLEN.out rfl (by unfold va; rfl) ?_)))
      have O6 : Hid (OwnS (w5.setCells g (d * 16) ([ck, 0, 0, 0, 0, 0, 0, 0, 0, 0, 0, 0, 0, 0, 0, 0].map (Value.int .u8))) w1.heap.size (.slice (some ⟨g, 0, none⟩) n c3) n (setL fl (d * 16) [ck, 0, 0, 0, 0, 0, 0, 0, 0, 0, 0, 0, 0, 0, 0, 0])) := Lib.hid (OwnS.many 0 [ck, 0, 0, 0, 0, 0, 0, 0, 0, 0, 0, 0, 0, 0, 0, 0] O5.out)
      have N6 : Hid (TbAt (w5.setCells g (d * 16) ([ck, 0, 0, 0, 0, 0, 0, 0, 0, 0, 0, 0, 0, 0, 0, 0].map (Value.int .u8))) gn lv (some ⟨g, 0, none⟩) n c3) := Lib.hid (lies_cells (by have := HG.out; omega) _ _ N5.out)
      have R6 : Hid (TbAt (w5.setCells g (d * 16) ([ck, 0, 0, 0, 0, 0, 0, 0, 0, 0, 0, 0, 0, 0, 0, 0].map (Value.int .u8))) gr 0 none 0 0) := Lib.hid (lies_cells (by have := HG.out; omega) _ _ R5.out)
      have B6 : Hid (Below w.heap.size w (w5.setCells g (d * 16) ([ck, 0, 0, 0, 0, 0, 0, 0, 0, 0, 0, 0, 0, 0, 0, 0].map (Value.int .u8)))) := Lib.hid (below_cells (by have := HG.out; have := HWW.out; omega) _ _ B5.out)
      have HFL : Hid (fdL fl n h = setL fl (d * 16) [ck, 0, 0, 0, 0, 0, 0, 0, 0, 0, 0, 0, 0, 0, 0, 0]) := Lib.hid (by rw [HL.out.2, newS, HCK.out])
      clear B5 N5 O5 O4 R5 n1
      simp only [List.map_cons, List.map_nil] at O6 N6 R6 B6 ⊢
      generalize (w5.setCells g (d * 16) _) = w6 at *
      have FLE := HFL.out
      have n0 := N6.out.c0
      have n1 := N6.out.c1
      have z0 := R6.out.c0
      have z1 := R6.out.c1
      have z2 := R6.out.f0
      have z3 := R6.out.f1
      have R9 := Lib.hid (tb_set (lv := lv) (A := some ⟨g, 0, none⟩) (n := n) (c := c3) R6.out)
      have r0 := R9.out.c0
      have r1 := R9.out.c1
      go_wp2_with fail
      refine bodyPost_ret (by simp [results, Try.results11, go_sem, r0, r1]; try rfl) rfl ?_
      exact ⟨some ⟨g, 0, none⟩, c3, by rw [HF.out.1, HF.out.2.1, HF.out.2.2, HL.out.1], by rw [HF.out.1]; exact own_other (own_other (by rw [show (TV.mk lv n (fdL fl n h)).fl = fdL fl n h from rfl, FLE]; exact O6.out.mono (by have := HWW.out; omega)) ⟨gr, 0, none⟩ (by have := HG.out; simp; omega) _) ⟨gr, 1, none⟩ (by have := HG.out; simp; omega) _, below_set2 B6.out HGR.out _ _⟩
    have HL := Lib.hid (HC34.out k3)
    (have RD := grows_roads (S := fun x' => Below w4.heap.size w4 x') (fun a b h1 h2 => below_bs h2 h1)); refine region_ord _ Grows RD (Below.drew (Below.refl w4.heap.size w4)) (by kernel_rfl) ?_; intro ops Q' hops hPQ hN; (have HNS : Hid (Region.noSelect ops = true) := Lib.hid (by rw [hops]; kernel_rfl)); (have hsz : ops.size = 13 := (by rw [hops]; rfl)); have HOP := Lib.hid hops; have HPQ := Lib.hid hPQ; have HN := Lib.hid hN; rw [hsz]; clear hops hsz hPQ hN
    refine ord_take RD 0 (at_list (by rw [HOP.out]; rfl)) HNS.out HPQ.out (by rw [HOP.out]; kernel_rfl) (by rw [HOP.out]; kernel_rfl) (by rw [HOP.out]; rfl) (fun K hK => ?_); apply Exists.intro; refine ⟨fun W hSW => ?_, hK _ ?_⟩; (focus ((try dsimp only at hSW); go_simp; try with_reducible rfl)); clear hK K; (try simp only [Act.put, List.setIfInBounds_toArray, List.set_cons_zero, List.set_cons_succ])
    refine ord_take RD 1 (at_list (by rw [HOP.out]; rfl)) HNS.out HPQ.out (by rw [HOP.out]; kernel_rfl) (by rw [HOP.out]; kernel_rfl) (by rw [HOP.out]; rfl) (fun K hK => ?_); apply Exists.intro; refine ⟨fun W hSW => ?_, hK _ ?_⟩; (focus ((try dsimp only at hSW); (have z := (T4.out.past hSW).c1); go_simp; try with_reducible rfl)); clear hK K; (try simp only [Act.put, List.setIfInBounds_toArray, List.set_cons_zero, List.set_cons_succ])
    refine ord_take RD 2 (at_list (by rw [HOP.out]; rfl)) HNS.out HPQ.out (by rw [HOP.out]; kernel_rfl) (by rw [HOP.out]; kernel_rfl) (by rw [HOP.out]; rfl) (fun K hK => ?_); apply Exists.intro; refine ⟨fun W hSW => ?_, hK _ ?_⟩; (focus ((try dsimp only at hSW); go_simp; try with_reducible rfl)); clear hK K; (try simp only [Act.put, List.setIfInBounds_toArray, List.set_cons_zero, List.set_cons_succ])
    refine ord_take RD 3 (at_list (by rw [HOP.out]; rfl)) HNS.out HPQ.out (by rw [HOP.out]; kernel_rfl) (by rw [HOP.out]; kernel_rfl) (by rw [HOP.out]; rfl) (fun K hK => ?_); apply Exists.intro; refine ⟨fun W hSW => ?_, hK _ ?_⟩; (focus ((try dsimp only at hSW); go_simp; try with_reducible rfl)); clear hK K; (try simp only [Act.put, List.setIfInBounds_toArray, List.set_cons_zero, List.set_cons_succ])
    refine ord_take RD 4 (at_list (by rw [HOP.out]; rfl)) HNS.out HPQ.out (by rw [HOP.out]; kernel_rfl) (by rw [HOP.out]; kernel_rfl) (by rw [HOP.out]; rfl) (fun K hK => ?_); apply Exists.intro; refine ⟨fun W hSW => ?_, hK _ ?_⟩; (focus ((try dsimp only at hSW); exact quiet_slot _ rfl (HRD.out W hSW) (HLS.out.1) rfl)); clear hK K; (try simp only [Act.put, List.setIfInBounds_toArray, List.set_cons_zero, List.set_cons_succ])
    refine ord_take RD 5 (at_list (by rw [HOP.out]; rfl)) HNS.out HPQ.out (by rw [HOP.out]; kernel_rfl) (by rw [HOP.out]; kernel_rfl) (by rw [HOP.out]; rfl) (fun K hK => ?_); apply Exists.intro; refine ⟨fun W hSW => ?_, hK _ ?_⟩; (focus ((try dsimp only at hSW); go_simp; exact (prioW ld sd W HLS.out.1 HLS.out.2.2.1 HSS.out.1.1 HSS.out.1.2))); clear hK K; (try simp only [Act.put, List.setIfInBounds_toArray, List.set_cons_zero, List.set_cons_succ])
    refine ord_take RD 6 (at_list (by rw [HOP.out]; rfl)) HNS.out HPQ.out (by rw [HOP.out]; kernel_rfl) (by rw [HOP.out]; kernel_rfl) (by rw [HOP.out]; rfl) (fun K hK => ?_); apply Exists.intro; refine ⟨fun W hSW => ?_, hK _ ?_⟩; (focus ((try dsimp only at hSW); go_simp; try with_reducible rfl)); clear hK K; (try simp only [Act.put, List.setIfInBounds_toArray, List.set_cons_zero, List.set_cons_succ])
    refine ord_take RD 7 (at_list (by rw [HOP.out]; rfl)) HNS.out HPQ.out (by rw [HOP.out]; kernel_rfl) (by rw [HOP.out]; kernel_rfl) (by rw [HOP.out]; rfl) (fun K hK => ?_); apply Exists.intro; refine ⟨fun W hSW => ?_, hK _ ?_⟩; (focus ((try dsimp only at hSW); (have z := (T4.out.past hSW).c1); go_simp; try with_reducible rfl)); clear hK K; (try simp only [Act.put, List.setIfInBounds_toArray, List.set_cons_zero, List.set_cons_succ])
    refine ord_take RD 8 (at_list (by rw [HOP.out]; rfl)) HNS.out HPQ.out (by rw [HOP.out]; kernel_rfl) (by rw [HOP.out]; kernel_rfl) (by rw [HOP.out]; rfl) (fun K hK => ?_); apply Exists.intro; refine ⟨fun W hSW => ?_, hK _ ?_⟩; (focus ((try dsimp only at hSW); go_simp; try with_reducible rfl)); clear hK K; (try simp only [Act.put, List.setIfInBounds_toArray, List.set_cons_zero, List.set_cons_succ])
    refine ord_take RD 9 (at_list (by rw [HOP.out]; rfl)) HNS.out HPQ.out (by rw [HOP.out]; kernel_rfl) (by rw [HOP.out]; kernel_rfl) (by rw [HOP.out]; rfl) (fun K hK => ?_); apply Exists.intro; refine ⟨fun W hSW => ?_, hK _ ?_⟩; (focus ((try dsimp only at hSW); go_simp; try with_reducible rfl)); clear hK K; (try simp only [Act.put, List.setIfInBounds_toArray, List.set_cons_zero, List.set_cons_succ])
    refine ord_take RD 10 (at_list (by rw [HOP.out]; rfl)) HNS.out HPQ.out (by rw [HOP.out]; kernel_rfl) (by rw [HOP.out]; kernel_rfl) (by rw [HOP.out]; rfl) (fun K hK => ?_); apply Exists.intro; refine ⟨fun W hSW => ?_, hK _ ?_⟩; (focus ((try dsimp only at hSW); exact quiet_slot _ rfl (HRQ.out W hSW) (HLS.out.2.1) rfl)); clear hK K; (try simp only [Act.put, List.setIfInBounds_toArray, List.set_cons_zero, List.set_cons_succ])
    refine ord_take RD 11 (at_list (by rw [HOP.out]; rfl)) HNS.out HPQ.out (by rw [HOP.out]; kernel_rfl) (by rw [HOP.out]; kernel_rfl) (by rw [HOP.out]; rfl) (fun K hK => ?_); apply Exists.intro; refine ⟨fun W hSW => ?_, hK _ ?_⟩; (focus ((try dsimp only at hSW); go_simp; exact (prioW lq sq W HLS.out.2.1 HLS.out.2.2.2 HSS.out.2.1 HSS.out.2.2))); clear hK K; (try simp only [Act.put, List.setIfInBounds_toArray, List.set_cons_zero, List.set_cons_succ])
    refine ord_take RD 12 (at_list (by rw [HOP.out]; rfl)) HNS.out HPQ.out (by rw [HOP.out]; kernel_rfl) (by rw [HOP.out]; kernel_rfl) (by rw [HOP.out]; rfl) (fun K hK => ?_); apply Exists.intro; refine ⟨fun W hSW => ?_, hK _ ?_⟩; (focus ((try dsimp only at hSW); go_simp; try with_reducible rfl)); clear hK K; (try simp only [Act.put, List.setIfInBounds_toArray, List.set_cons_zero, List.set_cons_succ])
    refine ord_done (by rw [HOP.out]; kernel_rfl) (fun w5 hWW hSW => HN.out _ _ ?_); clear HOP HNS HPQ HN RD; (try dsimp only at hSW)
    have B5 := Lib.hid (below_bs B4.out hSW)
    have N5 := Lib.hid (N4.out.past hSW)
    have O5 := Lib.hid (O4.out.past hSW)
    have R5 := Lib.hid (R4.out.past hSW)
    clear hSW hWW B4 N4 O4 R4 T4 HI4 HRD HRQ
    have O4 := O5
    have HLEN : Hid (q * 16 + 16 ≤ fl.length) := Lib.hid (by rw [O5.out.len]; have := HPL.out; omega)
    have n1 := N5.out.c1
    go_upto_region 16 with (first | (show wpList _ _ _ ({ dst := none, op := Op.store 31 _ _, type := _, pos := _, after := _, guard := none } :: _) _ _; go_must (refine wp_slot (l := [ck, 0, 0, 0, 0, 0, 0, 0, 0, 0, 0, 0, 0, 0, 0, 0]) rfl _ _ rfl O4.out rfl HLEN.out rfl (by unfold va; rfl) ?_)))
    have O6 : Hid (OwnS (w5.setCells g (q * 16) ([ck, 0, 0, 0, 0, 0, 0, 0, 0, 0, 0, 0, 0, 0, 0, 0].map (Value.int .u8))) w1.heap.size (.slice (some ⟨g, 0, none⟩) n c3) n (setL fl (q * 16) [ck, 0, 0, 0, 0, 0, 0, 0, 0, 0, 0, 0, 0, 0, 0, 0])) := Lib.hid (OwnS.many 0 [ck, 0, 0, 0, 0, 0, 0, 0, 0, 0, 0, 0, 0, 0, 0, 0] O5.out)
    have N6 : Hid (TbAt (w5.setCells g (q * 16) ([ck, 0, 0, 0, 0, 0, 0, 0, 0, 0, 0, 0, 0, 0, 0, 0].map (Value.int .u8))) gn lv (some ⟨g, 0, none⟩) n c3) := Lib.hid (lies_cells (by have := HG.out; omega) _ _ N5.out)
    have R6 : Hid (TbAt (w5.setCells g (q * 16) ([ck, 0, 0, 0, 0, 0, 0, 0, 0, 0, 0, 0, 0, 0, 0, 0].map (Value.int .u8))) gr 0 none 0 0) := Lib.hid (lies_cells (by have := HG.out; omega) _ _ R5.out)
    have B6 : Hid (Below w.heap.size w (w5.setCells g (q * 16) ([ck, 0, 0, 0, 0, 0, 0, 0, 0, 0, 0, 0, 0, 0, 0, 0].map (Value.int .u8)))) := Lib.hid (below_cells (by have := HG.out; have := HWW.out; omega) _ _ B5.out)
    have HFL : Hid (fdL fl n h = setL fl (q * 16) [ck, 0, 0, 0, 0, 0, 0, 0, 0, 0, 0, 0, 0, 0, 0, 0]) := Lib.hid (by rw [HL.out.2, newS, HCK.out])
    clear B5 N5 O5 O4 R5 n1
    simp only [List.map_cons, List.map_nil] at O6 N6 R6 B6 ⊢
    generalize (w5.setCells g (q * 16) _) = w6 at *
    have FLE := HFL.out
    have n0 := N6.out.c0
    have n1 := N6.out.c1
    have z0 := R6.out.c0
    have z1 := R6.out.c1
    have z2 := R6.out.f0
    have z3 := R6.out.f1
    have R9 := Lib.hid (tb_set (lv := lv) (A := some ⟨g, 0, none⟩) (n := n) (c := c3) R6.out)
    have r0 := R9.out.c0
    have r1 := R9.out.c1
    go_wp2_with fail
    refine bodyPost_ret (by simp [results, Try.results11, go_sem, r0, r1]; try rfl) rfl ?_
    exact ⟨some ⟨g, 0, none⟩, c3, by rw [HF.out.1, HF.out.2.1, HF.out.2.2, HL.out.1], by rw [HF.out.1]; exact own_other (own_other (by rw [show (TV.mk lv n (fdL fl n h)).fl = fdL fl n h from rfl, FLE]; exact O6.out.mono (by have := HWW.out; omega)) ⟨gr, 0, none⟩ (by have := HG.out; simp; omega) _) ⟨gr, 1, none⟩ (by have := HG.out; simp; omega) _, below_set2 B6.out HGR.out _ _⟩
  · have HF := Lib.hid (fd_bad (h := h) hok)
    rw [okE_bad hok]
    clear hok
    have z0 := R1.out.c0
    have z1 := R1.out.c1
    have z2 := R1.out.f0
    have z3 := R1.out.f1
    have R9 := Lib.hid (tb_set (lv := 0) (A := none) (n := 0) (c := 0) R1.out)
    have r0 := R9.out.c0
    have r1 := R9.out.c1
    go_wp2_with fail
    refine bodyPost_ret (by simp [results, Try.results11, go_sem, r0, r1]; try rfl) rfl ?_
    exact ⟨none, 0, by rw [HF.out.1, HF.out.2.1, HF.out.2.2]; rfl, by rw [HF.out.1]; exact own_zero _ _, below_set2 B1.out HGR.out _ _⟩
end Go.Proofs.Ytkklmclnjmafaaa.slW
