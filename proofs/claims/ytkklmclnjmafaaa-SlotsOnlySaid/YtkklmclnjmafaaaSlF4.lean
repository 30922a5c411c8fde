/- The reference's Found and Find, by walks. -/
import Derived.Test.YtkklmclnjmafaaaSlF3
namespace Go.Proofs.Ytkklmclnjmafaaa.slW
set_option maxRecDepth 100000
open Go.RowKit Go.Proofs.Ytkklmclnjmafaaa.base Go.Proofs.Ytkklmclnjmafaaa.slP
set_option linter.unusedVariables false
set_option linter.unusedSimpArgs false
set_option maxRecDepth 100000
theorem lk_lt {fl : List Int} {n : Nat} {h : Int} (h1 : plN n h < n) (h2 : bes (plN n h) < n) : lkN fl n h < n := by
  unfold lkN
  split
  · exact h1
  · split
    · exact h2
    · split
      · exact h2
      · exact h1
set_option maxHeartbeats 1600000 in
theorem rFound (lv : Int) (A : Option Addr) (n c : Nat) (fl : List Int) (h : Int) (w : World) (hi : InS w A n c fl) (hok : okB lv n fl = true) (x0 : 0 ≤ h) (x1 : h ≤ 4294967295) :
    Calls Try.prog 40 #[.agg #[.int .i64 lv, .slice A n c], .int .u32 h] w fun e w' => ∃ A' c', e = .returned (.tuple #[.agg #[.int .i64 lv, .slice A' n c'], .int .i64 (lkN fl n h)]) ∧ OwnS w' w.heap.size (.slice A' n c') n (fdL fl n h) ∧ Below w.heap.size w w' := by
  have n9 : (n : Int) ≤ 9223372036854775807 := by have := hi.c1; have := hi.c2; omega
  have HPL := Lib.hid (place_ok h hok)
  have HOK := Lib.hid hok
  have HI := Lib.hid hi
  have HX := Lib.hid (And.intro x0 x1)
  have HK : Hid (lkN fl n h < n ∧ n ≤ 2048 ∧ 0 < n) := Lib.hid ⟨lk_lt HPL.out.2.2.1 HPL.out.2.2.2.1, by have := HPL.out; omega, by have := HPL.out; omega⟩
  have G0 := tb_box w lv A n c
  have S0 : (w.alloc (.cells #[.int .i64 lv, .slice A n c] 24)).heap.size = w.heap.size + 1 := by simp
  have R0 := tb_new (w.alloc (.cells #[.int .i64 lv, .slice A n c] 24)) 0 none 0 0
  have G1 := tb_box (w.alloc (.cells #[.int .i64 lv, .slice A n c] 24)) 0 none 0 0
  rw [S0] at R0
  have T0 := (tb_new w lv A n c).past G1
  have t0 := T0.c0
  have t1 := T0.c1
  have HR0 := Lib.hid R0
  have B0 := Lib.hid (below_bs G0 G1)
  clear hi hok G0 G1 S0 R0 T0 x0 x1 HPL
  go_enter Try.func40, Try.ntmps40
  go_upto_region 1 with fail
  generalize ((w.alloc (.cells #[.int .i64 lv, .slice A n c] 24)).alloc (.cells #[.int .i64 0, .slice none 0 0] 24)) = w0 at *
  have HGR : Hid (w.heap.size ≤ w.heap.size + 1) := Lib.hid (Nat.le_succ _)
  generalize w.heap.size + 1 = gr at *
  have HWW : Hid (w.heap.size ≤ w0.heap.size) := Lib.hid B0.out.size
  go_wp2_with fail
  refine (Twin_any lv A n c fl w0 (HI.out.past B0.out) (by have := HK.out; omega)).mono ?_
  rintro e w3 ⟨A3, c3, rfl, o3, i3, b3⟩
  have O3 : Hid (OwnS w3 w0.heap.size (.slice A3 n c3) n fl) := Lib.hid (by
    rcases o3 with k | k
    · have := HK.out; omega
    · exact k)
  obtain ⟨g, e, hg1, hg2⟩ := O3.out.form HK.out.2.2
  subst e
  have B3 := Lib.hid (below_bs B0.out b3)
  have R3 := Lib.hid (HR0.out.past b3)
  have I3 := Lib.hid i3
  have HG : Hid (w0.heap.size ≤ g ∧ gr < w0.heap.size ∧ g < w3.heap.size ∧ w0.heap.size ≤ w3.heap.size) := Lib.hid ⟨hg1, Lies.lt HR0.out, hg2, b3.size⟩
  clear o3 i3 b3 t0 t1 HR0 HI B0 hg1 hg2
  have G4 := tb_box w3 lv (some ⟨g, 0, none⟩) n c3
  have N4 := Lib.hid (tb_new w3 lv (some ⟨g, 0, none⟩) n c3)
  have O4 := Lib.hid (O3.out.past G4)
  have I4 := Lib.hid (I3.out.past G4)
  have R4 := Lib.hid (R3.out.past G4)
  have B4 := Lib.hid (below_bs B3.out G4)
  clear G4 O3 R3 I3 B3
  go_upto_region 2 with fail
  generalize (w3.alloc (.cells #[.int .i64 lv, .slice (some ⟨g, 0, none⟩) n c3] 24)) = w4 at *
  generalize hgn : w3.heap.size = gn at *
  clear hgn
  have n0 := N4.out.c0
  have n1 := N4.out.c1
  go_wp2_with fail
  refine (rLook lv (some ⟨g, 0, none⟩) n c3 fl h w4 I4.out HOK.out HX.out.1 HX.out.2).mono ?_
  rintro e w5 ⟨rfl, b5⟩
  have B5 := Lib.hid (below_bs B4.out b5)
  have N5 := Lib.hid (N4.out.past b5)
  have O5 := Lib.hid (O4.out.past b5)
  have R5 := Lib.hid (R4.out.past b5)
  clear b5 n0 n1 B4 N4 O4 R4 I4
  obtain ⟨x, hx⟩ : ∃ x, lkN fl n h = x := ⟨_, rfl⟩
  have HXX := Lib.hid hx
  rw [hx] at HK ⊢
  clear hx
  have k1 : (x : Int) < n := by have := HK.out; omega
  by_cases hf : fndB fl n h = true
  · have HFL : Hid (fdL fl n h = fl) := Lib.hid (if_pos hf)
    rw [hf]
    clear hf
    have n0 := N5.out.c0
    have n1 := N5.out.c1
    have z0 := R5.out.c0
    have z1 := R5.out.c1
    have z2 := R5.out.f0
    have z3 := R5.out.f1
    have FLE := HFL.out
    have R9 := Lib.hid (tb_set (lv := lv) (A := some ⟨g, 0, none⟩) (n := n) (c := c3) R5.out)
    have r0 := R9.out.c0
    have r1 := R9.out.c1
    go_wp2_with fail
    refine bodyPost_ret (by simp [results, Try.results40, go_sem, r0, r1]; try rfl) rfl ?_
    exact ⟨some ⟨g, 0, none⟩, c3, by rw [HXX.out], by rw [FLE]; exact own_other (own_other (O5.out.mono (by have := HWW.out; omega)) ⟨gr, 0, none⟩ (by have := HG.out; simp; omega) _) ⟨gr, 1, none⟩ (by have := HG.out; simp; omega) _, below_set2 B5.out HGR.out _ _⟩
  · have hf' : fndB fl n h = false := by simpa using hf
    obtain ⟨ck, hck⟩ : ∃ ck, h / 16777216 = ck := ⟨_, rfl⟩
    have HCK : Hid (h / 16777216 = ck) := Lib.hid hck
    have HFL : Hid (fdL fl n h = setL fl (x * 16) [ck, 0, 0, 0, 0, 0, 0, 0, 0, 0, 0, 0, 0, 0, 0, 0]) := Lib.hid (by rw [fdL, if_neg hf, HXX.out, newS, ckN, hck])
    rw [hf']
    have HLEN : Hid (x * 16 + 16 ≤ fl.length) := Lib.hid (by rw [O5.out.len]; have := HK.out; omega)
    clear hf hf' hck
    go_upto_region 4 with fail
    (have RD := grows_roads (S := fun x' => Below w5.heap.size w5 x') (fun a b h1 h2 => below_bs h2 h1)); refine region_ordT 7 _ Grows RD (Below.drew (Below.refl w5.heap.size w5)) (by kernel_rfl) (by decide) ?_; intro ops Q' hops hPQ hN; (have HNS : Hid (Region.noSelect ops = true ∧ Region.sinkB .any ops 7 = true ∧ Region.chainB .any ops 7 = true ∧ 7 < ops.size) := Lib.hid (by rw [hops]; exact ⟨by kernel_rfl, by kernel_rfl, by kernel_rfl, by decide⟩)); (have hsz : ops.size = 8 := (by rw [hops]; rfl)); have HOP := Lib.hid hops; have HPQ := Lib.hid hPQ; have HN := Lib.hid hN; rw [hsz]; clear hops hsz hPQ hN
    refine ordT_take RD 0 (at_list (by rw [HOP.out]; rfl)) HNS.out HPQ.out (by rw [HOP.out]; kernel_rfl) (by rw [HOP.out]; kernel_rfl) (by rw [HOP.out]; rfl) (fun K hK => ?_); apply Exists.intro; refine ⟨fun W hSW => ?_, hK _ ?_⟩; (focus ((try dsimp only at hSW); go_simp; try with_reducible rfl)); clear hK K; (try simp only [Act.put, List.setIfInBounds_toArray, List.set_cons_zero, List.set_cons_succ])
    refine ordT_take RD 1 (at_list (by rw [HOP.out]; rfl)) HNS.out HPQ.out (by rw [HOP.out]; kernel_rfl) (by rw [HOP.out]; kernel_rfl) (by rw [HOP.out]; rfl) (fun K hK => ?_); apply Exists.intro; refine ⟨fun W hSW => ?_, hK _ ?_⟩; (focus ((try dsimp only at hSW); (have z := (N5.out.past hSW).c1); go_simp; try with_reducible rfl)); clear hK K; (try simp only [Act.put, List.setIfInBounds_toArray, List.set_cons_zero, List.set_cons_succ])
    refine ordT_take RD 2 (at_list (by rw [HOP.out]; rfl)) HNS.out HPQ.out (by rw [HOP.out]; kernel_rfl) (by rw [HOP.out]; kernel_rfl) (by rw [HOP.out]; rfl) (fun K hK => ?_); apply Exists.intro; refine ⟨fun W hSW => ?_, hK _ ?_⟩; (focus ((try dsimp only at hSW); go_simp; try with_reducible rfl)); clear hK K; (try simp only [Act.put, List.setIfInBounds_toArray, List.set_cons_zero, List.set_cons_succ])
    refine ordT_take RD 3 (at_list (by rw [HOP.out]; rfl)) HNS.out HPQ.out (by rw [HOP.out]; kernel_rfl) (by rw [HOP.out]; kernel_rfl) (by rw [HOP.out]; rfl) (fun K hK => ?_); apply Exists.intro; refine ⟨fun W hSW => ?_, hK _ ?_⟩; (focus ((try dsimp only at hSW); go_simp; try with_reducible rfl)); clear hK K; (try simp only [Act.put, List.setIfInBounds_toArray, List.set_cons_zero, List.set_cons_succ])
    refine ordT_take RD 4 (at_list (by rw [HOP.out]; rfl)) HNS.out HPQ.out (by rw [HOP.out]; kernel_rfl) (by rw [HOP.out]; kernel_rfl) (by rw [HOP.out]; rfl) (fun K hK => ?_); apply Exists.intro; refine ⟨fun W hSW => ?_, hK _ ?_⟩; (focus ((try dsimp only at hSW); go_simp; exact (rcheckB h W HX.out.1 HX.out.2))); clear hK K; (try simp only [Act.put, List.setIfInBounds_toArray, List.set_cons_zero, List.set_cons_succ])
    refine ordT_take RD 5 (at_list (by rw [HOP.out]; rfl)) HNS.out HPQ.out (by rw [HOP.out]; kernel_rfl) (by rw [HOP.out]; kernel_rfl) (by rw [HOP.out]; rfl) (fun K hK => ?_); apply Exists.intro; refine ⟨fun W hSW => ?_, hK _ ?_⟩; (focus ((try dsimp only at hSW); go_simp; try with_reducible rfl)); clear hK K; (try simp only [Act.put, List.setIfInBounds_toArray, List.set_cons_zero, List.set_cons_succ])
    refine ordT_take RD 6 (at_list (by rw [HOP.out]; rfl)) HNS.out HPQ.out (by rw [HOP.out]; kernel_rfl) (by rw [HOP.out]; kernel_rfl) (by rw [HOP.out]; rfl) (fun K hK => ?_); apply Exists.intro; refine ⟨fun W hSW => ?_, hK _ ?_⟩; (focus ((try dsimp only at hSW); go_simp; try with_reducible rfl)); clear hK K; (try simp only [Act.put, List.setIfInBounds_toArray, List.set_cons_zero, List.set_cons_succ])
    refine ordT_end (by rw [HOP.out]; kernel_rfl) (fun W3 hWW hSW => ?_); rw [HOP.out]; simp only [List.drop_succ_cons, List.drop_zero]; have hN := HN.out; clear HOP HNS HPQ HN RD; (try dsimp only at hSW)
    have HN : Hid (∀ (a : Act) (w : World), _ → Q' Exit.normal a w) := Lib.hid hN
    rw [HCK.out]
    have B6 := Lib.hid (below_bs B5.out hSW)
    have N6 := Lib.hid (N5.out.past hSW)
    have O6 := Lib.hid (O5.out.past hSW)
    have R6 := Lib.hid (R5.out.past hSW)
    clear hN hSW hWW B5 N5 O5 R5
    have O5 := O6
    go_wp2_with (first | (show wpList _ _ _ ({ dst := none, op := Op.store 31 _ _, type := _, pos := _, after := _, guard := none } :: _) _ _; go_must (refine wp_slot (l := [ck, 0, 0, 0, 0, 0, 0, 0, 0, 0, 0, 0, 0, 0, 0, 0]) rfl _ _ rfl O5.out rfl HLEN.out rfl (by unfold va; rfl) ?_)))
    have O7 : Hid (OwnS (W3.setCells g (x * 16) ([ck, 0, 0, 0, 0, 0, 0, 0, 0, 0, 0, 0, 0, 0, 0, 0].map (Value.int .u8))) w0.heap.size (.slice (some ⟨g, 0, none⟩) n c3) n (setL fl (x * 16) [ck, 0, 0, 0, 0, 0, 0, 0, 0, 0, 0, 0, 0, 0, 0, 0])) := Lib.hid (OwnS.many 0 [ck, 0, 0, 0, 0, 0, 0, 0, 0, 0, 0, 0, 0, 0, 0, 0] O6.out)
    have N7 : Hid (TbAt (W3.setCells g (x * 16) ([ck, 0, 0, 0, 0, 0, 0, 0, 0, 0, 0, 0, 0, 0, 0, 0].map (Value.int .u8))) gn lv (some ⟨g, 0, none⟩) n c3) := Lib.hid (lies_cells (by have := HG.out; omega) _ _ N6.out)
    have R7 : Hid (TbAt (W3.setCells g (x * 16) ([ck, 0, 0, 0, 0, 0, 0, 0, 0, 0, 0, 0, 0, 0, 0, 0].map (Value.int .u8))) gr 0 none 0 0) := Lib.hid (lies_cells (by have := HG.out; omega) _ _ R6.out)
    have B7 : Hid (Below w.heap.size w (W3.setCells g (x * 16) ([ck, 0, 0, 0, 0, 0, 0, 0, 0, 0, 0, 0, 0, 0, 0, 0].map (Value.int .u8)))) := Lib.hid (below_cells (by have := HG.out; have := HWW.out; omega) _ _ B6.out)
    clear B6 N6 O6 R6 O5
    simp only [List.map_cons, List.map_nil] at O7 N7 R7 B7 ⊢
    generalize (W3.setCells g (x * 16) _) = w7 at *
    refine HN.out _ _ ?_
    have FLE := HFL.out
    have n0 := N7.out.c0
    have n1 := N7.out.c1
    have z0 := R7.out.c0
    have z1 := R7.out.c1
    have z2 := R7.out.f0
    have z3 := R7.out.f1
    have R9 := Lib.hid (tb_set (lv := lv) (A := some ⟨g, 0, none⟩) (n := n) (c := c3) R7.out)
    have r0 := R9.out.c0
    have r1 := R9.out.c1
    go_wp2_with fail
    refine bodyPost_ret (by simp [results, Try.results40, go_sem, r0, r1]; try rfl) rfl ?_
    exact ⟨some ⟨g, 0, none⟩, c3, by rw [HXX.out], by rw [FLE]; exact own_other (own_other (O7.out.mono (by have := HWW.out; omega)) ⟨gr, 0, none⟩ (by have := HG.out; simp; omega) _) ⟨gr, 1, none⟩ (by have := HG.out; simp; omega) _, below_set2 B7.out HGR.out _ _⟩
set_option maxHeartbeats 1600000 in
theorem rFind (lv : Int) (A : Option Addr) (n c : Nat) (fl : List Int) (h : Int) (w : World) (l1 : -9223372036854775808 ≤ lv) (l2 : lv ≤ 9223372036854775807) (hi : InS w A n c fl) (x0 : 0 ≤ h) (x1 : h ≤ 4294967295) :
    Calls Try.prog 20 #[.agg #[.int .i64 lv, .slice A n c], .int .u32 h] w fun e w' => ∃ A' c', e = .returned (.tuple #[.agg #[.int .i64 (fdT lv n fl h).lv, .slice A' (fdT lv n fl h).n c'], .int .i64 (fdP lv n fl h), .int .i64 (okE lv n fl)]) ∧ OwnS w' w.heap.size (.slice A' (fdT lv n fl h).n c') (fdT lv n fl h).n (fdT lv n fl h).fl ∧ Below w.heap.size w w' := by
  have n9 : (n : Int) ≤ 9223372036854775807 := by have := hi.c1; have := hi.c2; omega
  have HI := Lib.hid hi
  have HX := Lib.hid (And.intro x0 x1)
  have G0 := tb_box w lv A n c
  have S0 : (w.alloc (.cells #[.int .i64 lv, .slice A n c] 24)).heap.size = w.heap.size + 1 := by simp
  have R0 := tb_new (w.alloc (.cells #[.int .i64 lv, .slice A n c] 24)) 0 none 0 0
  have G1 := tb_box (w.alloc (.cells #[.int .i64 lv, .slice A n c] 24)) 0 none 0 0
  rw [S0] at R0
  have T0 := (tb_new w lv A n c).past G1
  have t0 := T0.c0
  have t1 := T0.c1
  have HT0 := Lib.hid T0
  have HR0 := Lib.hid R0
  have B0 := Lib.hid (below_bs G0 G1)
  clear hi G0 G1 S0 R0 T0 x0 x1
  go_enter Try.func20, Try.ntmps20
  go_upto_region 1 with fail
  generalize ((w.alloc (.cells #[.int .i64 lv, .slice A n c] 24)).alloc (.cells #[.int .i64 0, .slice none 0 0] 24)) = w0 at *
  have HGR : Hid (w.heap.size ≤ w.heap.size + 1) := Lib.hid (Nat.le_succ _)
  generalize w.heap.size + 1 = gr at *
  go_wp2_with fail
  refine (rCheck lv A n c fl w0 l1 l2 (HI.out.past B0.out)).mono ?_
  rintro e w1 ⟨rfl, b1⟩
  have B1 := Lib.hid (below_bs B0.out b1)
  have T1 := Lib.hid (HT0.out.past b1)
  have R1 := Lib.hid (HR0.out.past b1)
  have HI1 := Lib.hid ((HI.out.past B0.out).past b1)
  have HWW : Hid (w.heap.size ≤ w1.heap.size) := Lib.hid B1.out.size
  clear t0 t1 HT0 HR0 B0 b1 HI
  by_cases hok : okB lv n fl = true
  · have HF := Lib.hid (fd_ok (h := h) hok)
    have HOK := Lib.hid hok
    have HPN : Hid (0 < n) := Lib.hid (by have := place_ok h hok; omega)
    rw [okE_ok hok]
    clear hok
    have t0 := T1.out.c0
    have t1 := T1.out.c1
    go_wp2_with fail
    refine (rFound lv A n c fl h w1 HI1.out HOK.out HX.out.1 HX.out.2).mono ?_
    rintro e w3 ⟨A3, c3, rfl, o3, b3⟩
    obtain ⟨g, e, hg1, hg2⟩ := o3.form HPN.out
    subst e
    have O3 := Lib.hid o3
    have B3 := Lib.hid (below_bs B1.out b3)
    have R3 := Lib.hid (R1.out.past b3)
    have HG : Hid (w1.heap.size ≤ g ∧ gr < w1.heap.size ∧ g < w3.heap.size ∧ w1.heap.size ≤ w3.heap.size) := Lib.hid ⟨hg1, Lies.lt R1.out, hg2, b3.size⟩
    clear o3 b3 t0 t1 R1 B1 T1 HI1 hg1 hg2
    have G4 := tb_box w3 lv (some ⟨g, 0, none⟩) n c3
    have N4 := Lib.hid (tb_new w3 lv (some ⟨g, 0, none⟩) n c3)
    have O4 := Lib.hid (O3.out.past G4)
    have R4 := Lib.hid (R3.out.past G4)
    have B4 := Lib.hid (below_bs B3.out G4)
    clear G4 O3 R3 B3
    go_upto_region 4 with fail
    generalize (w3.alloc (.cells #[.int .i64 lv, .slice (some ⟨g, 0, none⟩) n c3] 24)) = w4 at *
    generalize hgn : w3.heap.size = gn at *
    clear hgn
    have n0 := N4.out.c0
    have n1 := N4.out.c1
    have z0 := R4.out.c0
    have z1 := R4.out.c1
    have z2 := R4.out.f0
    have z3 := R4.out.f1
    have R9 := Lib.hid (tb_set (lv := lv) (A := some ⟨g, 0, none⟩) (n := n) (c := c3) R4.out)
    have r0 := R9.out.c0
    have r1 := R9.out.c1
    go_wp2_with fail
    refine bodyPost_ret (by simp [results, Try.results20, go_sem, r0, r1]; try rfl) rfl ?_
    exact ⟨some ⟨g, 0, none⟩, c3, by rw [HF.out.1, HF.out.2.1, HF.out.2.2], by rw [HF.out.1]; exact own_other (own_other (O4.out.mono (by have := HWW.out; omega)) ⟨gr, 0, none⟩ (by have := HG.out; simp; omega) _) ⟨gr, 1, none⟩ (by have := HG.out; simp; omega) _, below_set2 B4.out HGR.out _ _⟩
  · have HF := Lib.hid (fd_bad (h := h) hok)
    rw [okE_bad hok]
    clear hok
    have z0 := R1.out.c0
    have z1 := R1.out.c1
    have z2 := R1.out.f0
    have z3 := R1.out.f1
    have R9 := Lib.hid (tb_set (lv := 0) (A := none) (n := 0) (c := 0) R1.out)
    have r0 := R9.out.c0
    have r1 := R9.out.c1
    go_wp2_with fail
    refine bodyPost_ret (by simp [results, Try.results20, go_sem, r0, r1]; try rfl) rfl ?_
    exact ⟨none, 0, by rw [HF.out.1, HF.out.2.1, HF.out.2.2]; rfl, by rw [HF.out.1]; exact own_zero _ _, below_set2 B1.out HGR.out _ _⟩
end Go.Proofs.Ytkklmclnjmafaaa.slW
