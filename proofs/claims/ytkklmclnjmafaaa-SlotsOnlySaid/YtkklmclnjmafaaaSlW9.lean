/- The reference's Bit, by a walk. -/
import Derived.Test.YtkklmclnjmafaaaSlW8
namespace Go.Proofs.Ytkklmclnjmafaaa.slW
set_option maxRecDepth 100000
open Go.RowKit Go.Proofs.Ytkklmclnjmafaaa.base Go.Proofs.Ytkklmclnjmafaaa.slP
set_option linter.unusedVariables false
set_option linter.unusedSimpArgs false
theorem cell_keep {w W : World} {p : Addr} {v : Value} (hb : Below w.heap.size w W) (h : w.cell? p = some v) (hl : p.block < w.heap.size) : W.cell? p = some v := by rw [hb.cell hl]; exact h
set_option maxRecDepth 100000 in
set_option maxHeartbeats 1600000 in
theorem rBit (lv : Int) (A : Option Addr) (n c : Nat) (fl : List Int) (p k x : Int) (w : World) (l1 : -9223372036854775808 ≤ lv) (l2 : lv ≤ 9223372036854775807) (hi : InS w A n c fl) (x0 : 0 ≤ x) (x1 : x ≤ 255) :
    Calls Try.prog 24 #[.agg #[.int .i64 lv, .slice A n c], .int .i64 p, .int .i64 k, .int .u8 x] w fun e w' => ∃ A' c', e = .returned (.tuple #[.agg #[.int .i64 (bitT lv n fl p k x).lv, .slice A' (bitT lv n fl p k x).n c'], .int .i64 (bitE lv n fl p k x)]) ∧ OwnS w' w.heap.size (.slice A' (bitT lv n fl p k x).n c') (bitT lv n fl p k x).n (bitT lv n fl p k x).fl ∧ Below w.heap.size w w' := by
  have n9 : (n : Int) ≤ 9223372036854775807 := by have := hi.c1; have := hi.c2; omega
  have HI := Lib.hid hi
  have G0 := tb_box w lv A n c
  have S0 : (w.alloc (.cells #[.int .i64 lv, .slice A n c] 24)).heap.size = w.heap.size + 1 := by simp
  have R0 := tb_new (w.alloc (.cells #[.int .i64 lv, .slice A n c] 24)) 0 none 0 0
  have G1 := tb_box (w.alloc (.cells #[.int .i64 lv, .slice A n c] 24)) 0 none 0 0
  rw [S0] at R0
  have T0 := (tb_new w lv A n c).past G1
  have t0 := T0.c0
  have t1 := T0.c1
  have HT0 := Lib.hid T0
  have HR0 := Lib.hid R0
  have B0 := Lib.hid (below_bs G0 G1)
  clear hi G0 G1 S0 R0 T0
  go_enter Try.func24, Try.ntmps24
  go_upto_region 1 with fail
  generalize ((w.alloc (.cells #[.int .i64 lv, .slice A n c] 24)).alloc (.cells #[.int .i64 0, .slice none 0 0] 24)) = w0 at *
  have HGR : Hid (w.heap.size ≤ w.heap.size + 1) := Lib.hid (Nat.le_succ _)
  have HNE : Hid (w.heap.size ≠ w.heap.size + 1) := Lib.hid (by omega)
  generalize w.heap.size + 1 = gr at *
  go_wp2_with fail
  refine (rAt lv A n c fl p k w0 l1 l2 (HI.out.past B0.out)).mono ?_
  rintro e w1 ⟨rfl, b1⟩
  have B1 := Lib.hid (below_bs B0.out b1)
  have T1 := Lib.hid (HT0.out.past b1)
  have R1 := Lib.hid (HR0.out.past b1)
  have HI1 := Lib.hid ((HI.out.past B0.out).past b1)
  have HWW : Hid (w.heap.size ≤ w1.heap.size) := Lib.hid B1.out.size
  clear t0 t1 HT0 HR0 B0 b1 HI
  by_cases hz : atE lv n fl p k = 0
  · rw [hz]
    have hp := (at_zero hz).2
    unfold posB at hp
    obtain ⟨pn, rfl⟩ := Int.eq_ofNat_of_zero_le hp.1
    obtain ⟨kn, hk⟩ : ∃ kn : Nat, k = (kn : Int) + 1 := ⟨(k - 1).toNat, by omega⟩
    subst hk
    have p1 : (pn : Int) < n := by omega
    have k1 : (kn : Int) < 15 := by omega
    have j1 : IntKind.i64.wrap ((kn : Int) + 1 - 1) = (kn : Int) := by
      rw [show (kn : Int) + 1 - 1 = (kn : Int) by omega]; exact IntWalk.i64_in _ (by omega)
    have j2 : IntKind.i64.wrap (kn : Int) = (kn : Int) := IntWalk.i64_in _ (by omega)
    have HP1 : Hid (pn < n ∧ kn < 15) := Lib.hid (by omega)
    have HPN : Hid (0 < n) := Lib.hid (by omega)
    have HNM : Hid (n ≤ 1000000) := Lib.hid (by
      have h := ((ok_iff lv n fl).1 (at_zero hz).1)
      have := sz_le h.1.2; omega)
    have HS193 : Hid (stA fl pn kn < 193) := Lib.hid (((ok_iff lv n fl).1 (at_zero hz).1).2.2 pn HP1.out.1 kn HP1.out.2)
    have HSB : Hid (0 ≤ stA fl pn kn ∧ stA fl pn kn ≤ 255) := Lib.hid (HI1.out.bd _)
    have HZ := Lib.hid hz
    obtain ⟨b, off, hA, hb, hc⟩ := HI1.out.at_ HPN.out
    have hcl := hc (16 * pn + 1 + kn) (by have := HP1.out; omega)
    rw [show off + (16 * pn + 1 + kn) = off + pn * 16 + 1 + kn by omega, show fl.getD (16 * pn + 1 + kn) 0 = stA fl pn kn from rfl] at hcl
    subst hA
    obtain ⟨s, hs⟩ : ∃ s, stA fl pn kn = s := ⟨_, rfl⟩
    rw [hs] at hcl HS193 HSB
    have HSE := Lib.hid hs
    have HCL : Hid (∀ W, Below w1.heap.size w1 W → W.cell? ⟨b, off + pn * 16 + 1 + kn, none⟩ = some (.int .u8 s)) := Lib.hid (fun W h => cell_keep h hcl hb)
    clear hz hp hc hs hb hcl
    by_cases hx : x ≤ 1
    · have HS := Lib.hid (bit_ok (x := x) HZ.out hx)
      have HX01 : Hid (x = 0 ∨ x = 1) := Lib.hid (by omega)
      have nx : ¬ (1 : Int) < x := by omega
      clear hx
      go_upto_region 6 with fail
      (have RD := grows_roads (S := fun x' => Below w1.heap.size w1 x') (fun a b h1 h2 => below_bs h2 h1)); refine region_ordT 15 _ Grows RD (Below.drew (Below.refl w1.heap.size w1)) (by kernel_rfl) (by decide) ?_; intro ops Q' hops hPQ hN; (have HNS : Hid (Region.noSelect ops = true ∧ Region.sinkB .any ops 15 = true ∧ Region.chainB .any ops 15 = true ∧ 15 < ops.size) := Lib.hid (by rw [hops]; exact ⟨by kernel_rfl, by kernel_rfl, by kernel_rfl, by decide⟩)); (have hsz : ops.size = 17 := (by rw [hops]; rfl)); have HOP := Lib.hid hops; have HPQ := Lib.hid hPQ; have HN := Lib.hid hN; rw [hsz]; clear hops hsz hPQ hN
      refine ordT_take RD 0 (at_list (by rw [HOP.out]; rfl)) HNS.out HPQ.out (by rw [HOP.out]; kernel_rfl) (by rw [HOP.out]; kernel_rfl) (by rw [HOP.out]; rfl) (fun K hK => ?_); apply Exists.intro; refine ⟨fun W hSW => ?_, hK _ ?_⟩; (focus ((try dsimp only at hSW); (have t0 := (T1.out.past hSW).c0; have t1 := (T1.out.past hSW).c1); go_simp; try with_reducible rfl)); clear hK K; (try simp only [Act.put, List.setIfInBounds_toArray, List.set_cons_zero, List.set_cons_succ])
      refine ordT_take RD 1 (at_list (by rw [HOP.out]; rfl)) HNS.out HPQ.out (by rw [HOP.out]; kernel_rfl) (by rw [HOP.out]; kernel_rfl) (by rw [HOP.out]; rfl) (fun K hK => ?_); apply Exists.intro; refine ⟨fun W hSW => ?_, hK _ ?_⟩; (focus ((try dsimp only at hSW); go_simp; try with_reducible rfl)); clear hK K; (try simp only [Act.put, List.setIfInBounds_toArray, List.set_cons_zero, List.set_cons_succ])
      refine ordT_take RD 2 (at_list (by rw [HOP.out]; rfl)) HNS.out HPQ.out (by rw [HOP.out]; kernel_rfl) (by rw [HOP.out]; kernel_rfl) (by rw [HOP.out]; rfl) (fun K hK => ?_); apply Exists.intro; refine ⟨fun W hSW => ?_, hK _ ?_⟩; (focus ((try dsimp only at hSW); go_simp; try with_reducible rfl)); clear hK K; (try simp only [Act.put, List.setIfInBounds_toArray, List.set_cons_zero, List.set_cons_succ])
      refine ordT_take RD 3 (at_list (by rw [HOP.out]; rfl)) HNS.out HPQ.out (by rw [HOP.out]; kernel_rfl) (by rw [HOP.out]; kernel_rfl) (by rw [HOP.out]; rfl) (fun K hK => ?_); apply Exists.intro; refine ⟨fun W hSW => ?_, hK _ ?_⟩; (focus ((try dsimp only at hSW); go_simp; try with_reducible rfl)); clear hK K; (try simp only [Act.put, List.setIfInBounds_toArray, List.set_cons_zero, List.set_cons_succ])
      refine ordT_take RD 4 (at_list (by rw [HOP.out]; rfl)) HNS.out HPQ.out (by rw [HOP.out]; kernel_rfl) (by rw [HOP.out]; kernel_rfl) (by rw [HOP.out]; rfl) (fun K hK => ?_); apply Exists.intro; refine ⟨fun W hSW => ?_, hK _ ?_⟩; (focus ((try dsimp only at hSW); (have t1 := (T1.out.past hSW).c1); go_simp; try with_reducible rfl)); clear hK K; (try simp only [Act.put, List.setIfInBounds_toArray, List.set_cons_zero, List.set_cons_succ])
      refine ordT_take RD 5 (at_list (by rw [HOP.out]; rfl)) HNS.out HPQ.out (by rw [HOP.out]; kernel_rfl) (by rw [HOP.out]; kernel_rfl) (by rw [HOP.out]; rfl) (fun K hK => ?_); apply Exists.intro; refine ⟨fun W hSW => ?_, hK _ ?_⟩; (focus ((try dsimp only at hSW); go_simp; try with_reducible rfl)); clear hK K; (try simp only [Act.put, List.setIfInBounds_toArray, List.set_cons_zero, List.set_cons_succ])
      refine ordT_take RD 6 (at_list (by rw [HOP.out]; rfl)) HNS.out HPQ.out (by rw [HOP.out]; kernel_rfl) (by rw [HOP.out]; kernel_rfl) (by rw [HOP.out]; rfl) (fun K hK => ?_); apply Exists.intro; refine ⟨fun W hSW => ?_, hK _ ?_⟩; (focus ((try dsimp only at hSW); go_simp; try with_reducible rfl)); clear hK K; (try simp only [Act.put, List.setIfInBounds_toArray, List.set_cons_zero, List.set_cons_succ])
      refine ordT_take RD 7 (at_list (by rw [HOP.out]; rfl)) HNS.out HPQ.out (by rw [HOP.out]; kernel_rfl) (by rw [HOP.out]; kernel_rfl) (by rw [HOP.out]; rfl) (fun K hK => ?_); apply Exists.intro; refine ⟨fun W hSW => ?_, hK _ ?_⟩; (focus ((try dsimp only at hSW); go_simp; try with_reducible rfl)); clear hK K; (try simp only [Act.put, List.setIfInBounds_toArray, List.set_cons_zero, List.set_cons_succ])
      refine ordT_take RD 8 (at_list (by rw [HOP.out]; rfl)) HNS.out HPQ.out (by rw [HOP.out]; kernel_rfl) (by rw [HOP.out]; kernel_rfl) (by rw [HOP.out]; rfl) (fun K hK => ?_); apply Exists.intro; refine ⟨fun W hSW => ?_, hK _ ?_⟩; (focus ((try dsimp only at hSW); go_simp; try with_reducible rfl)); clear hK K; (try simp only [Act.put, List.setIfInBounds_toArray, List.set_cons_zero, List.set_cons_succ])
      refine ordT_take RD 9 (at_list (by rw [HOP.out]; rfl)) HNS.out HPQ.out (by rw [HOP.out]; kernel_rfl) (by rw [HOP.out]; kernel_rfl) (by rw [HOP.out]; rfl) (fun K hK => ?_); apply Exists.intro; refine ⟨fun W hSW => ?_, hK _ ?_⟩; (focus ((try dsimp only at hSW); go_simp; try with_reducible rfl)); clear hK K; (try simp only [Act.put, List.setIfInBounds_toArray, List.set_cons_zero, List.set_cons_succ])
      refine ordT_take RD 10 (at_list (by rw [HOP.out]; rfl)) HNS.out HPQ.out (by rw [HOP.out]; kernel_rfl) (by rw [HOP.out]; kernel_rfl) (by rw [HOP.out]; rfl) (fun K hK => ?_); apply Exists.intro; refine ⟨fun W hSW => ?_, hK _ ?_⟩; (focus ((try dsimp only at hSW); go_simp; try with_reducible rfl)); clear hK K; (try simp only [Act.put, List.setIfInBounds_toArray, List.set_cons_zero, List.set_cons_succ])
      refine ordT_take RD 11 (at_list (by rw [HOP.out]; rfl)) HNS.out HPQ.out (by rw [HOP.out]; kernel_rfl) (by rw [HOP.out]; kernel_rfl) (by rw [HOP.out]; rfl) (fun K hK => ?_); apply Exists.intro; refine ⟨fun W hSW => ?_, hK _ ?_⟩; (focus ((try dsimp only at hSW); (have t1 := HCL.out W hSW); go_simp; try with_reducible rfl)); clear hK K; (try simp only [Act.put, List.setIfInBounds_toArray, List.set_cons_zero, List.set_cons_succ])
      refine ordT_take RD 12 (at_list (by rw [HOP.out]; rfl)) HNS.out HPQ.out (by rw [HOP.out]; kernel_rfl) (by rw [HOP.out]; kernel_rfl) (by rw [HOP.out]; rfl) (fun K hK => ?_); apply Exists.intro; refine ⟨fun W hSW => ?_, hK _ ?_⟩; (focus ((try dsimp only at hSW); go_simp; try with_reducible rfl)); clear hK K; (try simp only [Act.put, List.setIfInBounds_toArray, List.set_cons_zero, List.set_cons_succ])
      refine ordT_one RD 13 (by rw [HOP.out]; kernel_rfl) (at_list (by rw [HOP.out]; rfl)) (by rw [HOP.out]; rfl) (fun W1 hWW hSW K hK => ?_); (try dsimp only at hSW)
      go_simp
      refine (stW.rThen_any s x W1 HSB.out.1 (by have := HS193.out; omega) HX01.out).mono ?_
      rintro v w2 ⟨rfl, b2⟩
      refine hK _ _ (RD.keep b2 hSW) ?_
      clear hSW hWW b2
      obtain ⟨v, hv⟩ : ∃ v, stP.sNext s x = v := ⟨_, rfl⟩
      rw [hv]
      have HVE := Lib.hid hv
      clear hv
      clear hK K; (try simp only [Act.put, List.setIfInBounds_toArray, List.set_cons_zero, List.set_cons_succ])
      refine ordT_one RD 14 (by rw [HOP.out]; kernel_rfl) (at_list (by rw [HOP.out]; rfl)) (by rw [HOP.out]; rfl) (fun W2 hWW hSW K hK => ?_); (try dsimp only at hSW)
      go_simp
      refine (rWith lv (some ⟨b, off, none⟩) n c fl pn kn v W2 (HI1.out.past hSW) HNM.out HP1.out.1 HP1.out.2).mono ?_
      rintro e w3 ⟨A3, c3, rfl, o3, b3⟩
      refine hK _ _ (RD.keep b3 hSW) ?_
      have O3 := Lib.hid (o3.mono hSW.size)
      clear o3 b3 hSW hWW
      clear hK K; (try simp only [Act.put, List.setIfInBounds_toArray, List.set_cons_zero, List.set_cons_succ])
      refine ordT_end (by rw [HOP.out]; kernel_rfl) (fun W3 hWW hSW => ?_); rw [HOP.out]; simp only [List.drop_succ_cons, List.drop_zero]; have hN := HN.out; clear HOP HNS HPQ HN RD; (try dsimp only at hSW)
      have HN : Hid (∀ (a : Act) (w : World), _ → Q' Exit.normal a w) := Lib.hid hN
      have B3 := Lib.hid (below_bs B1.out hSW)
      have O4 := Lib.hid (O3.out.past hWW)
      have R3 := Lib.hid (R1.out.past hSW)
      have HGF : Hid (∃ g, A3 = some ⟨g, 0, none⟩ ∧ w1.heap.size ≤ g) := Lib.hid (by
        obtain ⟨g, e, h1, h2⟩ := O3.out.form HPN.out; exact ⟨g, e, h1⟩)
      obtain ⟨g, rfl, hg⟩ := HGF.out
      have hne2 : g ≠ gr := by have := Lies.lt R1.out; omega
      have HN2 := Lib.hid hne2
      clear hN hSW hWW O3 HGF hg hne2 R1 B1 T1
      have z0 := R3.out.c0
      have z1 := R3.out.c1
      have z2 := R3.out.f0
      have z3 := R3.out.f1
      have R9 := Lib.hid (tb_set (lv := lv) (A := some ⟨g, 0, none⟩) (n := n) (c := c3) R3.out)
      have r0 := R9.out.c0
      have r1 := R9.out.c1
      go_wp2_with fail
      refine HN.out _ _ ?_
      go_wp2_with fail
      refine bodyPost_ret (by simp [results, Try.results24, go_sem, r0, r1]; try rfl) rfl ?_
      have HW : Hid (wiT lv n fl (pn : Int) ((kn : Int) + 1) (stP.sNext (stA fl (pn : Int).toNat (((kn : Int) + 1).toNat - 1)) x) = ⟨lv, n, fl.set (pn * 16 + 1 + kn) v⟩) := Lib.hid (by unfold wiT; rw [show 16 * (pn : Int).toNat + 1 + (((kn : Int) + 1).toNat - 1) = pn * 16 + 1 + kn by omega, show (pn : Int).toNat = pn by omega, show ((kn : Int) + 1).toNat - 1 = kn by omega, HSE.out, HVE.out])
      exact ⟨some ⟨g, 0, none⟩, c3, by rw [HS.out.1, HS.out.2, HW.out], by rw [HS.out.2, HW.out]; exact (own_other (own_other (O4.out.mono (by have := HWW.out; omega)) ⟨gr, 0, none⟩ (fun e => HN2.out e.symm) _) ⟨gr, 1, none⟩ (fun e => HN2.out e.symm) _), below_set2 B3.out HGR.out _ _⟩
    · have HS := Lib.hid (bit_arg (x := x) HZ.out hx)
      have nx : (1 : Int) < x := by omega
      clear hx
      have z0 := R1.out.c0
      have z1 := R1.out.c1
      have z2 := R1.out.f0
      have z3 := R1.out.f1
      have R9 := Lib.hid (tb_set (lv := 0) (A := none) (n := 0) (c := 0) R1.out)
      have r0 := R9.out.c0
      have r1 := R9.out.c1
      go_wp2_with fail
      refine bodyPost_ret (by simp [results, Try.results24, go_sem, r0, r1]; try rfl) rfl ?_
      exact ⟨none, 0, by rw [HS.out.1, HS.out.2]; rfl, by rw [HS.out.2]; exact own_zero _ _, below_set2 B1.out HGR.out _ _⟩
  · have HS0 := bit_bad (x := x) hz
    obtain ⟨e, he⟩ : ∃ e, atE lv n fl p k = e := ⟨_, rfl⟩
    rw [he] at hz HS0 ⊢
    have HS := Lib.hid HS0
    have hz' : (e == 0) = false := by simpa using hz
    clear he hz HS0
    have z0 := R1.out.c0
    have z1 := R1.out.c1
    have z2 := R1.out.f0
    have z3 := R1.out.f1
    have R9 := Lib.hid (tb_set (lv := 0) (A := none) (n := 0) (c := 0) R1.out)
    have r0 := R9.out.c0
    have r1 := R9.out.c1
    go_wp2_with fail
    refine bodyPost_ret (by simp [results, Try.results24, go_sem, r0, r1]; try rfl) rfl ?_
    exact ⟨none, 0, by rw [HS.out.1, HS.out.2]; rfl, by rw [HS.out.2]; exact own_zero _ _, below_set2 B1.out HGR.out _ _⟩
end Go.Proofs.Ytkklmclnjmafaaa.slW
