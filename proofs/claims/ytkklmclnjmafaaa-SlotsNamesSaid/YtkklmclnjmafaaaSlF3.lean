/- The reference's Beside, Look, by walks. -/
import Derived.Test.YtkklmclnjmafaaaSlF2
namespace Go.Proofs.Ytkklmclnjmafaaa.slW
set_option maxRecDepth 100000
open Go.RowKit Go.Proofs.Ytkklmclnjmafaaa.base Go.Proofs.Ytkklmclnjmafaaa.slP
set_option linter.unusedVariables false
set_option linter.unusedSimpArgs false
set_option maxRecDepth 100000
theorem rcheckB (h : Int) (w : World) (h1 : 0 ≤ h) (h2 : h ≤ 4294967295) : Calls Try.prog 51 #[.int .u32 h] w fun e w' => e = .returned (.int .u8 (h / 16777216)) ∧ Below w.heap.size w w' := by
  refine (hashW.rcheck_any h w h1 h2).mono ?_
  rintro e _ ⟨rfl, rfl⟩
  exact ⟨rfl, Below.refl _ _⟩
set_option maxHeartbeats 400000 in
theorem rBeside (q : Nat) (w : World) (hq : q < 2048) : Calls Try.prog 28 #[.int .i64 q] w fun e w' => e = .returned (.int .i64 (bes q)) ∧ Below w.heap.size w w' := by
  have q1 : (q : Int) < 2048 := by omega
  have w1 : IntKind.i64.wrap ((q : Int) + 1) = (q : Int) + 1 := IntWalk.i64_in _ (by omega)
  have w2 : IntKind.i64.wrap ((q : Int) - 1) = (q : Int) - 1 := IntWalk.i64_in _ (by omega)
  by_cases h : q % 2 = 0
  · have HE : Hid ((bes q : Int) = (q : Int) + 1) := Lib.hid (by unfold bes; rw [if_pos h]; simp)
    have ht : Int.tmod (q : Int) 2 = 0 := by rw [Int.tmod_eq_emod_of_nonneg (by omega)]; omega
    clear h hq
    go_enter Try.func28, Try.ntmps28
    go_wp2_with fail
    go_ret
    exact ⟨by rw [HE.out]; rfl, by (repeat' (first | (with_reducible exact Below.refl _ _) | (with_reducible assumption) | (with_reducible refine below_drewN ?_ _) | (with_reducible refine below_new ?_ _) | (with_reducible refine Below.alloc ?_ ?_ _) | (with_reducible refine Below.drew ?_) | (with_reducible refine Below.setCell ?_ ?_ _) | (with_reducible apply below_at; (case k => (with_reducible assumption)); (case hB => omega)) | (with_reducible apply below_on; (with_reducible assumption)) | (go_size; done) | (with_reducible apply size_of)))⟩
  · have HE : Hid ((bes q : Int) = (q : Int) - 1) := Lib.hid (by unfold bes; rw [if_neg h]; omega)
    have ht : Int.tmod (q : Int) 2 = 1 := by rw [Int.tmod_eq_emod_of_nonneg (by omega)]; omega
    clear h hq
    go_enter Try.func28, Try.ntmps28
    go_wp2_with fail
    go_ret
    exact ⟨by rw [HE.out]; rfl, by (repeat' (first | (with_reducible exact Below.refl _ _) | (with_reducible assumption) | (with_reducible refine below_drewN ?_ _) | (with_reducible refine below_new ?_ _) | (with_reducible refine Below.alloc ?_ ?_ _) | (with_reducible refine Below.drew ?_) | (with_reducible refine Below.setCell ?_ ?_ _) | (with_reducible apply below_at; (case k => (with_reducible assumption)); (case hB => omega)) | (with_reducible apply below_on; (with_reducible assumption)) | (go_size; done) | (with_reducible apply size_of)))⟩
set_option maxHeartbeats 1600000 in
theorem rLook (lv : Int) (A : Option Addr) (n c : Nat) (fl : List Int) (h : Int) (w : World) (hi : InS w A n c fl) (hok : okB lv n fl = true) (x0 : 0 ≤ h) (x1 : h ≤ 4294967295) :
    Calls Try.prog 50 #[.agg #[.int .i64 lv, .slice A n c], .int .u32 h] w fun e w' => e = .returned (.tuple #[.int .i64 (lkN fl n h), .bool (fndB fl n h)]) ∧ Below w.heap.size w w' := by
  have n9 : (n : Int) ≤ 9223372036854775807 := by have := hi.c1; have := hi.c2; omega
  have HPL := Lib.hid (place_ok h hok)
  have HST : Hid (∀ i, i < n → stA fl i 0 < 193) := Lib.hid (fun i hi => ((ok_iff lv n fl).1 hok).2.2 i hi 0 (by decide))
  have HI := Lib.hid hi
  have HX := Lib.hid (And.intro x0 x1)
  have B0 := Lib.hid (tb_box w lv A n c)
  have T0 := Lib.hid (tb_new w lv A n c)
  obtain ⟨q, hq⟩ : ∃ q, plN n h = q := ⟨_, rfl⟩
  have HQ := Lib.hid hq
  rw [hq] at HPL
  have hm : Int.tmod h n = q := by
    rw [Int.tmod_eq_emod_of_nonneg x0, pl_cast h (by have := HPL.out; omega), hq]
  have hz : ¬ (n : Int) = 0 := by have := HPL.out; omega
  have hz2 : ((n : Int) == 0) = false := by simpa using hz
  have hwn : IntKind.u32.wrap (n : Int) = n := by rw [IntKind.wrap_u32]; have := HPL.out; omega
  have hwq : IntKind.i64.wrap (q : Int) = q := IntWalk.i64_in _ (by have := HPL.out; omega)
  have hwr : IntKind.u32.wrap (q : Int) = q := by rw [IntKind.wrap_u32]; have := HPL.out; omega
  clear hi hok hq x0 x1
  go_enter Try.func50, Try.ntmps50
  go_upto_region 1 with fail
  generalize (w.alloc (.cells #[.int .i64 lv, .slice A n c] 24)) = w0 at *
  have t1 := T0.out.c1
  go_wp2_with fail
  refine (rBeside q w0 (by have := HPL.out; omega)).mono ?_
  rintro e w1 ⟨rfl, b1⟩
  have B1 := Lib.hid (below_bs B0.out b1)
  have T1 := Lib.hid (T0.out.past b1)
  have HI1 := Lib.hid ((HI.out.past B0.out).past b1)
  clear hm hz hz2 hwn hwq hwr t1 b1 B0 T0 HI
  obtain ⟨d, hd⟩ : ∃ d, bes q = d := ⟨_, rfl⟩
  have HD := Lib.hid hd
  rw [hd] at HPL ⊢
  clear hd
  go_wp2_with fail
  refine (rcheckB h w1 HX.out.1 HX.out.2).mono ?_
  rintro e w4 ⟨rfl, b4⟩
  have B4 := Lib.hid (below_bs B1.out b4)
  have T4 := Lib.hid (T1.out.past b4)
  have HI4 := Lib.hid (HI1.out.past b4)
  clear b4 B1 T1 HI1
  obtain ⟨ck, hck⟩ : ∃ ck, h / 16777216 = ck := ⟨_, rfl⟩
  have HCK : Hid (ckN h = ck) := Lib.hid hck
  rw [hck]
  clear hck
  have HM : Hid (0 < n) := Lib.hid (by have := HPL.out; omega)
  obtain ⟨bb, off, hA, hbb, hc⟩ := HI4.out.at_ HM.out
  subst hA
  have hcq := hc (16 * q) (by have := HPL.out; omega)
  have hcd := hc (16 * d) (by have := HPL.out; omega)
  rw [show off + 16 * q = off + q * 16 by omega, show fl.getD (16 * q) 0 = chA fl q from rfl] at hcq
  rw [show off + 16 * d = off + d * 16 by omega, show fl.getD (16 * d) 0 = chA fl d from rfl] at hcd
  have k1 : (q : Int) < n := by have := HPL.out; omega
  have k2 : (d : Int) < n := by have := HPL.out; omega
  have t1 := T4.out.c1
  clear hc hbb
  by_cases e0 : chA fl q = ck
  · have HL := Lib.hid (lk_1 HQ.out (e0.trans HCK.out.symm))
    have e0' : (chA fl q == ck) = true := by simpa using e0
    clear e0
    go_wp2_with fail
    go_ret2
    exact ⟨by rw [HL.out.1, HL.out.2.2]; rfl, B4.out⟩
  have e0' : (chA fl q == ck) = false := by simpa using e0
  have HE0 : Hid (¬ chA fl q = ckN h) := Lib.hid (fun e => e0 (e.trans HCK.out))
  clear e0
  by_cases e1 : chA fl d = ck
  · have HL := Lib.hid (lk_2 HQ.out HE0.out (by rw [HD.out, HCK.out]; exact e1))
    rw [HD.out] at HL
    have e1' : (chA fl d == ck) = true := by simpa using e1
    clear e1
    go_wp2_with fail
    go_ret2
    exact ⟨by rw [HL.out.1, HL.out.2.2]; rfl, B4.out⟩
  have e1' : (chA fl d == ck) = false := by simpa using e1
  have HE1 : Hid (¬ chA fl (bes q) = ckN h) := Lib.hid (fun e => e1 (by rw [HD.out, HCK.out] at e; exact e))
  clear e1
  have HFN := Lib.hid (lk_no HQ.out HE0.out HE1.out)
  have HLS : Hid ((slA fl d).length = 16 ∧ (slA fl q).length = 16 ∧ (slA fl d).getD 1 0 = stA fl d 0 ∧ (slA fl q).getD 1 0 = stA fl q 0) := Lib.hid ⟨slA_len HI4.out.e (by omega), slA_len HI4.out.e (by omega), slA_get (by decide), slA_get (by decide)⟩
  have HSS : Hid ((0 ≤ stA fl d 0 ∧ stA fl d 0 < 193) ∧ 0 ≤ stA fl q 0 ∧ stA fl q 0 < 193) := Lib.hid ⟨⟨(HI4.out.bd _).1, HST.out d (by omega)⟩, (HI4.out.bd _).1, HST.out q (by omega)⟩
  have HRD : Hid (∀ W, Below w4.heap.size w4 W → W.rangeAt bb (off + d * 16) ((slA fl d).map (Value.int .u8))) := Lib.hid (fun W h => (HI4.out.past h).rng rfl HM.out d)
  have HRQ : Hid (∀ W, Below w4.heap.size w4 W → W.rangeAt bb (off + q * 16) ((slA fl q).map (Value.int .u8))) := Lib.hid (fun W h => (HI4.out.past h).rng rfl HM.out q)
  have HC34 : Hid (stP.stT (stA fl q 0) ≤ stP.stT (stA fl (bes q) 0) → lkN fl n h = q ∧ fdL fl n h = setL fl (q * 16) (newS h)) := Lib.hid (fun k => lk_4 HQ.out HE0.out HE1.out (Int.not_lt.2 k))
  have HC33 : Hid (stP.stT (stA fl (bes q) 0) < stP.stT (stA fl q 0) → lkN fl n h = bes q ∧ fdL fl n h = setL fl (bes q * 16) (newS h)) := Lib.hid (lk_3 HQ.out HE0.out HE1.out)
  rw [HD.out] at HC33 HC34
  go_upto_region 7 with fail
  clear hcq hcd t1
  generalize slA fl d = ld at *
  generalize slA fl q = lq at *
  generalize hsd : stA fl d 0 = sd at *
  generalize hsq : stA fl q 0 = sq at *
  clear hsd hsq
  by_cases k3 : stP.stT sd < stP.stT sq
  · have HL := Lib.hid (HC33.out k3)
    (have RD := grows_roads (S := fun x' => Below w4.heap.size w4 x') (fun a b h1 h2 => below_bs h2 h1)); refine region_ord _ Grows RD (Below.drew (Below.refl w4.heap.size w4)) (by kernel_rfl) ?_; intro ops Q' hops hPQ hN; (have HNS : Hid (Region.noSelect ops = true) := Lib.hid (by rw [hops]; kernel_rfl)); (have hsz : ops.size = 13 := (by rw [hops]; rfl)); have HOP := Lib.hid hops; have HPQ := Lib.hid hPQ; have HN := Lib.hid hN; rw [hsz]; clear hops hsz hPQ hN
    refine ord_take RD 0 (at_list (by rw [HOP.out]; rfl)) HNS.out HPQ.out (by rw [HOP.out]; kernel_rfl) (by rw [HOP.out]; kernel_rfl) (by rw [HOP.out]; rfl) (fun K hK => ?_); apply Exists.intro; refine ⟨fun W hSW => ?_, hK _ ?_⟩; (focus ((try dsimp only at hSW); go_simp; try with_reducible rfl)); clear hK K; (try simp only [Act.put, List.setIfInBounds_toArray, List.set_cons_zero, List.set_cons_succ])
    refine ord_take RD 1 (at_list (by rw [HOP.out]; rfl)) HNS.out HPQ.out (by rw [HOP.out]; kernel_rfl) (by rw [HOP.out]; kernel_rfl) (by rw [HOP.out]; rfl) (fun K hK => ?_); apply Exists.intro; refine ⟨fun W hSW => ?_, hK _ ?_⟩; (focus ((try dsimp only at hSW); (have z := (T4.out.past hSW).c1); go_simp; try with_reducible rfl)); clear hK K; (try simp only [Act.put, List.setIfInBounds_toArray, List.set_cons_zero, List.set_cons_succ])
    refine ord_take RD 2 (at_list (by rw [HOP.out]; rfl)) HNS.out HPQ.out (by rw [HOP.out]; kernel_rfl) (by rw [HOP.out]; kernel_rfl) (by rw [HOP.out]; rfl) (fun K hK => ?_); apply Exists.intro; refine ⟨fun W hSW => ?_, hK _ ?_⟩; (focus ((try dsimp only at hSW); go_simp; try with_reducible rfl)); clear hK K; (try simp only [Act.put, List.setIfInBounds_toArray, List.set_cons_zero, List.set_cons_succ])
    refine ord_take RD 3 (at_list (by rw [HOP.out]; rfl)) HNS.out HPQ.out (by rw [HOP.out]; kernel_rfl) (by rw [HOP.out]; kernel_rfl) (by rw [HOP.out]; rfl) (fun K hK => ?_); apply Exists.intro; refine ⟨fun W hSW => ?_, hK _ ?_⟩; (focus ((try dsimp only at hSW); go_simp; try with_reducible rfl)); clear hK K; (try simp only [Act.put, List.setIfInBounds_toArray, List.set_cons_zero, List.set_cons_succ])
    refine ord_take RD 4 (at_list (by rw [HOP.out]; rfl)) HNS.out HPQ.out (by rw [HOP.out]; kernel_rfl) (by rw [HOP.out]; kernel_rfl) (by rw [HOP.out]; rfl) (fun K hK => ?_); apply Exists.intro; refine ⟨fun W hSW => ?_, hK _ ?_⟩; (focus ((try dsimp only at hSW); exact quiet_slot _ rfl (HRD.out W hSW) (HLS.out.1) rfl)); clear hK K; (try simp only [Act.put, List.setIfInBounds_toArray, List.set_cons_zero, List.set_cons_succ])
    refine ord_take RD 5 (at_list (by rw [HOP.out]; rfl)) HNS.out HPQ.out (by rw [HOP.out]; kernel_rfl) (by rw [HOP.out]; kernel_rfl) (by rw [HOP.out]; rfl) (fun K hK => ?_); apply Exists.intro; refine ⟨fun W hSW => ?_, hK _ ?_⟩; (focus ((try dsimp only at hSW); go_simp; exact (rPrio ld sd W HLS.out.1 HLS.out.2.2.1 HSS.out.1.1 HSS.out.1.2))); clear hK K; (try simp only [Act.put, List.setIfInBounds_toArray, List.set_cons_zero, List.set_cons_succ])
    refine ord_take RD 6 (at_list (by rw [HOP.out]; rfl)) HNS.out HPQ.out (by rw [HOP.out]; kernel_rfl) (by rw [HOP.out]; kernel_rfl) (by rw [HOP.out]; rfl) (fun K hK => ?_); apply Exists.intro; refine ⟨fun W hSW => ?_, hK _ ?_⟩; (focus ((try dsimp only at hSW); go_simp; try with_reducible rfl)); clear hK K; (try simp only [Act.put, List.setIfInBounds_toArray, List.set_cons_zero, List.set_cons_succ])
    refine ord_take RD 7 (at_list (by rw [HOP.out]; rfl)) HNS.out HPQ.out (by rw [HOP.out]; kernel_rfl) (by rw [HOP.out]; kernel_rfl) (by rw [HOP.out]; rfl) (fun K hK => ?_); apply Exists.intro; refine ⟨fun W hSW => ?_, hK _ ?_⟩; (focus ((try dsimp only at hSW); (have z := (T4.out.past hSW).c1); go_simp; try with_reducible rfl)); clear hK K; (try simp only [Act.put, List.setIfInBounds_toArray, List.set_cons_zero, List.set_cons_succ])
    refine ord_take RD 8 (at_list (by rw [HOP.out]; rfl)) HNS.out HPQ.out (by rw [HOP.out]; kernel_rfl) (by rw [HOP.out]; kernel_rfl) (by rw [HOP.out]; rfl) (fun K hK => ?_); apply Exists.intro; refine ⟨fun W hSW => ?_, hK _ ?_⟩; (focus ((try dsimp only at hSW); go_simp; try with_reducible rfl)); clear hK K; (try simp only [Act.put, List.setIfInBounds_toArray, List.set_cons_zero, List.set_cons_succ])
    refine ord_take RD 9 (at_list (by rw [HOP.out]; rfl)) HNS.out HPQ.out (by rw [HOP.out]; kernel_rfl) (by rw [HOP.out]; kernel_rfl) (by rw [HOP.out]; rfl) (fun K hK => ?_); apply Exists.intro; refine ⟨fun W hSW => ?_, hK _ ?_⟩; (focus ((try dsimp only at hSW); go_simp; try with_reducible rfl)); clear hK K; (try simp only [Act.put, List.setIfInBounds_toArray, List.set_cons_zero, List.set_cons_succ])
    refine ord_take RD 10 (at_list (by rw [HOP.out]; rfl)) HNS.out HPQ.out (by rw [HOP.out]; kernel_rfl) (by rw [HOP.out]; kernel_rfl) (by rw [HOP.out]; rfl) (fun K hK => ?_); apply Exists.intro; refine ⟨fun W hSW => ?_, hK _ ?_⟩; (focus ((try dsimp only at hSW); exact quiet_slot _ rfl (HRQ.out W hSW) (HLS.out.2.1) rfl)); clear hK K; (try simp only [Act.put, List.setIfInBounds_toArray, List.set_cons_zero, List.set_cons_succ])
    refine ord_take RD 11 (at_list (by rw [HOP.out]; rfl)) HNS.out HPQ.out (by rw [HOP.out]; kernel_rfl) (by rw [HOP.out]; kernel_rfl) (by rw [HOP.out]; rfl) (fun K hK => ?_); apply Exists.intro; refine ⟨fun W hSW => ?_, hK _ ?_⟩; (focus ((try dsimp only at hSW); go_simp; exact (rPrio lq sq W HLS.out.2.1 HLS.out.2.2.2 HSS.out.2.1 HSS.out.2.2))); clear hK K; (try simp only [Act.put, List.setIfInBounds_toArray, List.set_cons_zero, List.set_cons_succ])
    refine ord_take RD 12 (at_list (by rw [HOP.out]; rfl)) HNS.out HPQ.out (by rw [HOP.out]; kernel_rfl) (by rw [HOP.out]; kernel_rfl) (by rw [HOP.out]; rfl) (fun K hK => ?_); apply Exists.intro; refine ⟨fun W hSW => ?_, hK _ ?_⟩; (focus ((try dsimp only at hSW); go_simp; try with_reducible rfl)); clear hK K; (try simp only [Act.put, List.setIfInBounds_toArray, List.set_cons_zero, List.set_cons_succ])
    refine ord_done (by rw [HOP.out]; kernel_rfl) (fun w5 hWW hSW => HN.out _ _ ?_); clear HOP HNS HPQ HN RD; (try dsimp only at hSW)
    have B5 := Lib.hid (below_bs B4.out hSW)
    clear hSW hWW
    go_wp2_with fail
    go_ret2
    exact ⟨by rw [HL.out.1, HFN.out.1]; rfl, B5.out⟩
  · have HL := Lib.hid (HC34.out (Int.not_lt.1 k3))
    (have RD := grows_roads (S := fun x' => Below w4.heap.size w4 x') (fun a b h1 h2 => below_bs h2 h1)); refine region_ord _ Grows RD (Below.drew (Below.refl w4.heap.size w4)) (by kernel_rfl) ?_; intro ops Q' hops hPQ hN; (have HNS : Hid (Region.noSelect ops = true) := Lib.hid (by rw [hops]; kernel_rfl)); (have hsz : ops.size = 13 := (by rw [hops]; rfl)); have HOP := Lib.hid hops; have HPQ := Lib.hid hPQ; have HN := Lib.hid hN; rw [hsz]; clear hops hsz hPQ hN
    refine ord_take RD 0 (at_list (by rw [HOP.out]; rfl)) HNS.out HPQ.out (by rw [HOP.out]; kernel_rfl) (by rw [HOP.out]; kernel_rfl) (by rw [HOP.out]; rfl) (fun K hK => ?_); apply Exists.intro; refine ⟨fun W hSW => ?_, hK _ ?_⟩; (focus ((try dsimp only at hSW); go_simp; try with_reducible rfl)); clear hK K; (try simp only [Act.put, List.setIfInBounds_toArray, List.set_cons_zero, List.set_cons_succ])
    refine ord_take RD 1 (at_list (by rw [HOP.out]; rfl)) HNS.out HPQ.out (by rw [HOP.out]; kernel_rfl) (by rw [HOP.out]; kernel_rfl) (by rw [HOP.out]; rfl) (fun K hK => ?_); apply Exists.intro; refine ⟨fun W hSW => ?_, hK _ ?_⟩; (focus ((try dsimp only at hSW); (have z := (T4.out.past hSW).c1); go_simp; try with_reducible rfl)); clear hK K; (try simp only [Act.put, List.setIfInBounds_toArray, List.set_cons_zero, List.set_cons_succ])
    refine ord_take RD 2 (at_list (by rw [HOP.out]; rfl)) HNS.out HPQ.out (by rw [HOP.out]; kernel_rfl) (by rw [HOP.out]; kernel_rfl) (by rw [HOP.out]; rfl) (fun K hK => ?_); apply Exists.intro; refine ⟨fun W hSW => ?_, hK _ ?_⟩; (focus ((try dsimp only at hSW); go_simp; try with_reducible rfl)); clear hK K; (try simp only [Act.put, List.setIfInBounds_toArray, List.set_cons_zero, List.set_cons_succ])
    refine ord_take RD 3 (at_list (by rw [HOP.out]; rfl)) HNS.out HPQ.out (by rw [HOP.out]; kernel_rfl) (by rw [HOP.out]; kernel_rfl) (by rw [HOP.out]; rfl) (fun K hK => ?_); apply Exists.intro; refine ⟨fun W hSW => ?_, hK _ ?_⟩; (focus ((try dsimp only at hSW); go_simp; try with_reducible rfl)); clear hK K; (try simp only [Act.put, List.setIfInBounds_toArray, List.set_cons_zero, List.set_cons_succ])
    refine ord_take RD 4 (at_list (by rw [HOP.out]; rfl)) HNS.out HPQ.out (by rw [HOP.out]; kernel_rfl) (by rw [HOP.out]; kernel_rfl) (by rw [HOP.out]; rfl) (fun K hK => ?_); apply Exists.intro; refine ⟨fun W hSW => ?_, hK _ ?_⟩; (focus ((try dsimp only at hSW); exact quiet_slot _ rfl (HRD.out W hSW) (HLS.out.1) rfl)); clear hK K; (try simp only [Act.put, List.setIfInBounds_toArray, List.set_cons_zero, List.set_cons_succ])
    refine ord_take RD 5 (at_list (by rw [HOP.out]; rfl)) HNS.out HPQ.out (by rw [HOP.out]; kernel_rfl) (by rw [HOP.out]; kernel_rfl) (by rw [HOP.out]; rfl) (fun K hK => ?_); apply Exists.intro; refine ⟨fun W hSW => ?_, hK _ ?_⟩; (focus ((try dsimp only at hSW); go_simp; exact (rPrio ld sd W HLS.out.1 HLS.out.2.2.1 HSS.out.1.1 HSS.out.1.2))); clear hK K; (try simp only [Act.put, List.setIfInBounds_toArray, List.set_cons_zero, List.set_cons_succ])
    refine ord_take RD 6 (at_list (by rw [HOP.out]; rfl)) HNS.out HPQ.out (by rw [HOP.out]; kernel_rfl) (by rw [HOP.out]; kernel_rfl) (by rw [HOP.out]; rfl) (fun K hK => ?_); apply Exists.intro; refine ⟨fun W hSW => ?_, hK _ ?_⟩; (focus ((try dsimp only at hSW); go_simp; try with_reducible rfl)); clear hK K; (try simp only [Act.put, List.setIfInBounds_toArray, List.set_cons_zero, List.set_cons_succ])
    refine ord_take RD 7 (at_list (by rw [HOP.out]; rfl)) HNS.out HPQ.out (by rw [HOP.out]; kernel_rfl) (by rw [HOP.out]; kernel_rfl) (by rw [HOP.out]; rfl) (fun K hK => ?_); apply Exists.intro; refine ⟨fun W hSW => ?_, hK _ ?_⟩; (focus ((try dsimp only at hSW); (have z := (T4.out.past hSW).c1); go_simp; try with_reducible rfl)); clear hK K; (try simp only [Act.put, List.setIfInBounds_toArray, List.set_cons_zero, List.set_cons_succ])
    refine ord_take RD 8 (at_list (by rw [HOP.out]; rfl)) HNS.out HPQ.out (by rw [HOP.out]; kernel_rfl) (by rw [HOP.out]; kernel_rfl) (by rw [HOP.out]; rfl) (fun K hK => ?_); apply Exists.intro; refine ⟨fun W hSW => ?_, hK _ ?_⟩; (focus ((try dsimp only at hSW); go_simp; try with_reducible rfl)); clear hK K; (try simp only [Act.put, List.setIfInBounds_toArray, List.set_cons_zero, List.set_cons_succ])
    refine ord_take RD 9 (at_list (by rw [HOP.out]; rfl)) HNS.out HPQ.out (by rw [HOP.out]; kernel_rfl) (by rw [HOP.out]; kernel_rfl) (by rw [HOP.out]; rfl) (fun K hK => ?_); apply Exists.intro; refine ⟨fun W hSW => ?_, hK _ ?_⟩; (focus ((try dsimp only at hSW); go_simp; try with_reducible rfl)); clear hK K; (try simp only [Act.put, List.setIfInBounds_toArray, List.set_cons_zero, List.set_cons_succ])
    refine ord_take RD 10 (at_list (by rw [HOP.out]; rfl)) HNS.out HPQ.out (by rw [HOP.out]; kernel_rfl) (by rw [HOP.out]; kernel_rfl) (by rw [HOP.out]; rfl) (fun K hK => ?_); apply Exists.intro; refine ⟨fun W hSW => ?_, hK _ ?_⟩; (focus ((try dsimp only at hSW); exact quiet_slot _ rfl (HRQ.out W hSW) (HLS.out.2.1) rfl)); clear hK K; (try simp only [Act.put, List.setIfInBounds_toArray, List.set_cons_zero, List.set_cons_succ])
    refine ord_take RD 11 (at_list (by rw [HOP.out]; rfl)) HNS.out HPQ.out (by rw [HOP.out]; kernel_rfl) (by rw [HOP.out]; kernel_rfl) (by rw [HOP.out]; rfl) (fun K hK => ?_); apply Exists.intro; refine ⟨fun W hSW => ?_, hK _ ?_⟩; (focus ((try dsimp only at hSW); go_simp; exact (rPrio lq sq W HLS.out.2.1 HLS.out.2.2.2 HSS.out.2.1 HSS.out.2.2))); clear hK K; (try simp only [Act.put, List.setIfInBounds_toArray, List.set_cons_zero, List.set_cons_succ])
    refine ord_take RD 12 (at_list (by rw [HOP.out]; rfl)) HNS.out HPQ.out (by rw [HOP.out]; kernel_rfl) (by rw [HOP.out]; kernel_rfl) (by rw [HOP.out]; rfl) (fun K hK => ?_); apply Exists.intro; refine ⟨fun W hSW => ?_, hK _ ?_⟩; (focus ((try dsimp only at hSW); go_simp; try with_reducible rfl)); clear hK K; (try simp only [Act.put, List.setIfInBounds_toArray, List.set_cons_zero, List.set_cons_succ])
    refine ord_done (by rw [HOP.out]; kernel_rfl) (fun w5 hWW hSW => HN.out _ _ ?_); clear HOP HNS HPQ HN RD; (try dsimp only at hSW)
    have B5 := Lib.hid (below_bs B4.out hSW)
    clear hSW hWW
    go_wp2_with fail
    go_ret2
    exact ⟨by rw [HL.out.1, HFN.out.1]; rfl, B5.out⟩
end Go.Proofs.Ytkklmclnjmafaaa.slW
