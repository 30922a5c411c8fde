/- The reference's Cut. -/
import Derived.Test.YthckpenindchlaaSpC3
namespace Go.Proofs.Ythckpenindchlaa.spW
set_option maxRecDepth 100000
open Go.RowKit Go.Proofs.Ythckpenindchlaa.base Go.Proofs.Ythckpenindchlaa.mbW
set_option linter.unusedVariables false
set_option linter.unusedSimpArgs false
set_option maxRecDepth 100000
set_option maxHeartbeats 12800000 in
theorem rCut_any (ms : List Mb) (P : Option Addr) (m d : Nat) (b : Int) (w : World) (hR : MemB w P m d ms) (hN : ∀ k, k < m → (ms.getD k mb0).r.n ≤ 10000) :
    Calls Try.prog 12 #[.slice P m d, .int .i64 b] w (CtP ms b w) := by
  have HR := Lib.hid hR
  have HL := Lib.hid hR.l
  have HN := Lib.hid hN
  clear hR hN
  go_enter Try.func12, Try.ntmps12
  go_wp2_with fail
  refine (rCheck_any ms P m d w HR.out HN.out).mono ?_
  rintro e w1 ⟨rfl, b1⟩
  have B1 := Lib.hid b1
  clear b1
  by_cases hc : ckE ms = 0
  case neg =>
    have HP := Lib.hid (ct_ck b hc)
    have hbn : (ckE ms != 0) = true := by simpa using hc
    clear hc
    go_wp2_with fail
    refine (rCheck_any ms P m d w1 (HR.out.below B1.out (Nat.le_refl _)) HN.out).mono ?_
    rintro e w2 ⟨rfl, b2⟩
    have B2 := Lib.hid (mb_bb B1.out b2)
    clear b2
    go_wp2_with fail
    go_ret2
    exact ct_no HP.out B2.out
  have HC := Lib.hid hc
  rw [hc]
  clear hc
  go_wp2_with fail
  refine (rBlock_any b w1).mono ?_
  rintro e _ ⟨rfl, rfl⟩
  rename World => w1
  rcases hbl : blB b with _ | _
  · have HP := Lib.hid (ct_bl HC.out hbl)
    clear hbl
    go_wp2_with fail
    go_ret2
    exact ct_no HP.out B1.out
  have HBL := Lib.hid hbl
  clear hbl
  have HCZ := Lib.hid (ck_zero HC.out)
  go_wp2_with fail
  refine (Lengths_any ms P m d w1 (HR.out.below B1.out (Nat.le_refl _)) (by have := HCZ.out; have := HL.out; omega)).mono ?_
  rintro e w2 ⟨LA, lc, rfl, hz2, b2⟩
  have HZ := Lib.hid hz2
  have B2 := Lib.hid (mb_bb B1.out b2)
  clear b2 hz2
  go_wp2_with fail
  refine (rpieces_any (lensM ms) LA m lc b w2 HZ.out (sz_lens HC.out) HBL.out).mono ?_
  rintro e w3 ⟨X, q, xc, rfl, hq, ho, b3⟩
  have HP := Lib.hid (ct_ok HC.out HBL.out)
  rw [HL.out] at HP
  have HW := Lib.hid (pcs_wi (zs := lensM ms) HBL.out m (by rw [lens_len, HL.out]; exact Nat.le_refl _))
  have HSM := Lib.hid (pcs_small (sz_lens HC.out) ((blB_iff b).1 HBL.out).1 (k := m) (by rw [lens_len, HL.out]; exact Nat.le_refl _))
  generalize pcsT (lensM ms) b m = ps at *
  have HQ := Lib.hid hq
  have HO := Lib.hid ho
  have B3 := Lib.hid (mb_bb B2.out b3)
  have q9 : (q : Int) ≤ 527 := by have := HSM.out; omega
  clear hq ho b3
  go_wp2_with fail
  go_loopw [7, 8] (fun rv iv wr => ∃ (k : Nat) (A : Option Addr) (c : Nat) (ts : List Pt), k ≤ q ∧ iv = .int .i64 (k : Int) ∧ rv = .slice A k c ∧ ts.length = k ∧ TE.Own wr w3.heap.size (.slice A k c) ts ∧ (∀ t ∈ ts, InR wr t.r ∧ spT.DataU wr t.r ∧ t.r.b = cutB ms t.p ∧ PcOk t.p) ∧ ts.map (·.p) = ps.take k ∧ Below w3.heap.size w3 wr) (fun _ iv _ => q - (intOf iv).toNat)
  case atStart => exact ⟨0, none, 0, [], Nat.zero_le _, rfl, rfl, rfl, Enc.Own.nil _ _, by simp, rfl, Below.refl _ _⟩
  case round =>
    obtain ⟨k, A, c, ts, hk, rfl, rfl, hts, own, hin, hpp, acc⟩ := hrel
    rename World => wr
    have HOW := Lib.hid own
    have HTS := Lib.hid hts
    have HIN := Lib.hid hin
    have HPP := Lib.hid hpp
    have HACC := Lib.hid acc
    by_cases hlt : k < q
    · obtain ⟨g, rfl, hg1, hg2⟩ := HO.out.spot (by omega)
      have hkp : k < ps.length := by rw [← HQ.out]; exact hlt
      have hmem : ps.getD k pc0 ∈ ps := by rw [List.getD_eq_getElem?_getD, List.getElem?_eq_getElem hkp]; exact List.getElem_mem _
      have hwi := HW.out _ hmem
      have HSP := Lib.hid (wi_smallC (sz_lens HC.out) hwi)
      have HOK := Lib.hid (ok_smallC HSP.out)
      have HXP : Hid (∀ x', Below wr.heap.size wr x' → x'.rangeAt g (k * 3) (pcE (ps.getD k pc0))) := Lib.hid (fun x' h => by have := ((HO.out.has.past acc).past h).rng (i := k) hkp; rw [Nat.zero_add] at this; exact this)
      have HTK : Hid (ps.take (k + 1) = ps.take k ++ [ps.getD k pc0]) := Lib.hid (by rw [List.take_add_one, List.getD_eq_getElem?_getD, List.getElem?_eq_getElem hkp]; rfl)
      have HCT : Hid (cutB ms (ps.getD k pc0) = (((ms.getD (ps.getD k pc0).m.toNat mb0).r.b.drop (ps.getD k pc0).o.toNat).take (ps.getD k pc0).r.toNat)) := Lib.hid rfl
      have ltg : g < wr.heap.size := Nat.lt_of_lt_of_le hg2 acc.size
      generalize ps.getD k pc0 = p at *
      obtain ⟨pm, po, pr⟩ := p
      obtain ⟨w1', w2', w3', w4', w5', w6'⟩ := hwi
      dsimp only at w1' w2' w3' w4' w5' w6' HCT
      obtain ⟨i, rfl⟩ : ∃ i : Nat, pm = (i : Int) := ⟨pm.toNat, by omega⟩
      obtain ⟨x, rfl⟩ : ∃ x : Nat, po = (x : Int) := ⟨po.toNat, by omega⟩
      obtain ⟨u, rfl⟩ : ∃ u : Nat, pr = (u : Int) := ⟨pr.toNat, by omega⟩
      have him : i < m := by rw [lens_len, HL.out] at w2'; omega
      rw [show ((i : Int)).toNat = i by omega, lens_get ms (by rw [HL.out]; exact him)] at w5' w6'
      rw [show ((i : Int)).toNat = i by omega, show ((x : Int)).toNat = x by omega, show ((u : Int)).toNat = u by omega] at HCT
      obtain ⟨b2, off2, rfl, hb2⟩ := HR.out.h.some (by rw [HL.out]; omega)
      have BR := Lib.hid (mb_bb B3.out acc)
      have HCE := Lib.hid (fun x' (h : Below wr.heap.size wr x') => memCell HR.out him (mb_bb BR.out h))
      have HMI := Lib.hid ((memIn HR.out him).below BR.out (Nat.le_refl _))
      generalize ms.getD i mb0 = y at *
      obtain ⟨nm, rA, rn, rc, rb⟩ := y
      dsimp only at HCE HMI HCT w5' w6'
      obtain ⟨db, dof, rfl, hdb, -⟩ := has_some HMI.out.h (by have := HMI.out.e; dsimp only at this ⊢; omega)
      have c1 := HMI.out.c1
      have c2 := HMI.out.c2
      dsimp only at c1 c2
      have k1 : (k : Int) < q := by omega
      have k0 : 0 ≤ (k : Int) := by omega
      have i1 : (i : Int) < m := by omega
      have i0 : 0 ≤ (i : Int) := by omega
      have u1 : (x : Int) + u ≤ rc := by omega
      have u2 : (x : Int) ≤ (x : Int) + u := by omega
      have u3 : 0 ≤ (x : Int) := by omega
      have hsum : IntKind.i64.wrap ((x : Int) + (u : Int)) = (x : Int) + u := by rw [IntKind.wrap_i64]; omega
      have HU := Lib.hid (And.intro w4' (And.intro w5' w6'))
      have HK := Lib.hid hlt
      clear hk hlt own acc hts hin hpp hg1 hg2 hkp hmem w1' w2' w3' w4' w5' w6' him hb2 hdb
      go_upto_region 10 with fail
      (have RD := grows_roads (S := fun x' => Below wr.heap.size wr x') (fun a b h1 h2 => h2.trans (h1.mono h2.size))); refine region_ordT 35 _ Grows RD (Below.drew (Below.refl _ _)) (by kernel_rfl) (by decide) ?_; intro ops Q' hops hPQ hN; (have HNS : Hid (Region.noSelect ops = true ∧ Region.sinkB .any ops 35 = true ∧ Region.chainB .any ops 35 = true ∧ 35 < ops.size) := Lib.hid (by rw [hops]; exact ⟨by kernel_rfl, by kernel_rfl, by kernel_rfl, by decide⟩)); (have hsz : ops.size = 37 := (by rw [hops]; rfl)); have HOP := Lib.hid hops; have HPQ := Lib.hid hPQ; have HN := Lib.hid hN; rw [hsz]; clear hops hsz hPQ hN
      refine ordT_take RD 0 (at_list (by rw [HOP.out]; rfl)) HNS.out HPQ.out (by rw [HOP.out]; kernel_rfl) (by rw [HOP.out]; kernel_rfl) (by rw [HOP.out]; rfl) (fun K hK => ?_); apply Exists.intro; refine ⟨fun W hSW => ?_, hK _ ?_⟩; (focus ((try dsimp only at hSW); go_simp; try with_reducible rfl)); clear hK K; (try simp only [Act.put, List.setIfInBounds_toArray, List.set_cons_zero, List.set_cons_succ])
      refine ordT_take RD 1 (at_list (by rw [HOP.out]; rfl)) HNS.out HPQ.out (by rw [HOP.out]; kernel_rfl) (by rw [HOP.out]; kernel_rfl) (by rw [HOP.out]; rfl) (fun K hK => ?_); apply Exists.intro; refine ⟨fun W hSW => ?_, hK _ ?_⟩; (focus ((try dsimp only at hSW); go_simp; try with_reducible rfl)); clear hK K; (try simp only [Act.put, List.setIfInBounds_toArray, List.set_cons_zero, List.set_cons_succ])
      refine ordT_take RD 2 (at_list (by rw [HOP.out]; rfl)) HNS.out HPQ.out (by rw [HOP.out]; kernel_rfl) (by rw [HOP.out]; kernel_rfl) (by rw [HOP.out]; rfl) (fun K hK => ?_); apply Exists.intro; refine ⟨fun W hSW => ?_, hK _ ?_⟩; (focus ((try dsimp only at hSW); go_simp; try with_reducible rfl)); clear hK K; (try simp only [Act.put, List.setIfInBounds_toArray, List.set_cons_zero, List.set_cons_succ])
      refine ordT_take RD 3 (at_list (by rw [HOP.out]; rfl)) HNS.out HPQ.out (by rw [HOP.out]; kernel_rfl) (by rw [HOP.out]; kernel_rfl) (by rw [HOP.out]; rfl) (fun K hK => ?_); apply Exists.intro; refine ⟨fun W hSW => ?_, hK _ ?_⟩; (focus ((try dsimp only at hSW); go_simp; try with_reducible rfl)); clear hK K; (try simp only [Act.put, List.setIfInBounds_toArray, List.set_cons_zero, List.set_cons_succ])
      refine ordT_take RD 4 (at_list (by rw [HOP.out]; rfl)) HNS.out HPQ.out (by rw [HOP.out]; kernel_rfl) (by rw [HOP.out]; kernel_rfl) (by rw [HOP.out]; rfl) (fun K hK => ?_); apply Exists.intro; refine ⟨fun W hSW => ?_, hK _ ?_⟩; (focus ((try dsimp only at hSW); exact quiet_ldP ((i : Int)) ((x : Int)) ((u : Int)) _ rfl (HXP.out _ hSW) rfl)); clear hK K; (try simp only [Act.put, List.setIfInBounds_toArray, List.set_cons_zero, List.set_cons_succ])
      refine ordT_take RD 6 (at_list (by rw [HOP.out]; rfl)) HNS.out HPQ.out (by rw [HOP.out]; kernel_rfl) (by rw [HOP.out]; kernel_rfl) (by rw [HOP.out]; rfl) (fun K hK => ?_); apply Exists.intro; refine ⟨fun W hSW => ?_, hK _ ?_⟩; (focus ((try dsimp only at hSW); go_simp; try with_reducible rfl)); clear hK K; (try simp only [Act.put, List.setIfInBounds_toArray, List.set_cons_zero, List.set_cons_succ])
      refine ordT_take RD 7 (at_list (by rw [HOP.out]; rfl)) HNS.out HPQ.out (by rw [HOP.out]; kernel_rfl) (by rw [HOP.out]; kernel_rfl) (by rw [HOP.out]; rfl) (fun K hK => ?_); apply Exists.intro; refine ⟨fun W hSW => ?_, hK _ ?_⟩; (focus ((try dsimp only at hSW); go_simp; try with_reducible rfl)); clear hK K; (try simp only [Act.put, List.setIfInBounds_toArray, List.set_cons_zero, List.set_cons_succ])
      refine ordT_take RD 8 (at_list (by rw [HOP.out]; rfl)) HNS.out HPQ.out (by rw [HOP.out]; kernel_rfl) (by rw [HOP.out]; kernel_rfl) (by rw [HOP.out]; rfl) (fun K hK => ?_); apply Exists.intro; refine ⟨fun W hSW => ?_, hK _ ?_⟩; (focus ((try dsimp only at hSW); go_simp; try with_reducible rfl)); clear hK K; (try simp only [Act.put, List.setIfInBounds_toArray, List.set_cons_zero, List.set_cons_succ])
      refine ordT_take RD 9 (at_list (by rw [HOP.out]; rfl)) HNS.out HPQ.out (by rw [HOP.out]; kernel_rfl) (by rw [HOP.out]; kernel_rfl) (by rw [HOP.out]; rfl) (fun K hK => ?_); apply Exists.intro; refine ⟨fun W hSW => ?_, hK _ ?_⟩; (focus ((try dsimp only at hSW); go_simp; try with_reducible rfl)); clear hK K; (try simp only [Act.put, List.setIfInBounds_toArray, List.set_cons_zero, List.set_cons_succ])
      refine ordT_take RD 10 (at_list (by rw [HOP.out]; rfl)) HNS.out HPQ.out (by rw [HOP.out]; kernel_rfl) (by rw [HOP.out]; kernel_rfl) (by rw [HOP.out]; rfl) (fun K hK => ?_); apply Exists.intro; refine ⟨fun W hSW => ?_, hK _ ?_⟩; (focus ((try dsimp only at hSW); go_simp; try with_reducible rfl)); clear hK K; (try simp only [Act.put, List.setIfInBounds_toArray, List.set_cons_zero, List.set_cons_succ])
      refine ordT_take RD 11 (at_list (by rw [HOP.out]; rfl)) HNS.out HPQ.out (by rw [HOP.out]; kernel_rfl) (by rw [HOP.out]; kernel_rfl) (by rw [HOP.out]; rfl) (fun K hK => ?_); apply Exists.intro; refine ⟨fun W hSW => ?_, hK _ ?_⟩; (focus ((try dsimp only at hSW); have y1 := (rngC (HXP.out _ hSW)).1; go_simp; try with_reducible rfl)); clear hK K; (try simp only [Act.put, List.setIfInBounds_toArray, List.set_cons_zero, List.set_cons_succ])
      refine ordT_take RD 12 (at_list (by rw [HOP.out]; rfl)) HNS.out HPQ.out (by rw [HOP.out]; kernel_rfl) (by rw [HOP.out]; kernel_rfl) (by rw [HOP.out]; rfl) (fun K hK => ?_); apply Exists.intro; refine ⟨fun W hSW => ?_, hK _ ?_⟩; (focus ((try dsimp only at hSW); go_simp; try with_reducible rfl)); clear hK K; (try simp only [Act.put, List.setIfInBounds_toArray, List.set_cons_zero, List.set_cons_succ])
      refine ordT_take RD 13 (at_list (by rw [HOP.out]; rfl)) HNS.out HPQ.out (by rw [HOP.out]; kernel_rfl) (by rw [HOP.out]; kernel_rfl) (by rw [HOP.out]; rfl) (fun K hK => ?_); apply Exists.intro; refine ⟨fun W hSW => ?_, hK _ ?_⟩; (focus ((try dsimp only at hSW); go_simp; try with_reducible rfl)); clear hK K; (try simp only [Act.put, List.setIfInBounds_toArray, List.set_cons_zero, List.set_cons_succ])
      refine ordT_take RD 14 (at_list (by rw [HOP.out]; rfl)) HNS.out HPQ.out (by rw [HOP.out]; kernel_rfl) (by rw [HOP.out]; kernel_rfl) (by rw [HOP.out]; rfl) (fun K hK => ?_); apply Exists.intro; refine ⟨fun W hSW => ?_, hK _ ?_⟩; (focus ((try dsimp only at hSW); have y1 := (HCE.out _ hSW).2; go_simp; try with_reducible rfl)); clear hK K; (try simp only [Act.put, List.setIfInBounds_toArray, List.set_cons_zero, List.set_cons_succ])
      refine ordT_take RD 15 (at_list (by rw [HOP.out]; rfl)) HNS.out HPQ.out (by rw [HOP.out]; kernel_rfl) (by rw [HOP.out]; kernel_rfl) (by rw [HOP.out]; rfl) (fun K hK => ?_); apply Exists.intro; refine ⟨fun W hSW => ?_, hK _ ?_⟩; (focus ((try dsimp only at hSW); go_simp; try with_reducible rfl)); clear hK K; (try simp only [Act.put, List.setIfInBounds_toArray, List.set_cons_zero, List.set_cons_succ])
      refine ordT_take RD 16 (at_list (by rw [HOP.out]; rfl)) HNS.out HPQ.out (by rw [HOP.out]; kernel_rfl) (by rw [HOP.out]; kernel_rfl) (by rw [HOP.out]; rfl) (fun K hK => ?_); apply Exists.intro; refine ⟨fun W hSW => ?_, hK _ ?_⟩; (focus ((try dsimp only at hSW); go_simp; try with_reducible rfl)); clear hK K; (try simp only [Act.put, List.setIfInBounds_toArray, List.set_cons_zero, List.set_cons_succ])
      refine ordT_take RD 17 (at_list (by rw [HOP.out]; rfl)) HNS.out HPQ.out (by rw [HOP.out]; kernel_rfl) (by rw [HOP.out]; kernel_rfl) (by rw [HOP.out]; rfl) (fun K hK => ?_); apply Exists.intro; refine ⟨fun W hSW => ?_, hK _ ?_⟩; (focus ((try dsimp only at hSW); go_simp; try with_reducible rfl)); clear hK K; (try simp only [Act.put, List.setIfInBounds_toArray, List.set_cons_zero, List.set_cons_succ])
      refine ordT_take RD 18 (at_list (by rw [HOP.out]; rfl)) HNS.out HPQ.out (by rw [HOP.out]; kernel_rfl) (by rw [HOP.out]; kernel_rfl) (by rw [HOP.out]; rfl) (fun K hK => ?_); apply Exists.intro; refine ⟨fun W hSW => ?_, hK _ ?_⟩; (focus ((try dsimp only at hSW); go_simp; try with_reducible rfl)); clear hK K; (try simp only [Act.put, List.setIfInBounds_toArray, List.set_cons_zero, List.set_cons_succ])
      refine ordT_take RD 19 (at_list (by rw [HOP.out]; rfl)) HNS.out HPQ.out (by rw [HOP.out]; kernel_rfl) (by rw [HOP.out]; kernel_rfl) (by rw [HOP.out]; rfl) (fun K hK => ?_); apply Exists.intro; refine ⟨fun W hSW => ?_, hK _ ?_⟩; (focus ((try dsimp only at hSW); have y1 := (rngC (HXP.out _ hSW)).2.1; go_simp; try with_reducible rfl)); clear hK K; (try simp only [Act.put, List.setIfInBounds_toArray, List.set_cons_zero, List.set_cons_succ])
      refine ordT_take RD 20 (at_list (by rw [HOP.out]; rfl)) HNS.out HPQ.out (by rw [HOP.out]; kernel_rfl) (by rw [HOP.out]; kernel_rfl) (by rw [HOP.out]; rfl) (fun K hK => ?_); apply Exists.intro; refine ⟨fun W hSW => ?_, hK _ ?_⟩; (focus ((try dsimp only at hSW); go_simp; try with_reducible rfl)); clear hK K; (try simp only [Act.put, List.setIfInBounds_toArray, List.set_cons_zero, List.set_cons_succ])
      refine ordT_take RD 21 (at_list (by rw [HOP.out]; rfl)) HNS.out HPQ.out (by rw [HOP.out]; kernel_rfl) (by rw [HOP.out]; kernel_rfl) (by rw [HOP.out]; rfl) (fun K hK => ?_); apply Exists.intro; refine ⟨fun W hSW => ?_, hK _ ?_⟩; (focus ((try dsimp only at hSW); go_simp; try with_reducible rfl)); clear hK K; (try simp only [Act.put, List.setIfInBounds_toArray, List.set_cons_zero, List.set_cons_succ])
      refine ordT_take RD 22 (at_list (by rw [HOP.out]; rfl)) HNS.out HPQ.out (by rw [HOP.out]; kernel_rfl) (by rw [HOP.out]; kernel_rfl) (by rw [HOP.out]; rfl) (fun K hK => ?_); apply Exists.intro; refine ⟨fun W hSW => ?_, hK _ ?_⟩; (focus ((try dsimp only at hSW); go_simp; try with_reducible rfl)); clear hK K; (try simp only [Act.put, List.setIfInBounds_toArray, List.set_cons_zero, List.set_cons_succ])
      refine ordT_take RD 23 (at_list (by rw [HOP.out]; rfl)) HNS.out HPQ.out (by rw [HOP.out]; kernel_rfl) (by rw [HOP.out]; kernel_rfl) (by rw [HOP.out]; rfl) (fun K hK => ?_); apply Exists.intro; refine ⟨fun W hSW => ?_, hK _ ?_⟩; (focus ((try dsimp only at hSW); go_simp; try with_reducible rfl)); clear hK K; (try simp only [Act.put, List.setIfInBounds_toArray, List.set_cons_zero, List.set_cons_succ])
      refine ordT_take RD 24 (at_list (by rw [HOP.out]; rfl)) HNS.out HPQ.out (by rw [HOP.out]; kernel_rfl) (by rw [HOP.out]; kernel_rfl) (by rw [HOP.out]; rfl) (fun K hK => ?_); apply Exists.intro; refine ⟨fun W hSW => ?_, hK _ ?_⟩; (focus ((try dsimp only at hSW); have y1 := (rngC (HXP.out _ hSW)).2.1; go_simp; try with_reducible rfl)); clear hK K; (try simp only [Act.put, List.setIfInBounds_toArray, List.set_cons_zero, List.set_cons_succ])
      refine ordT_take RD 25 (at_list (by rw [HOP.out]; rfl)) HNS.out HPQ.out (by rw [HOP.out]; kernel_rfl) (by rw [HOP.out]; kernel_rfl) (by rw [HOP.out]; rfl) (fun K hK => ?_); apply Exists.intro; refine ⟨fun W hSW => ?_, hK _ ?_⟩; (focus ((try dsimp only at hSW); go_simp; try with_reducible rfl)); clear hK K; (try simp only [Act.put, List.setIfInBounds_toArray, List.set_cons_zero, List.set_cons_succ])
      refine ordT_take RD 26 (at_list (by rw [HOP.out]; rfl)) HNS.out HPQ.out (by rw [HOP.out]; kernel_rfl) (by rw [HOP.out]; kernel_rfl) (by rw [HOP.out]; rfl) (fun K hK => ?_); apply Exists.intro; refine ⟨fun W hSW => ?_, hK _ ?_⟩; (focus ((try dsimp only at hSW); go_simp; try with_reducible rfl)); clear hK K; (try simp only [Act.put, List.setIfInBounds_toArray, List.set_cons_zero, List.set_cons_succ])
      refine ordT_take RD 27 (at_list (by rw [HOP.out]; rfl)) HNS.out HPQ.out (by rw [HOP.out]; kernel_rfl) (by rw [HOP.out]; kernel_rfl) (by rw [HOP.out]; rfl) (fun K hK => ?_); apply Exists.intro; refine ⟨fun W hSW => ?_, hK _ ?_⟩; (focus ((try dsimp only at hSW); go_simp; try with_reducible rfl)); clear hK K; (try simp only [Act.put, List.setIfInBounds_toArray, List.set_cons_zero, List.set_cons_succ])
      refine ordT_take RD 28 (at_list (by rw [HOP.out]; rfl)) HNS.out HPQ.out (by rw [HOP.out]; kernel_rfl) (by rw [HOP.out]; kernel_rfl) (by rw [HOP.out]; rfl) (fun K hK => ?_); apply Exists.intro; refine ⟨fun W hSW => ?_, hK _ ?_⟩; (focus ((try dsimp only at hSW); go_simp; try with_reducible rfl)); clear hK K; (try simp only [Act.put, List.setIfInBounds_toArray, List.set_cons_zero, List.set_cons_succ])
      refine ordT_take RD 29 (at_list (by rw [HOP.out]; rfl)) HNS.out HPQ.out (by rw [HOP.out]; kernel_rfl) (by rw [HOP.out]; kernel_rfl) (by rw [HOP.out]; rfl) (fun K hK => ?_); apply Exists.intro; refine ⟨fun W hSW => ?_, hK _ ?_⟩; (focus ((try dsimp only at hSW); have y1 := (rngC (HXP.out _ hSW)).2.2; go_simp; try with_reducible rfl)); clear hK K; (try simp only [Act.put, List.setIfInBounds_toArray, List.set_cons_zero, List.set_cons_succ])
      refine ordT_take RD 30 (at_list (by rw [HOP.out]; rfl)) HNS.out HPQ.out (by rw [HOP.out]; kernel_rfl) (by rw [HOP.out]; kernel_rfl) (by rw [HOP.out]; rfl) (fun K hK => ?_); apply Exists.intro; refine ⟨fun W hSW => ?_, hK _ ?_⟩; (focus ((try dsimp only at hSW); go_simp; try with_reducible rfl)); clear hK K; (try simp only [Act.put, List.setIfInBounds_toArray, List.set_cons_zero, List.set_cons_succ])
      refine ordT_take RD 31 (at_list (by rw [HOP.out]; rfl)) HNS.out HPQ.out (by rw [HOP.out]; kernel_rfl) (by rw [HOP.out]; kernel_rfl) (by rw [HOP.out]; rfl) (fun K hK => ?_); apply Exists.intro; refine ⟨fun W hSW => ?_, hK _ ?_⟩; (focus ((try dsimp only at hSW); have t1 : ((x : Int) + (u : Int)).toNat = x + u := (by omega); have t2 : x + u - x = u := (by omega); have t3 : ¬ rc = x := (by have := HU.out; omega); go_simp; try with_reducible rfl)); clear hK K; (try simp only [Act.put, List.setIfInBounds_toArray, List.set_cons_zero, List.set_cons_succ])
      refine ordT_one RD 5 (by rw [HOP.out]; kernel_rfl) (at_list (by rw [HOP.out]; rfl)) (by rw [HOP.out]; rfl) (fun W1 hWW hSW K hK => ?_); (try dsimp only at hSW)
      go_simp
      refine hK _ _ (mb_bb hSW (mb_new _ _)) ?_
      clear hSW hWW
      clear hK K; (try simp only [Act.put, List.setIfInBounds_toArray, List.set_cons_zero, List.set_cons_succ])
      have HYS : Hid (((rb.drop x).take u).length = u ∧ (∀ z ∈ (rb.drop x).take u, 0 ≤ z ∧ z ≤ 255) ∧ u ≤ 8192) := Lib.hid (by
        have h1 := HMI.out.e
        have h2 := HU.out
        have h3 := HSP.out
        dsimp only at h1 h3
        exact ⟨by rw [List.length_take, List.length_drop]; omega, fun z hz => HMI.out.b z (List.mem_of_mem_drop (List.mem_of_mem_take hz)), by omega⟩)
      refine ordT_one RD 32 (by rw [HOP.out]; kernel_rfl) (at_list (by rw [HOP.out]; rfl)) (by rw [HOP.out]; rfl) (fun W2 hWW hSW K hK => ?_); (try dsimp only at hSW)
      refine spT.op_app0 _ _ rfl (some ⟨_, 0, none⟩) rfl _ _ _ ((rb.drop x).take u) rfl (show _ = u from HYS.out.1) (((show Has .u8 W2 (some ⟨db, dof + x, none⟩) _ from (HMI.out.h.below hSW (Nat.le_refl _)).dropAt x).front u)) HYS.out.2.1 (by have := HYS.out.2.2; omega) ?_
      intro A3 c3 w8 hin3 hdu3 hb3
      have I3 := Lib.hid (And.intro hin3 hdu3)
      refine hK _ _ (mb_bb hSW hb3) ?_
      clear hSW hWW hin3 hdu3 hb3
      clear hK K; (try simp only [Act.put, List.setIfInBounds_toArray, List.set_cons_zero, List.set_cons_succ])
      refine ordT_take RD 33 (at_list (by rw [HOP.out]; rfl)) HNS.out HPQ.out (by rw [HOP.out]; kernel_rfl) (by rw [HOP.out]; kernel_rfl) (by rw [HOP.out]; rfl) (fun K hK => ?_); apply Exists.intro; refine ⟨fun W hSW => ?_, hK _ ?_⟩; (focus ((try dsimp only at hSW); go_simp; try with_reducible rfl)); clear hK K; (try simp only [Act.put, List.setIfInBounds_toArray, List.set_cons_zero, List.set_cons_succ])
      refine ordT_one RD 34 (by rw [HOP.out]; kernel_rfl) (at_list (by rw [HOP.out]; rfl)) (by rw [HOP.out]; rfl) (fun W4 hWW hSW K hK => ?_); (try dsimp only at hSW)
      have I4 := Lib.hid (And.intro (I3.out.1.below hWW (Nat.le_refl _)) (I3.out.2.past hWW))
      go_simp
      have G := mb_new W4 (.cells #[.int .i64 (i : Int), .int .i64 (x : Int), .int .i64 (u : Int), .slice A3 u c3] 59)
      have I5 := Lib.hid (And.intro (I4.out.1.below G (Nat.le_refl _)) (I4.out.2.past G))
      have HLT := Lib.hid (Enc.lit TE W4 [⟨⟨(i : Int), (x : Int), (u : Int)⟩, ⟨A3, u, c3, (rb.drop x).take u⟩⟩] rfl)
      refine hK _ _ (mb_bb hSW G) ?_
      clear hSW hWW I3 I4
      clear hK K; (try simp only [Act.put, List.setIfInBounds_toArray, List.set_cons_zero, List.set_cons_succ])
      generalize hW5 : (W4.alloc (.cells #[.int .i64 (i : Int), .int .i64 (x : Int), .int .i64 (u : Int), .slice A3 u c3] 59)) = w5 at *
      have HLT5 : Hid (TE.Has w5 (some ⟨W4.heap.size, 0, none⟩) [⟨⟨(i : Int), (x : Int), (u : Int)⟩, ⟨A3, u, c3, (rb.drop x).take u⟩⟩]) := Lib.hid (by rw [← hW5]; exact HLT.out)
      clear HLT hW5 G
      refine ordT_end (by rw [HOP.out]; kernel_rfl) (fun W6 hWW hSW => ?_); rw [HOP.out]; simp only [List.drop_succ_cons, List.drop_zero]; have hN := HN.out; clear HOP HNS HPQ HN RD; (try dsimp only at hSW)
      have O6 := Lib.hid (HOW.out.past hSW)
      have L6 := Lib.hid (HLT5.out.past hWW)
      have I6 := Lib.hid (And.intro (I5.out.1.below hWW (Nat.le_refl _)) (I5.out.2.past hWW))
      have J6 := Lib.hid (fun t ht => And.intro ((HIN.out t ht).1.below hSW (Nat.le_refl _)) ((HIN.out t ht).2.1.past hSW))
      have B6 := Lib.hid (mb_bb HACC.out hSW)
      have E6 := Lib.hid (fun t ht => (HIN.out t ht).2.2)
      clear hSW hWW HLT5 I5 HIN HOW HACC
      go_wp2_with (at_builtin; refine Enc.app TE IT (by decide) (by rfl) _ _ rfl w3.heap.size _ ts rfl O6.out ⟨W4.heap.size, 0, none⟩ 1 1 [⟨⟨(i : Int), (x : Int), (u : Int)⟩, ⟨A3, u, c3, (rb.drop x).take u⟩⟩] rfl rfl L6.out (by rw [HTS.out]; have := HK.out; omega) B6.out.size (k + 1) (by rw [HTS.out]) ?_; intro A7 c7 w7 ho7 hg7 hb7)
      go_roundw
      case rel =>
        refine ⟨k + 1, A7, c7, ts ++ [⟨⟨(i : Int), (x : Int), (u : Int)⟩, ⟨A3, u, c3, (rb.drop x).take u⟩⟩], HK.out, by go_num, rfl, by rw [List.length_append, HTS.out]; rfl, ho7, fun t ht => ?_, by rw [List.map_append, HPP.out, HTK.out]; rfl, B6.out.trans hb7⟩
        rcases List.mem_append.1 ht with h | h
        · have := data_grownT (J6.out t h).1 (J6.out t h).2 O6.out hg7
          exact ⟨this.1, this.2, E6.out t h⟩
        · simp only [List.mem_cons, List.not_mem_nil, or_false] at h
          subst h
          have := data_grownT I6.out.1 I6.out.2 O6.out hg7
          exact ⟨this.1, this.2, HCT.out.symm, HOK.out⟩
      case measure => simp [intOf]; have := HK.out; omega
    · have k1 : ¬ (k : Int) < q := by omega
      obtain rfl : k = q := by omega
      clear hk hlt own acc hts hin hpp
      go_wp2_with fail
      go_ret2
      show CtP _ _ _ _ _
      exact ⟨A, k, c, ts, by rw [HP.out.1]; rfl, HTS.out, by omega, HOW.out.has, fun t ht => ⟨(HIN.out t ht).1, (HIN.out t ht).2.2⟩, by rw [HP.out.2, HPP.out]; exact List.take_of_length_le (by rw [HQ.out]; exact Nat.le_refl _), mb_bb B3.out HACC.out⟩
end Go.Proofs.Ythckpenindchlaa.spW
