/- The program's Cut. -/
import Derived.Test.YthckpenindchlaaSpC5
namespace Go.Proofs.Ythckpenindchlaa.spW
set_option maxRecDepth 100000
open Go.RowKit Go.Proofs.Ythckpenindchlaa.base Go.Proofs.Ythckpenindchlaa.mbW
set_option linter.unusedVariables false
set_option linter.unusedSimpArgs false
set_option maxRecDepth 100000
theorem inr_own {w : World} {B n c : Nat} {A : Option Addr} {zs : List Int} (h : OwnZ w B (.slice A n c) zs) (hn : zs.length = n) (hp : 0 < n) (hb : ∀ z ∈ zs, 0 ≤ z ∧ z ≤ 255) : InR w ⟨A, n, c, zs⟩ ∧ (∀ a, A = some a → B ≤ a.block) := by
  rcases h with h | ⟨h, _⟩
  · obtain ⟨A', cap, e, h1, h2, h3⟩ := h.val
    injection e with e1 e2 e3
    subst e1 e3
    refine ⟨⟨h1, hn, by dsimp only; omega, ?_, hb⟩, h3⟩
    rcases h.2 with ⟨e, h0⟩ | ⟨g, cap', cur, e, _, _, _, h4, _⟩
    · omega
    · injection e with _ _ e3
      unfold maxLen at h4; dsimp only; omega
  · subst h; simp at hn; omega
theorem inr_grown {w w' : World} {r : R8} {g : Nat} (h : InR w r) (ha : ∀ a, r.A = some a → a.block ≠ g) (hg : w.grownBy w' (some g)) : InR w' r := by
  refine ⟨?_, h.e, h.c1, h.c2, h.b⟩
  rcases h.h with h0 | ⟨b, off, e, hb, hc⟩
  · exact .inl h0
  · have hne : (some b : Option Nat) ≠ some g := fun x => ha _ e (by injection x)
    exact .inr ⟨b, off, e, Nat.lt_of_lt_of_le hb hg.size, fun i hi => hg.cell (hc i hi) hne⟩
theorem has_grownP {w w' : World} {a off g : Nat} {ps : List Pc} (h : PE.Has w (some ⟨a, off, none⟩) ps) (ha : a ≠ g) (hg : w.grownBy w' (some g)) : PE.Has w' (some ⟨a, off, none⟩) ps := by
  rcases h with h0 | ⟨b, o, e, hb, hc⟩
  · exact .inl h0
  · injection e with e
    injection e with e1 e2
    subst e1 e2
    have hne : (some a : Option Nat) ≠ some g := fun x => ha (by injection x)
    exact .inr ⟨a, off, rfl, Nat.lt_of_lt_of_le hb hg.size, fun i v hv => hg.cell (hc i v hv) hne⟩
theorem snoc_setC (ts : List Pt) (j : Nat) (t : Pt) : (ts ++ List.replicate (j + 1) pt0).set ts.length t = (ts ++ [t]) ++ List.replicate j pt0 := by
  rw [List.set_append_right _ _ (Nat.le_refl _), Nat.sub_self, List.replicate_succ, List.set_cons_zero, List.append_assoc]; rfl
set_option maxHeartbeats 12800000 in
theorem Cut_any (ms : List Mb) (P : Option Addr) (m d : Nat) (b : Int) (w : World) (hR : MemB w P m d ms) (hb1 : -9223372036854775808 ≤ b) (hb2 : b ≤ 9223372036854775807) :
    Calls Try.prog 11 #[.slice P m d, .int .i64 b] w (CtP ms b w) := by
  have HR := Lib.hid hR
  have HL := Lib.hid hR.l
  have HBB := Lib.hid (And.intro hb1 hb2)
  clear hR hb1 hb2
  go_enter Try.func11, Try.ntmps11
  go_wp2_with fail
  refine (Check_any ms P m d w HR.out).mono ?_
  rintro e w1 ⟨rfl, b1⟩
  have B1 := Lib.hid b1
  clear b1
  by_cases hc : ckE ms = 0
  case neg =>
    have HP := Lib.hid (ct_ck b hc)
    have hbn : (ckE ms != 0) = true := by simpa using hc
    generalize ckE ms = v at *
    clear hc
    go_wp2_with fail
    go_ret2
    exact ct_no HP.out B1.out
  have HC := Lib.hid hc
  rw [hc]
  clear hc
  have HCZ := Lib.hid (ck_zero HC.out)
  have m16 : (m : Int) ≤ 16 := by have := HCZ.out; have := HL.out; omega
  have ki := mkI m (by omega)
  go_wp2_with fail
  have B2 := Lib.hid (mb_bb B1.out (mb_new w1 (.cells (iCells m) 3)))
  have O2 := Lib.hid (own_i w1 m (by omega) (Nat.le_refl _) rfl)
  generalize (w1.alloc (.cells (iCells m) 3)) = w2 at *
  obtain ⟨g, hg⟩ : ∃ g, w1.heap.size = g := ⟨_, rfl⟩
  have HG : Hid (w.heap.size ≤ g) := Lib.hid (by rw [← hg]; exact B1.out.size)
  rw [hg] at O2 ⊢
  clear ki hg B1
  have HSM : Hid (fillC 0 (lensM ms) 0 = List.replicate m 0) := Lib.hid (by rw [fillC_zero, lens_len, HL.out])
  go_loopw [25] (fun iv wr => ∃ k : Nat, k ≤ m ∧ iv = .int .i64 (k : Int) ∧ OwnI wr g 3 .i64 (.slice (some ⟨g, 0, none⟩) m m) (fillC 0 (lensM ms) k) ∧ Below w.heap.size w wr) (fun iv _ => m - (intOf iv).toNat)
  case atStart => exact ⟨0, Nat.zero_le _, rfl, by rw [HSM.out]; exact O2.out, B2.out⟩
  case round =>
    clear O2 B2 HSM
    obtain ⟨k, hk, rfl, own, acc⟩ := hrel
    rename World => wr
    have HO := Lib.hid own
    have HACC := Lib.hid acc
    by_cases hlt : k < m
    · obtain ⟨b2, off, rfl, hb⟩ := HR.out.h.some (by rw [HL.out]; omega)
      obtain ⟨x1, x2⟩ := memCell HR.out hlt acc
      have HK := Lib.hid hlt
      have HFS := Lib.hid (fillC_set 0 (xs := lensM ms) (k := k) (by rw [lens_len, HL.out]; exact hlt))
      rw [lens_get ms (by rw [HL.out]; exact hlt)] at HFS
      have k1 : (k : Int) < m := by omega
      have k0 : 0 ≤ (k : Int) := by omega
      generalize ms.getD k mb0 = q at *
      obtain ⟨nm, rA, rn, rc, rb⟩ := q
      dsimp only at x1 x2 HFS
      have G := mb_new wr (.cells #[.string nm, .slice rA rn rc] 53)
      have O1 := Lib.hid (HO.out.below G (Nat.le_refl _))
      have BX := Lib.hid (mb_bb HACC.out G)
      have HLn : Hid ((fillC 0 (lensM ms) k).length = m) := Lib.hid (by unfold fillC; rw [List.length_append, List.length_take, List.length_replicate, lens_len, HL.out]; omega)
      have hcl := O1.out.cell k (by rw [HLn.out]; exact hlt)
      have hfz := O1.out.frozen k
      have ltg := O1.out.base_le.2
      clear hk hlt own acc hb G HO
      go_wp2_with fail
      clear x1 x2
      generalize (wr.alloc (.cells #[.string nm, .slice rA rn rc] 53)) = w5 at *
      go_roundw
      case rel => exact ⟨k + 1, HK.out, by go_num, by rw [← HFS.out]; exact O1.out.store k _, BX.out.setCell HG.out _⟩
      case measure => simp [intOf]; have := HK.out; omega
    · have k1 : ¬ (k : Int) < m := by omega
      have HZ : Hid (ZsB wr (some ⟨g, 0, none⟩) m m (lensM ms)) := Lib.hid (zs_own (by rw [fillC_all 0 (by rw [lens_len, HL.out]; omega)] at own; exact own) (lens_bounds HR.out))
      clear hk hlt own acc
      go_wp2_with fail
      refine (Pieces_any (lensM ms) (some ⟨g, 0, none⟩) m m b wr HZ.out HBB.out.1 HBB.out.2).mono ?_
      rintro e w3 ⟨X, q, xc, rfl, hq, ho, b3⟩
      have B3 := Lib.hid (mb_bb HACC.out b3)
      clear b3
      rcases hbl : blB b with _ | _
      · have HP := Lib.hid (ct_bl HC.out hbl)
        rw [(pie_bl (sz_lens HC.out) hbl).1]
        clear hbl hq ho
        go_wp2_with fail
        go_ret2
        exact ct_no HP.out B3.out
      have HP := Lib.hid (ct_ok HC.out hbl)
      rw [HL.out] at HP
      have HPI := pie_ok (sz_lens HC.out) hbl
      rw [lens_len, HL.out] at HPI
      rw [HPI.1]
      rw [HPI.2] at hq ho
      have HW := Lib.hid (pcs_wi (zs := lensM ms) hbl m (by rw [lens_len, HL.out]; exact Nat.le_refl _))
      have HSP := Lib.hid (pcs_small (sz_lens HC.out) ((blB_iff b).1 hbl).1 (k := m) (by rw [lens_len, HL.out]; exact Nat.le_refl _))
      clear hbl HPI
      generalize pcsT (lensM ms) b m = ps at *
      have HQ := Lib.hid hq
      have HO := Lib.hid ho
      have q9 : (q : Int) ≤ 527 := by have := HSP.out; omega
      have kp := mkP q (by omega)
      clear hq ho
      go_wp2_with fail
      have B4 := Lib.hid (mb_bb B3.out (mb_new w3 (.cells (tCellsC q) 59)))
      have O4 := Lib.hid (own_p w3 q (by omega) (Nat.le_refl _) rfl)
      have HO4 := Lib.hid (HO.out.has.past (mb_new w3 (.cells (tCellsC q) 59)))
      have HSPT : Hid (0 < q → ∃ a, X = some ⟨a, 0, none⟩ ∧ a < w3.heap.size) := Lib.hid (fun h => by obtain ⟨a, e, _, h2⟩ := HO.out.spot h; exact ⟨a, e, h2⟩)
      generalize (w3.alloc (.cells (tCellsC q) 59)) = w4 at *
      obtain ⟨gp, hgp⟩ : ∃ gp, w3.heap.size = gp := ⟨_, rfl⟩
      have HGP : Hid (w.heap.size ≤ gp) := Lib.hid (by rw [← hgp]; exact B3.out.size)
      rw [hgp] at O4 HSPT ⊢
      clear kp hgp B3 HO HZ HACC
      go_loopw [51] (fun iv wq => ∃ (k : Nat) (ts : List Pt), k ≤ q ∧ iv = .int .i64 (k : Int) ∧ ts.length = k ∧ TE.Own wq gp (.slice (some ⟨gp, 0, none⟩) q q) (ts ++ List.replicate (q - k) pt0) ∧ (∀ t ∈ ts, InR wq t.r ∧ (∀ a, t.r.A = some a → a.block ≠ gp) ∧ t.r.b = cutB ms t.p ∧ PcOk t.p) ∧ ts.map (·.p) = ps.take k ∧ gp < wq.heap.size ∧ PE.Has wq X ps ∧ Below w.heap.size w wq) (fun iv _ => q - (intOf iv).toNat)
      case atStart => exact ⟨0, [], Nat.zero_le _, rfl, rfl, by simpa using O4.out, by simp, rfl, (World.ownsRow.lt O4.out gp rfl).2, HO4.out, B4.out⟩
      case round =>
        clear O4 B4 HO4
        obtain ⟨k, ts, hk, rfl, hts, own, hin, hpp, hgw, hps, acc⟩ := hrel
        rename World => wr
        have HOW := Lib.hid own
        have HTS := Lib.hid hts
        have HIN := Lib.hid hin
        have HPP := Lib.hid hpp
        have HGW := Lib.hid hgw
        have HPS := Lib.hid hps
        have BR := Lib.hid acc
        by_cases hlt : k < q
        · obtain ⟨gx, rfl, hgx⟩ := HSPT.out (by omega)
          have HGX := Lib.hid hgx
          clear hgx
          have hkp : k < ps.length := by rw [← HQ.out]; exact hlt
          have hmem : ps.getD k pc0 ∈ ps := by rw [List.getD_eq_getElem?_getD, List.getElem?_eq_getElem hkp]; exact List.getElem_mem _
          have hwi := HW.out _ hmem
          have HSM := Lib.hid (wi_smallC (sz_lens HC.out) hwi)
          have HOK := Lib.hid (ok_smallC HSM.out)
          have HRG : Hid (wr.rangeAt gx (k * 3) (pcE (ps.getD k pc0))) := Lib.hid (by have := hps.rng (i := k) hkp; rw [Nat.zero_add] at this; exact this)
          have HTK : Hid (ps.take (k + 1) = ps.take k ++ [ps.getD k pc0]) := Lib.hid (by rw [List.take_add_one, List.getD_eq_getElem?_getD, List.getElem?_eq_getElem hkp]; rfl)
          have HCT : Hid (cutB ms (ps.getD k pc0) = (((ms.getD (ps.getD k pc0).m.toNat mb0).r.b.drop (ps.getD k pc0).o.toNat).take (ps.getD k pc0).r.toNat)) := Lib.hid rfl
          generalize ps.getD k pc0 = p at *
          obtain ⟨pm, po, pr⟩ := p
          obtain ⟨w1', w2', w3', w4', w5', w6'⟩ := hwi
          dsimp only at w1' w2' w3' w4' w5' w6' HCT HSM
          obtain ⟨i, rfl⟩ : ∃ i : Nat, pm = (i : Int) := ⟨pm.toNat, by omega⟩
          obtain ⟨x, rfl⟩ : ∃ x : Nat, po = (x : Int) := ⟨po.toNat, by omega⟩
          obtain ⟨u, rfl⟩ : ∃ u : Nat, pr = (u : Int) := ⟨pr.toNat, by omega⟩
          have him : i < m := by rw [lens_len, HL.out] at w2'; omega
          rw [show ((i : Int)).toNat = i by omega, lens_get ms (by rw [HL.out]; exact him)] at w5' w6'
          rw [show ((i : Int)).toNat = i by omega, show ((x : Int)).toNat = x by omega, show ((u : Int)).toNat = u by omega] at HCT
          obtain ⟨b2, off2, rfl, hb2⟩ := HR.out.h.some (by rw [HL.out]; omega)
          have G := mb_new wr (.cells #[.int .i64 (i : Int), .int .i64 (x : Int), .int .i64 (u : Int)] 46)
          have BX := Lib.hid (mb_bb BR.out G)
          have L1 := Lib.hid (Lies.fresh wr 46 [.int .i64 (i : Int), .int .i64 (x : Int), .int .i64 (u : Int)])
          have HLP := Lib.hid (Enc.lit PE wr [⟨(i : Int), (x : Int), (u : Int)⟩] rfl)
          have HCE := Lib.hid (fun x' (h : Below w.heap.size w x') => memCell HR.out him h)
          have HMI := Lib.hid (memIn HR.out him)
          generalize ms.getD i mb0 = y at *
          obtain ⟨nm, rA, rn, rc, rb⟩ := y
          dsimp only at HCE HMI HCT w5' w6'
          obtain ⟨db, dof, rfl, hdb, -⟩ := has_some HMI.out.h (by have := HMI.out.e; dsimp only at this ⊢; omega)
          have c1 := HMI.out.c1
          have c2 := HMI.out.c2
          dsimp only at c1 c2
          have k1 : (k : Int) < q := by omega
          have k0 : 0 ≤ (k : Int) := by omega
          have i1 : (i : Int) < m := by omega
          have i0 : 0 ≤ (i : Int) := by omega
          have u1 : (x : Int) + u ≤ rc := by omega
          have u2 : (x : Int) ≤ (x : Int) + u := by omega
          have u3 : 0 ≤ (x : Int) := by omega
          have hsum : IntKind.i64.wrap ((x : Int) + (u : Int)) = (x : Int) + u := by rw [IntKind.wrap_i64]; omega
          have HU := Lib.hid (And.intro w4' (And.intro w5' w6'))
          have HK := Lib.hid hlt
          have OX := Lib.hid (own.past G)
          have IX := Lib.hid (fun t ht => (HIN.out t ht).1.below G (Nat.le_refl _))
          have PX := Lib.hid (hps.past G)
          clear hk hlt own acc hts hin hpp hps hgw hkp hmem w1' w2' w3' w4' w5' w6' him hb2 hdb HOW HPS G
          go_upto_region 17 with (show wpList _ _ _ ({ dst := _, op := Op.load 46 _, type := _, pos := _, after := _, guard := _ } :: _) _ _; go_must (refine wp_ldP ((i : Int)) ((x : Int)) ((u : Int)) (by rfl) _ rfl (HRG.out) rfl ?_))
          generalize hw5 : (wr.alloc (.cells #[.int .i64 (i : Int), .int .i64 (x : Int), .int .i64 (u : Int)] 46)) = w5 at *
          have HLP5 : Hid (PE.Has w5 (some ⟨wr.heap.size, 0, none⟩) [⟨(i : Int), (x : Int), (u : Int)⟩]) := Lib.hid (by rw [← hw5]; exact HLP.out)
          have LX : Hid (wr.heap.size < w5.heap.size) := Lib.hid L1.out.lt
          have HGZ : Hid (gp < wr.heap.size) := HGW
          obtain ⟨z, hz⟩ : ∃ z, wr.heap.size = z := ⟨_, rfl⟩
          rw [hz] at HLP5 LX HGZ ⊢
          clear hw5 HLP L1 hz HGW
          have HXP : Hid (∀ x', Below w5.heap.size w5 x' → x'.rangeAt z 0 (pcE ⟨(i : Int), (x : Int), (u : Int)⟩)) := Lib.hid (fun x' h => (HLP5.out.past h).rng (i := 0) (Nat.succ_pos _))
          (have RD := grows_roads (S := fun x' => Below w5.heap.size w5 x') (fun a b h1 h2 => h2.trans (h1.mono h2.size))); refine region_ordT 20 _ Grows RD (Below.drew (Below.refl _ _)) (by kernel_rfl) (by decide) ?_; intro ops Q' hops hPQ hN; (have HNS : Hid (Region.noSelect ops = true ∧ Region.sinkB .any ops 20 = true ∧ Region.chainB .any ops 20 = true ∧ 20 < ops.size) := Lib.hid (by rw [hops]; exact ⟨by kernel_rfl, by kernel_rfl, by kernel_rfl, by decide⟩)); (have hsz : ops.size = 21 := (by rw [hops]; rfl)); have HOP := Lib.hid hops; have HPQ := Lib.hid hPQ; have HN := Lib.hid hN; rw [hsz]; clear hops hsz hPQ hN
          refine ordT_take RD 0 (at_list (by rw [HOP.out]; rfl)) HNS.out HPQ.out (by rw [HOP.out]; kernel_rfl) (by rw [HOP.out]; kernel_rfl) (by rw [HOP.out]; rfl) (fun K hK => ?_); apply Exists.intro; refine ⟨fun W hSW => ?_, hK _ ?_⟩; (focus ((try dsimp only at hSW); go_simp; try with_reducible rfl)); clear hK K; (try simp only [Act.put, List.setIfInBounds_toArray, List.set_cons_zero, List.set_cons_succ])
          refine ordT_take RD 1 (at_list (by rw [HOP.out]; rfl)) HNS.out HPQ.out (by rw [HOP.out]; kernel_rfl) (by rw [HOP.out]; kernel_rfl) (by rw [HOP.out]; rfl) (fun K hK => ?_); apply Exists.intro; refine ⟨fun W hSW => ?_, hK _ ?_⟩; (focus ((try dsimp only at hSW); go_simp; try with_reducible rfl)); clear hK K; (try simp only [Act.put, List.setIfInBounds_toArray, List.set_cons_zero, List.set_cons_succ])
          refine ordT_take RD 2 (at_list (by rw [HOP.out]; rfl)) HNS.out HPQ.out (by rw [HOP.out]; kernel_rfl) (by rw [HOP.out]; kernel_rfl) (by rw [HOP.out]; rfl) (fun K hK => ?_); apply Exists.intro; refine ⟨fun W hSW => ?_, hK _ ?_⟩; (focus ((try dsimp only at hSW); exact quiet_ldP ((i : Int)) ((x : Int)) ((u : Int)) _ rfl (HXP.out _ hSW) rfl)); clear hK K; (try simp only [Act.put, List.setIfInBounds_toArray, List.set_cons_zero, List.set_cons_succ])
          refine ordT_take RD 3 (at_list (by rw [HOP.out]; rfl)) HNS.out HPQ.out (by rw [HOP.out]; kernel_rfl) (by rw [HOP.out]; kernel_rfl) (by rw [HOP.out]; rfl) (fun K hK => ?_); apply Exists.intro; refine ⟨fun W hSW => ?_, hK _ ?_⟩; (focus ((try dsimp only at hSW); go_simp; try with_reducible rfl)); clear hK K; (try simp only [Act.put, List.setIfInBounds_toArray, List.set_cons_zero, List.set_cons_succ])
          refine ordT_take RD 4 (at_list (by rw [HOP.out]; rfl)) HNS.out HPQ.out (by rw [HOP.out]; kernel_rfl) (by rw [HOP.out]; kernel_rfl) (by rw [HOP.out]; rfl) (fun K hK => ?_); apply Exists.intro; refine ⟨fun W hSW => ?_, hK _ ?_⟩; (focus ((try dsimp only at hSW); go_simp; try with_reducible rfl)); clear hK K; (try simp only [Act.put, List.setIfInBounds_toArray, List.set_cons_zero, List.set_cons_succ])
          refine ordT_take RD 5 (at_list (by rw [HOP.out]; rfl)) HNS.out HPQ.out (by rw [HOP.out]; kernel_rfl) (by rw [HOP.out]; kernel_rfl) (by rw [HOP.out]; rfl) (fun K hK => ?_); apply Exists.intro; refine ⟨fun W hSW => ?_, hK _ ?_⟩; (focus ((try dsimp only at hSW); have y1 := (rngC (HXP.out _ hSW)).1; go_simp; try with_reducible rfl)); clear hK K; (try simp only [Act.put, List.setIfInBounds_toArray, List.set_cons_zero, List.set_cons_succ])
          refine ordT_take RD 6 (at_list (by rw [HOP.out]; rfl)) HNS.out HPQ.out (by rw [HOP.out]; kernel_rfl) (by rw [HOP.out]; kernel_rfl) (by rw [HOP.out]; rfl) (fun K hK => ?_); apply Exists.intro; refine ⟨fun W hSW => ?_, hK _ ?_⟩; (focus ((try dsimp only at hSW); go_simp; try with_reducible rfl)); clear hK K; (try simp only [Act.put, List.setIfInBounds_toArray, List.set_cons_zero, List.set_cons_succ])
          refine ordT_take RD 7 (at_list (by rw [HOP.out]; rfl)) HNS.out HPQ.out (by rw [HOP.out]; kernel_rfl) (by rw [HOP.out]; kernel_rfl) (by rw [HOP.out]; rfl) (fun K hK => ?_); apply Exists.intro; refine ⟨fun W hSW => ?_, hK _ ?_⟩; (focus ((try dsimp only at hSW); go_simp; try with_reducible rfl)); clear hK K; (try simp only [Act.put, List.setIfInBounds_toArray, List.set_cons_zero, List.set_cons_succ])
          refine ordT_take RD 8 (at_list (by rw [HOP.out]; rfl)) HNS.out HPQ.out (by rw [HOP.out]; kernel_rfl) (by rw [HOP.out]; kernel_rfl) (by rw [HOP.out]; rfl) (fun K hK => ?_); apply Exists.intro; refine ⟨fun W hSW => ?_, hK _ ?_⟩; (focus ((try dsimp only at hSW); have y1 := (HCE.out _ (mb_bb BX.out hSW)).2; go_simp; try with_reducible rfl)); clear hK K; (try simp only [Act.put, List.setIfInBounds_toArray, List.set_cons_zero, List.set_cons_succ])
          refine ordT_take RD 9 (at_list (by rw [HOP.out]; rfl)) HNS.out HPQ.out (by rw [HOP.out]; kernel_rfl) (by rw [HOP.out]; kernel_rfl) (by rw [HOP.out]; rfl) (fun K hK => ?_); apply Exists.intro; refine ⟨fun W hSW => ?_, hK _ ?_⟩; (focus ((try dsimp only at hSW); go_simp; try with_reducible rfl)); clear hK K; (try simp only [Act.put, List.setIfInBounds_toArray, List.set_cons_zero, List.set_cons_succ])
          refine ordT_take RD 10 (at_list (by rw [HOP.out]; rfl)) HNS.out HPQ.out (by rw [HOP.out]; kernel_rfl) (by rw [HOP.out]; kernel_rfl) (by rw [HOP.out]; rfl) (fun K hK => ?_); apply Exists.intro; refine ⟨fun W hSW => ?_, hK _ ?_⟩; (focus ((try dsimp only at hSW); have y1 := (rngC (HXP.out _ hSW)).2.1; go_simp; try with_reducible rfl)); clear hK K; (try simp only [Act.put, List.setIfInBounds_toArray, List.set_cons_zero, List.set_cons_succ])
          refine ordT_take RD 11 (at_list (by rw [HOP.out]; rfl)) HNS.out HPQ.out (by rw [HOP.out]; kernel_rfl) (by rw [HOP.out]; kernel_rfl) (by rw [HOP.out]; rfl) (fun K hK => ?_); apply Exists.intro; refine ⟨fun W hSW => ?_, hK _ ?_⟩; (focus ((try dsimp only at hSW); go_simp; try with_reducible rfl)); clear hK K; (try simp only [Act.put, List.setIfInBounds_toArray, List.set_cons_zero, List.set_cons_succ])
          refine ordT_take RD 12 (at_list (by rw [HOP.out]; rfl)) HNS.out HPQ.out (by rw [HOP.out]; kernel_rfl) (by rw [HOP.out]; kernel_rfl) (by rw [HOP.out]; rfl) (fun K hK => ?_); apply Exists.intro; refine ⟨fun W hSW => ?_, hK _ ?_⟩; (focus ((try dsimp only at hSW); have y1 := (rngC (HXP.out _ hSW)).2.1; go_simp; try with_reducible rfl)); clear hK K; (try simp only [Act.put, List.setIfInBounds_toArray, List.set_cons_zero, List.set_cons_succ])
          refine ordT_take RD 13 (at_list (by rw [HOP.out]; rfl)) HNS.out HPQ.out (by rw [HOP.out]; kernel_rfl) (by rw [HOP.out]; kernel_rfl) (by rw [HOP.out]; rfl) (fun K hK => ?_); apply Exists.intro; refine ⟨fun W hSW => ?_, hK _ ?_⟩; (focus ((try dsimp only at hSW); go_simp; try with_reducible rfl)); clear hK K; (try simp only [Act.put, List.setIfInBounds_toArray, List.set_cons_zero, List.set_cons_succ])
          refine ordT_take RD 14 (at_list (by rw [HOP.out]; rfl)) HNS.out HPQ.out (by rw [HOP.out]; kernel_rfl) (by rw [HOP.out]; kernel_rfl) (by rw [HOP.out]; rfl) (fun K hK => ?_); apply Exists.intro; refine ⟨fun W hSW => ?_, hK _ ?_⟩; (focus ((try dsimp only at hSW); have y1 := (rngC (HXP.out _ hSW)).2.2; go_simp; try with_reducible rfl)); clear hK K; (try simp only [Act.put, List.setIfInBounds_toArray, List.set_cons_zero, List.set_cons_succ])
          refine ordT_take RD 15 (at_list (by rw [HOP.out]; rfl)) HNS.out HPQ.out (by rw [HOP.out]; kernel_rfl) (by rw [HOP.out]; kernel_rfl) (by rw [HOP.out]; rfl) (fun K hK => ?_); apply Exists.intro; refine ⟨fun W hSW => ?_, hK _ ?_⟩; (focus ((try dsimp only at hSW); go_simp; try with_reducible rfl)); clear hK K; (try simp only [Act.put, List.setIfInBounds_toArray, List.set_cons_zero, List.set_cons_succ])
          refine ordT_take RD 16 (at_list (by rw [HOP.out]; rfl)) HNS.out HPQ.out (by rw [HOP.out]; kernel_rfl) (by rw [HOP.out]; kernel_rfl) (by rw [HOP.out]; rfl) (fun K hK => ?_); apply Exists.intro; refine ⟨fun W hSW => ?_, hK _ ?_⟩; (focus ((try dsimp only at hSW); have t1 : ((x : Int) + (u : Int)).toNat = x + u := (by omega); have t2 : x + u - x = u := (by omega); have t3 : ¬ rc = x := (by have := HU.out; omega); go_simp; try with_reducible rfl)); clear hK K; (try simp only [Act.put, List.setIfInBounds_toArray, List.set_cons_zero, List.set_cons_succ])
          refine ordT_one RD 17 (by rw [HOP.out]; kernel_rfl) (at_list (by rw [HOP.out]; rfl)) (by rw [HOP.out]; rfl) (fun W2 hWW hSW K hK => ?_); (try dsimp only at hSW)
          go_simp
          have HYS : Hid (((rb.drop x).take u).length = u ∧ (∀ z ∈ (rb.drop x).take u, 0 ≤ z ∧ z ≤ 255) ∧ u ≤ 8192) := Lib.hid (by
            have h1 := HMI.out.e
            have h2 := HU.out
            have h3 := HSM.out
            dsimp only at h1
            exact ⟨by rw [List.length_take, List.length_drop]; omega, fun z hz => HMI.out.b z (List.mem_of_mem_drop (List.mem_of_mem_take hz)), by omega⟩)
          refine (Clone8 (A := some ⟨db, dof + x, none⟩) (n := u) (c := rc - x) (zs := (rb.drop x).take u) (((HMI.out.h.below (mb_bb BX.out hSW) (Nat.le_refl _)).dropAt x).front u) HYS.out.1 (by omega) (by have := HYS.out.2.2; omega)).mono ?_
          rintro e w8 ⟨A3, c3, rfl, h8, ho8, hb8⟩
          have I3 : Hid (InR w8 ⟨A3, u, c3, (rb.drop x).take u⟩ ∧ (∀ a, A3 = some a → a.block ≠ gp)) := Lib.hid (by
            have h1 := inr_own ho8 HYS.out.1 (by have := HU.out; omega) HYS.out.2.1
            refine ⟨h1.1, fun a e => ?_⟩
            have h2 := h1.2 a e
            have h3 := hSW.size
            have h4 := LX.out
            have h5 := HGZ.out
            omega)
          refine hK _ _ (mb_bb hSW hb8) ?_
          clear hSW hWW h8 ho8 hb8
          clear hK K; (try simp only [Act.put, List.setIfInBounds_toArray, List.set_cons_zero, List.set_cons_succ])
          refine ordT_take RD 18 (at_list (by rw [HOP.out]; rfl)) HNS.out HPQ.out (by rw [HOP.out]; kernel_rfl) (by rw [HOP.out]; kernel_rfl) (by rw [HOP.out]; rfl) (fun K hK => ?_); apply Exists.intro; refine ⟨fun W hSW => ?_, hK _ ?_⟩; (focus ((try dsimp only at hSW); go_simp; try with_reducible rfl)); clear hK K; (try simp only [Act.put, List.setIfInBounds_toArray, List.set_cons_zero, List.set_cons_succ])
          refine ordT_take RD 19 (at_list (by rw [HOP.out]; rfl)) HNS.out HPQ.out (by rw [HOP.out]; kernel_rfl) (by rw [HOP.out]; kernel_rfl) (by rw [HOP.out]; rfl) (fun K hK => ?_); apply Exists.intro; refine ⟨fun W hSW => ?_, hK _ ?_⟩; (focus ((try dsimp only at hSW); go_simp; try with_reducible rfl)); clear hK K; (try simp only [Act.put, List.setIfInBounds_toArray, List.set_cons_zero, List.set_cons_succ])
          refine ordT_end (by rw [HOP.out]; kernel_rfl) (fun W6 hWW hSW => ?_); rw [HOP.out]; simp only [List.drop_succ_cons, List.drop_zero]; have hN := HN.out; clear HOP HNS HPQ HN RD; (try dsimp only at hSW)
          have O6 := Lib.hid (OX.out.past hSW)
          have I6 := Lib.hid (I3.out.1.below hWW (Nat.le_refl _))
          have J6 := Lib.hid (fun t ht => (IX.out t ht).below hSW (Nat.le_refl _))
          have P6 := Lib.hid (PX.out.past hSW)
          have B6 := Lib.hid (mb_bb BX.out hSW)
          clear hSW hWW OX IX PX BX
          go_wp2_with (refine Enc.wp_se TE (B := gp) (g := gp) (n := q) (c := q) (i := k) (xs := ts ++ List.replicate (q - k) pt0) (x := ⟨⟨(i : Int), (x : Int), (u : Int)⟩, ⟨A3, u, c3, (rb.drop x).take u⟩⟩) infoT4 (by rfl) _ _ rfl O6.out HK.out rfl rfl ?_; intro w9 ho9 hg9 hb9 hz9)
          go_roundw
          case rel =>
            have hset : (ts ++ List.replicate (q - k) pt0).set k ⟨⟨(i : Int), (x : Int), (u : Int)⟩, ⟨A3, u, c3, (rb.drop x).take u⟩⟩ = (ts ++ [⟨⟨(i : Int), (x : Int), (u : Int)⟩, ⟨A3, u, c3, (rb.drop x).take u⟩⟩]) ++ List.replicate (q - (k + 1)) pt0 := by
              have h1 := HTS.out
              have h2 := HK.out
              rw [show q - k = (q - (k + 1)) + 1 by omega]
              subst h1
              exact snoc_setC _ _ _
            refine ⟨k + 1, ts ++ [⟨⟨(i : Int), (x : Int), (u : Int)⟩, ⟨A3, u, c3, (rb.drop x).take u⟩⟩], HK.out, by go_num, by rw [List.length_append, HTS.out]; rfl, by rw [← hset]; exact ho9, fun t ht => ?_, by rw [List.map_append, HPP.out, HTK.out]; rfl, (World.ownsRow.lt ho9 gp rfl).2, has_grownP P6.out (by have := HGX.out; omega) hg9, B6.out.trans (hb9.mono HGP.out)⟩
            rcases List.mem_append.1 ht with h | h
            · have h2 := (HIN.out t h).2
              exact ⟨inr_grown (J6.out t h) h2.1 hg9, h2⟩
            · simp only [List.mem_cons, List.not_mem_nil, or_false] at h
              subst h
              exact ⟨inr_grown I6.out I3.out.2 hg9, I3.out.2, HCT.out.symm, HOK.out⟩
          case measure => simp [intOf]; have := HK.out; omega
        · have k1 : ¬ (k : Int) < q := by omega
          obtain rfl : k = q := by omega
          have hl : ts ++ List.replicate (k - k) pt0 = ts := by rw [Nat.sub_self]; simp
          rw [hl] at own
          have HOF := Lib.hid own
          clear hk hlt own acc hts hin hpp hps hgw hl
          go_wp2_with fail
          go_ret2
          show CtP _ _ _ _ _
          exact ⟨some ⟨gp, 0, none⟩, k, k, ts, by rw [HP.out.1]; rfl, HTS.out, by omega, HOF.out.has, fun t ht => ⟨(HIN.out t ht).1, (HIN.out t ht).2.2⟩, by rw [HP.out.2, HPP.out]; exact List.take_of_length_le (by rw [HQ.out]; exact Nat.le_refl _), BR.out⟩
end Go.Proofs.Ythckpenindchlaa.spW
