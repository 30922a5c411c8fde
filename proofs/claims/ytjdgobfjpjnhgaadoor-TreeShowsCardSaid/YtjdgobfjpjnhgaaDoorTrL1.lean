/- TreeShows, by a walk. -/
import Derived.Test.YtjdgobfjpjnhgaaDoorTrB
namespace Go.Proofs.YtjdgobfjpjnhgaaDoor.trW
set_option maxRecDepth 100000
open Go.RowKit Go.Proofs.YtjdgobfjpjnhgaaDoor.base Go.Proofs.YtjdgobfjpjnhgaaDoor.shP Go.Proofs.YtjdgobfjpjnhgaaDoor.shW Go.Proofs.YtjdgobfjpjnhgaaDoor.trP
set_option linter.unusedVariables false
set_option linter.unusedSimpArgs false
set_option maxRecDepth 100000
set_option maxHeartbeats 8000000 in
theorem shows (P : Option Addr) (m d : Nat) (rs : List R8) (i : Int) (a : Option Addr) (len cap : Nat) (z : List Int) (w : World) (hr : RowsB w P m d rs) (hi1 : -9223372036854775808 ≤ i) (hi2 : i ≤ 9223372036854775807) (hz : IsRow .u8 w a len cap z) (hT : Tab w) :
    Calls Tryd.prog 6 #[.slice P m d, .int .i64 i, .slice a len cap] w fun e w' => e = .returned (.bool true) ∧ Below w.heap.size w w' := by
  have hin := inr_of hz
  obtain ⟨p, hp⟩ : ∃ p, z.take len = p := ⟨_, rfl⟩
  rw [hp] at hin
  have HIN := Lib.hid hin
  have HR := Lib.hid hr
  have HT := Lib.hid hT
  have m1 : (m : Int) ≤ 9223372036854775807 := by have := hr.c1; have := hr.c2; omega
  have l1 : (len : Int) ≤ 9223372036854775807 := by have h1 := hin.c1; have h2 := hin.c2; dsimp only at h1 h2; omega
  have HI := Lib.hid (And.intro hi1 hi2)
  have B := Lib.hid (Below.refl w.heap.size w)
  clear hz hp hin hr z hT
  go_enter Tryd.func6, Tryd.ntmps6
  go_wp2_with fail
  refine (alive_yes w HT.out).mono ?_
  rintro e w1 ⟨rfl, b⟩
  replace B := Lib.hid (bb B.out b)
  clear b
  go_wp2_with fail
  refine (fit_any P m d rs w1 (HR.out.below B.out (Nat.le_refl _))).mono ?_
  rintro e _ ⟨⟨b, rfl, hb⟩, rfl⟩
  rename World => w1
  cases b
  case false =>
    go_wp2_with fail
    go_ret
    exact ⟨rfl, B.out⟩
  have HF := Lib.hid (hb rfl)
  clear hb
  by_cases c1 : i < 0
  · go_wp2_with fail
    go_ret
    exact ⟨rfl, B.out⟩
  by_cases c2 : (m : Int) ≤ i
  · go_wp2_with fail
    go_ret
    exact ⟨rfl, B.out⟩
  by_cases c3 : 200 < (len : Int)
  · go_wp2_with fail
    go_ret
    exact ⟨rfl, B.out⟩
  obtain ⟨I, rfl⟩ := Int.eq_ofNat_of_zero_le (by omega : 0 ≤ i)
  have HIM : Hid (I < m) := Lib.hid (by omega)
  have l200 : (len : Int) ≤ 200 := by omega
  have HLP : Hid (len ≤ 200) := Lib.hid (by omega)
  have i0 : 0 ≤ (I : Int) := by omega
  have i1 : (I : Int) < m := by omega
  have m20 : (m : Int) ≤ 20 := by have := HF.out.1; omega
  have HCH := Lib.hid (fit_ch HR.out HF.out)
  have HRL := Lib.hid HR.out.l
  have HVL : Hid ((lvs rs).length = m) := Lib.hid (by rw [lvs_len, HRL.out])
  obtain ⟨b, off, rfl, _, _⟩ := HR.out.h.some (by rw [HRL.out]; have := HIM.out; omega)
  have HII := Lib.hid (HR.out.h.get I (by rw [HRL.out]; exact HIM.out))
  have HCF := Lib.hid (fun w' hb => rowCell HR.out I HIM.out w' hb)
  have V0 : Hid (rtV rs = rtD (lvs rs) ∧ chE rs = 0) := Lib.hid ⟨rtV_yes HCH.out, chE_yes HCH.out⟩
  have V1 := Lib.hid (pr_in (i := (I : Int)) HCH.out ⟨by omega, by rw [HRL.out]; omega⟩)
  rw [show ((I : Int)).toNat = I from rfl] at V1
  have V2 := Lib.hid (ver_yes HRL.out HCH.out HIM.out)
  have V3 := Lib.hid (way_len (q := (prD (lvs rs) I).length) HVL.out HIM.out (by omega) rfl)
  have V4 := Lib.hid (up_prD HVL.out HIM.out (by omega) (leafD p))
  have V5 := Lib.hid (prD_set HVL.out HIM.out (leafD p))
  have V6 : Hid (rtV (rs.set I ⟨a, len, cap, p⟩) = rtD ((lvs rs).set I (leafD p)) ∧ chE (rs.set I ⟨a, len, cap, p⟩) = 0) := Lib.hid (by have h := ch_set HCH.out I (r := ⟨a, len, cap, p⟩) (by show p.length ≤ 10000; have := HIN.out.e; dsimp only at this; omega); exact ⟨by rw [rtV_yes h, lvs_set], chE_yes h⟩)
  have V7 := Lib.hid (pr_in (rs := rs.set I ⟨a, len, cap, p⟩) (i := (I : Int)) (ch_set HCH.out I (by show p.length ≤ 10000; have := HIN.out.e; dsimp only at this; omega)) ⟨by omega, by rw [List.length_set, HRL.out]; omega⟩)
  rw [show ((I : Int)).toNat = I from rfl, lvs_set] at V7
  have V8 := Lib.hid (lf_yes (b := p) (by have := HIN.out.e; dsimp only at this; omega))
  have HQ := Lib.hid (prD_le (ls := lvs rs) (by rw [HVL.out]; omega) I)
  have HAD := Lib.hid (prD_all (lvs_all rs) I)
  generalize hrI : rs.getD I r80 = rI at *
  obtain ⟨rA, rn, rc, rb⟩ := rI
  have HRI := Lib.hid hrI
  dsimp only at HII HCF V2
  clear hrI
  obtain ⟨xr, qr⟩ : ∃ x, rtD (lvs rs) = x := ⟨_, rfl⟩
  have H_xr : Hid (IsD xr) := Lib.hid (by rw [← qr]; exact rt_isD _ _ rfl (lvs_all rs))
  obtain ⟨xo, qo⟩ : ∃ x, leafD p = x := ⟨_, rfl⟩
  have H_xo : Hid (IsD xo) := Lib.hid (by rw [← qo]; exact leaf_isD _)
  rw [qo] at V4 V5 V6 V7 V8
  obtain ⟨xn, qn⟩ : ∃ x, rtD ((lvs rs).set I xo) = x := ⟨_, rfl⟩
  have H_xn : Hid (IsD xn) := Lib.hid (by rw [← qn]; exact rt_isD _ _ rfl ((lvs_all rs).set I H_xo.out))
  rw [V5.out] at V7
  rw [qr] at V0 V2
  rw [qn] at V4 V6
  obtain ⟨ps, hps⟩ : ∃ ps, prD (lvs rs) I = ps := ⟨_, rfl⟩
  rw [hps] at V1 V2 V3 V4 V7 HQ HAD
  obtain ⟨q, hq⟩ : ∃ q, ps.length = q := ⟨_, rfl⟩
  have HQL := Lib.hid hq
  rw [hq] at V3 HQ
  have q10 : (q : Int) ≤ 10 := by have := HQ.out; omega
  clear c1 c2 c3 hi1 hi2 qr qo qn hps hq V5
  go_wp2_with fail
  refine (Root_any rs (some ⟨b, off, none⟩) m d _ (HT.out.below B.out (Nat.le_refl _)) (HR.out.below B.out (Nat.le_refl _))).mono ?_
  rintro e w2 ⟨rfl, b⟩
  rw [V0.out.1, V0.out.2]
  replace B := Lib.hid (bb B.out b)
  clear b
  have Y := Lib.hid (z20_at w2 rfl)
  have G := bnew w2 (.cells #[.int .u8 0, .int .u8 0, .int .u8 0, .int .u8 0, .int .u8 0, .int .u8 0, .int .u8 0, .int .u8 0, .int .u8 0, .int .u8 0, .int .u8 0, .int .u8 0, .int .u8 0, .int .u8 0, .int .u8 0, .int .u8 0, .int .u8 0, .int .u8 0, .int .u8 0, .int .u8 0] 26)
  have LEB := Lib.hid B.out.size
  replace B := Lib.hid (bb B.out G)
  clear G
  go_wp2_with (first | (show wpList _ _ _ ({ dst := none, op := Op.store 26 (.tmp 8) _, type := _, pos := _, after := _, guard := _ } :: _) _ _; go_must (refine trW.wp_st (g := w2.heap.size) (l := xr) (by rfl) _ _ rfl (Y.out) (zd_isD.len) (H_xr.out.len) rfl rfl ?_); intro w2s hR hg hb hz; have D8 := Lib.hid hR; replace B := Lib.hid (B.out.trans (hb.mono LEB.out)); clear hR hg hb hz Y LEB ))
  refine (Prove_any rs (I : Int) (some ⟨b, off, none⟩) m d _ (HT.out.below B.out (Nat.le_refl _)) (HR.out.below B.out (Nat.le_refl _)) (by omega) (by omega)).mono ?_
  rintro e w3 ⟨⟨A10, c10, rfl, o10⟩, b⟩
  rw [V1.out.1]
  rw [V1.out.2] at o10
  rw [HQL.out] at o10
  rw [V1.out.2, HQL.out]
  have O10 := Lib.hid o10
  clear o10
  replace D8 := Lib.hid (D8.out.past b)
  replace B := Lib.hid (bb B.out b)
  clear b
  go_wp2_with fail
  refine (Steps_any (m : Int) (I : Int) _ (by omega) (by omega) (by omega) (by omega)).mono ?_
  rintro e w4 ⟨rfl, b⟩
  rw [V3.out.1, V3.out.2]
  replace D8 := Lib.hid (D8.out.past b)
  replace O10 := Lib.hid (O10.out.past b)
  replace B := Lib.hid (bb B.out b)
  clear b
  go_upto_region 7 with fail
  (have RD := grows_roads (S := fun x' => Below w4.heap.size w4 x') (fun a b h1 h2 => h2.trans (h1.mono h2.size))); refine region_ord _ Grows RD (Below.drew (Below.refl _ _)) (by kernel_rfl) ?_; intro ops Q' hops hPQ hN; (have HNS : Hid (Region.noSelect ops = true) := Lib.hid (by rw [hops]; kernel_rfl)); (have hsz : ops.size = 15 := (by rw [hops]; rfl)); have HOP := Lib.hid hops; have HPQ := Lib.hid hPQ; have HN := Lib.hid hN; rw [hsz]; clear hops hsz hPQ hN
  refine ord_take RD 0 (at_list (by rw [HOP.out]; rfl)) HNS.out HPQ.out (by rw [HOP.out]; kernel_rfl) (by rw [HOP.out]; kernel_rfl) (by rw [HOP.out]; rfl) (fun K hK => ?_); apply Exists.intro; refine ⟨fun W hSW => ?_, hK _ ?_⟩; (focus ((try dsimp only at hSW); exact trW.quiet_ld (l := xr) _ rfl (rng_lies (D8.out.past hSW)) (H_xr.out.len) rfl)); clear hK K; (try simp only [Act.put, List.setIfInBounds_toArray, List.set_cons_zero, List.set_cons_succ])
  refine ord_take RD 1 (at_list (by rw [HOP.out]; rfl)) HNS.out HPQ.out (by rw [HOP.out]; kernel_rfl) (by rw [HOP.out]; kernel_rfl) (by rw [HOP.out]; rfl) (fun K hK => ?_); apply Exists.intro; refine ⟨fun W hSW => ?_, hK _ ?_⟩; (focus ((try dsimp only at hSW); go_simp; try with_reducible rfl)); clear hK K; (try simp only [Act.put, List.setIfInBounds_toArray, List.set_cons_zero, List.set_cons_succ])
  refine ord_take RD 2 (at_list (by rw [HOP.out]; rfl)) HNS.out HPQ.out (by rw [HOP.out]; kernel_rfl) (by rw [HOP.out]; kernel_rfl) (by rw [HOP.out]; rfl) (fun K hK => ?_); apply Exists.intro; refine ⟨fun W hSW => ?_, hK _ ?_⟩; (focus ((try dsimp only at hSW); go_simp; try with_reducible rfl)); clear hK K; (try simp only [Act.put, List.setIfInBounds_toArray, List.set_cons_zero, List.set_cons_succ])
  refine ord_take RD 3 (at_list (by rw [HOP.out]; rfl)) HNS.out HPQ.out (by rw [HOP.out]; kernel_rfl) (by rw [HOP.out]; kernel_rfl) (by rw [HOP.out]; rfl) (fun K hK => ?_); apply Exists.intro; refine ⟨fun W hSW => ?_, hK _ ?_⟩; (focus ((try dsimp only at hSW); go_simp; try with_reducible rfl)); clear hK K; (try simp only [Act.put, List.setIfInBounds_toArray, List.set_cons_zero, List.set_cons_succ])
  refine ord_take RD 4 (at_list (by rw [HOP.out]; rfl)) HNS.out HPQ.out (by rw [HOP.out]; kernel_rfl) (by rw [HOP.out]; kernel_rfl) (by rw [HOP.out]; rfl) (fun K hK => ?_); apply Exists.intro; refine ⟨fun W hSW => ?_, hK _ ?_⟩; (focus ((try dsimp only at hSW); go_simp; try with_reducible rfl)); clear hK K; (try simp only [Act.put, List.setIfInBounds_toArray, List.set_cons_zero, List.set_cons_succ])
  refine ord_take RD 5 (at_list (by rw [HOP.out]; rfl)) HNS.out HPQ.out (by rw [HOP.out]; kernel_rfl) (by rw [HOP.out]; kernel_rfl) (by rw [HOP.out]; rfl) (fun K hK => ?_); apply Exists.intro; refine ⟨fun W hSW => ?_, hK _ ?_⟩; (focus ((try dsimp only at hSW); go_simp; try with_reducible rfl)); clear hK K; (try simp only [Act.put, List.setIfInBounds_toArray, List.set_cons_zero, List.set_cons_succ])
  refine ord_take RD 6 (at_list (by rw [HOP.out]; rfl)) HNS.out HPQ.out (by rw [HOP.out]; kernel_rfl) (by rw [HOP.out]; kernel_rfl) (by rw [HOP.out]; rfl) (fun K hK => ?_); apply Exists.intro; refine ⟨fun W hSW => ?_, hK _ ?_⟩; (focus ((try dsimp only at hSW); go_simp; try with_reducible rfl)); clear hK K; (try simp only [Act.put, List.setIfInBounds_toArray, List.set_cons_zero, List.set_cons_succ])
  refine ord_take RD 7 (at_list (by rw [HOP.out]; rfl)) HNS.out HPQ.out (by rw [HOP.out]; kernel_rfl) (by rw [HOP.out]; kernel_rfl) (by rw [HOP.out]; rfl) (fun K hK => ?_); apply Exists.intro; refine ⟨fun W hSW => ?_, hK _ ?_⟩; (focus ((try dsimp only at hSW); have cf := HCF.out _ (bb B.out hSW); go_simp; try with_reducible rfl)); clear hK K; (try simp only [Act.put, List.setIfInBounds_toArray, List.set_cons_zero, List.set_cons_succ])
  refine ord_take RD 8 (at_list (by rw [HOP.out]; rfl)) HNS.out HPQ.out (by rw [HOP.out]; kernel_rfl) (by rw [HOP.out]; kernel_rfl) (by rw [HOP.out]; rfl) (fun K hK => ?_); apply Exists.intro; refine ⟨fun W hSW => ?_, hK _ ?_⟩; (focus ((try dsimp only at hSW); go_simp; try with_reducible rfl)); clear hK K; (try simp only [Act.put, List.setIfInBounds_toArray, List.set_cons_zero, List.set_cons_succ])
  refine ord_one RD 9 (by rw [HOP.out]; kernel_rfl) (at_list (by rw [HOP.out]; rfl)) (by rw [HOP.out]; rfl) (fun V5 hWW hSW K hK => ?_); (try dsimp only at hSW)
  go_simp
  refine (Verify_any xr (m : Int) (I : Int) rb ps rA rn rc A10 q c10 _ (HT.out.below (bb B.out hSW) (Nat.le_refl _)) H_xr.out (by omega) (by omega) (by omega) (by omega) (HII.out.h.below (bb B.out hSW) (Nat.le_refl _)) HII.out.e HII.out.c1 HII.out.c2 HII.out.b (O10.out.past hSW).has HQL.out (O10.out.len.2.1) (by have := O10.out.len.2.2; unfold maxLen at this; omega)).mono ?_
  rintro e w5 ⟨rfl, b⟩
  rw [V2.out.1, V2.out.2]
  refine hK _ _ (bb hSW b) ?_
  clear hSW hWW b
  clear hK K; (try simp only [Act.put, List.setIfInBounds_toArray, List.set_cons_zero, List.set_cons_succ])
  refine ord_take RD 10 (at_list (by rw [HOP.out]; rfl)) HNS.out HPQ.out (by rw [HOP.out]; kernel_rfl) (by rw [HOP.out]; kernel_rfl) (by rw [HOP.out]; rfl) (fun K hK => ?_); apply Exists.intro; refine ⟨fun W hSW => ?_, hK _ ?_⟩; (focus ((try dsimp only at hSW); go_simp; try with_reducible rfl)); clear hK K; (try simp only [Act.put, List.setIfInBounds_toArray, List.set_cons_zero, List.set_cons_succ])
  refine ord_take RD 11 (at_list (by rw [HOP.out]; rfl)) HNS.out HPQ.out (by rw [HOP.out]; kernel_rfl) (by rw [HOP.out]; kernel_rfl) (by rw [HOP.out]; rfl) (fun K hK => ?_); apply Exists.intro; refine ⟨fun W hSW => ?_, hK _ ?_⟩; (focus ((try dsimp only at hSW); go_simp; try with_reducible rfl)); clear hK K; (try simp only [Act.put, List.setIfInBounds_toArray, List.set_cons_zero, List.set_cons_succ])
  refine ord_take RD 12 (at_list (by rw [HOP.out]; rfl)) HNS.out HPQ.out (by rw [HOP.out]; kernel_rfl) (by rw [HOP.out]; kernel_rfl) (by rw [HOP.out]; rfl) (fun K hK => ?_); apply Exists.intro; refine ⟨fun W hSW => ?_, hK _ ?_⟩; (focus ((try dsimp only at hSW); go_simp; try with_reducible rfl)); clear hK K; (try simp only [Act.put, List.setIfInBounds_toArray, List.set_cons_zero, List.set_cons_succ])
  refine ord_take RD 13 (at_list (by rw [HOP.out]; rfl)) HNS.out HPQ.out (by rw [HOP.out]; kernel_rfl) (by rw [HOP.out]; kernel_rfl) (by rw [HOP.out]; rfl) (fun K hK => ?_); apply Exists.intro; refine ⟨fun W hSW => ?_, hK _ ?_⟩; (focus ((try dsimp only at hSW); go_simp; try with_reducible rfl)); clear hK K; (try simp only [Act.put, List.setIfInBounds_toArray, List.set_cons_zero, List.set_cons_succ])
  refine ord_take RD 14 (at_list (by rw [HOP.out]; rfl)) HNS.out HPQ.out (by rw [HOP.out]; kernel_rfl) (by rw [HOP.out]; kernel_rfl) (by rw [HOP.out]; rfl) (fun K hK => ?_); apply Exists.intro; refine ⟨fun W hSW => ?_, hK _ ?_⟩; (focus ((try dsimp only at hSW); go_simp; try with_reducible rfl)); clear hK K; (try simp only [Act.put, List.setIfInBounds_toArray, List.set_cons_zero, List.set_cons_succ])
  refine ord_done (by rw [HOP.out]; kernel_rfl) (fun w6 hWW hSW => HN.out _ _ ?_); clear HOP HNS HPQ HN RD; (try dsimp only at hSW)
  replace D8 := Lib.hid (D8.out.past hSW)
  replace O10 := Lib.hid (O10.out.past hSW)
  replace B := Lib.hid (bb B.out hSW)
  clear hSW hWW
  have LD8 := Lib.hid D8.out.lt
  have AP10 := Lib.hid (fun g (h : w6.heap.size ≤ g) => O10.out.apart h)
  go_upto_region 11 with (at_builtin; refine appZV rfl _ _ rfl _ rfl (some ⟨b, off, none⟩) m d rs rfl (by first | exact HR.out.below B.out (Nat.le_refl _) | exact HR.out.below (bb B.out (bnew _ _)) (Nat.le_refl _)) (by have := HIM.out; omega) (by have := HF.out.1; omega) ?_; intro A16 c16 w7 o16 b16)
  obtain ⟨g16, rfl, hgB, hgl, -, hfz, hcl⟩ := o16.form (by rw [HRL.out]; have := HIM.out; omega)
  have G6 := bnew w6 (.cells #[] 23)
  have hge : w6.heap.size ≤ g16 := by have := G6.size; omega
  have HGE := Lib.hid hge
  have hbz : w.heap.size ≤ g16 := by have := B.out.size; omega
  replace D8 := Lib.hid (D8.out.past G6)
  replace O10 := Lib.hid (O10.out.past G6)
  replace B := Lib.hid (bb B.out G6)
  replace D8 := Lib.hid (D8.out.past b16)
  replace O10 := Lib.hid (O10.out.past b16)
  replace B := Lib.hid (bb B.out b16)
  have cz := hcl I (by rw [HRL.out]; exact HIM.out)
  have fz := hfz I
  have SG : w7.grownBy (w7.setCell ⟨g16, I, none⟩ (.slice a len cap)) (some g16) := far_set (World.grownBy.refl _ _) _
  have SB : Below g16 w7 (w7.setCell ⟨g16, I, none⟩ (.slice a len cap)) := (Below.refl _ _).setCell (p := ⟨g16, I, none⟩) (Nat.le_refl _) _
  replace D8 := Lib.hid (D8.out.far SG (show w2.heap.size ≠ g16 by have := LD8.out; omega))
  replace O10 := Lib.hid (O10.out.kept SG (AP10.out g16 hge))
  replace B := Lib.hid (B.out.trans (SB.mono hbz))
  have OV := Lib.hid (show OwnV (w7.setCell ⟨g16, I, none⟩ (.slice a len cap)) _ (.slice (some ⟨g16, 0, none⟩) m c16) (rs.set I ⟨a, len, cap, p⟩) from o16.store I ⟨a, len, cap, p⟩)
  have HCR := Lib.hid (OV.out.rows (fun r hr => by rcases List.mem_or_eq_of_mem_set hr with h | rfl; exact (HR.out.h.all r h).below B.out (Nat.le_refl _); exact HIN.out.below B.out (Nat.le_refl _)))
  clear hgB hgl hfz hcl G6 hbz SG SB o16 b16 hge LD8 AP10 HGE OV
  go_wp2_with fail
  clear cz fz
  generalize (w7.setCell ⟨g16, I, none⟩ (.slice a len cap)) = w8 at *
  have B8 := Lib.hid (Below.refl w8.heap.size w8)
  refine (Root_any (rs.set I ⟨a, len, cap, p⟩) (some ⟨g16, 0, none⟩) m c16 _ (HT.out.below B.out (Nat.le_refl _)) (HCR.out.below B8.out (Nat.le_refl _))).mono ?_
  rintro e w9 ⟨rfl, b⟩
  rw [V6.out.1, V6.out.2]
  replace D8 := Lib.hid (D8.out.past b)
  replace O10 := Lib.hid (O10.out.past b)
  replace B := Lib.hid (bb B.out b)
  replace B8 := Lib.hid (bb B8.out b)
  clear b
  have Y := Lib.hid (z20_at w9 rfl)
  have G := bnew w9 (.cells #[.int .u8 0, .int .u8 0, .int .u8 0, .int .u8 0, .int .u8 0, .int .u8 0, .int .u8 0, .int .u8 0, .int .u8 0, .int .u8 0, .int .u8 0, .int .u8 0, .int .u8 0, .int .u8 0, .int .u8 0, .int .u8 0, .int .u8 0, .int .u8 0, .int .u8 0, .int .u8 0] 26)
  have LEB := Lib.hid B.out.size
  have LEB8 := Lib.hid B8.out.size
  have LD8 := Lib.hid D8.out.lt
  have LO10 := Lib.hid (O10.out.apart (g := w9.heap.size) (Nat.le_refl _))
  replace D8 := Lib.hid (D8.out.past G)
  replace O10 := Lib.hid (O10.out.past G)
  replace B := Lib.hid (bb B.out G)
  replace B8 := Lib.hid (bb B8.out G)
  clear G
  go_wp2_with (first | (show wpList _ _ _ ({ dst := none, op := Op.store 26 (.tmp 17) _, type := _, pos := _, after := _, guard := _ } :: _) _ _; go_must (refine trW.wp_st (g := w9.heap.size) (l := xn) (by rfl) _ _ rfl (Y.out) (zd_isD.len) (H_xn.out.len) rfl rfl ?_); intro w9s hR hg hb hz; have D17 := Lib.hid hR; replace D8 := Lib.hid (D8.out.far hg (show w2.heap.size ≠ w9.heap.size by have := LD8.out; omega)); replace O10 := Lib.hid (O10.out.kept hg LO10.out); replace B := Lib.hid (B.out.trans (hb.mono LEB.out)); replace B8 := Lib.hid (B8.out.trans (hb.mono LEB8.out)); clear hR hg hb hz Y LEB LEB8 LD8 LO10))
  refine (Leaf_any p a len cap _ (HT.out.below B.out (Nat.le_refl _)) (HIN.out.h.below B.out (Nat.le_refl _)) HIN.out.e HIN.out.c1 HIN.out.c2 HIN.out.b).mono ?_
  rintro e w10 ⟨rfl, b⟩
  rw [V8.out.1, V8.out.2]
  replace D8 := Lib.hid (D8.out.past b)
  replace O10 := Lib.hid (O10.out.past b)
  replace D17 := Lib.hid (D17.out.past b)
  replace B := Lib.hid (bb B.out b)
  replace B8 := Lib.hid (bb B8.out b)
  clear b
  have Y := Lib.hid (z20_at w10 rfl)
  have G := bnew w10 (.cells #[.int .u8 0, .int .u8 0, .int .u8 0, .int .u8 0, .int .u8 0, .int .u8 0, .int .u8 0, .int .u8 0, .int .u8 0, .int .u8 0, .int .u8 0, .int .u8 0, .int .u8 0, .int .u8 0, .int .u8 0, .int .u8 0, .int .u8 0, .int .u8 0, .int .u8 0, .int .u8 0] 26)
  have LEB := Lib.hid B.out.size
  have LEB8 := Lib.hid B8.out.size
  have LD8 := Lib.hid D8.out.lt
  have LO10 := Lib.hid (O10.out.apart (g := w10.heap.size) (Nat.le_refl _))
  have LD17 := Lib.hid D17.out.lt
  replace D8 := Lib.hid (D8.out.past G)
  replace O10 := Lib.hid (O10.out.past G)
  replace D17 := Lib.hid (D17.out.past G)
  replace B := Lib.hid (bb B.out G)
  replace B8 := Lib.hid (bb B8.out G)
  clear G
  go_wp2_with (first | (show wpList _ _ _ ({ dst := none, op := Op.store 26 (.tmp 19) _, type := _, pos := _, after := _, guard := _ } :: _) _ _; go_must (refine trW.wp_st (g := w10.heap.size) (l := xo) (by rfl) _ _ rfl (Y.out) (zd_isD.len) (H_xo.out.len) rfl rfl ?_); intro w10s hR hg hb hz; have D19 := Lib.hid hR; replace D8 := Lib.hid (D8.out.far hg (show w2.heap.size ≠ w10.heap.size by have := LD8.out; omega)); replace O10 := Lib.hid (O10.out.kept hg LO10.out); replace D17 := Lib.hid (D17.out.far hg (show w9.heap.size ≠ w10.heap.size by have := LD17.out; omega)); replace B := Lib.hid (B.out.trans (hb.mono LEB.out)); replace B8 := Lib.hid (B8.out.trans (hb.mono LEB8.out)); clear hR hg hb hz Y LEB LEB8 LD8 LO10 LD17) | (show wpList _ _ _ ({ dst := _, op := Op.load 26 (.tmp 19), type := _, pos := _, after := _, guard := _ } :: _) _ _; go_must (refine trW.wp_l0 (l := xo) (by rfl) _ rfl (D19.out) (H_xo.out.len) rfl ?_)))
  refine (Up_any (m : Int) (I : Int) xo ps A10 q c10 _ (HT.out.below B.out (Nat.le_refl _)) (by omega) (by omega) (by omega) (by omega) H_xo.out O10.out.has HQL.out (O10.out.len.2.1) (by have := O10.out.len.2.2; unfold maxLen at this; omega)).mono ?_
  rintro e w11 ⟨rfl, b⟩
  rw [V4.out.1, V4.out.2]
  replace D8 := Lib.hid (D8.out.past b)
  replace O10 := Lib.hid (O10.out.past b)
  replace D17 := Lib.hid (D17.out.past b)
  replace D19 := Lib.hid (D19.out.past b)
  replace B := Lib.hid (bb B.out b)
  replace B8 := Lib.hid (bb B8.out b)
  clear b
  have Y := Lib.hid (z20_at w11 rfl)
  have G := bnew w11 (.cells #[.int .u8 0, .int .u8 0, .int .u8 0, .int .u8 0, .int .u8 0, .int .u8 0, .int .u8 0, .int .u8 0, .int .u8 0, .int .u8 0, .int .u8 0, .int .u8 0, .int .u8 0, .int .u8 0, .int .u8 0, .int .u8 0, .int .u8 0, .int .u8 0, .int .u8 0, .int .u8 0] 26)
  have LEB := Lib.hid B.out.size
  have LEB8 := Lib.hid B8.out.size
  have LD8 := Lib.hid D8.out.lt
  have LO10 := Lib.hid (O10.out.apart (g := w11.heap.size) (Nat.le_refl _))
  have LD17 := Lib.hid D17.out.lt
  have LD19 := Lib.hid D19.out.lt
  replace D8 := Lib.hid (D8.out.past G)
  replace O10 := Lib.hid (O10.out.past G)
  replace D17 := Lib.hid (D17.out.past G)
  replace D19 := Lib.hid (D19.out.past G)
  replace B := Lib.hid (bb B.out G)
  replace B8 := Lib.hid (bb B8.out G)
  clear G
  go_wp2_with (first | (show wpList _ _ _ ({ dst := none, op := Op.store 26 (.tmp 21) _, type := _, pos := _, after := _, guard := _ } :: _) _ _; go_must (refine trW.wp_st (g := w11.heap.size) (l := xn) (by rfl) _ _ rfl (Y.out) (zd_isD.len) (H_xn.out.len) rfl rfl ?_); intro w11s hR hg hb hz; have D21 := Lib.hid hR; replace D8 := Lib.hid (D8.out.far hg (show w2.heap.size ≠ w11.heap.size by have := LD8.out; omega)); replace O10 := Lib.hid (O10.out.kept hg LO10.out); replace D17 := Lib.hid (D17.out.far hg (show w9.heap.size ≠ w11.heap.size by have := LD17.out; omega)); replace D19 := Lib.hid (D19.out.far hg (show w10.heap.size ≠ w11.heap.size by have := LD19.out; omega)); replace B := Lib.hid (B.out.trans (hb.mono LEB.out)); replace B8 := Lib.hid (B8.out.trans (hb.mono LEB8.out)); clear hR hg hb hz Y LEB LEB8 LD8 LO10 LD17 LD19))
  refine (Prove_any (rs.set I ⟨a, len, cap, p⟩) (I : Int) (some ⟨g16, 0, none⟩) m c16 _ (HT.out.below B.out (Nat.le_refl _)) (HCR.out.below B8.out (Nat.le_refl _)) (by omega) (by omega)).mono ?_
  rintro e w12 ⟨⟨A23, c23, rfl, o23⟩, b⟩
  rw [V7.out.1]
  rw [V7.out.2, HQL.out] at o23
  rw [V7.out.2, HQL.out]
  have O23 := Lib.hid o23
  clear o23
  replace D8 := Lib.hid (D8.out.past b)
  replace O10 := Lib.hid (O10.out.past b)
  replace D17 := Lib.hid (D17.out.past b)
  replace D19 := Lib.hid (D19.out.past b)
  replace D21 := Lib.hid (D21.out.past b)
  replace B := Lib.hid (bb B.out b)
  replace B8 := Lib.hid (bb B8.out b)
  clear b
  go_wp2_with (first | (show wpList _ _ _ ({ dst := _, op := Op.load 26 (.tmp 21), type := _, pos := _, after := _, guard := _ } :: _) _ _; go_must (refine trW.wp_l0 (l := xn) (by rfl) _ rfl (D21.out) (H_xn.out.len) rfl ?_)) | (show wpList _ _ _ ({ dst := _, op := Op.load 26 (.tmp 17), type := _, pos := _, after := _, guard := _ } :: _) _ _; go_must (refine trW.wp_l0 (l := xn) (by rfl) _ rfl (D17.out) (H_xn.out.len) rfl ?_)) | (show wpList _ _ _ ({ dst := _, op := Op.binOp .eql 26 _ _ _, type := _, pos := _, after := _, guard := _ } :: _) _ _; refine trW.wp_eqs (l := xn) (by rfl) _ _ _ rfl H_xn.out rfl rfl ?_))
  refine (SameSums_any ps ps A23 A10 q q c23 c10 _ O23.out.has O10.out.has HQL.out HQL.out (by omega) (by omega)).mono ?_
  rintro e w13 ⟨rfl, b⟩
  rw [decide_eq_true (rfl : ps = ps)]
  replace D8 := Lib.hid (D8.out.past b)
  replace O10 := Lib.hid (O10.out.past b)
  replace D17 := Lib.hid (D17.out.past b)
  replace D19 := Lib.hid (D19.out.past b)
  replace D21 := Lib.hid (D21.out.past b)
  replace O23 := Lib.hid (O23.out.past b)
  replace B := Lib.hid (bb B.out b)
  replace B8 := Lib.hid (bb B8.out b)
  clear b
  go_wp2_with fail
  go_ret
  exact ⟨rfl, B.out⟩
end Go.Proofs.YtjdgobfjpjnhgaaDoor.trW
