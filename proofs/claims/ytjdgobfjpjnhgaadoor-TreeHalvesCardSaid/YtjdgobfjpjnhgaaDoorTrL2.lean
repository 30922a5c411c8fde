/- TreeHalves, by a walk. -/
import Derived.Test.YtjdgobfjpjnhgaaDoorTrB
namespace Go.Proofs.YtjdgobfjpjnhgaaDoor.trW
set_option maxRecDepth 100000
open Go.RowKit Go.Proofs.YtjdgobfjpjnhgaaDoor.base Go.Proofs.YtjdgobfjpjnhgaaDoor.shP Go.Proofs.YtjdgobfjpjnhgaaDoor.shW Go.Proofs.YtjdgobfjpjnhgaaDoor.trP
set_option linter.unusedVariables false
set_option linter.unusedSimpArgs false
set_option maxRecDepth 100000
set_option maxHeartbeats 8000000 in
theorem halves (P : Option Addr) (m d : Nat) (rs : List R8) (i : Int) (w : World) (hr : RowsB w P m d rs) (hi1 : -9223372036854775808 ≤ i) (hi2 : i ≤ 9223372036854775807) (hT : Tab w) :
    Calls Tryd.prog 7 #[.slice P m d, .int .i64 i] w fun e w' => e = .returned (.bool true) ∧ Below w.heap.size w w' := by
  have HR := Lib.hid hr
  have HT := Lib.hid hT
  have m1 : (m : Int) ≤ 9223372036854775807 := by have := hr.c1; have := hr.c2; omega
  have B := Lib.hid (Below.refl w.heap.size w)
  clear hT
  go_enter Tryd.func7, Tryd.ntmps7
  go_wp2_with fail
  refine (alive_yes w HT.out).mono ?_
  rintro e w1 ⟨rfl, b⟩
  replace B := Lib.hid (bb B.out b)
  clear b
  go_wp2_with fail
  refine (fit_any P m d rs w1 (HR.out.below B.out (Nat.le_refl _))).mono ?_
  rintro e _ ⟨⟨b, rfl, hb⟩, rfl⟩
  rename World => w1
  cases b
  case false =>
    go_wp2_with fail
    go_ret
    exact ⟨rfl, B.out⟩
  have HF := Lib.hid (hb rfl)
  clear hb
  by_cases c0 : (m : Int) < 2
  · go_wp2_with fail
    go_ret
    exact ⟨rfl, B.out⟩
  by_cases c1 : i < 0
  · go_wp2_with fail
    go_ret
    exact ⟨rfl, B.out⟩
  by_cases c2 : (m : Int) ≤ i
  · go_wp2_with fail
    go_ret
    exact ⟨rfl, B.out⟩
  obtain ⟨I, rfl⟩ := Int.eq_ofNat_of_zero_le (by omega : 0 ≤ i)
  have HIM : Hid (I < m) := Lib.hid (by omega)
  have HM2 : Hid (2 ≤ m) := Lib.hid (by omega)
  have i0 : 0 ≤ (I : Int) := by omega
  have i1 : (I : Int) < m := by omega
  have m20 : (m : Int) ≤ 20 := by have := HF.out.1; omega
  have m2 : 2 ≤ (m : Int) := by omega
  have HCH := Lib.hid (fit_ch HR.out HF.out)
  have HRL := Lib.hid HR.out.l
  have HDD : Hid (m ≤ d) := Lib.hid HR.out.c1
  obtain ⟨b, off, rfl, _, _⟩ := HR.out.h.some (by rw [HRL.out]; have := HIM.out; omega)
  have F := Lib.hid (fun w => half_any m w HM2.out (by omega))
  have k1 := half_pos m
  have k2 := half_lt HM2.out
  have W0 := Lib.hid (rt_two (ls := lvs rs) (k := half m) (by rw [lvs_len, HRL.out]; exact HM2.out) (by rw [lvs_len, HRL.out]))
  have W1 := Lib.hid (prD_two (ls := lvs rs) (k := half m) (by rw [lvs_len, HRL.out]; exact HM2.out) (by rw [lvs_len, HRL.out]) I)
  generalize half m = h at *
  have HK := Lib.hid (And.intro k1 k2)
  have HRT := Lib.hid (rowsB_take HR.out (k := h) (by omega))
  have HRD := Lib.hid (rowsB_drop HR.out k2)
  have h1 : 1 ≤ (h : Int) := by omega
  have h2 : (h : Int) < m := by omega
  have h3 : (h : Int) ≤ d := by have := HDD.out; omega
  have h4 : (h : Int) ≤ m := by omega
  have h5 : ¬ d = h := by have := HDD.out; omega
  have h6 : (m : Int) ≤ d := by have := HDD.out; omega
  have V0 : Hid (rtV rs = rtD (lvs rs) ∧ chE rs = 0) := Lib.hid ⟨rtV_yes HCH.out, chE_yes HCH.out⟩
  have VA : Hid (rtV (rs.take h) = rtD ((lvs rs).take h) ∧ chE (rs.take h) = 0) := Lib.hid ⟨by rw [rtV_yes (ch_take HCH.out h), lvs_take], chE_yes (ch_take HCH.out h)⟩
  have VB : Hid (rtV (rs.drop h) = rtD ((lvs rs).drop h) ∧ chE (rs.drop h) = 0) := Lib.hid ⟨by rw [rtV_yes (ch_drop HCH.out h), lvs_drop], chE_yes (ch_drop HCH.out h)⟩
  have V1 := Lib.hid (pr_in (i := (I : Int)) HCH.out ⟨by omega, by rw [HRL.out]; omega⟩)
  rw [show ((I : Int)).toNat = I from rfl] at V1
  have HQ := Lib.hid (prD_le (ls := lvs rs) (by rw [lvs_len, HRL.out]; omega) I)
  have HTA := Lib.hid ((lvs_all rs).take h)
  have HTB := Lib.hid ((lvs_all rs).drop h)
  have VPA := Lib.hid (fun hI : I < h => pr_in (rs := rs.take h) (i := (I : Int)) (ch_take HCH.out h) ⟨by omega, by rw [HRT.out.l]; omega⟩)
  have VPB := Lib.hid (fun (I2 : Nat) (hI : I2 < m - h) => pr_in (rs := rs.drop h) (i := (I2 : Int)) (ch_drop HCH.out h) ⟨by omega, by rw [HRD.out.l]; omega⟩)
  rw [lvs_take] at VPA
  rw [lvs_drop] at VPB
  generalize lvs rs = all at *
  obtain ⟨xa, qa⟩ : ∃ x, rtD (all.take h) = x := ⟨_, rfl⟩
  have H_xa : Hid (IsD xa) := Lib.hid (by rw [← qa]; exact rt_isD _ _ rfl HTA.out)
  obtain ⟨xb, qb⟩ : ∃ x, rtD (all.drop h) = x := ⟨_, rfl⟩
  have H_xb : Hid (IsD xb) := Lib.hid (by rw [← qb]; exact rt_isD _ _ rfl HTB.out)
  rw [qa] at W0 W1 VA
  rw [qb] at W0 W1 VB
  obtain ⟨xr, qr⟩ : ∃ x, nodeD xa xb = x := ⟨_, rfl⟩
  have H_xr : Hid (IsD xr) := Lib.hid (by rw [← qr]; exact node_isD _ _)
  rw [qr] at W0
  rw [W0.out] at V0
  have QR := Lib.hid qr
  obtain ⟨ps, hps⟩ : ∃ ps, prD all I = ps := ⟨_, rfl⟩
  rw [hps] at V1 W1 HQ
  obtain ⟨q, hq⟩ : ∃ q, ps.length = q := ⟨_, rfl⟩
  have HQL := Lib.hid hq
  rw [hq] at HQ
  have q10 : (q : Int) ≤ 10 := by have := HQ.out; omega
  have HQ1 : Hid (1 ≤ q) := Lib.hid (by have := congrArg List.length W1.out; rw [hq] at this; split at this <;> simp at this <;> omega)
  have q1 : 1 ≤ (q : Int) := by have := HQ1.out; omega
  clear c0 c1 c2 hi1 hi2 qa qb qr hps hq k1 k2 W0 hr
  go_wp2_with fail
  refine (F.out _).mono ?_
  rintro e _ ⟨rfl, rfl⟩
  rename World => w1
  go_wp2_with fail
  refine (Root_any rs (some ⟨b, off, none⟩) m d _ (HT.out.below B.out (Nat.le_refl _)) (HR.out.below B.out (Nat.le_refl _))).mono ?_
  rintro e w2 ⟨rfl, b⟩
  rw [V0.out.1, V0.out.2]
  replace B := Lib.hid (bb B.out b)
  clear b
  have Y := Lib.hid (z20_at w2 rfl)
  have G := bnew w2 (.cells #[.int .u8 0, .int .u8 0, .int .u8 0, .int .u8 0, .int .u8 0, .int .u8 0, .int .u8 0, .int .u8 0, .int .u8 0, .int .u8 0, .int .u8 0, .int .u8 0, .int .u8 0, .int .u8 0, .int .u8 0, .int .u8 0, .int .u8 0, .int .u8 0, .int .u8 0, .int .u8 0] 26)
  have LEB := Lib.hid B.out.size
  replace B := Lib.hid (bb B.out G)
  clear G
  go_wp2_with (first | (show wpList _ _ _ ({ dst := none, op := Op.store 26 (.tmp 7) _, type := _, pos := _, after := _, guard := _ } :: _) _ _; go_must (refine trW.wp_st (g := w2.heap.size) (l := xr) (by rfl) _ _ rfl (Y.out) (zd_isD.len) (H_xr.out.len) rfl rfl ?_); intro w2s hR hg hb hz; have D7 := Lib.hid hR; replace B := Lib.hid (B.out.trans (hb.mono LEB.out)); clear hR hg hb hz Y LEB ))
  refine (Root_any (rs.take h) (some ⟨b, off, none⟩) h d _ (HT.out.below B.out (Nat.le_refl _)) (HRT.out.below B.out (Nat.le_refl _))).mono ?_
  rintro e w3 ⟨rfl, b⟩
  rw [VA.out.1, VA.out.2]
  replace D7 := Lib.hid (D7.out.past b)
  replace B := Lib.hid (bb B.out b)
  clear b
  have Y := Lib.hid (z20_at w3 rfl)
  have G := bnew w3 (.cells #[.int .u8 0, .int .u8 0, .int .u8 0, .int .u8 0, .int .u8 0, .int .u8 0, .int .u8 0, .int .u8 0, .int .u8 0, .int .u8 0, .int .u8 0, .int .u8 0, .int .u8 0, .int .u8 0, .int .u8 0, .int .u8 0, .int .u8 0, .int .u8 0, .int .u8 0, .int .u8 0] 26)
  have LEB := Lib.hid B.out.size
  have LD7 := Lib.hid D7.out.lt
  replace D7 := Lib.hid (D7.out.past G)
  replace B := Lib.hid (bb B.out G)
  clear G
  go_wp2_with (first | (show wpList _ _ _ ({ dst := none, op := Op.store 26 (.tmp 9) _, type := _, pos := _, after := _, guard := _ } :: _) _ _; go_must (refine trW.wp_st (g := w3.heap.size) (l := xa) (by rfl) _ _ rfl (Y.out) (zd_isD.len) (H_xa.out.len) rfl rfl ?_); intro w3s hR hg hb hz; have D9 := Lib.hid hR; replace D7 := Lib.hid (D7.out.far hg (show w2.heap.size ≠ w3.heap.size by have := LD7.out; omega)); replace B := Lib.hid (B.out.trans (hb.mono LEB.out)); clear hR hg hb hz Y LEB LD7))
  refine (Root_any (rs.drop h) (some ⟨b, off + h, none⟩) (m - h) (d - h) _ (HT.out.below B.out (Nat.le_refl _)) (HRD.out.below B.out (Nat.le_refl _))).mono ?_
  rintro e w4 ⟨rfl, b⟩
  rw [VB.out.1, VB.out.2]
  replace D7 := Lib.hid (D7.out.past b)
  replace D9 := Lib.hid (D9.out.past b)
  replace B := Lib.hid (bb B.out b)
  clear b
  have Y := Lib.hid (z20_at w4 rfl)
  have G := bnew w4 (.cells #[.int .u8 0, .int .u8 0, .int .u8 0, .int .u8 0, .int .u8 0, .int .u8 0, .int .u8 0, .int .u8 0, .int .u8 0, .int .u8 0, .int .u8 0, .int .u8 0, .int .u8 0, .int .u8 0, .int .u8 0, .int .u8 0, .int .u8 0, .int .u8 0, .int .u8 0, .int .u8 0] 26)
  have LEB := Lib.hid B.out.size
  have LD7 := Lib.hid D7.out.lt
  have LD9 := Lib.hid D9.out.lt
  replace D7 := Lib.hid (D7.out.past G)
  replace D9 := Lib.hid (D9.out.past G)
  replace B := Lib.hid (bb B.out G)
  clear G
  go_wp2_with (first | (show wpList _ _ _ ({ dst := none, op := Op.store 26 (.tmp 11) _, type := _, pos := _, after := _, guard := _ } :: _) _ _; go_must (refine trW.wp_st (g := w4.heap.size) (l := xb) (by rfl) _ _ rfl (Y.out) (zd_isD.len) (H_xb.out.len) rfl rfl ?_); intro w4s hR hg hb hz; have D11 := Lib.hid hR; replace D7 := Lib.hid (D7.out.far hg (show w2.heap.size ≠ w4.heap.size by have := LD7.out; omega)); replace D9 := Lib.hid (D9.out.far hg (show w3.heap.size ≠ w4.heap.size by have := LD9.out; omega)); replace B := Lib.hid (B.out.trans (hb.mono LEB.out)); clear hR hg hb hz Y LEB LD7 LD9) | (show wpList _ _ _ ({ dst := _, op := Op.load 26 (.tmp 9), type := _, pos := _, after := _, guard := _ } :: _) _ _; go_must (refine trW.wp_l0 (l := xa) (by rfl) _ rfl (D9.out) (H_xa.out.len) rfl ?_)) | (show wpList _ _ _ ({ dst := _, op := Op.load 26 (.tmp 11), type := _, pos := _, after := _, guard := _ } :: _) _ _; go_must (refine trW.wp_l0 (l := xb) (by rfl) _ rfl (D11.out) (H_xb.out.len) rfl ?_)))
  refine (lnode_any xa xb _ (HT.out.below B.out (Nat.le_refl _)) H_xa.out H_xb.out).mono ?_
  rintro e w5 ⟨rfl, b⟩
  rw [QR.out]
  replace D7 := Lib.hid (D7.out.past b)
  replace D9 := Lib.hid (D9.out.past b)
  replace D11 := Lib.hid (D11.out.past b)
  replace B := Lib.hid (bb B.out b)
  clear b
  have Y := Lib.hid (z20_at w5 rfl)
  have G := bnew w5 (.cells #[.int .u8 0, .int .u8 0, .int .u8 0, .int .u8 0, .int .u8 0, .int .u8 0, .int .u8 0, .int .u8 0, .int .u8 0, .int .u8 0, .int .u8 0, .int .u8 0, .int .u8 0, .int .u8 0, .int .u8 0, .int .u8 0, .int .u8 0, .int .u8 0, .int .u8 0, .int .u8 0] 26)
  have LEB := Lib.hid B.out.size
  have LD7 := Lib.hid D7.out.lt
  have LD9 := Lib.hid D9.out.lt
  have LD11 := Lib.hid D11.out.lt
  replace D7 := Lib.hid (D7.out.past G)
  replace D9 := Lib.hid (D9.out.past G)
  replace D11 := Lib.hid (D11.out.past G)
  replace B := Lib.hid (bb B.out G)
  clear G
  go_wp2_with (first | (show wpList _ _ _ ({ dst := none, op := Op.store 26 (.tmp 13) _, type := _, pos := _, after := _, guard := _ } :: _) _ _; go_must (refine trW.wp_st (g := w5.heap.size) (l := xr) (by rfl) _ _ rfl (Y.out) (zd_isD.len) (H_xr.out.len) rfl rfl ?_); intro w5s hR hg hb hz; have D13 := Lib.hid hR; replace D7 := Lib.hid (D7.out.far hg (show w2.heap.size ≠ w5.heap.size by have := LD7.out; omega)); replace D9 := Lib.hid (D9.out.far hg (show w3.heap.size ≠ w5.heap.size by have := LD9.out; omega)); replace D11 := Lib.hid (D11.out.far hg (show w4.heap.size ≠ w5.heap.size by have := LD11.out; omega)); replace B := Lib.hid (B.out.trans (hb.mono LEB.out)); clear hR hg hb hz Y LEB LD7 LD9 LD11))
  refine (Prove_any rs (I : Int) (some ⟨b, off, none⟩) m d _ (HT.out.below B.out (Nat.le_refl _)) (HR.out.below B.out (Nat.le_refl _)) (by omega) (by omega)).mono ?_
  rintro e w6 ⟨⟨A15, c15, rfl, o15⟩, b⟩
  rw [V1.out.1]
  rw [V1.out.2, HQL.out] at o15
  rw [V1.out.2, HQL.out]
  have O15 := Lib.hid o15
  clear o15
  replace D7 := Lib.hid (D7.out.past b)
  replace D9 := Lib.hid (D9.out.past b)
  replace D11 := Lib.hid (D11.out.past b)
  replace D13 := Lib.hid (D13.out.past b)
  replace B := Lib.hid (bb B.out b)
  clear b
  have LK15 := Lib.hid (fun k e => (O15.out.o.lt k e).2)
  by_cases ci : I < h
  · have d1 : (I : Int) < h := by omega
    rw [if_pos ci] at W1
    have VP := Lib.hid (VPA.out ci)
    clear ci
    rw [show ((I : Int)).toNat = I from rfl] at VP
    obtain ⟨p1, hp1⟩ : ∃ p1, prD (all.take h) I = p1 := ⟨_, rfl⟩
    rw [hp1] at VP W1
    clear hp1
    have HQ2 : Hid (p1.length + 1 = q) := Lib.hid (by rw [← HQL.out, W1.out]; simp)
    go_wp2_with (first | (show wpList _ _ _ ({ dst := _, op := Op.load 26 (.tmp 7), type := _, pos := _, after := _, guard := _ } :: _) _ _; go_must (refine trW.wp_l0 (l := xr) (by rfl) _ rfl (D7.out) (H_xr.out.len) rfl ?_)) | (show wpList _ _ _ ({ dst := _, op := Op.load 26 (.tmp 13), type := _, pos := _, after := _, guard := _ } :: _) _ _; go_must (refine trW.wp_l0 (l := xr) (by rfl) _ rfl (D13.out) (H_xr.out.len) rfl ?_)) | (show wpList _ _ _ ({ dst := _, op := Op.binOp .neq 26 _ _ _, type := _, pos := _, after := _, guard := _ } :: _) _ _; refine trW.wp_neqs (l := xr) (by rfl) _ _ _ rfl H_xr.out rfl rfl ?_))
    have LKW := B.out.size
    refine (Prove_any (rs.take h) (I : Int) (some ⟨b, off, none⟩) h d _ (HT.out.below B.out (Nat.le_refl _)) (HRT.out.below B.out (Nat.le_refl _)) (by omega) (by omega)).mono ?_
    rintro e w7 ⟨⟨A17, c17, rfl, o17⟩, b⟩
    have LKS := b.size
    rw [VP.out.1]
    rw [VP.out.2] at o17
    rw [VP.out.2]
    have O17 := Lib.hid o17
    clear o17
    replace D7 := Lib.hid (D7.out.past b)
    replace D9 := Lib.hid (D9.out.past b)
    replace D11 := Lib.hid (D11.out.past b)
    replace D13 := Lib.hid (D13.out.past b)
    replace O15 := Lib.hid (O15.out.past b)
    replace B := Lib.hid (bb B.out b)
    clear b
    have LE17 := Lib.hid B.out.size
    have LK : Hid (w6.heap.size ≤ w7.heap.size) := Lib.hid LKS
    have LKB : Hid (w.heap.size ≤ w6.heap.size) := Lib.hid LKW
    have G := bnew w7 (.cells (darr xb) 26)
    have OP := Lib.hid (O17.out.past G)
    have OQ := Lib.hid (O15.out.past G)
    have BP := Lib.hid (bb B.out G)
    have LQ := Lib.hid (lit_one (w := w7) (g := w7.heap.size) rfl H_xb.out)
    clear G
    go_wp2_with (first | (show wpList _ _ _ ({ dst := _, op := Op.load 26 (.tmp 11), type := _, pos := _, after := _, guard := _ } :: _) _ _; go_must (refine trW.wp_l0 (l := xb) (by rfl) _ rfl (D11.out) (H_xb.out.len) rfl ?_)) | (show wpList _ _ _ ({ dst := _, op := Op.buildSlice 34 1 _, type := _, pos := _, after := _, guard := _ } :: _) _ _; go_must (refine trW.wp_lit1 (q := xb) (by rfl) _ rfl (H_xb.out.len) rfl ?_)) | (at_builtin; refine appD (by rfl) _ _ rfl w6.heap.size _ p1 rfl OP.out ⟨w7.heap.size, 0, none⟩ 1 1 [xb] rfl rfl LQ.out (by have := HQ2.out; have := HQ.out; omega) (by have := LK.out; have := (bnew w7 (.cells (darr xb) 26)).size; omega) (by omega) q HQ2.out ?_; intro A18 c18 w18 o18 g18 b18; rw [← W1.out] at o18; have O18 := Lib.hid o18; have O15 := Lib.hid (OQ.out.keptRow OP.out g18 (fun k e => LK15.out k e)); have B := Lib.hid (BP.out.trans (b18.mono LKB.out)); clear o18 g18 b18))
    refine (SameSums_any ps ps A15 A18 q q c15 c18 _ O15.out.has O18.out.has HQL.out HQL.out (by omega) (by omega)).mono ?_
    rintro e w8 ⟨rfl, b⟩
    rw [decide_eq_true (rfl : ps = ps)]
    replace B := Lib.hid (bb B.out b)
    clear b
    go_wp2_with fail
    go_ret
    exact ⟨rfl, B.out⟩
  · have d1 : ¬ (I : Int) < h := by omega
    obtain ⟨I2, hI2⟩ : ∃ I2, I - h = I2 := ⟨_, rfl⟩
    rw [if_neg ci, hI2] at W1
    have VP := Lib.hid (VPB.out I2 (by have := HIM.out; have := HK.out; omega))
    have z2 : (I : Int) - h = (I2 : Int) := by omega
    have z4 : IntKind.i64.wrap (I2 : Int) = (I2 : Int) := IntWalk.i64_in _ (by omega)
    clear ci hI2
    rw [show ((I2 : Int)).toNat = I2 from rfl] at VP
    obtain ⟨p1, hp1⟩ : ∃ p1, prD (all.drop h) I2 = p1 := ⟨_, rfl⟩
    rw [hp1] at VP W1
    clear hp1
    have HQ2 : Hid (p1.length + 1 = q) := Lib.hid (by rw [← HQL.out, W1.out]; simp)
    go_wp2_with (first | (show wpList _ _ _ ({ dst := _, op := Op.load 26 (.tmp 7), type := _, pos := _, after := _, guard := _ } :: _) _ _; go_must (refine trW.wp_l0 (l := xr) (by rfl) _ rfl (D7.out) (H_xr.out.len) rfl ?_)) | (show wpList _ _ _ ({ dst := _, op := Op.load 26 (.tmp 13), type := _, pos := _, after := _, guard := _ } :: _) _ _; go_must (refine trW.wp_l0 (l := xr) (by rfl) _ rfl (D13.out) (H_xr.out.len) rfl ?_)) | (show wpList _ _ _ ({ dst := _, op := Op.binOp .neq 26 _ _ _, type := _, pos := _, after := _, guard := _ } :: _) _ _; refine trW.wp_neqs (l := xr) (by rfl) _ _ _ rfl H_xr.out rfl rfl ?_))
    have LKW := B.out.size
    refine (Prove_any (rs.drop h) (I2 : Int) (some ⟨b, off + h, none⟩) (m - h) (d - h) _ (HT.out.below B.out (Nat.le_refl _)) (HRD.out.below B.out (Nat.le_refl _)) (by omega) (by omega)).mono ?_
    rintro e w7 ⟨⟨A17, c17, rfl, o17⟩, b⟩
    have LKS := b.size
    rw [VP.out.1]
    rw [VP.out.2] at o17
    rw [VP.out.2]
    have O17 := Lib.hid o17
    clear o17
    replace D7 := Lib.hid (D7.out.past b)
    replace D9 := Lib.hid (D9.out.past b)
    replace D11 := Lib.hid (D11.out.past b)
    replace D13 := Lib.hid (D13.out.past b)
    replace O15 := Lib.hid (O15.out.past b)
    replace B := Lib.hid (bb B.out b)
    clear b
    have LE17 := Lib.hid B.out.size
    have LK : Hid (w6.heap.size ≤ w7.heap.size) := Lib.hid LKS
    have LKB : Hid (w.heap.size ≤ w6.heap.size) := Lib.hid LKW
    have G := bnew w7 (.cells (darr xa) 26)
    have OP := Lib.hid (O17.out.past G)
    have OQ := Lib.hid (O15.out.past G)
    have BP := Lib.hid (bb B.out G)
    have LQ := Lib.hid (lit_one (w := w7) (g := w7.heap.size) rfl H_xa.out)
    clear G
    go_wp2_with (first | (show wpList _ _ _ ({ dst := _, op := Op.load 26 (.tmp 9), type := _, pos := _, after := _, guard := _ } :: _) _ _; go_must (refine trW.wp_l0 (l := xa) (by rfl) _ rfl (D9.out) (H_xa.out.len) rfl ?_)) | (show wpList _ _ _ ({ dst := _, op := Op.buildSlice 34 1 _, type := _, pos := _, after := _, guard := _ } :: _) _ _; go_must (refine trW.wp_lit1 (q := xa) (by rfl) _ rfl (H_xa.out.len) rfl ?_)) | (at_builtin; refine appD (by rfl) _ _ rfl w6.heap.size _ p1 rfl OP.out ⟨w7.heap.size, 0, none⟩ 1 1 [xa] rfl rfl LQ.out (by have := HQ2.out; have := HQ.out; omega) (by have := LK.out; have := (bnew w7 (.cells (darr xa) 26)).size; omega) (by omega) q HQ2.out ?_; intro A18 c18 w18 o18 g18 b18; rw [← W1.out] at o18; have O18 := Lib.hid o18; have O15 := Lib.hid (OQ.out.keptRow OP.out g18 (fun k e => LK15.out k e)); have B := Lib.hid (BP.out.trans (b18.mono LKB.out)); clear o18 g18 b18))
    refine (SameSums_any ps ps A15 A18 q q c15 c18 _ O15.out.has O18.out.has HQL.out HQL.out (by omega) (by omega)).mono ?_
    rintro e w8 ⟨rfl, b⟩
    rw [decide_eq_true (rfl : ps = ps)]
    replace B := Lib.hid (bb B.out b)
    clear b
    go_wp2_with fail
    go_ret
    exact ⟨rfl, B.out⟩
end Go.Proofs.YtjdgobfjpjnhgaaDoor.trW
