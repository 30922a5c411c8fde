/- HeaderOne, by a walk. -/
import Derived.Test.YteofindkccndjaaDoorHdL1
namespace Go.Proofs.YteofindkccndjaaDoor.hdL
set_option maxRecDepth 100000
open Go.RowKit Go.Proofs.YteofindkccndjaaDoor.base Go.Proofs.YteofindkccndjaaDoor.hdP Go.Proofs.YteofindkccndjaaDoor.hdW
set_option linter.unusedVariables false
set_option linter.unusedSimpArgs false
set_option maxRecDepth 100000 in
set_option maxHeartbeats 1600000 in
theorem one (h : Hd) (A : Option Addr) (n c : Nat) (z : List Int) (w : World) (hb : Bd h) (hr : IsRow .u8 w A n c z) (hT : TabP w) :
    Calls Tryd.prog 6 #[.agg (hv h), .slice A n c] w fun e w' => e = .returned (.bool true) ∧ Below w.heap.size w w' := by
  obtain ⟨q1, q2, q3, q4⟩ := has_of_row hr
  obtain ⟨r1, r2⟩ := row_len hr
  generalize z.take n = b at *
  have HBB : Hid (∀ x ∈ b, 0 ≤ x ∧ x ≤ 255) := Lib.hid (fun x hx => bounds_u8 (q4 x hx))
  have HH := Lib.hid q1
  have HL := Lib.hid q2
  have HNC := Lib.hid (And.intro r1 r2)
  have HBD := Lib.hid hb
  have HT := Lib.hid hT
  have n9 : (n : Int) ≤ 9223372036854775807 := by omega
  have HZ := hdAt_new
  have zv := zv_nul
  have bn := bld_nul
  have A0 := Lib.hid (hdAt_new w h)
  have B0 : Hid (Below w.heap.size w (w.alloc (.cells (hv h) 25))) := Lib.hid (by (repeat' (first | (with_reducible exact Below.refl _ _) | (with_reducible assumption) | (with_reducible refine below_drewN ?_ _) | (with_reducible refine below_new ?_ _) | (with_reducible refine Below.alloc ?_ ?_ _) | (with_reducible refine Below.drew ?_) | (with_reducible refine Below.setCell ?_ ?_ _) | (with_reducible apply below_at; (case k => (with_reducible assumption)); (case hB => omega)) | (with_reducible apply below_on; (with_reducible assumption)) | (go_size; done) | (with_reducible apply size_of))))
  clear hr hb hT q1 q2 q3 q4 r1 r2
  go_enter Tryd.func6, Tryd.ntmps6
  go_upto_region 1 with fail
  generalize (w.alloc (.cells (hv h) 25)) = w0 at *
  go_wp2_with fail
  refine (alive w0 (HT.out.past B0.out)).mono ?_
  rintro e w1 ⟨rfl, b1⟩
  have B1 := Lib.hid (below_bs B0.out b1)
  have A1 := Lib.hid (A0.out.past b1)
  clear b1 B0 A0
  by_cases c1 : (100 : Int) < n
  · go_wp2_with fail
    go_ret
    exact ⟨rfl, B1.out⟩
  · have HN : Hid (n ≤ 100) := Lib.hid (by omega)
    go_wp2_with (show wpList _ _ _ ({ dst := _, op := Op.load 25 _, type := _, pos := _, after := _, guard := _ } :: _) _ _; go_must (refine wp_ld (by rfl) _ rfl (A1.out) HBD.out rfl ?_))
    refine (rCheck h w1 HBD.out).mono ?_
    rintro e w2 ⟨rfl, b2⟩
    have B2 := Lib.hid (below_bs B1.out b2)
    have A2 := Lib.hid (A1.out.past b2)
    clear b2 B1 A1
    by_cases k : Ok h
    · have HK := Lib.hid k
      rw [hdE_yes k]
      clear k
      go_wp2_with (show wpList _ _ _ ({ dst := _, op := Op.load 25 _, type := _, pos := _, after := _, guard := _ } :: _) _ _; go_must (refine wp_ld (by rfl) _ rfl (A2.out) HBD.out rfl ?_))
      refine (Encode_any h w2 (HT.out.past B2.out) HBD.out).mono ?_
      rintro e w3 ⟨X3, n3, c3, rfl, hn3, o3, b3⟩
      rw [show enV h = by_ h from if_pos HK.out] at hn3 o3
      obtain rfl : 28 = n3 := by rw [← hn3, by_len HBD.out]
      rw [hdE_yes HK.out]
      have O3 := Lib.hid o3
      have B3 := Lib.hid (below_bs B2.out b3)
      have A3 := Lib.hid (A2.out.past b3)
      have HC3 : Hid (28 ≤ c3) := Lib.hid (by
        obtain ⟨X, cap, e1, e2, e3⟩ := o3.val
        injection e1 with _ _ e4
        rw [e4, ← by_len HBD.out]; exact e3)
      clear hn3 o3 b3 B2 A2
      go_wp2_with fail
      have hpb : paB (by_ h) := ⟨by_len HBD.out, by rw [of_by HK.out HBD.out]; exact HK.out⟩
      have HPH : Hid (paV (by_ h) = h ∧ paE (by_ h) = 0) := Lib.hid ⟨by rw [paV, if_pos hpb, of_by HK.out HBD.out], if_pos hpb⟩
      clear hpb
      refine (Parse_any (by_ h) X3 28 c3 w3 (HT.out.past B3.out) O3.out.has (by_len HBD.out) HC3.out (by omega) (by_bd HK.out HBD.out)).mono ?_
      rintro e w4 ⟨rfl, b4⟩
      rw [HPH.out.1, HPH.out.2]
      have B4 := Lib.hid (below_bs B3.out b4)
      have A4 := Lib.hid (A3.out.past b4)
      clear b4 B3 A3 O3 HC3 HPH
      have eqp : ∀ w : World, (Op.equalIn 10000 25 (.agg (hv h)) (.agg (hv h))).run Tryd.prog w = .ok true w := fun w => by rw [eq_hd0 h h HBD.out HBD.out w]; simp
      go_wp2_with (first | ((show wpList _ _ _ ({ dst := none, op := Op.store 25 _ _, type := _, pos := _, after := _, guard := none } :: _) _ _; go_must (refine wp_st (g := w4.heap.size) (h := h) rfl _ _ rfl (HZ w4 nul) (nul_bd) (HBD.out) rfl rfl ?_); intro w5 hR5 hb5 hz5); have G5 : Below w4.heap.size w4 w5 := (((Below.refl w4.heap.size w4).alloc (Nat.le_refl _) (.cells (hv nul) 25)).trans hb5); have HR5 := Lib.hid hR5; have A5 := Lib.hid (A4.out.past G5); have B5 := Lib.hid (below_bs B4.out G5); clear G5 hR5 hb5 hz5) | (show wpList _ _ _ ({ dst := _, op := Op.load 25 (.tmp 8), type := _, pos := _, after := _, guard := _ } :: _) _ _; go_must (refine wp_ld (by rfl) _ rfl (HR5.out) (HBD.out) rfl ?_)) | (show wpList _ _ _ ({ dst := _, op := Op.load 25 (.tmp 2), type := _, pos := _, after := _, guard := _ } :: _) _ _; go_must (refine wp_ld (by rfl) _ rfl (A5.out) (HBD.out) rfl ?_)))
      clear HR5 eqp
      refine (Parse_any b A n c w5 (HT.out.past B5.out) (HH.out.below B5.out (Nat.le_refl _)) HL.out HNC.out.1 (by have := HN.out; omega) HBB.out).mono ?_
      rintro e v1 ⟨rfl, d1⟩
      have D1 := Lib.hid (below_bs B5.out d1)
      clear d1 B5 A5
      by_cases kp : paB b
      · have HPV : Hid (paV b = of_ b ∧ paE b = 0) := Lib.hid ⟨if_pos kp, if_pos kp⟩
        rw [HPV.out.1, HPV.out.2]
        have HBX : Hid (Bd (of_ b)) := Lib.hid (of_bd kp.1 HBB.out)
        have HOX : Hid (Ok (of_ b)) := Lib.hid kp.2
        have HBO : Hid (by_ (of_ b) = b) := Lib.hid (by_of kp.1 HBB.out)
        have HN28 : Hid (n = 28) := Lib.hid (by rw [← HL.out]; exact kp.1)
        clear kp HPV
        go_wp2_with (first | ((show wpList _ _ _ ({ dst := none, op := Op.store 25 _ _, type := _, pos := _, after := _, guard := none } :: _) _ _; go_must (refine wp_st (g := v1.heap.size) (h := of_ b) rfl _ _ rfl (HZ v1 nul) (nul_bd) (HBX.out) rfl rfl ?_); intro v2 hR2 hb2 hz2); have HR2 := Lib.hid hR2) | (show wpList _ _ _ ({ dst := _, op := Op.load 25 _, type := _, pos := _, after := _, guard := _ } :: _) _ _; go_must (refine wp_ld (by rfl) _ rfl (HR2.out) (HBX.out) rfl ?_)))
        have G2 : Below v1.heap.size v1 v2 := (((Below.refl v1.heap.size v1).alloc (Nat.le_refl _) (.cells (hv nul) 25)).trans hb2)
        have D2 := Lib.hid (below_bs D1.out G2)
        clear G2 hR2 hb2 hz2 D1
        refine (Encode_any (of_ b) v2 (HT.out.past D2.out) HBX.out).mono ?_
        rintro e v3 ⟨A3, n3, c3, rfl, hn3, o3, d3⟩
        rw [show enV (of_ b) = b by rw [enV, if_pos HOX.out, HBO.out]] at hn3 o3
        rw [HL.out] at hn3
        subst hn3
        have O3 := Lib.hid o3
        have D3 := Lib.hid (below_bs D2.out d3)
        have HR3 := Lib.hid (HR2.out.past d3)
        rw [hdE_yes HOX.out]
        have cv1 := conv8 (c := c3) o3.has HL.out
        have cv2 := conv8 (c := c) (HH.out.below D3.out (Nat.le_refl _)) HL.out
        clear o3 d3 HR2 D2
        go_wp2_with (first | (show wpList _ _ _ ({ dst := _, op := Op.load 25 _, type := _, pos := _, after := _, guard := _ } :: _) _ _; go_must (refine wp_ld (by rfl) _ rfl (HR3.out) (HBX.out) rfl ?_)))
        refine (rCheck (of_ b) v3 HBX.out).mono ?_
        rintro e v4 ⟨rfl, d4⟩
        rw [hdE_yes HOX.out]
        have D4 := Lib.hid (below_bs D3.out d4)
        clear d4 D3
        go_wp2_with fail
        go_ret
        exact ⟨rfl, D4.out⟩
      · have HPV : Hid (paV b = nul ∧ paE b = 12) := Lib.hid ⟨if_neg kp, if_neg kp⟩
        rw [HPV.out.1, HPV.out.2]
        clear kp HPV
        have eqn : ∀ w : World, (Op.equalIn 10000 25 (.agg (hv nul)) (.agg (hv nul))).run Tryd.prog w = .ok true w := fun w => by rw [eq_hd0 nul nul nul_bd nul_bd w]; rfl
        go_wp2_with (first | ((show wpList _ _ _ ({ dst := none, op := Op.store 25 _ _, type := _, pos := _, after := _, guard := none } :: _) _ _; go_must (refine wp_st (g := v1.heap.size) (h := nul) rfl _ _ rfl (HZ v1 nul) (nul_bd) (nul_bd) rfl rfl ?_); intro v2 hR2 hb2 hz2); have HR2 := Lib.hid hR2) | (show wpList _ _ _ ({ dst := _, op := Op.load 25 _, type := _, pos := _, after := _, guard := _ } :: _) _ _; go_must (refine wp_ld (by rfl) _ rfl (HR2.out) (nul_bd) rfl ?_)))
        have G2 : Below v1.heap.size v1 v2 := (((Below.refl v1.heap.size v1).alloc (Nat.le_refl _) (.cells (hv nul) 25)).trans hb2)
        have D2 := Lib.hid (below_bs D1.out G2)
        clear G2 hR2 hb2 hz2 D1
        go_ret
        exact ⟨rfl, D2.out⟩
    · rw [hdE_no k]
      clear k
      go_wp2_with fail
      refine (Parse_any b A n c w2 (HT.out.past B2.out) (HH.out.below B2.out (Nat.le_refl _)) HL.out HNC.out.1 (by have := HN.out; omega) HBB.out).mono ?_
      rintro e v1 ⟨rfl, d1⟩
      have D1 := Lib.hid (below_bs B2.out d1)
      clear d1 B2 A2
      by_cases kp : paB b
      · have HPV : Hid (paV b = of_ b ∧ paE b = 0) := Lib.hid ⟨if_pos kp, if_pos kp⟩
        rw [HPV.out.1, HPV.out.2]
        have HBX : Hid (Bd (of_ b)) := Lib.hid (of_bd kp.1 HBB.out)
        have HOX : Hid (Ok (of_ b)) := Lib.hid kp.2
        have HBO : Hid (by_ (of_ b) = b) := Lib.hid (by_of kp.1 HBB.out)
        have HN28 : Hid (n = 28) := Lib.hid (by rw [← HL.out]; exact kp.1)
        clear kp HPV
        go_wp2_with (first | ((show wpList _ _ _ ({ dst := none, op := Op.store 25 _ _, type := _, pos := _, after := _, guard := none } :: _) _ _; go_must (refine wp_st (g := v1.heap.size) (h := of_ b) rfl _ _ rfl (HZ v1 nul) (nul_bd) (HBX.out) rfl rfl ?_); intro v2 hR2 hb2 hz2); have HR2 := Lib.hid hR2) | (show wpList _ _ _ ({ dst := _, op := Op.load 25 _, type := _, pos := _, after := _, guard := _ } :: _) _ _; go_must (refine wp_ld (by rfl) _ rfl (HR2.out) (HBX.out) rfl ?_)))
        have G2 : Below v1.heap.size v1 v2 := (((Below.refl v1.heap.size v1).alloc (Nat.le_refl _) (.cells (hv nul) 25)).trans hb2)
        have D2 := Lib.hid (below_bs D1.out G2)
        clear G2 hR2 hb2 hz2 D1
        refine (Encode_any (of_ b) v2 (HT.out.past D2.out) HBX.out).mono ?_
        rintro e v3 ⟨A3, n3, c3, rfl, hn3, o3, d3⟩
        rw [show enV (of_ b) = b by rw [enV, if_pos HOX.out, HBO.out]] at hn3 o3
        rw [HL.out] at hn3
        subst hn3
        have O3 := Lib.hid o3
        have D3 := Lib.hid (below_bs D2.out d3)
        have HR3 := Lib.hid (HR2.out.past d3)
        rw [hdE_yes HOX.out]
        have cv1 := conv8 (c := c3) o3.has HL.out
        have cv2 := conv8 (c := c) (HH.out.below D3.out (Nat.le_refl _)) HL.out
        clear o3 d3 HR2 D2
        go_wp2_with (first | (show wpList _ _ _ ({ dst := _, op := Op.load 25 _, type := _, pos := _, after := _, guard := _ } :: _) _ _; go_must (refine wp_ld (by rfl) _ rfl (HR3.out) (HBX.out) rfl ?_)))
        refine (rCheck (of_ b) v3 HBX.out).mono ?_
        rintro e v4 ⟨rfl, d4⟩
        rw [hdE_yes HOX.out]
        have D4 := Lib.hid (below_bs D3.out d4)
        clear d4 D3
        go_wp2_with fail
        go_ret
        exact ⟨rfl, D4.out⟩
      · have HPV : Hid (paV b = nul ∧ paE b = 12) := Lib.hid ⟨if_neg kp, if_neg kp⟩
        rw [HPV.out.1, HPV.out.2]
        clear kp HPV
        have eqn : ∀ w : World, (Op.equalIn 10000 25 (.agg (hv nul)) (.agg (hv nul))).run Tryd.prog w = .ok true w := fun w => by rw [eq_hd0 nul nul nul_bd nul_bd w]; rfl
        go_wp2_with (first | ((show wpList _ _ _ ({ dst := none, op := Op.store 25 _ _, type := _, pos := _, after := _, guard := none } :: _) _ _; go_must (refine wp_st (g := v1.heap.size) (h := nul) rfl _ _ rfl (HZ v1 nul) (nul_bd) (nul_bd) rfl rfl ?_); intro v2 hR2 hb2 hz2); have HR2 := Lib.hid hR2) | (show wpList _ _ _ ({ dst := _, op := Op.load 25 _, type := _, pos := _, after := _, guard := _ } :: _) _ _; go_must (refine wp_ld (by rfl) _ rfl (HR2.out) (nul_bd) rfl ?_)))
        have G2 : Below v1.heap.size v1 v2 := (((Below.refl v1.heap.size v1).alloc (Nat.le_refl _) (.cells (hv nul) 25)).trans hb2)
        have D2 := Lib.hid (below_bs D1.out G2)
        clear G2 hR2 hb2 hz2 D1
        go_ret
        exact ⟨rfl, D2.out⟩
end Go.Proofs.YteofindkccndjaaDoor.hdL
