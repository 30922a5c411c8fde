/- HeaderSealed, by a walk. -/
import Derived.Test.YteofindkccndjaaDoorHdL1
import Derived.Test.YteofindkccndjaaDoorHdW8
namespace Go.Proofs.YteofindkccndjaaDoor.hdL
set_option maxRecDepth 100000
open Go.RowKit Go.Proofs.YteofindkccndjaaDoor.base Go.Proofs.YteofindkccndjaaDoor.hdP Go.Proofs.YteofindkccndjaaDoor.hdW Go.Proofs.YteofindkccndjaaDoor.shP
set_option linter.unusedVariables false
set_option linter.unusedSimpArgs false
set_option maxRecDepth 100000
theorem wp_l20g {ops : Array Oper} {rest : List Oper} {o : Oper} {a : Act} {w : World} {Q : Exit → Act → World → Prop} {g : Nat} {l : List Int} (hw : Region.wanted o (yielded ops a.tmps) = true) (x : Operand) (ho : o.op = .load 23 x) (k : Lies w g 23 (sv l)) (e : l.length = 20)
    (hx : a.eval x = .pointer (some ⟨g, 0, none⟩)) (H : wpList Tryd.prog ops Q rest (a.put o.dst (.agg (sv l).toArray)) w) : wpList Tryd.prog ops Q (o :: rest) a w :=
  wpList_step fun K hK => by rw [if_pos hw]; exact wp_load_row 23 x ho g hx 23 (sv l).toArray (0, 0) _ k Tryd.underlying23 rfl (by rw [show (sv l).toArray.size = (sv l).length from rfl]; exact info23 e) (hK _ _ H)
theorem wp_lm {ops : Array Oper} {rest : List Oper} {o : Oper} {a : Act} {w : World} {Q : Exit → Act → World → Prop} {g off : Nat} {l : List Int} (hw : Region.wanted o (yielded ops a.tmps) = true) (x : Operand) (ho : o.op = .load 23 x) (k : w.rangeAt g off (sv l)) (e : l.length = 20)
    (hx : a.eval x = .pointer (some ⟨g, off, none⟩)) (H : wpList Tryd.prog ops Q rest (a.put o.dst (.agg (sv l).toArray)) w) : wpList Tryd.prog ops Q (o :: rest) a w :=
  wpList_step fun K hK => by rw [if_pos hw]; exact wp_load_mid 23 x ho g off hx (sv l) _ k Tryd.underlying23 rfl (info23 e) (hK _ _ H)
def setS (h : Hd) (l : List Int) : Hd := ⟨h.mo, h.me, h.of, h.ra, h.le, l⟩
theorem setS_bd {h : Hd} {l : List Int} (hb : Bd h) (e : l.length = 20) (k : ∀ z ∈ l, 0 ≤ z ∧ z ≤ 255) : Bd (setS h l) := ⟨hb.mo, hb.me, hb.of, hb.ra, hb.le, e, k⟩
theorem setS_ok {h : Hd} {l : List Int} (k : Ok h) : Ok (setS h l) := k
theorem by_take' {h : Hd} : (by_ h).take 8 = fr h := rfl
theorem setS_fr (h : Hd) (l : List Int) : fr (setS h l) = fr h := rfl
set_option maxHeartbeats 3200000 in
theorem sealed (h : Hd) (A : Option Addr) (n c : Nat) (z : List Int) (o : List Int) (w : World) (hb : Bd h) (hr : IsRow .u8 w A n c z) (ho : o.length = 20 ∧ ∀ x ∈ o, 0 ≤ x ∧ x ≤ 255) (hT : TabBoth w) :
    Calls Tryd.prog 7 #[.agg (hv h), .slice A n c, .agg (sv o).toArray] w fun e w' => e = .returned (.bool true) ∧ Below w.heap.size w w' := by
  obtain ⟨q1, q2, q3, q4⟩ := has_of_row hr
  obtain ⟨r1, r2⟩ := row_len hr
  generalize z.take n = b at *
  have HBB : Hid (∀ x ∈ b, 0 ≤ x ∧ x ≤ 255) := Lib.hid (fun x hx => bounds_u8 (q4 x hx))
  have HH := Lib.hid q1
  have HL := Lib.hid q2
  have HNC := Lib.hid (And.intro r1 r2)
  have HBD := Lib.hid hb
  have HO := Lib.hid ho
  have HT := Lib.hid hT.1
  have HS := Lib.hid hT.2
  have n9 : (n : Int) ≤ 9223372036854775807 := by omega
  have HZ := hdAt_new
  have zv := zv_nul
  have S0 : (w.alloc (.cells (hv h) 25)).heap.size = w.heap.size + 1 := by simp
  have G0 := (Below.refl w.heap.size w).alloc (Nat.le_refl _) (.cells (hv h) 25)
  have G1 := (Below.refl (w.alloc (.cells (hv h) 25)).heap.size (w.alloc (.cells (hv h) 25))).alloc (Nat.le_refl _) (.cells (sv o).toArray 23)
  have HA := Lib.hid (HdAt.past (hdAt_new w h) G1)
  have OO := Lies.fresh_at (w := w.alloc (.cells (hv h) 25)) (t := 23) (cs := sv o) S0
  have HOO := Lib.hid OO
  have B0 := Lib.hid (below_bs G0 G1)
  clear hr hb hT ho q1 q2 q3 q4 r1 r2 G0 G1 S0 OO
  go_enter Tryd.func7, Tryd.ntmps7
  go_upto_region 1 with fail
  generalize ((w.alloc (.cells (hv h) 25)).alloc (.cells (sv o).toArray 23)) = w0 at *
  generalize w.heap.size + 1 = go' at *
  go_wp2_with fail
  refine (alive w0 (HT.out.past B0.out)).mono ?_
  rintro e w1 ⟨rfl, b1⟩
  have B1 := Lib.hid (below_bs B0.out b1)
  have A1 := Lib.hid (HA.out.past b1)
  have O1 := Lib.hid (Lies.past HOO.out b1)
  clear b1 B0 HA HOO
  go_wp2_with (show wpList _ _ _ ({ dst := _, op := Op.load 25 (.tmp 3), type := _, pos := _, after := _, guard := _ } :: _) _ _; go_must (refine wp_ld (by rfl) _ rfl (A1.out) (HBD.out) rfl ?_))
  refine (rCheck h w1 HBD.out).mono ?_
  rintro e w2 ⟨rfl, b2⟩
  have B2 := Lib.hid (below_bs B1.out b2)
  have A2 := Lib.hid (A1.out.past b2)
  have O2 := Lib.hid (Lies.past O1.out b2)
  clear b2 B1 A1 O1
  by_cases k : Ok h
  · rw [hdE_yes k]
    have HK := Lib.hid k
    clear k
    have a3 := A2.out.c3
    by_cases e : (n : Int) = h.ra
    · have HDG := Lib.hid (dg_ok (r := b) HK.out (by rw [HL.out]; exact e))
      have HSL : Hid (slV h b = setS h (digest (fr h ++ b))) := Lib.hid (by rw [sl_yes HDG.out.1, HDG.out.2]; rfl)
      have HN : Hid (n ≤ 4096) := Lib.hid (by have := HK.out; unfold Ok at this; omega)
      have HRA : Hid ((b.length : Int) = h.ra) := Lib.hid (by rw [HL.out]; exact e)
      rw [← e] at a3
      clear e
      go_wp2_with (show wpList _ _ _ ({ dst := _, op := Op.load 25 (.tmp 3), type := _, pos := _, after := _, guard := _ } :: _) _ _; go_must (refine wp_ld (by rfl) _ rfl (A2.out) (HBD.out) rfl ?_))
      refine (Seal_any h b A n c w2 (HT.out.past B2.out) (HS.out.below B2.out (Nat.le_refl _)) HBD.out (HH.out.below B2.out (Nat.le_refl _)) HL.out HNC.out.1 HNC.out.2 HBB.out).mono ?_
      rintro e w3 ⟨rfl, b3⟩
      rw [HSL.out, HDG.out.1]
      have B3 := Lib.hid (below_bs B2.out b3)
      have A3 := Lib.hid (A2.out.past b3)
      have O3 := Lib.hid (Lies.past O2.out b3)
      clear b3 B2 A2 O2 a3 HSL HDG
      obtain ⟨dl, hdl⟩ : ∃ x, digest (fr h ++ b) = x := ⟨_, rfl⟩
      rw [hdl]
      have HDL : Hid (dl.length = 20 ∧ ∀ z ∈ dl, 0 ≤ z ∧ z ≤ 255) := Lib.hid (by rw [← hdl]; exact ⟨rfl, digest_bd _⟩)
      have HDE := Lib.hid hdl
      clear hdl
      have HX : Hid (Bd (setS h dl)) := Lib.hid (setS_bd HBD.out HDL.out.1 HDL.out.2)
      have HXK : Hid (Ok (setS h dl)) := Lib.hid (setS_ok HK.out)
      have HDX : Hid (dgE (setS h dl) b = 0 ∧ dgV (setS h dl) b = dl) := Lib.hid (by
        have := dg_ok (h := setS h dl) (r := b) HXK.out HRA.out
        rw [setS_fr, HDE.out] at this; exact this)
      have HRX : Hid (rgB (setS h dl) b = true) := Lib.hid (by rw [rg_ok (h := setS h dl) HXK.out HRA.out, HDX.out.2]; exact decide_eq_true rfl)
      have HX2 : Hid (Bd (setS h o)) := Lib.hid (setS_bd HBD.out HO.out.1 HO.out.2)
      have HRX2 : Hid (rgB (setS h o) b = decide (dl = o)) := Lib.hid (by
        have e := dg_ok (h := setS h o) (r := b) (setS_ok HK.out) HRA.out
        rw [setS_fr, HDE.out] at e
        rw [rg_ok (h := setS h o) (setS_ok HK.out) HRA.out, e.2]; rfl)
      have HEX : Hid (hdE (setS h dl) = 0 ∧ hdE (setS h o) = 0) := Lib.hid ⟨hdE_yes (setS_ok HK.out), hdE_yes (setS_ok HK.out)⟩
      go_wp2_with (first | ((show wpList _ _ _ ({ dst := none, op := Op.store 25 (.tmp 8) _, type := _, pos := _, after := _, guard := none } :: _) _ _; go_must (refine wp_st (g := w3.heap.size) (h := setS h dl) rfl _ _ rfl (HZ w3 nul) (nul_bd) (HX.out) rfl rfl ?_); intro w4 hR hb2 hz); have R4 := Lib.hid hR; have G : Below w3.heap.size w3 w4 := (((Below.refl w3.heap.size w3).alloc (Nat.le_refl _) _).trans hb2); have A4 := Lib.hid (A3.out.past G); have B4 := Lib.hid (below_bs B3.out G); have O4 := Lib.hid (Lies.past O3.out G); clear hR hb2 hz G) | (show wpList _ _ _ ({ dst := _, op := Op.load 25 (.tmp 8), type := _, pos := _, after := _, guard := _ } :: _) _ _; go_must (refine wp_ld (by rfl) _ rfl (R4.out) (HX.out) rfl ?_)))
      refine (Digest_any (setS h dl) b A n c w4 (HT.out.past B4.out) (HS.out.below B4.out (Nat.le_refl _)) HX.out (HH.out.below B4.out (Nat.le_refl _)) HL.out HNC.out.1 HNC.out.2 HBB.out).mono ?_
      rintro e w5 ⟨rfl, b5⟩
      rw [HDX.out.1, HDX.out.2]
      have B5 := Lib.hid (below_bs B4.out b5)
      have A5 := Lib.hid (A4.out.past b5)
      have O5 := Lib.hid (Lies.past O4.out b5)
      have R5 := Lib.hid (R4.out.past b5)
      clear b5 B3 A3 O3 B4 A4 O4 R4
      go_wp2_with (first | ((show wpList _ _ _ ({ dst := none, op := Op.store 23 (.tmp 10) _, type := _, pos := _, after := _, guard := none } :: _) _ _; go_must (refine wp_s20 (g := w5.heap.size) (l := dl) rfl _ _ rfl (z20_at w5 rfl) rfl (HDL.out.1) rfl rfl ?_); intro w6 hR hb2 hz); have D6 := Lib.hid hR; have G : Below w5.heap.size w5 w6 := (((Below.refl w5.heap.size w5).alloc (Nat.le_refl _) _).trans hb2); have A6 := Lib.hid (A5.out.past G); have B6 := Lib.hid (below_bs B5.out G); have O6 := Lib.hid (Lies.past O5.out G); have R6 := Lib.hid (R5.out.past G); clear hR hb2 hz G) | (show wpList _ _ _ ({ dst := _, op := Op.load 25 (.tmp 3), type := _, pos := _, after := _, guard := _ } :: _) _ _; go_must (refine wp_ld (by rfl) _ rfl (A6.out) (HBD.out) rfl ?_)))
      refine (Encode_any h w6 (HT.out.past B6.out) HBD.out).mono ?_
      rintro e w7 ⟨X7, n7, c7, rfl, hn7, o7, b7⟩
      rw [show enV h = by_ h from if_pos HK.out] at hn7 o7
      obtain rfl : 28 = n7 := by rw [← hn7, by_len HBD.out]
      rw [hdE_yes HK.out]
      have HC7 : Hid (28 ≤ c7) := Lib.hid (by
        obtain ⟨X, cap, e1, e2, e3⟩ := o7.val
        injection e1 with _ _ e4
        rw [e4, ← by_len HBD.out]; exact e3)
      have P7 := Lib.hid o7.has
      have B7 := Lib.hid (below_bs B6.out b7)
      have A7 := Lib.hid (A6.out.past b7)
      have O7 := Lib.hid (Lies.past O6.out b7)
      have R7 := Lib.hid (R6.out.past b7)
      have D7 := Lib.hid (Lies.past D6.out b7)
      clear b7 o7 hn7 B5 A5 O5 R5 B6 A6 O6 R6 D6
      have eqd := eq_s dl dl HDL.out.1 HDL.out.1 HDL.out.2 HDL.out.2
      rw [decide_eq_true rfl] at eqd
      have eqd' : ∀ w : World, (Op.equalIn 10000 23 (.agg (sv dl).toArray) (.agg (sv (setS h dl).s).toArray)).run Tryd.prog w = .ok true w := eqd
      obtain ⟨bb7, of7, rfl, -, -⟩ := has_some P7.out (by rw [by_len HBD.out]; omega)
      have c78 : (8 : Int) ≤ c7 := by have := HC7.out; omega
      have HF8 : Hid (Has .u8 w7 (some ⟨bb7, of7, none⟩) (fr h)) := Lib.hid (by have := has_fst P7.out 8; rwa [by_take'] at this)
      go_upto_region 9 with (first | (show wpList _ _ _ ({ dst := _, op := Op.load 23 (.tmp 10), type := _, pos := _, after := _, guard := _ } :: _) _ _; go_must (refine wp_l20g (by rfl) _ rfl (D7.out) (HDL.out.1) rfl ?_)) | (show wpList _ _ _ ({ dst := _, op := Op.load 23 (.tmp 71), type := _, pos := _, after := _, guard := _ } :: _) _ _; go_must (refine wp_lm (by rfl) _ rfl (HdAt.rng R7.out) (HX.out.n) rfl ?_)))
      have HS7 : Hid (w7.heap.size ≤ (w7.alloc (.cells #[] 5)).heap.size) := Lib.hid (by simp)
      have GE := Lib.hid ((Below.refl w7.heap.size w7).alloc (Nat.le_refl _) (.cells #[] 5))
      have HLF : Hid ((fr h ++ b).length = 8 + n) := Lib.hid (by rw [List.length_append, HL.out]; rfl)
      have HSM : Hid (shW.sumV (fr h ++ b) = dl ∧ shW.sumE (fr h ++ b) = 0) := Lib.hid (by
        have e : (fr h ++ b).length ≤ 20000 := by rw [HLF.out]; have := HN.out; omega
        exact ⟨by rw [shW.sumV, if_pos e, HDE.out], by rw [shW.sumE, if_pos e]⟩)
      have HFB : Hid (∀ z ∈ fr h ++ b, 0 ≤ z ∧ z ≤ 255) := Lib.hid (fun z hz => by
        rcases List.mem_append.1 hz with x | x
        · exact fr_bd HK.out z x
        · exact HBB.out z x)
      go_wp2_with (at_builtin; go_loud (first | (refine app8z rfl _ _ rfl w7.heap.size _ [] rfl (.inr ⟨rfl, _, rfl⟩) (some ⟨bb7, of7, none⟩) 8 _ (fr h) rfl rfl (HF8.out.below GE.out (Nat.le_refl _)) 8 (by simp) (by omega) HS7.out ?_; intro A8 c8 w8 ho hk hb; rw [List.nil_append] at ho; have O8 := Lib.hid ho; have B8 := Lib.hid (below_bs B7.out (GE.out.trans hb)); have G8 := Lib.hid (GE.out.trans hb); have HS8 : Hid (w7.heap.size ≤ w8.heap.size) := Lib.hid (by have := hb.size; have := HS7.out; omega); clear ho hk hb) | (refine app8z rfl _ _ rfl w7.heap.size _ (fr h) rfl O8.out A n c b rfl HL.out (HH.out.below B8.out (Nat.le_refl _)) (8 + n) (by simp [fr]) (by have := HN.out; omega) HS8.out ?_; intro A9 c9 w9 ho hk hb; have P9 := Lib.hid ho.has; have HO9 := Lib.hid ho; have G9 := Lib.hid (G8.out.trans hb); clear ho hk hb)))
      have HC9 : Hid (8 + n ≤ c9) := Lib.hid (by
        obtain ⟨X, cap, e1, e2, e3⟩ := HO9.out.val
        injection e1 with _ _ e4
        rw [e4, ← HLF.out]; exact e3)
      have B9 := Lib.hid (below_bs B7.out G9.out)
      have A9' := Lib.hid (A7.out.past G9.out)
      have O9 := Lib.hid (Lies.past O7.out G9.out)
      have R9 := Lib.hid (R7.out.past G9.out)
      have D9 := Lib.hid (Lies.past D7.out G9.out)
      refine (shW.Sum_any (fr h ++ b) A9 (8 + n) c9 w9 (HS.out.below B9.out (Nat.le_refl _)) P9.out HLF.out HC9.out (by have := HN.out; omega) HFB.out).mono ?_
      rintro e wa ⟨rfl, ba⟩
      rw [HSM.out.1, HSM.out.2]
      have Ba := Lib.hid (below_bs B9.out ba)
      have Aa := Lib.hid (A9'.out.past ba)
      have Oa := Lib.hid (Lies.past O9.out ba)
      have Ra := Lib.hid (R9.out.past ba)
      have Da := Lib.hid (Lies.past D9.out ba)
      clear ba B7 A7 O7 R7 D7 HO9 O8 B8 G8 HS8 G9 B9 A9' O9 R9 D9 P9 HC9 HS7 GE HF8 P7
      rw [show shW.darr dl = (sv dl).toArray from rfl]
      go_wp2_with (first | ((show wpList _ _ _ ({ dst := none, op := Op.store 23 (.tmp 14) _, type := _, pos := _, after := _, guard := none } :: _) _ _; go_must (refine wp_s20 (g := wa.heap.size) (l := dl) rfl _ _ rfl (z20_at wa rfl) rfl (HDL.out.1) rfl rfl ?_); intro wb hR hb2 hz); have Wb := Lib.hid hR; have G : Below wa.heap.size wa wb := (((Below.refl wa.heap.size wa).alloc (Nat.le_refl _) _).trans hb2); have Ab := Lib.hid (Aa.out.past G); have Bb := Lib.hid (below_bs Ba.out G); have Ob := Lib.hid (Lies.past Oa.out G); have Rb := Lib.hid (Ra.out.past G); have Db := Lib.hid (Lies.past Da.out G); clear hR hb2 hz G) | (show wpList _ _ _ ({ dst := _, op := Op.load 25 (.tmp 8), type := _, pos := _, after := _, guard := _ } :: _) _ _; go_must (refine wp_ld (by rfl) _ rfl (Rb.out) (HX.out) rfl ?_)))
      refine (Right_any (setS h dl) b A n c wb (HT.out.past Bb.out) (HS.out.below Bb.out (Nat.le_refl _)) HX.out (HH.out.below Bb.out (Nat.le_refl _)) HL.out HNC.out.1 HNC.out.2 HBB.out).mono ?_
      rintro e wc ⟨rfl, bc⟩
      rw [HRX.out, HEX.out.1]
      have Bc := Lib.hid (below_bs Bb.out bc)
      have Ac := Lib.hid (Ab.out.past bc)
      have Oc := Lib.hid (Lies.past Ob.out bc)
      have Rc := Lib.hid (Rb.out.past bc)
      have Dc := Lib.hid (Lies.past Db.out bc)
      have Wc := Lib.hid (Lies.past Wb.out bc)
      clear bc Ba Aa Oa Ra Da Bb Ab Ob Rb Db Wb
      have HLT : Hid (w.heap.size < wc.heap.size ∧ go' < wc.heap.size ∧ w5.heap.size < wc.heap.size ∧ wa.heap.size < wc.heap.size) := Lib.hid ⟨Ac.out.lt, Oc.out.lt, Dc.out.lt, Wc.out.lt⟩
      obtain ⟨v, hv⟩ : ∃ v, decide (dl = o) = v := ⟨_, rfl⟩
      have eqo := eq_s o dl HO.out.1 HDL.out.1 HO.out.2 HDL.out.2
      rw [show decide (o = dl) = v by rw [← hv]; exact decide_eq_decide.2 eq_comm] at eqo
      have HRX3 : Hid (rgB (setS h o) b = v) := Lib.hid (by rw [HRX2.out, hv])
      have eqh : ∀ w : World, (Op.equalIn 10000 25 (.agg (hdW.hv h)) (.agg (hdW.hv h))).run Tryd.prog w = .ok true w := fun w => by rw [eq_hd0 h h HBD.out HBD.out w]; simp
      clear hv
      go_upto_region 12 with (first | (show wpList _ _ _ ({ dst := _, op := Op.load 25 (.tmp 8), type := _, pos := _, after := _, guard := _ } :: _) _ _; go_must (refine wp_ld (by rfl) _ rfl (Rc.out) (HX.out) rfl ?_)) | (show wpList _ _ _ ({ dst := none, op := Op.store 25 (.tmp 18) _, type := _, pos := _, after := _, guard := none } :: _) _ _; go_must (refine wp_st (g := wc.heap.size) (h := setS h dl) rfl _ _ rfl (HZ wc nul) (nul_bd) (HX.out) rfl rfl ?_); intro wd hR hb2 hz))
      have T1 := Lib.hid hR
      have G1 : Below wc.heap.size wc wd := (((Below.refl wc.heap.size wc).alloc (Nat.le_refl _) (.cells (hdW.hv nul) 25)).trans hb2)
      have Od := Lib.hid (Lies.past Oc.out G1)
      go_upto_region 13 with (first | (show wpList _ _ _ ({ dst := _, op := Op.load 23 (.tmp 5), type := _, pos := _, after := _, guard := _ } :: _) _ _; go_must (refine wp_l20g (by rfl) _ rfl (Od.out) (HO.out.1) rfl ?_)) | (show wpList _ _ _ ({ dst := none, op := Op.store 23 (.tmp 93) _, type := _, pos := _, after := _, guard := none } :: _) _ _; go_must (refine wpList_store_mid (P := Tryd.prog) rfl 23 _ _ rfl _ 5 (sv o).toArray rfl rfl (by rw [show (sv o).toArray.size = 20 by simp [sv, HO.out.1]]; exact there_sum T1.out HX.out) (by rw [show (sv o).toArray.size = (sv o).length from rfl]; exact info23 HO.out.1) (sv_all _) ?_)))
      have T2 : Hid (HdAt (wd.setCells wc.heap.size 5 (sv o)) wc.heap.size (setS h o)) := Lib.hid (set_sum (b := setS h dl) T1.out HX.out HO.out.1)
      have HG2 := Lib.hid (below_cells wc.heap.size (Nat.le_refl _) (sv o) 5 G1)
      have Bd' := Lib.hid (below_bs Bc.out HG2.out)
      clear hR hb2 hz G1 T1
      generalize (wd.setCells wc.heap.size 5 (sv o)) = wd2 at *
      go_wp2_with (show wpList _ _ _ ({ dst := _, op := Op.load 25 (.tmp 18), type := _, pos := _, after := _, guard := _ } :: _) _ _; go_must (refine wp_ld (by rfl) _ rfl (T2.out) (HX2.out) rfl ?_))
      refine (Right_any (setS h o) b A n c wd2 (HT.out.past Bd'.out) (HS.out.below Bd'.out (Nat.le_refl _)) HX2.out (HH.out.below Bd'.out (Nat.le_refl _)) HL.out HNC.out.1 HNC.out.2 HBB.out).mono ?_
      rintro e we ⟨rfl, be⟩
      rw [HRX3.out, HEX.out.2]
      have Ge := Lib.hid (below_bs HG2.out be)
      have Be := Lib.hid (below_bs Bc.out Ge.out)
      have Te := Lib.hid (T2.out.past be)
      have Ae := Lib.hid (Ac.out.past Ge.out)
      have Oe := Lib.hid (Lies.past Oc.out Ge.out)
      have De := Lib.hid (Lies.past Dc.out Ge.out)
      have We := Lib.hid (Lies.past Wc.out Ge.out)
      clear be Bc Ac Oc Rc Dc Wc Od HG2 T2 Bd' Ge HZ zv
      go_upto_region 15 with (first | (show wpList _ _ _ ({ dst := _, op := Op.load 23 (.tmp 100), type := _, pos := _, after := _, guard := _ } :: _) _ _; go_must (refine wp_lm (by rfl) _ rfl (HdAt.rng Ae.out) (HBD.out.n) rfl ?_)) | (show wpList _ _ _ ({ dst := none, op := Op.store 23 (.tmp 102) _, type := _, pos := _, after := _, guard := none } :: _) _ _; go_must (refine wpList_store_mid (P := Tryd.prog) rfl 23 _ _ rfl _ 5 (sv h.s).toArray rfl rfl (by rw [show (sv h.s).toArray.size = 20 by simp [sv, HBD.out.n]]; exact there_sum Te.out HX2.out) (by rw [show (sv h.s).toArray.size = (sv h.s).length from rfl]; exact info23 HBD.out.n) (sv_all _) ?_)))
      have T3 : Hid (HdAt (we.setCells wc.heap.size 5 (sv h.s)) wc.heap.size h) := Lib.hid (set_sum (b := setS h o) Te.out HX2.out HBD.out.n)
      have Bf := Lib.hid (below_cells wc.heap.size (Nat.le_of_lt HLT.out.1) (sv h.s) 5 Be.out)
      have Af : Hid (HdAt (we.setCells wc.heap.size 5 (sv h.s)) w.heap.size h) := Lib.hid (lies_cells (Nat.ne_of_gt HLT.out.1) (sv h.s) 5 Ae.out)
      have Of := Lib.hid (lies_cells (Nat.ne_of_gt HLT.out.2.1) (sv h.s) 5 Oe.out)
      have Df := Lib.hid (lies_cells (Nat.ne_of_gt HLT.out.2.2.1) (sv h.s) 5 De.out)
      have Wf := Lib.hid (lies_cells (Nat.ne_of_gt HLT.out.2.2.2) (sv h.s) 5 We.out)
      clear Te Ae Oe De We Be
      generalize (we.setCells wc.heap.size 5 (sv h.s)) = wf at *
      go_wp2_with (first | (show wpList _ _ _ ({ dst := _, op := Op.load 25 (.tmp 18), type := _, pos := _, after := _, guard := _ } :: _) _ _; go_must (refine wp_ld (by rfl) _ rfl (T3.out) (HBD.out) rfl ?_)) | (show wpList _ _ _ ({ dst := _, op := Op.load 25 (.tmp 3), type := _, pos := _, after := _, guard := _ } :: _) _ _; go_must (refine wp_ld (by rfl) _ rfl (Af.out) (HBD.out) rfl ?_)) | (show wpList _ _ _ ({ dst := _, op := Op.load 23 (.tmp 10), type := _, pos := _, after := _, guard := _ } :: _) _ _; go_must (refine wp_l20g (by rfl) _ rfl (Df.out) (HDL.out.1) rfl ?_)) | (show wpList _ _ _ ({ dst := _, op := Op.load 23 (.tmp 14), type := _, pos := _, after := _, guard := _ } :: _) _ _; go_must (refine wp_l20g (by rfl) _ rfl (Wf.out) (HDL.out.1) rfl ?_)) | (show wpList _ _ _ ({ dst := _, op := Op.load 23 (.tmp 5), type := _, pos := _, after := _, guard := _ } :: _) _ _; go_must (refine wp_l20g (by rfl) _ rfl (Of.out) (HO.out.1) rfl ?_)))
      go_ret
      exact ⟨rfl, Bf.out⟩
    · have e' : ((n : Int) == h.ra) = false := by simpa using e
      go_wp2_with fail
      go_ret
      exact ⟨rfl, B2.out⟩
  · rw [hdE_no k]
    clear k
    go_wp2_with fail
    go_ret
    exact ⟨rfl, B2.out⟩
end Go.Proofs.YteofindkccndjaaDoor.hdL
