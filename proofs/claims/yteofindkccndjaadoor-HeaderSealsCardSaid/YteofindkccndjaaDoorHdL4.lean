/- HeaderSeals, by a walk. -/
import Derived.Test.YteofindkccndjaaDoorHdL1
import Derived.Test.YteofindkccndjaaDoorHdW8
namespace Go.Proofs.YteofindkccndjaaDoor.hdL
set_option maxRecDepth 100000
open Go.RowKit Go.Proofs.YteofindkccndjaaDoor.base Go.Proofs.YteofindkccndjaaDoor.hdP Go.Proofs.YteofindkccndjaaDoor.hdW
set_option linter.unusedVariables false
set_option linter.unusedSimpArgs false
set_option maxRecDepth 100000 in
set_option maxHeartbeats 3200000 in
theorem seals (h : Hd) (A : Option Addr) (n c : Nat) (z : List Int) (w : World) (hb : Bd h) (hr : IsRow .u8 w A n c z) (hT : TabBoth w) :
    Calls Tryd.prog 4 #[.agg (hv h), .slice A n c] w fun e w' => e = .returned (.bool true) ∧ Below w.heap.size w w' := by
  obtain ⟨q1, q2, q3, q4⟩ := has_of_row hr
  obtain ⟨r1, r2⟩ := row_len hr
  generalize z.take n = b at *
  have HBB : Hid (∀ x ∈ b, 0 ≤ x ∧ x ≤ 255) := Lib.hid (fun x hx => bounds_u8 (q4 x hx))
  have HH := Lib.hid q1
  have HL := Lib.hid q2
  have HNC := Lib.hid (And.intro r1 r2)
  have HBD := Lib.hid hb
  have HT := Lib.hid hT.1
  have HS := Lib.hid hT.2
  have n9 : (n : Int) ≤ 9223372036854775807 := by omega
  have HZ := hdAt_new
  have zv := zv_nul
  have A0 := Lib.hid (hdAt_new w h)
  have B0 : Hid (Below w.heap.size w (w.alloc (.cells (hv h) 25))) := Lib.hid (by (repeat' (first | (with_reducible exact Below.refl _ _) | (with_reducible assumption) | (with_reducible refine below_drewN ?_ _) | (with_reducible refine below_new ?_ _) | (with_reducible refine Below.alloc ?_ ?_ _) | (with_reducible refine Below.drew ?_) | (with_reducible refine Below.setCell ?_ ?_ _) | (with_reducible apply below_at; (case k => (with_reducible assumption)); (case hB => omega)) | (with_reducible apply below_on; (with_reducible assumption)) | (go_size; done) | (with_reducible apply size_of))))
  have HBR := Lib.hid (dgV_bd h b)
  have HSL : Hid (Bd (slV h b)) := Lib.hid (slV_bd hb)
  have eqs := eq_s (dgV h b) (dgV h b) HBR.out.1 HBR.out.1 HBR.out.2 HBR.out.2
  rw [decide_eq_true rfl] at eqs
  have eqp : ∀ w : World, (Op.equalIn 10000 25 (.agg (hv (slV h b))) (.agg (hv (slV h b)))).run Tryd.prog w = .ok true w := fun w => by rw [eq_hd0 _ _ HSL.out HSL.out w]; simp
  clear hr hb hT q1 q2 q3 q4 r1 r2
  by_cases c1 : (5000 : Int) < n
  · go_enter Tryd.func4, Tryd.ntmps4
    go_wp2_with fail
    go_ret
    exact ⟨rfl, B0.out⟩
  · have HN : Hid (n ≤ 5000) := Lib.hid (by omega)
    go_enter Tryd.func4, Tryd.ntmps4
    go_upto_region 3 with fail
    generalize (w.alloc (.cells (hv h) 25)) = w0 at *
    go_wp2_with (show wpList _ _ _ ({ dst := _, op := Op.load 25 _, type := _, pos := _, after := _, guard := _ } :: _) _ _; go_must (refine wp_ld (by rfl) _ rfl (A0.out) HBD.out rfl ?_))
    refine (Digest_any h b A n c w0 (HT.out.past B0.out) (HS.out.below B0.out (Nat.le_refl _)) HBD.out (HH.out.below B0.out (Nat.le_refl _)) HL.out HNC.out.1 HNC.out.2 HBB.out).mono ?_
    rintro e w1 ⟨rfl, b1⟩
    have B1 := Lib.hid (below_bs B0.out b1)
    have A1 := Lib.hid (A0.out.past b1)
    clear b1 A0 B0
    go_wp2_with (first | ((show wpList _ _ _ ({ dst := none, op := Op.store 23 (.tmp 5) _, type := _, pos := _, after := _, guard := none } :: _) _ _; go_must (refine wp_s20 (g := w1.heap.size) (l := dgV h b) rfl _ _ rfl (z20_at w1 rfl) rfl (HBR.out.1) rfl rfl ?_); intro w2 hR hb2 hz); have P2 := Lib.hid hR; have G : Below w1.heap.size w1 w2 := (((Below.refl w1.heap.size w1).alloc (Nat.le_refl _) _).trans hb2); have A2 := Lib.hid (A1.out.past G); have B2 := Lib.hid (below_bs B1.out G); clear hR hb2 hz G) | (show wpList _ _ _ ({ dst := _, op := Op.load 25 _, type := _, pos := _, after := _, guard := _ } :: _) _ _; go_must (refine wp_ld (by rfl) _ rfl (A2.out) HBD.out rfl ?_)))
    refine (rDigest h b A n c w2 HBD.out (HH.out.below B2.out (Nat.le_refl _)) HL.out HNC.out.1 HNC.out.2 HBB.out).mono ?_
    rintro e w3 ⟨rfl, b3⟩
    have B3 := Lib.hid (below_bs B2.out b3)
    have A3 := Lib.hid (A2.out.past b3)
    have P3 := Lib.hid (Lies.past P2.out b3)
    clear b3 A1 B1 A2 B2 P2
    go_wp2_with (first | ((show wpList _ _ _ ({ dst := none, op := Op.store 23 (.tmp 7) _, type := _, pos := _, after := _, guard := none } :: _) _ _; go_must (refine wp_s20 (g := w3.heap.size) (l := dgV h b) rfl _ _ rfl (z20_at w3 rfl) rfl (HBR.out.1) rfl rfl ?_); intro w4 hR hb2 hz); have Q4 := Lib.hid hR; have G : Below w3.heap.size w3 w4 := (((Below.refl w3.heap.size w3).alloc (Nat.le_refl _) _).trans hb2); have A4 := Lib.hid (A3.out.past G); have B4 := Lib.hid (below_bs B3.out G); have P4 := Lib.hid (Lies.past P3.out G); clear hR hb2 hz G) | (show wpList _ _ _ ({ dst := _, op := Op.load 25 _, type := _, pos := _, after := _, guard := _ } :: _) _ _; go_must (refine wp_ld (by rfl) _ rfl (A4.out) HBD.out rfl ?_)))
    refine (Seal_any h b A n c w4 (HT.out.past B4.out) (HS.out.below B4.out (Nat.le_refl _)) HBD.out (HH.out.below B4.out (Nat.le_refl _)) HL.out HNC.out.1 HNC.out.2 HBB.out).mono ?_
    rintro e w5 ⟨rfl, b5⟩
    have B5 := Lib.hid (below_bs B4.out b5)
    have A5 := Lib.hid (A4.out.past b5)
    have P5 := Lib.hid (Lies.past P4.out b5)
    have Q5 := Lib.hid (Lies.past Q4.out b5)
    clear b5 A3 B3 A4 B4 P3 P4 Q4
    go_wp2_with (first | ((show wpList _ _ _ ({ dst := none, op := Op.store 25 _ _, type := _, pos := _, after := _, guard := none } :: _) _ _; go_must (refine wp_st (g := w5.heap.size) (h := slV h b) rfl _ _ rfl (HZ w5 nul) (nul_bd) (HSL.out) rfl rfl ?_); intro w6 hR hb2 hz); have R6 := Lib.hid hR; have G : Below w5.heap.size w5 w6 := (((Below.refl w5.heap.size w5).alloc (Nat.le_refl _) _).trans hb2); have A6 := Lib.hid (A5.out.past G); have B6 := Lib.hid (below_bs B5.out G); have P6 := Lib.hid (Lies.past P5.out G); have Q6 := Lib.hid (Lies.past Q5.out G); clear hR hb2 hz G) | (show wpList _ _ _ ({ dst := _, op := Op.load 25 _, type := _, pos := _, after := _, guard := _ } :: _) _ _; go_must (refine wp_ld (by rfl) _ rfl (A6.out) HBD.out rfl ?_)))
    refine (rSeal h b A n c w6 HBD.out (HH.out.below B6.out (Nat.le_refl _)) HL.out HNC.out.1 HNC.out.2 HBB.out).mono ?_
    rintro e w7 ⟨rfl, b7⟩
    have B7 := Lib.hid (below_bs B6.out b7)
    have A7 := Lib.hid (A6.out.past b7)
    have P7 := Lib.hid (Lies.past P6.out b7)
    have Q7 := Lib.hid (Lies.past Q6.out b7)
    have R7 := Lib.hid (R6.out.past b7)
    clear b7 A5 B5 A6 B6 P5 P6 Q5 Q6 R6
    go_wp2_with (first | ((show wpList _ _ _ ({ dst := none, op := Op.store 25 _ _, type := _, pos := _, after := _, guard := none } :: _) _ _; go_must (refine wp_st (g := w7.heap.size) (h := slV h b) rfl _ _ rfl (HZ w7 nul) (nul_bd) (HSL.out) rfl rfl ?_); intro w8 hR hb2 hz); have S8 := Lib.hid hR; have G : Below w7.heap.size w7 w8 := (((Below.refl w7.heap.size w7).alloc (Nat.le_refl _) _).trans hb2); have A8 := Lib.hid (A7.out.past G); have B8 := Lib.hid (below_bs B7.out G); have P8 := Lib.hid (Lies.past P7.out G); have Q8 := Lib.hid (Lies.past Q7.out G); have R8 := Lib.hid (R7.out.past G); clear hR hb2 hz G) | (show wpList _ _ _ ({ dst := _, op := Op.load 25 _, type := _, pos := _, after := _, guard := _ } :: _) _ _; go_must (refine wp_ld (by rfl) _ rfl (A8.out) HBD.out rfl ?_)))
    refine (Right_any h b A n c w8 (HT.out.past B8.out) (HS.out.below B8.out (Nat.le_refl _)) HBD.out (HH.out.below B8.out (Nat.le_refl _)) HL.out HNC.out.1 HNC.out.2 HBB.out).mono ?_
    rintro e w9 ⟨rfl, b9⟩
    have B9 := Lib.hid (below_bs B8.out b9)
    have A9 := Lib.hid (A8.out.past b9)
    have P9 := Lib.hid (Lies.past P8.out b9)
    have Q9 := Lib.hid (Lies.past Q8.out b9)
    have R9 := Lib.hid (R8.out.past b9)
    have S9 := Lib.hid (S8.out.past b9)
    clear b9 A7 B7 A8 B8 P7 P8 Q7 Q8 R7 R8 S8
    go_wp2_with (show wpList _ _ _ ({ dst := _, op := Op.load 25 _, type := _, pos := _, after := _, guard := _ } :: _) _ _; go_must (refine wp_ld (by rfl) _ rfl (A9.out) HBD.out rfl ?_))
    refine (rRight h b A n c w9 HBD.out (HH.out.below B9.out (Nat.le_refl _)) HL.out HNC.out.1 HNC.out.2 HBB.out).mono ?_
    rintro e wa ⟨rfl, ba⟩
    have Ba := Lib.hid (below_bs B9.out ba)
    have Pa := Lib.hid (Lies.past P9.out ba)
    have Qa := Lib.hid (Lies.past Q9.out ba)
    have Ra := Lib.hid (R9.out.past ba)
    have Sa := Lib.hid (S9.out.past ba)
    clear ba A9 B9 P9 Q9 R9 S9 HZ zv
    go_wp2_with (first | (show wpList _ _ _ ({ dst := _, op := Op.load _ (.tmp 5), type := _, pos := _, after := _, guard := _ } :: _) _ _; (show wpList _ _ _ ({ dst := _, op := Op.load 23 _, type := _, pos := _, after := _, guard := none } :: _) _ _; go_must (refine wp_l20 rfl _ rfl (Pa.out) (HBR.out.1) rfl ?_))) | (show wpList _ _ _ ({ dst := _, op := Op.load _ (.tmp 7), type := _, pos := _, after := _, guard := _ } :: _) _ _; (show wpList _ _ _ ({ dst := _, op := Op.load 23 _, type := _, pos := _, after := _, guard := none } :: _) _ _; go_must (refine wp_l20 rfl _ rfl (Qa.out) (HBR.out.1) rfl ?_))) | (show wpList _ _ _ ({ dst := _, op := Op.load 25 (.tmp 9), type := _, pos := _, after := _, guard := _ } :: _) _ _; go_must (refine wp_ld (by rfl) _ rfl (Ra.out) (HSL.out) rfl ?_)) | (show wpList _ _ _ ({ dst := _, op := Op.load 25 (.tmp 11), type := _, pos := _, after := _, guard := _ } :: _) _ _; go_must (refine wp_ld (by rfl) _ rfl (Sa.out) (HSL.out) rfl ?_)))
    go_ret
    exact ⟨rfl, Ba.out⟩
end Go.Proofs.YteofindkccndjaaDoor.hdL
