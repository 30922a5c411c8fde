/- Bytes, Encode of both, by walks. -/
import Derived.Test.YteofindkccndjaaDoorHdW3
import Derived.Test.YteofindkccndjaaDoorOrd
import Derived.Test.YteofindkccndjaaDoorOwnZ
namespace Go.Proofs.YteofindkccndjaaDoor.hdW
set_option maxRecDepth 100000
open Go.RowKit Go.Proofs.YteofindkccndjaaDoor.base Go.Proofs.YteofindkccndjaaDoor.hdP
set_option linter.unusedVariables false
set_option linter.unusedSimpArgs false
theorem hv_size (h : Hd) (hb : Bd h) : 25 = (hv h).size := by unfold hv; simp [hl, sv, hb.n]
theorem info25 (h : Hd) (hb : Bd h) : (Tryd.prog.info? 25).map (·.size) = some (hv h).size := by
  rw [← hv_size h hb]; kernel_rfl
theorem wp_ld {ops : Array Oper} {rest : List Oper} {o : Oper} {a : Act} {w : World} {Q : Exit → Act → World → Prop} {g : Nat} {h : Hd} (hw : Region.wanted o (yielded ops a.tmps) = true) (x : Operand) (ho : o.op = .load 25 x) (k : HdAt w g h) (hb : Bd h)
    (hx : a.eval x = .pointer (some ⟨g, 0, none⟩)) (H : wpList Tryd.prog ops Q rest (a.put o.dst (.agg (hv h))) w) : wpList Tryd.prog ops Q (o :: rest) a w :=
  wpList_step fun K hK => by rw [if_pos hw]; exact wp_load_row 25 x ho g hx 25 (hv h) (0, 0) _ k.row Tryd.underlying25 rfl (info25 h hb) (hK _ _ H)
theorem quiet_ld {o : Oper} {a : Act} {w : World} {C : World → Prop} {g : Nat} {h : Hd} (x : Operand) (ho : o.op = .load 25 x) (k : HdAt w g h) (hb : Bd h)
    (hx : a.eval x = .pointer (some ⟨g, 0, none⟩)) : Oper.quietAt Tryd.prog o a C w (.agg (hv h)) := by
  unfold Oper.quietAt execOp
  simp only [ho, hx, Instr.loadAt, Instr.sureAddr, Sem.run_bind, Sem.run_pure, Result.andThen_ok, run_loadVar_row w g 25 25 (hv h) (0, 0) _ k.row Tryd.underlying25 rfl (info25 h hb)]
  exact ⟨rfl, rfl⟩
theorem HdAt.sum {w : World} {g : Nat} {h : Hd} (k : HdAt w g h) : Has .u8 w (some ⟨g, 5, none⟩) h.s := by
  refine .inr ⟨g, 5, rfl, k.lt, fun i hi => ?_⟩
  refine k.rng i _ ?_
  rw [sv, List.getElem?_map, List.getD_eq_getElem?_getD, List.getElem?_eq_getElem hi]
  rfl
theorem below_bs {w w1 w2 : World} (h : Below w.heap.size w w1) (hb : Below w1.heap.size w1 w2) : Below w.heap.size w w2 := h.trans (hb.mono h.size)
set_option maxRecDepth 100000 in
set_option maxHeartbeats 800000 in
theorem Encode_any (h : Hd) (w : World) (hT : TabP w) (hb : Bd h) : Calls Tryd.prog 9 #[.agg (hv h)] w fun e w' => ∃ A n c, e = .returned (.tuple #[.slice A n c, .int .i64 (hdE h)]) ∧ (enV h).length = n ∧ OwnZ w' w.heap.size (.slice A n c) (enV h) ∧ Below w.heap.size w w' := by
  have A0 := hdAt_new w h
  have HBD := Lib.hid hb
  have B0 : Hid (Below w.heap.size w (w.alloc (.cells (hv h) 25))) := Lib.hid (by (repeat' (first | (with_reducible exact Below.refl _ _) | (with_reducible assumption) | (with_reducible refine below_drewN ?_ _) | (with_reducible refine below_new ?_ _) | (with_reducible refine Below.alloc ?_ ?_ _) | (with_reducible refine Below.drew ?_) | (with_reducible refine Below.setCell ?_ ?_ _) | (with_reducible apply below_at; (case k => (with_reducible assumption)); (case hB => omega)) | (with_reducible apply below_on; (with_reducible assumption)) | (go_size; done) | (with_reducible apply size_of))))
  have HT0 := Lib.hid (hT.past B0.out)
  have HS0 : Hid ((w.alloc (.cells (hv h) 25)).heap.size = w.heap.size + 1) := Lib.hid (by simp)
  clear hT hb
  go_enter Tryd.func9, Tryd.ntmps9
  go_upto_region 1 with fail
  generalize (w.alloc (.cells (hv h) 25)) = w0 at *
  have HA0 := Lib.hid A0
  clear A0
  go_wp2_with (show wpList _ _ _ ({ dst := _, op := Op.load 25 _, type := _, pos := _, after := _, guard := _ } :: _) _ _; go_must (refine wp_ld (by rfl) _ rfl (HA0.out) HBD.out rfl ?_))
  refine (Check_any h w0 HBD.out).mono ?_
  rintro e w1 ⟨rfl, hb1⟩
  have HA1 := Lib.hid (HA0.out.past hb1)
  have HT1 := Lib.hid (HT0.out.past hb1)
  have B1 := Lib.hid (B0.out.trans (hb1.mono (by have := HS0.out; omega)))
  have HS1 : Hid (w.heap.size + 1 ≤ w1.heap.size) := Lib.hid (by have := hb1.size; have := HS0.out; omega)
  clear HA0 HT0 B0 HS0 hb1
  by_cases k : Ok h
  · have HE := Lib.hid (hdE_yes k)
    have HK := Lib.hid k
    have HV : Hid (enV h = by_ h) := Lib.hid (if_pos k)
    rw [HE.out]
    clear k
    go_upto_region 4 with fail
    (have RD := grows_roads (S := fun x' => Below w1.heap.size w1 x') (fun a b h1 h2 => below_bs h2 h1)); refine region_ordT 4 _ Grows RD (Below.drew (Below.refl w1.heap.size w1)) (by kernel_rfl) (by decide) ?_; intro ops Q' hops hPQ hN; (have HNS : Hid (Region.noSelect ops = true ∧ Region.sinkB .any ops 4 = true ∧ Region.chainB .any ops 4 = true ∧ 4 < ops.size) := Lib.hid (by rw [hops]; exact ⟨by kernel_rfl, by kernel_rfl, by kernel_rfl, by decide⟩)); (have hsz : ops.size = 7 := (by rw [hops]; rfl)); have HOP := Lib.hid hops; have HPQ := Lib.hid hPQ; have HN := Lib.hid hN; rw [hsz]; clear hops hsz hPQ hN
    refine ordT_take RD 0 (at_list (by rw [HOP.out]; rfl)) HNS.out HPQ.out (by rw [HOP.out]; kernel_rfl) (by rw [HOP.out]; kernel_rfl) (by rw [HOP.out]; rfl) (fun K hK => ?_); apply Exists.intro; refine ⟨fun W hSW => ?_, hK _ ?_⟩; (focus ((try dsimp only at hSW); exact quiet_ld _ rfl (HA1.out.past hSW) HBD.out rfl)); clear hK K; (try simp only [Act.put, List.setIfInBounds_toArray, List.set_cons_zero, List.set_cons_succ])
    refine ordT_take RD 2 (at_list (by rw [HOP.out]; rfl)) HNS.out HPQ.out (by rw [HOP.out]; kernel_rfl) (by rw [HOP.out]; kernel_rfl) (by rw [HOP.out]; rfl) (fun K hK => ?_); apply Exists.intro; refine ⟨fun W hSW => ?_, hK _ ?_⟩; (focus ((try dsimp only at hSW); go_simp; try with_reducible rfl)); clear hK K; (try simp only [Act.put, List.setIfInBounds_toArray, List.set_cons_zero, List.set_cons_succ])
    refine ordT_take RD 3 (at_list (by rw [HOP.out]; rfl)) HNS.out HPQ.out (by rw [HOP.out]; kernel_rfl) (by rw [HOP.out]; kernel_rfl) (by rw [HOP.out]; rfl) (fun K hK => ?_); apply Exists.intro; refine ⟨fun W hSW => ?_, hK _ ?_⟩; (focus ((try dsimp only at hSW); go_simp; try with_reducible rfl)); clear hK K; (try simp only [Act.put, List.setIfInBounds_toArray, List.set_cons_zero, List.set_cons_succ])
    refine ordT_one RD 1 (by rw [HOP.out]; kernel_rfl) (at_list (by rw [HOP.out]; rfl)) (by rw [HOP.out]; rfl) (fun W1 hWW hSW K hK => ?_); (try dsimp only at hSW)
    go_simp
    refine (front_ok h W1 (HT1.out.past hSW) HK.out).mono ?_
    rintro v w2 ⟨g, rfl, o2, b2⟩
    refine hK _ _ (RD.keep b2 hSW) ?_
    have HO2 : Hid (OwnI w2 w1.heap.size 5 .u8 (.slice (some ⟨g, 0, none⟩) 8 8) (fr h)) := Lib.hid (o2.mono hSW.size)
    clear o2 b2 hSW hWW
    clear hK K; (try simp only [Act.put, List.setIfInBounds_toArray, List.set_cons_zero, List.set_cons_succ])
    refine ordT_end (by rw [HOP.out]; kernel_rfl) (fun W2 hWW hSW => ?_); rw [HOP.out]; simp only [List.drop_succ_cons, List.drop_zero]; have hN := HN.out; clear HOP HNS HPQ HN RD; (try dsimp only at hSW)
    have HO3 := Lib.hid (HO2.out.below hWW (Nat.le_refl _))
    have HS3 := Lib.hid (HA1.out.past hSW).sum
    have B3 := Lib.hid (below_bs B1.out hSW)
    have HZ3 := Lib.hid hSW.size
    have HN : Hid (∀ (a : Act) (w : World), _ → Q' Exit.normal a w) := Lib.hid hN
    have HL : Hid (h.s.length = 20) := Lib.hid HBD.out.n
    clear hWW hSW hN
    go_wp2_with (at_builtin; go_loud (refine app8 rfl _ _ rfl w1.heap.size _ (fr h) rfl HO3.out _ _ _ _ rfl HL.out HS3.out 28 (by simp [fr]) (by omega) HZ3.out ?_; intro A4 c4 w4 ho hk hb; have HO4 := Lib.hid ho; have B4 := Lib.hid (B3.out.trans (hb.mono (by have := HS1.out; omega))); clear ho hk hb))
    refine HN.out _ _ ?_
    go_wp2_with fail
    refine bodyPost_ret (by simp [results, Tryd.results9, go_sem, ]; try rfl) rfl ?_
    exact ⟨A4, 28, c4, by rw [HE.out], by rw [HV.out]; simp [by_, fr, HL.out], .inl (by rw [HV.out]; exact HO4.out.mono (by have := HS1.out; omega)), B4.out⟩
  · have HE := Lib.hid (hdE_no k)
    have HV : Hid (enV h = []) := Lib.hid (if_neg k)
    rw [HE.out]
    clear k
    go_wp2_with fail
    refine bodyPost_ret (by simp [results, Tryd.results9, go_sem, ]; try rfl) rfl ?_
    exact ⟨none, 0, 0, by rw [HE.out], by rw [HV.out]; rfl, .inr ⟨HV.out, none, rfl⟩, B1.out⟩
set_option maxRecDepth 100000 in
set_option maxHeartbeats 800000 in
theorem rBytes (h : Hd) (w : World) (hb : Bd h) (k : Ok h) : Calls Tryd.prog 25 #[.agg (hv h)] w fun e w' => ∃ A c, e = .returned (.slice A 28 c) ∧ OwnI w' w.heap.size 5 .u8 (.slice A 28 c) (by_ h) ∧ Below w.heap.size w w' := by
  have A0 := hdAt_new w h
  have HBD := Lib.hid hb
  have HK := Lib.hid k
  have B0 : Hid (Below w.heap.size w (w.alloc (.cells (hv h) 25))) := Lib.hid (by (repeat' (first | (with_reducible exact Below.refl _ _) | (with_reducible assumption) | (with_reducible refine below_drewN ?_ _) | (with_reducible refine below_new ?_ _) | (with_reducible refine Below.alloc ?_ ?_ _) | (with_reducible refine Below.drew ?_) | (with_reducible refine Below.setCell ?_ ?_ _) | (with_reducible apply below_at; (case k => (with_reducible assumption)); (case hB => omega)) | (with_reducible apply below_on; (with_reducible assumption)) | (go_size; done) | (with_reducible apply size_of))))
  have HS0 : Hid (w.heap.size + 1 ≤ (w.alloc (.cells (hv h) 25)).heap.size) := Lib.hid (by simp)
  clear hb k
  go_enter Tryd.func25, Tryd.ntmps25
  go_upto_region 1 with fail
  generalize (w.alloc (.cells (hv h) 25)) = w1 at *
  have HA1 := Lib.hid A0
  clear A0
  (have RD := grows_roads (S := fun x' => Below w1.heap.size w1 x') (fun a b h1 h2 => below_bs h2 h1)); refine region_ordT 4 _ Grows RD (Below.drew (Below.refl w1.heap.size w1)) (by kernel_rfl) (by decide) ?_; intro ops Q' hops hPQ hN; (have HNS : Hid (Region.noSelect ops = true ∧ Region.sinkB .any ops 4 = true ∧ Region.chainB .any ops 4 = true ∧ 4 < ops.size) := Lib.hid (by rw [hops]; exact ⟨by kernel_rfl, by kernel_rfl, by kernel_rfl, by decide⟩)); (have hsz : ops.size = 6 := (by rw [hops]; rfl)); have HOP := Lib.hid hops; have HPQ := Lib.hid hPQ; have HN := Lib.hid hN; rw [hsz]; clear hops hsz hPQ hN
  refine ordT_take RD 0 (at_list (by rw [HOP.out]; rfl)) HNS.out HPQ.out (by rw [HOP.out]; kernel_rfl) (by rw [HOP.out]; kernel_rfl) (by rw [HOP.out]; rfl) (fun K hK => ?_); apply Exists.intro; refine ⟨fun W hSW => ?_, hK _ ?_⟩; (focus ((try dsimp only at hSW); exact quiet_ld _ rfl (HA1.out.past hSW) HBD.out rfl)); clear hK K; (try simp only [Act.put, List.setIfInBounds_toArray, List.set_cons_zero, List.set_cons_succ])
  refine ordT_take RD 2 (at_list (by rw [HOP.out]; rfl)) HNS.out HPQ.out (by rw [HOP.out]; kernel_rfl) (by rw [HOP.out]; kernel_rfl) (by rw [HOP.out]; rfl) (fun K hK => ?_); apply Exists.intro; refine ⟨fun W hSW => ?_, hK _ ?_⟩; (focus ((try dsimp only at hSW); go_simp; try with_reducible rfl)); clear hK K; (try simp only [Act.put, List.setIfInBounds_toArray, List.set_cons_zero, List.set_cons_succ])
  refine ordT_take RD 3 (at_list (by rw [HOP.out]; rfl)) HNS.out HPQ.out (by rw [HOP.out]; kernel_rfl) (by rw [HOP.out]; kernel_rfl) (by rw [HOP.out]; rfl) (fun K hK => ?_); apply Exists.intro; refine ⟨fun W hSW => ?_, hK _ ?_⟩; (focus ((try dsimp only at hSW); go_simp; try with_reducible rfl)); clear hK K; (try simp only [Act.put, List.setIfInBounds_toArray, List.set_cons_zero, List.set_cons_succ])
  refine ordT_one RD 1 (by rw [HOP.out]; kernel_rfl) (at_list (by rw [HOP.out]; rfl)) (by rw [HOP.out]; rfl) (fun W1 hWW hSW K hK => ?_); (try dsimp only at hSW)
  go_simp
  refine (rFront h W1 HK.out).mono ?_
  rintro v w2 ⟨A, c, rfl, o2, b2⟩
  refine hK _ _ (RD.keep b2 hSW) ?_
  have HO2 : Hid (OwnI w2 w1.heap.size 5 .u8 (.slice A 8 c) (fr h)) := Lib.hid (o2.mono hSW.size)
  clear o2 b2 hSW hWW
  clear hK K; (try simp only [Act.put, List.setIfInBounds_toArray, List.set_cons_zero, List.set_cons_succ])
  refine ordT_end (by rw [HOP.out]; kernel_rfl) (fun W2 hWW hSW => ?_); rw [HOP.out]; simp only [List.drop_succ_cons, List.drop_zero]; have hN := HN.out; clear HOP HNS HPQ HN RD; (try dsimp only at hSW)
  have HO3 := Lib.hid (HO2.out.below hWW (Nat.le_refl _))
  have HS3 := Lib.hid (HA1.out.past hSW).sum
  have B3 := Lib.hid (below_bs B0.out hSW)
  have HZ3 := Lib.hid hSW.size
  have HN : Hid (∀ (a : Act) (w : World), _ → Q' Exit.normal a w) := Lib.hid hN
  have HL : Hid (h.s.length = 20) := Lib.hid HBD.out.n
  clear hWW hSW hN
  go_wp2_with (at_builtin; go_loud (refine app8 rfl _ _ rfl w1.heap.size _ (fr h) rfl HO3.out _ _ _ _ rfl HL.out HS3.out 28 (by simp [fr]) (by omega) HZ3.out ?_; intro A4 c4 w4 ho hk hb; have HO4 := Lib.hid ho; have B4 := Lib.hid (B3.out.trans (hb.mono (by have := HS0.out; omega))); clear ho hk hb))
  refine HN.out _ _ ?_
  go_wp2_with fail
  refine bodyPost_ret (by simp [results, Tryd.results25, go_sem, ]; try rfl) rfl ?_
  exact ⟨A4, c4, rfl, HO4.out.mono (by have := HS0.out; omega), B4.out⟩
set_option maxRecDepth 100000 in
set_option maxHeartbeats 800000 in
theorem rEncode (h : Hd) (w : World) (hb : Bd h) : Calls Tryd.prog 10 #[.agg (hv h)] w fun e w' => ∃ A n c, e = .returned (.tuple #[.slice A n c, .int .i64 (hdE h)]) ∧ (enV h).length = n ∧ OwnZ w' w.heap.size (.slice A n c) (enV h) ∧ Below w.heap.size w w' := by
  have A0 := hdAt_new w h
  have HBD := Lib.hid hb
  have B0 : Hid (Below w.heap.size w (w.alloc (.cells (hv h) 25))) := Lib.hid (by (repeat' (first | (with_reducible exact Below.refl _ _) | (with_reducible assumption) | (with_reducible refine below_drewN ?_ _) | (with_reducible refine below_new ?_ _) | (with_reducible refine Below.alloc ?_ ?_ _) | (with_reducible refine Below.drew ?_) | (with_reducible refine Below.setCell ?_ ?_ _) | (with_reducible apply below_at; (case k => (with_reducible assumption)); (case hB => omega)) | (with_reducible apply below_on; (with_reducible assumption)) | (go_size; done) | (with_reducible apply size_of))))
  have HS0 : Hid ((w.alloc (.cells (hv h) 25)).heap.size = w.heap.size + 1) := Lib.hid (by simp)
  clear hb
  go_enter Tryd.func10, Tryd.ntmps10
  go_upto_region 1 with fail
  generalize (w.alloc (.cells (hv h) 25)) = w0 at *
  have HA0 := Lib.hid A0
  clear A0
  go_wp2_with (show wpList _ _ _ ({ dst := _, op := Op.load 25 _, type := _, pos := _, after := _, guard := _ } :: _) _ _; go_must (refine wp_ld (by rfl) _ rfl (HA0.out) HBD.out rfl ?_))
  refine (rCheck h w0 HBD.out).mono ?_
  rintro e w1 ⟨rfl, hb1⟩
  have HA1 := Lib.hid (HA0.out.past hb1)
  have B1 := Lib.hid (below_bs B0.out hb1)
  have HS1 : Hid (w.heap.size + 1 ≤ w1.heap.size) := Lib.hid (by have := hb1.size; have := HS0.out; omega)
  clear HA0 B0 HS0 hb1
  by_cases k : Ok h
  · have HE := Lib.hid (hdE_yes k)
    have HK := Lib.hid k
    have HV : Hid (enV h = by_ h) := Lib.hid (if_pos k)
    rw [HE.out]
    clear k
    go_wp2_with (show wpList _ _ _ ({ dst := _, op := Op.load 25 _, type := _, pos := _, after := _, guard := _ } :: _) _ _; go_must (refine wp_ld (by rfl) _ rfl (HA1.out) HBD.out rfl ?_))
    refine (rBytes h w1 HBD.out HK.out).mono ?_
    rintro e w2 ⟨A, c, rfl, o2, b2⟩
    have HO2 := Lib.hid o2
    have B2 := Lib.hid (below_bs B1.out b2)
    clear o2 b2
    go_wp2_with fail
    refine bodyPost_ret (by simp [results, Tryd.results10, go_sem, ]; try rfl) rfl ?_
    exact ⟨A, 28, c, by rw [HE.out], by rw [HV.out, by_len HBD.out], .inl (by rw [HV.out]; exact HO2.out.mono (by have := HS1.out; omega)), B2.out⟩
  · have HE := Lib.hid (hdE_no k)
    have HV : Hid (enV h = []) := Lib.hid (if_neg k)
    rw [HE.out]
    clear k
    go_wp2_with (show wpList _ _ _ ({ dst := _, op := Op.load 25 _, type := _, pos := _, after := _, guard := _ } :: _) _ _; go_must (refine wp_ld (by rfl) _ rfl (HA1.out) HBD.out rfl ?_))
    refine (rCheck h w1 HBD.out).mono ?_
    rintro e w2 ⟨rfl, b2⟩
    have B2 := Lib.hid (below_bs B1.out b2)
    clear b2
    go_wp2_with fail
    refine bodyPost_ret (by simp [results, Tryd.results10, go_sem, ]; try rfl) rfl ?_
    exact ⟨none, 0, 0, rfl, by rw [HV.out]; rfl, .inr ⟨HV.out, none, rfl⟩, B2.out⟩
end Go.Proofs.YteofindkccndjaaDoor.hdW
