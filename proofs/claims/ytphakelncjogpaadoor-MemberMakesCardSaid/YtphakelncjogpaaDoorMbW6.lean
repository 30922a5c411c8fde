/- The records of members: the reference's. -/
import Derived.Test.YtphakelncjogpaaDoorMbW5
namespace Go.Proofs.YtphakelncjogpaaDoor.mbW
set_option maxRecDepth 100000
open Go.RowKit Go.Proofs.YtphakelncjogpaaDoor.base Go.Proofs.YtphakelncjogpaaDoor.shP Go.Proofs.YtphakelncjogpaaDoor.shW
open Go.Proofs.YtphakelncjogpaaDoor.trW (IsD sv zd_isD digest_isD z20_at)
set_option linter.unusedVariables false
set_option linter.unusedSimpArgs false
set_option maxRecDepth 100000
theorem ret_rc {fn : Func} {p : Tmp} {r : Rc} (hr : fn.results = #[.cell p 54]) (tmps : Array Value) (w : World) (g : Nat) (hp : tmps.getD p undef = .pointer (some ⟨g, 0, none⟩)) (k : Lies w g 54 (rcE r)) :
    (results fn tmps).run Tryd.prog w = .ok (.agg (RE.enc r).toArray) w :=
  results_cell_row (P := Tryd.prog) hr tmps w g 54 (rcE r).toArray (0, 0) _ hp k Tryd.underlying54 rfl (by have := info22; rw [this]; show some 22 = some _; rw [List.size_toArray]; exact congrArg some (RE.len r).symm)
theorem z22_at (w : World) {g : Nat} (hg : w.heap.size = g) : Lies (w.alloc (.cells #[.string ⟨#[]⟩, .int .i64 0, .int .u8 0, .int .u8 0, .int .u8 0, .int .u8 0, .int .u8 0, .int .u8 0, .int .u8 0, .int .u8 0, .int .u8 0, .int .u8 0, .int .u8 0, .int .u8 0, .int .u8 0, .int .u8 0, .int .u8 0, .int .u8 0, .int .u8 0, .int .u8 0, .int .u8 0, .int .u8 0] 54)) g 54 (rcE rc0) := Lies.fresh_at (cs := rcE rc0) hg
set_option maxHeartbeats 3200000 in
theorem record_any (nm : ByteArray) (A : Option Addr) (n c : Nat) (b : List Int) (w : World) (hA : Has .u8 w A b) (hl : b.length = n) (hn : n ≤ 100000) (hb : ∀ z ∈ b, 0 ≤ z ∧ z ≤ 255) :
    Calls Tryd.prog 31 #[.agg #[.string nm, .slice A n c]] w fun e w' => e = .returned (.agg (RE.enc ⟨nm, n, digest b⟩).toArray) ∧ Below w.heap.size w w' := by
  have HA := Lib.hid hA
  have HL := Lib.hid hl
  have HNN := Lib.hid hn
  have HB := Lib.hid hb
  have n9 : (n : Int) ≤ 100000 := by omega
  have G1 := mb_new w (.cells #[.string nm, .slice A n c] 37)
  have S1 : (w.alloc (.cells #[.string nm, .slice A n c] 37)).heap.size = w.heap.size + 1 := by simp
  have G2 := mb_new (w.alloc (.cells #[.string nm, .slice A n c] 37)) (.cells #[.string ⟨#[]⟩, .int .i64 0, .int .u8 0, .int .u8 0, .int .u8 0, .int .u8 0, .int .u8 0, .int .u8 0, .int .u8 0, .int .u8 0, .int .u8 0, .int .u8 0, .int .u8 0, .int .u8 0, .int .u8 0, .int .u8 0, .int .u8 0, .int .u8 0, .int .u8 0, .int .u8 0, .int .u8 0, .int .u8 0] 54)
  have LB := Lib.hid ((Lies.fresh w 37 [.string nm, .slice A n c]).past G2)
  have LZ := Lib.hid (z22_at (w.alloc (.cells #[.string nm, .slice A n c] 37)) S1)
  have B0 := Lib.hid (mb_bb G1 G2)
  clear hA hl hn hb G1 G2 S1
  go_enter Tryd.func31, Tryd.ntmps31
  go_upto_region 1 with fail
  generalize ((w.alloc (.cells #[.string nm, .slice A n c] 37)).alloc (.cells #[.string ⟨#[]⟩, .int .i64 0, .int .u8 0, .int .u8 0, .int .u8 0, .int .u8 0, .int .u8 0, .int .u8 0, .int .u8 0, .int .u8 0, .int .u8 0, .int .u8 0, .int .u8 0, .int .u8 0, .int .u8 0, .int .u8 0, .int .u8 0, .int .u8 0, .int .u8 0, .int .u8 0, .int .u8 0, .int .u8 0] 54)) = w0 at *
  (have RD := grows_roads (S := fun x' => Below w0.heap.size w0 x') (fun a b h1 h2 => h2.trans (h1.mono h2.size))); refine region_ordT 9 _ Grows RD (Below.drew (Below.refl _ _)) (by kernel_rfl) (by decide) ?_; intro ops Q' hops hPQ hN; (have HNS : Hid (Region.noSelect ops = true ∧ Region.sinkB .any ops 9 = true ∧ Region.chainB .any ops 9 = true ∧ 9 < ops.size) := Lib.hid (by rw [hops]; exact ⟨by kernel_rfl, by kernel_rfl, by kernel_rfl, by decide⟩)); (have hsz : ops.size = 10 := (by rw [hops]; rfl)); have HOP := Lib.hid hops; have HPQ := Lib.hid hPQ; have HN := Lib.hid hN; rw [hsz]; clear hops hsz hPQ hN
  refine ordT_take RD 0 (at_list (by rw [HOP.out]; rfl)) HNS.out HPQ.out (by rw [HOP.out]; kernel_rfl) (by rw [HOP.out]; kernel_rfl) (by rw [HOP.out]; rfl) (fun K hK => ?_); apply Exists.intro; refine ⟨fun W hSW => ?_, hK _ ?_⟩; (focus ((try dsimp only at hSW); go_simp; try with_reducible rfl)); clear hK K; (try simp only [Act.put, List.setIfInBounds_toArray, List.set_cons_zero, List.set_cons_succ])
  refine ordT_take RD 1 (at_list (by rw [HOP.out]; rfl)) HNS.out HPQ.out (by rw [HOP.out]; kernel_rfl) (by rw [HOP.out]; kernel_rfl) (by rw [HOP.out]; rfl) (fun K hK => ?_); apply Exists.intro; refine ⟨fun W hSW => ?_, hK _ ?_⟩; (focus ((try dsimp only at hSW); have y1 := (LB.out.past hSW).cell 0; go_simp; try with_reducible rfl)); clear hK K; (try simp only [Act.put, List.setIfInBounds_toArray, List.set_cons_zero, List.set_cons_succ])
  refine ordT_take RD 2 (at_list (by rw [HOP.out]; rfl)) HNS.out HPQ.out (by rw [HOP.out]; kernel_rfl) (by rw [HOP.out]; kernel_rfl) (by rw [HOP.out]; rfl) (fun K hK => ?_); apply Exists.intro; refine ⟨fun W hSW => ?_, hK _ ?_⟩; (focus ((try dsimp only at hSW); go_simp; try with_reducible rfl)); clear hK K; (try simp only [Act.put, List.setIfInBounds_toArray, List.set_cons_zero, List.set_cons_succ])
  refine ordT_take RD 3 (at_list (by rw [HOP.out]; rfl)) HNS.out HPQ.out (by rw [HOP.out]; kernel_rfl) (by rw [HOP.out]; kernel_rfl) (by rw [HOP.out]; rfl) (fun K hK => ?_); apply Exists.intro; refine ⟨fun W hSW => ?_, hK _ ?_⟩; (focus ((try dsimp only at hSW); have y2 := (LB.out.past hSW).cell 1; go_simp; try with_reducible rfl)); clear hK K; (try simp only [Act.put, List.setIfInBounds_toArray, List.set_cons_zero, List.set_cons_succ])
  refine ordT_take RD 4 (at_list (by rw [HOP.out]; rfl)) HNS.out HPQ.out (by rw [HOP.out]; kernel_rfl) (by rw [HOP.out]; kernel_rfl) (by rw [HOP.out]; rfl) (fun K hK => ?_); apply Exists.intro; refine ⟨fun W hSW => ?_, hK _ ?_⟩; (focus ((try dsimp only at hSW); go_simp; try with_reducible rfl)); clear hK K; (try simp only [Act.put, List.setIfInBounds_toArray, List.set_cons_zero, List.set_cons_succ])
  refine ordT_take RD 5 (at_list (by rw [HOP.out]; rfl)) HNS.out HPQ.out (by rw [HOP.out]; kernel_rfl) (by rw [HOP.out]; kernel_rfl) (by rw [HOP.out]; rfl) (fun K hK => ?_); apply Exists.intro; refine ⟨fun W hSW => ?_, hK _ ?_⟩; (focus ((try dsimp only at hSW); go_simp; try with_reducible rfl)); clear hK K; (try simp only [Act.put, List.setIfInBounds_toArray, List.set_cons_zero, List.set_cons_succ])
  refine ordT_take RD 6 (at_list (by rw [HOP.out]; rfl)) HNS.out HPQ.out (by rw [HOP.out]; kernel_rfl) (by rw [HOP.out]; kernel_rfl) (by rw [HOP.out]; rfl) (fun K hK => ?_); apply Exists.intro; refine ⟨fun W hSW => ?_, hK _ ?_⟩; (focus ((try dsimp only at hSW); have y2 := (LB.out.past hSW).cell 1; go_simp; try with_reducible rfl)); clear hK K; (try simp only [Act.put, List.setIfInBounds_toArray, List.set_cons_zero, List.set_cons_succ])
  refine ordT_one RD 7 (by rw [HOP.out]; kernel_rfl) (at_list (by rw [HOP.out]; rfl)) (by rw [HOP.out]; rfl) (fun W1 hWW hSW K hK => ?_); (try dsimp only at hSW)
  go_simp
  refine (rOf b A n c W1 (HA.out.below (mb_bb B0.out hSW) (Nat.le_refl _)) HL.out HNN.out HB.out).mono ?_
  rintro e w3 ⟨rfl, b3⟩
  have HD := Lib.hid (digest_isD b)
  obtain ⟨dg, hdg⟩ : ∃ dg, digest b = dg := ⟨_, rfl⟩
  rw [hdg] at HD ⊢
  have HDG := Lib.hid hdg
  clear hdg
  refine hK _ _ (mb_bb hSW b3) ?_
  clear hSW hWW b3
  clear hK K; (try simp only [Act.put, List.setIfInBounds_toArray, List.set_cons_zero, List.set_cons_succ])
  refine ordT_take RD 8 (at_list (by rw [HOP.out]; rfl)) HNS.out HPQ.out (by rw [HOP.out]; kernel_rfl) (by rw [HOP.out]; kernel_rfl) (by rw [HOP.out]; rfl) (fun K hK => ?_); apply Exists.intro; refine ⟨fun W hSW => ?_, hK _ ?_⟩; (focus ((try dsimp only at hSW); exact (quiet_rec _ _ _ rfl HD.out.len rfl rfl rfl))); clear hK K; (try simp only [Act.put, List.setIfInBounds_toArray, List.set_cons_zero, List.set_cons_succ])
  refine ordT_end (by rw [HOP.out]; kernel_rfl) (fun W2 hWW hSW => ?_); rw [HOP.out]; simp only [List.drop_succ_cons, List.drop_zero]; have hN := HN.out; clear HOP HNS HPQ HN RD; (try dsimp only at hSW)
  have Z2 := Lib.hid (LZ.out.past hSW)
  have B2 := Lib.hid (mb_bb B0.out hSW)
  clear hSW hWW
  go_wp2_with (show wpList _ _ _ ({ dst := none, op := Op.store 54 (.tmp 2) _, type := _, pos := _, after := _, guard := _ } :: _) _ _; go_must (refine Enc.wp_st RE (g := (w.heap.size + 1)) (P := Tryd.prog) info22 (by rfl) _ _ rfl (Z2.out) rfl rfl ?_); intro w4 hR hg hb hz)
  refine bodyPost_ret (ret_rc (by exact Tryd.results31) _ _ _ rfl hR) rfl ?_
  exact ⟨by rw [HDG.out], B2.out.trans (hb.mono (by omega))⟩
theorem run_litR (r : Rc) (w : World) : (Instr.buildSlice 25 1 #[(0, .agg (rcE r).toArray)]).run Tryd.prog w = .ok (.slice (some ⟨w.heap.size, 0, none⟩) 1 1) (w.alloc (.cells (rcE r).toArray 54)) := by
  obtain ⟨nm, sz, l⟩ := r
  unfold rcE
  generalize (fun i => Value.int .u8 (l.getD i 0)) = f
  kernel_rfl
theorem wp_litR {ops : Array Oper} {rest : List Oper} {o : Oper} {a : Act} {w : World} {Q : Exit → Act → World → Prop} {r : Rc} (hw : Region.wanted o (yielded ops a.tmps) = true) (x : Operand) (ho : o.op = .buildSlice 25 1 #[(0, x)])
    (hx : a.eval x = .agg (rcE r).toArray) (H : wpList Tryd.prog ops Q rest (a.put o.dst (.slice (some ⟨w.heap.size, 0, none⟩) 1 1)) (w.alloc (.cells (rcE r).toArray 54))) : wpList Tryd.prog ops Q (o :: rest) a w := by
  refine wpList_step fun K hK => ?_
  rw [if_pos hw]
  unfold Oper.wp execOp
  simp only [ho, List.map_toArray, List.map_cons, List.map_nil, hx, Sem.run_bind, Sem.run_pure, run_litR, Result.andThen_ok]
  exact hK _ _ H
theorem litR_has (w : World) (r : Rc) {g : Nat} (hg : w.heap.size = g) : RE.Has (w.alloc (.cells (rcE r).toArray 54)) (some ⟨g, 0, none⟩) [r] := by
  have := Enc.lit RE w [r] hg
  rw [RE.row_one] at this
  exact this
theorem ofL_snoc (ms : List Mb) {k : Nat} (h : k < ms.length) : (ofL ms).take (k + 1) = (ofL ms).take k ++ [recOf (ms.getD k mb0)] := by
  rw [List.take_add_one, List.getElem?_eq_getElem (by rw [ofL_len]; exact h), ← ofL_get ms h, List.getD_eq_getElem?_getD, List.getElem?_eq_getElem (by rw [ofL_len]; exact h)]
  rfl
set_option maxHeartbeats 3200000 in
theorem rOf28_any (ms : List Mb) (P : Option Addr) (m d : Nat) (w : World) (hR : MemB w P m d ms) (hN : ∀ k, k < m → (ms.getD k mb0).r.n ≤ 10000) :
    Calls Tryd.prog 12 #[.slice P m d] w fun e w' => OF w.heap.size ms m e w' ∧ Below w.heap.size w w' := by
  have m9 : (m : Int) ≤ 9223372036854775807 := by have := hR.c1; have := hR.c2; omega
  have HR := Lib.hid hR
  have HL := Lib.hid hR.l
  have HN := Lib.hid hN
  clear hR hN
  go_enter Tryd.func12, Tryd.ntmps12
  go_wp2_with fail
  refine (rCheck_any ms P m d w HR.out HN.out).mono ?_
  rintro e w1 ⟨rfl, b1⟩
  have B1 := Lib.hid b1
  clear b1
  rcases ck_cases ms with hc | hc
  case inr =>
    have HC := Lib.hid hc
    have hne : ckE ms ≠ 0 := by omega
    have hbq : (ckE ms == 0) = false := by simpa using hne
    have hbn : (ckE ms != 0) = true := by simpa using hne
    have HNE := Lib.hid hne
    have hlo : -9223372036854775808 ≤ ckE ms := by omega
    clear hc hne
    go_wp2_with fail
    refine (rCheck_any ms P m d _ (HR.out.below B1.out (Nat.le_refl _)) HN.out).mono ?_
    rintro e w2 ⟨rfl, b2⟩
    have B2 := Lib.hid (mb_bb B1.out b2)
    clear b2
    go_wp2_with fail
    go_ret2
    exact ⟨.inr ⟨HNE.out, rfl⟩, B2.out⟩
  case inl =>
    have HC := Lib.hid hc
    have HZ := Lib.hid (ck_zero hc)
    rw [hc]
    clear hc
    have hm := HZ.out.1
    rw [HL.out] at hm
    have HM := Lib.hid hm
    have m16 : (m : Int) ≤ 16 := by omega
    clear hm
    go_wp2_with fail
    go_loopw [4, 5] (fun rv iv wr => ∃ (k : Nat) (A : Option Addr) (c : Nat), k ≤ m ∧ iv = .int .i64 (k : Int) ∧ rv = .slice A k c ∧ RE.Own wr w.heap.size (.slice A k c) ((ofL ms).take k) ∧ Below w.heap.size w wr) (fun _ iv _ => m - (intOf iv).toNat)
    case atStart => exact ⟨0, none, 0, Nat.zero_le _, rfl, rfl, by rw [List.take_zero]; exact Enc.Own.nil _ _, B1.out⟩
    case round =>
      clear B1
      obtain ⟨k, A, c, hk, rfl, rfl, own, acc⟩ := hrel
      rename World => wr
      have HO := Lib.hid own
      have HACC := Lib.hid acc
      by_cases hlt : k < m
      · obtain ⟨b, off, rfl, hb⟩ := HR.out.h.some (by rw [HL.out]; omega)
        obtain ⟨x1, x2⟩ := memCell HR.out hlt acc
        have HIN := Lib.hid (memIn HR.out hlt)
        have HK := Lib.hid hlt
        have HNK := Lib.hid (HN.out k hlt)
        have HS := Lib.hid (ofL_snoc ms (k := k) (by rw [HL.out]; exact hlt))
        have HTL : Hid (((ofL ms).take k).length = k) := Lib.hid (by rw [List.length_take, ofL_len, HL.out]; omega)
        have k1 : (k : Int) < m := by omega
        have k0 : 0 ≤ (k : Int) := by omega
        generalize ms.getD k mb0 = q at *
        obtain ⟨nm, rA, rn, rc, rb⟩ := q
        dsimp only at x1 x2 HNK HIN
        clear hk hlt own acc hb
        go_wp2_with fail
        clear x1 x2
        refine (record_any nm rA rn rc rb _ (HIN.out.h.below HACC.out (Nat.le_refl _)) HIN.out.e (by have := HNK.out; omega) HIN.out.b).mono ?_
        rintro e w3 ⟨rfl, b3⟩
        have O3 := Lib.hid (HO.out.past b3)
        have B3 := Lib.hid (mb_bb HACC.out b3)
        have G := mb_new w3 (.cells (rcE ⟨nm, rn, digest rb⟩).toArray 54)
        have O4 := Lib.hid (O3.out.past G)
        have B4 := Lib.hid (mb_bb B3.out G)
        have HL4 := Lib.hid (litR_has w3 ⟨nm, rn, digest rb⟩ rfl)
        have HRE : Hid (recOf ⟨nm, rA, rn, rc, rb⟩ = ⟨nm, rn, digest rb⟩) := Lib.hid rfl
        rw [HRE.out] at HS
        clear b3 G O3 B3 HO HACC
        generalize (⟨nm, (rn : Int), digest rb⟩ : Rc) = r at *
        go_wp2_with (first | (show wpList _ _ _ ({ dst := _, op := Op.buildSlice 25 1 _, type := _, pos := _, after := _, guard := _ } :: _) _ _; go_must (refine wp_litR (r := r) (by rfl) _ rfl rfl ?_)) | (at_builtin; refine Enc.app RE IR (by decide) (by rfl) _ _ rfl w.heap.size _ ((ofL ms).take k) rfl O4.out ⟨w3.heap.size, 0, none⟩ 1 1 [r] rfl rfl HL4.out (by rw [HTL.out]; have := HM.out; have := HK.out; omega) B4.out.size (k + 1) (by rw [HTL.out]) ?_; intro A7 c7 w7 ho7 hg7 hb7))
        go_roundw
        case rel => exact ⟨k + 1, A7, c7, HK.out, by go_num, rfl, by rw [HS.out]; exact ho7, B4.out.trans hb7⟩
        case measure => simp [intOf]; have := HK.out; omega
      · have k1 : ¬ (k : Int) < m := by omega
        obtain rfl : k = m := by omega
        have HT2 : Hid (RE.Own wr w.heap.size (.slice A k c) (ofL ms)) := Lib.hid (by rw [List.take_of_length_le (by rw [ofL_len, HL.out]; omega)] at own; exact own)
        clear hk hlt own acc
        go_wp2_with fail
        go_ret2
        exact ⟨.inl ⟨HC.out, _, _, rfl, HT2.out⟩, HACC.out⟩
end Go.Proofs.YtphakelncjogpaaDoor.mbW
