/- Pieces compared. -/
import Derived.Test.YthckpenindchlaaSpM3
import Derived.DeepKeys
namespace Go.Proofs.Ythckpenindchlaa.spW
set_option maxRecDepth 100000
open Go.RowKit Go.Proofs.Ythckpenindchlaa.base Go.Proofs.Ythckpenindchlaa.mbW
set_option linter.unusedVariables false
set_option linter.unusedSimpArgs false
set_option maxRecDepth 100000
structure PcOk (p : Pc) : Prop where
  m : -9223372036854775808 ≤ p.m ∧ p.m ≤ 9223372036854775807
  o : -9223372036854775808 ≤ p.o ∧ p.o ≤ 9223372036854775807
  r : -9223372036854775808 ≤ p.r ∧ p.r ≤ 9223372036854775807
theorem one_lit64 {x : Int} (h : -9223372036854775808 ≤ x ∧ x ≤ 9223372036854775807) (d : Nat) : Try.prog.keyLits (d + 1) 3 [.int .i64 x] = some [.int .i64 x] := by
  have hw : (Lit.int .i64 x).wf = true := WalkArith.wf_i64 h
  unfold Program.keyLits
  rw [Try.underlying3]
  simp [hw]
def litP (p : Pc) : List Lit := [.int .i64 p.m, .int .i64 p.o, .int .i64 p.r]
theorem lits_pc {p : Pc} (h : PcOk p) : Try.prog.keyLits 5 46 (pcE p) = some (litP p) := by
  unfold Program.keyLits
  rw [Try.underlying46]
  have c1 : Try.prog.cellsOf 46 = 3 := by kernel_rfl
  have c3 : Try.prog.cellsOf 3 = 1 := by kernel_rfl
  have e0 := one_lit64 h.m 3
  have e1 := one_lit64 h.o 3
  have e2 := one_lit64 h.r 3
  simp [pcE, c1, c3, e0, e1, e2, List.mapM_cons, litP]
theorem litP_inj {a b : Pc} : a = b ↔ litP a = litP b := by
  constructor
  · rintro rfl; rfl
  · intro h
    obtain ⟨a0, a1, a2⟩ := a
    obtain ⟨b0, b1, b2⟩ := b
    simp only [litP, List.cons.injEq, Lit.int.injEq, true_and, and_true] at h
    obtain ⟨h0, h1, h2⟩ := h
    rw [h0, h1, h2]
theorem pc_formed (p : Pc) : (Value.agg (pcE p).toArray).formed Try.prog 46 = true := by
  have c : Try.prog.cellsOf 46 = 3 := by kernel_rfl
  unfold Value.formed
  rw [Try.underlying46]
  show ((pcE p).toArray.size == _) = true
  rw [c]; rfl
open Classical in
theorem eq_pc {a b : Pc} (ha : PcOk a) (hb : PcOk b) (w : World) : (Op.equalIn 10000 46 (.agg (pcE a).toArray) (.agg (pcE b).toArray)).run Try.prog w = .ok (decide (a = b)) w := by
  obtain ⟨r, h1, h2⟩ := run_equalIn_deep (P := Try.prog) 9997 3 46 (by kernel_rfl) w 5 5 (.agg (pcE a).toArray) (.agg (pcE b).toArray) _ _ (pc_formed a) (pc_formed b) (lits_pc ha) (lits_pc hb)
  rw [h1]
  congr 1
  by_cases c : a = b
  · rw [decide_eq_true c]; exact h2.2 (litP_inj.1 c)
  · rw [decide_eq_false c]
    cases r
    · rfl
    · exact absurd (litP_inj.2 (h2.1 rfl)) c
open Classical in
theorem quiet_pneq {o : Oper} {a : Act} {w : World} {C : World → Prop} {l m : Pc} (x y : Operand) (t : TypeId) (ho : o.op = .binOp .neq 46 x y t) (hl : PcOk l) (hm : PcOk m)
    (hx : a.eval x = .agg (pcE l).toArray) (hy : a.eval y = .agg (pcE m).toArray) : Oper.quietAt Try.prog o a C w (.bool (!decide (l = m))) := by
  unfold Oper.quietAt execOp
  simp only [ho, hx, hy, Sem.run_bind, Sem.run_pure, Result.andThen_ok, run_neq_struct, run_eqGuard_agg _ _ _ _ _ _ _ (show Try.prog.eqGuardType Try.prog.depth 46 = false by kernel_rfl), eq_pc hl hm]
  exact ⟨rfl, rfl⟩
open Classical in
theorem wp_pneq {ops : Array Oper} {rest : List Oper} {o : Oper} {a : Act} {w : World} {Q : Exit → Act → World → Prop} {l m : Pc} (hw : Region.wanted o (yielded ops a.tmps) = true) (x y : Operand) (t : TypeId) (ho : o.op = .binOp .neq 46 x y t) (hl : PcOk l) (hm : PcOk m)
    (hx : a.eval x = .agg (pcE l).toArray) (hy : a.eval y = .agg (pcE m).toArray) (H : wpList Try.prog ops Q rest (a.put o.dst (.bool (!decide (l = m)))) w) : wpList Try.prog ops Q (o :: rest) a w := by
  refine wpList_step fun K hK => ?_
  rw [if_pos hw]
  unfold Oper.wp execOp
  simp only [ho, hx, hy, Sem.run_bind, Sem.run_pure, Result.andThen_ok, run_neq_struct, run_eqGuard_agg _ _ _ _ _ _ _ (show Try.prog.eqGuardType Try.prog.depth 46 = false by kernel_rfl), eq_pc hl hm]
  exact hK _ _ H
set_option maxHeartbeats 3200000 in
open Classical in
theorem Same_any (a b : List Pc) (A B : Option Addr) (n m c d : Nat) (w : World) (ha : PE.Has w A a) (hb : PE.Has w B b) (la : a.length = n) (lb : b.length = m) (hn : n ≤ 1000000) (hm : m ≤ 1000000) (oa : ∀ r ∈ a, PcOk r) (ob : ∀ r ∈ b, PcOk r) :
    Calls Try.prog 13 #[.slice A n c, .slice B m d] w fun e w' => e = .returned (.bool (decide (a = b))) ∧ Below w.heap.size w w' := by
  have HA := Lib.hid ha
  have HB := Lib.hid hb
  have LA := Lib.hid la
  have LB := Lib.hid lb
  have OA := Lib.hid oa
  have OB := Lib.hid ob
  have n9 : (n : Int) ≤ 1000000 := by omega
  have m9 : (m : Int) ≤ 1000000 := by omega
  clear ha hb la lb hn hm oa ob
  by_cases c1 : n = m
  · subst c1
    go_enter Try.func13, Try.ntmps13
    go_wp2_with fail
    go_loopw [5] (fun iv wr => ∃ k : Nat, k ≤ n ∧ iv = .int .i64 (k : Int) ∧ a.take k = b.take k ∧ Below w.heap.size w wr) (fun iv _ => n - (intOf iv).toNat)
    case atStart => exact ⟨0, Nat.zero_le _, rfl, rfl, Below.refl _ _⟩
    case round =>
      obtain ⟨k, hk, rfl, hs, hw⟩ := hrel
      rename World => wr
      have HS := Lib.hid hs
      have HW := Lib.hid hw
      by_cases hlt : k < n
      · obtain ⟨b1, o1, rfl, hb1⟩ := HA.out.some (by rw [LA.out]; omega)
        obtain ⟨b2, o2, rfl, hb2⟩ := HB.out.some (by rw [LB.out]; omega)
        have X1 := Lib.hid (fun x' (h : Below w.heap.size w x') => (HA.out.past h).rng (i := k) (by rw [LA.out]; exact hlt))
        have X2 := Lib.hid (fun x' (h : Below w.heap.size w x') => (HB.out.past h).rng (i := k) (by rw [LB.out]; exact hlt))
        have hka : k < a.length := by rw [LA.out]; exact hlt
        have hkb : k < b.length := by rw [LB.out]; exact hlt
        have PA : Hid (PcOk (a.getD k PE.d)) := Lib.hid (OA.out _ (by rw [List.getD_eq_getElem?_getD, List.getElem?_eq_getElem hka]; exact List.getElem_mem hka))
        have PB : Hid (PcOk (b.getD k PE.d)) := Lib.hid (OB.out _ (by rw [List.getD_eq_getElem?_getD, List.getElem?_eq_getElem hkb]; exact List.getElem_mem hkb))
        have HST : Hid (a.getD k PE.d = b.getD k PE.d → a.take (k + 1) = b.take (k + 1)) := Lib.hid (fun e => by
          rw [List.take_add_one, List.take_add_one, hs, List.getElem?_eq_getElem hka, List.getElem?_eq_getElem hkb]
          rw [List.getD_eq_getElem?_getD, List.getD_eq_getElem?_getD, List.getElem?_eq_getElem hka, List.getElem?_eq_getElem hkb] at e
          simp only [Option.getD_some] at e
          rw [e])
        have HNE : Hid (a.getD k PE.d ≠ b.getD k PE.d → a ≠ b) := Lib.hid (fun h e => h (by rw [e]))
        generalize a.getD k PE.d = x at *
        generalize b.getD k PE.d = y at *
        have HLT := Lib.hid hlt
        have k1 : (k : Int) < n := by omega
        have k0 : 0 ≤ (k : Int) := by omega
        clear hk hlt hs hb1 hb2 hw hka hkb
        go_upto_region 6 with fail
        (have RD := drawn_roads (S := fun x' => Below w.heap.size w x') (fun _ n h => below_drewN h n)); refine region_ord _ Drawn RD HW.out.drew (by kernel_rfl) ?_; intro ops Q' hops hPQ hN; (have HNS : Hid (Region.noSelect ops = true) := Lib.hid (by rw [hops]; kernel_rfl)); (have hsz : ops.size = 9 := (by rw [hops]; rfl)); have HOP := Lib.hid hops; have HPQ := Lib.hid hPQ; have HN := Lib.hid hN; rw [hsz]; clear hops hsz hPQ hN
        refine ord_take RD 0 (at_list (by rw [HOP.out]; rfl)) HNS.out HPQ.out (by rw [HOP.out]; kernel_rfl) (by rw [HOP.out]; kernel_rfl) (by rw [HOP.out]; rfl) (fun K hK => ?_); apply Exists.intro; refine ⟨fun W hSW => ?_, hK _ ?_⟩; (focus ((try dsimp only at hSW); go_simp; try with_reducible rfl)); clear hK K; (try simp only [Act.put, List.setIfInBounds_toArray, List.set_cons_zero, List.set_cons_succ])
        refine ord_take RD 1 (at_list (by rw [HOP.out]; rfl)) HNS.out HPQ.out (by rw [HOP.out]; kernel_rfl) (by rw [HOP.out]; kernel_rfl) (by rw [HOP.out]; rfl) (fun K hK => ?_); apply Exists.intro; refine ⟨fun W hSW => ?_, hK _ ?_⟩; (focus ((try dsimp only at hSW); go_simp; try with_reducible rfl)); clear hK K; (try simp only [Act.put, List.setIfInBounds_toArray, List.set_cons_zero, List.set_cons_succ])
        refine ord_take RD 2 (at_list (by rw [HOP.out]; rfl)) HNS.out HPQ.out (by rw [HOP.out]; kernel_rfl) (by rw [HOP.out]; kernel_rfl) (by rw [HOP.out]; rfl) (fun K hK => ?_); apply Exists.intro; refine ⟨fun W hSW => ?_, hK _ ?_⟩; (focus ((try dsimp only at hSW); go_simp; try with_reducible rfl)); clear hK K; (try simp only [Act.put, List.setIfInBounds_toArray, List.set_cons_zero, List.set_cons_succ])
        refine ord_take RD 3 (at_list (by rw [HOP.out]; rfl)) HNS.out HPQ.out (by rw [HOP.out]; kernel_rfl) (by rw [HOP.out]; kernel_rfl) (by rw [HOP.out]; rfl) (fun K hK => ?_); apply Exists.intro; refine ⟨fun W hSW => ?_, hK _ ?_⟩; (focus ((try dsimp only at hSW); exact Enc.quiet_ld PE (x := x) (P := Try.prog) Try.underlying46 rfl info3 _ rfl (X1.out _ hSW) rfl)); clear hK K; (try simp only [Act.put, List.setIfInBounds_toArray, List.set_cons_zero, List.set_cons_succ])
        refine ord_take RD 4 (at_list (by rw [HOP.out]; rfl)) HNS.out HPQ.out (by rw [HOP.out]; kernel_rfl) (by rw [HOP.out]; kernel_rfl) (by rw [HOP.out]; rfl) (fun K hK => ?_); apply Exists.intro; refine ⟨fun W hSW => ?_, hK _ ?_⟩; (focus ((try dsimp only at hSW); go_simp; try with_reducible rfl)); clear hK K; (try simp only [Act.put, List.setIfInBounds_toArray, List.set_cons_zero, List.set_cons_succ])
        refine ord_take RD 5 (at_list (by rw [HOP.out]; rfl)) HNS.out HPQ.out (by rw [HOP.out]; kernel_rfl) (by rw [HOP.out]; kernel_rfl) (by rw [HOP.out]; rfl) (fun K hK => ?_); apply Exists.intro; refine ⟨fun W hSW => ?_, hK _ ?_⟩; (focus ((try dsimp only at hSW); go_simp; try with_reducible rfl)); clear hK K; (try simp only [Act.put, List.setIfInBounds_toArray, List.set_cons_zero, List.set_cons_succ])
        refine ord_take RD 6 (at_list (by rw [HOP.out]; rfl)) HNS.out HPQ.out (by rw [HOP.out]; kernel_rfl) (by rw [HOP.out]; kernel_rfl) (by rw [HOP.out]; rfl) (fun K hK => ?_); apply Exists.intro; refine ⟨fun W hSW => ?_, hK _ ?_⟩; (focus ((try dsimp only at hSW); go_simp; try with_reducible rfl)); clear hK K; (try simp only [Act.put, List.setIfInBounds_toArray, List.set_cons_zero, List.set_cons_succ])
        refine ord_take RD 7 (at_list (by rw [HOP.out]; rfl)) HNS.out HPQ.out (by rw [HOP.out]; kernel_rfl) (by rw [HOP.out]; kernel_rfl) (by rw [HOP.out]; rfl) (fun K hK => ?_); apply Exists.intro; refine ⟨fun W hSW => ?_, hK _ ?_⟩; (focus ((try dsimp only at hSW); exact Enc.quiet_ld PE (x := y) (P := Try.prog) Try.underlying46 rfl info3 _ rfl (X2.out _ hSW) rfl)); clear hK K; (try simp only [Act.put, List.setIfInBounds_toArray, List.set_cons_zero, List.set_cons_succ])
        refine ord_take RD 8 (at_list (by rw [HOP.out]; rfl)) HNS.out HPQ.out (by rw [HOP.out]; kernel_rfl) (by rw [HOP.out]; kernel_rfl) (by rw [HOP.out]; rfl) (fun K hK => ?_); apply Exists.intro; refine ⟨fun W hSW => ?_, hK _ ?_⟩; (focus ((try dsimp only at hSW); exact quiet_pneq (l := x) (m := y) _ _ _ rfl PA.out PB.out rfl rfl)); clear hK K; (try simp only [Act.put, List.setIfInBounds_toArray, List.set_cons_zero, List.set_cons_succ])
        refine ord_done (by rw [HOP.out]; kernel_rfl) (fun W1 hWW hSW => HN.out _ _ ?_); clear HOP HNS HPQ HN RD; (try dsimp only at hSW)
        have HSW := Lib.hid hSW
        clear hWW hSW
        by_cases ce : x = y
        · rw [show (!decide (x = y)) = false by simp [ce]]
          have HE := Lib.hid (HST.out ce)
          clear ce
          go_wp2_with fail
          refine ⟨⟨k + 1, HLT.out, by go_num, HE.out, HSW.out⟩, by simp [intOf]; have := HLT.out; omega⟩
        · rw [show (!decide (x = y)) = true by simp [ce]]
          have HE := Lib.hid (HNE.out ce)
          clear ce
          go_wp2_with fail
          go_ret
          exact ⟨by rw [decide_eq_false HE.out]; rfl, HSW.out⟩
      · have k1 : ¬ (k : Int) < n := by omega
        have HE : Hid (a = b) := Lib.hid (by
          rw [← List.take_of_length_le (l := a) (i := k) (by rw [LA.out]; omega), ← List.take_of_length_le (l := b) (i := k) (by rw [LB.out]; omega)]; exact hs)
        clear hk hlt hs hw
        go_wp2_with fail
        go_ret
        exact ⟨by rw [decide_eq_true HE.out]; rfl, HW.out⟩
  · have HE : Hid (a ≠ b) := Lib.hid (fun e => c1 (by rw [← LA.out, ← LB.out, e]))
    have c2 : ¬ (n : Int) = m := by omega
    clear c1
    go_enter Try.func13, Try.ntmps13
    go_wp2_with fail
    go_ret
    exact ⟨by rw [decide_eq_false HE.out]; rfl, Below.refl _ _⟩
theorem GreatSizes_any (zs : List Int) (P : Option Addr) (m d : Nat) (w : World) : Calls Try.prog 6 #[.slice P m d] w fun e w' => e = .returned (.bool (decide (30 < m))) ∧ w' = w := by
  by_cases h : 30 < m
  · have h2 : (30 : Int) < m := by omega
    rw [decide_eq_true h]
    go_enter Try.func6, Try.ntmps6
    go_wp2_with fail
    go_ret
    exact ⟨by simp [h2], rfl⟩
  · have h2 : ¬ (30 : Int) < m := by omega
    rw [decide_eq_false h]
    go_enter Try.func6, Try.ntmps6
    go_wp2_with fail
    go_ret
    exact ⟨by simp [h2], rfl⟩
/-- What Missing answers. -/
def MsP (zs : List Int) (l : List Pc) (w : World) (e : Ending) (w' : World) : Prop := ∃ (A : Option Addr) (n c : Nat), e = .returned (.tuple #[.slice A n c, .int .i64 (msE zs l)]) ∧ n = (msV zs l).length ∧ PE.Own w' w.heap.size (.slice A n c) (msV zs l) ∧ Below w.heap.size w w'
theorem ms_no {zs : List Int} {l : List Pc} {e : Int} {w w' : World} (h : msE zs l = e ∧ msV zs l = []) (hb : Below w.heap.size w w') : MsP zs l w (.returned (.tuple #[.slice none 0 0, .int .i64 e])) w' :=
  ⟨none, 0, 0, by rw [h.1], by rw [h.2]; rfl, by rw [h.2]; exact Enc.Own.nil _ _, hb⟩
set_option maxHeartbeats 3200000 in
theorem Missing_any (zs : List Int) (P : Option Addr) (m d : Nat) (l : List Pc) (Q : Option Addr) (n c : Nat) (w : World) (hZ : ZsB w P m d zs) (hL : PsB w Q n c l) :
    Calls Try.prog 20 #[.slice P m d, .slice Q n c] w (MsP zs l w) := by
  have HZ := Lib.hid hZ
  have HZL := Lib.hid hZ.l
  have HL := Lib.hid hL
  clear hZ hL
  go_enter Try.func20, Try.ntmps20
  go_wp2_with fail
  refine (checkSizes_any zs P m d w HZ.out).mono ?_
  rintro e _ ⟨rfl, rfl⟩
  rename World => w
  by_cases hs : szE zs = 0
  case neg =>
    have HP := Lib.hid (ms_sz l hs)
    have hbn : (szE zs != 0) = true := by simpa using hs
    generalize szE zs = v at *
    clear hs
    go_wp2_with fail
    go_ret2
    exact ms_no HP.out (Below.refl _ _)
  have HS := Lib.hid hs
  rw [hs]
  clear hs
  go_wp2_with fail
  refine (checkPieces_any zs P m d l Q n c w HZ.out HL.out).mono ?_
  rintro e w1 ⟨rfl, b1⟩
  have B1 := Lib.hid b1
  clear b1
  by_cases hc : cpE zs l = 0
  case neg =>
    have HP := Lib.hid (ms_cp HS.out hc)
    have hbn : (cpE zs l != 0) = true := by simpa using hc
    generalize cpE zs l = v at *
    clear hc
    go_wp2_with fail
    go_ret2
    exact ms_no HP.out B1.out
  have HC := Lib.hid hc
  have HP := Lib.hid (ms_ok HS.out hc)
  rw [HZL.out] at HP
  rw [hc]
  clear hc
  go_wp2_with fail
  refine (missing_any zs P m d l Q n c w1 (HZ.out.past B1.out) (HL.out.past B1.out) HS.out HC.out).mono ?_
  rintro e w2 ⟨A, k, c2, rfl, hk, ho, hb⟩
  have HX := Lib.hid (And.intro hk (And.intro (ho.mono B1.out.size) (mb_bb B1.out hb)))
  clear hk ho hb
  go_wp2_with fail
  go_ret2
  exact ⟨A, k, c2, by rw [HP.out.1]; rfl, by rw [HP.out.2]; exact HX.out.1, by rw [HP.out.2]; exact HX.out.2.1, HX.out.2.2⟩
end Go.Proofs.Ythckpenindchlaa.spW
