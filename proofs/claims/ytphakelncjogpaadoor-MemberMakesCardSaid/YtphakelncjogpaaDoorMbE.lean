/- Records compared; lists of records compared; what is great. -/
import Derived.Test.YtphakelncjogpaaDoorMbW6
import Derived.DeepKeys
namespace Go.Proofs.YtphakelncjogpaaDoor.mbW
set_option maxRecDepth 100000
open Go.RowKit Go.Proofs.YtphakelncjogpaaDoor.base Go.Proofs.YtphakelncjogpaaDoor.shP Go.Proofs.YtphakelncjogpaaDoor.shW
open Go.Proofs.YtphakelncjogpaaDoor.trW (IsD sv zd_isD digest_isD)
set_option linter.unusedVariables false
set_option linter.unusedSimpArgs false
set_option maxRecDepth 100000
structure RcOk (r : Rc) : Prop where
  n : r.nm.size ≤ maxLen
  z : -9223372036854775808 ≤ r.sz ∧ r.sz ≤ 9223372036854775807
  d : IsD r.sum
theorem i64_wf {x : Int} (h : -9223372036854775808 ≤ x ∧ x ≤ 9223372036854775807) : (Lit.int .i64 x).wf = true := WalkArith.wf_i64 h
theorem one_lit64 {x : Int} (h : -9223372036854775808 ≤ x ∧ x ≤ 9223372036854775807) (d : Nat) : Tryd.prog.keyLits (d + 1) 3 [.int .i64 x] = some [.int .i64 x] := by
  have hw := i64_wf h
  unfold Program.keyLits
  rw [Tryd.underlying3]
  simp [hw]
theorem one_litS {s : ByteArray} (h : s.size ≤ maxLen) (d : Nat) : Tryd.prog.keyLits (d + 1) 9 [.string s] = some [.string s.data.toList] := by
  unfold Program.keyLits
  rw [Tryd.underlying9]
  simp [h]
def lit (r : Rc) : List Lit := [.string r.nm.data.toList, .int .i64 r.sz] ++ r.sum.map (Lit.int .u8)
theorem lits_rec {r : Rc} (h : RcOk r) : Tryd.prog.keyLits 5 54 (rcE r) = some (lit r) := by
  rw [rcE_eq h.d.len]
  unfold Program.keyLits
  rw [Tryd.underlying54]
  have c1 : Tryd.prog.cellsOf 54 = 22 := by kernel_rfl
  have c2 : Tryd.prog.cellsOf 9 = 1 := by kernel_rfl
  have c3 : Tryd.prog.cellsOf 3 = 1 := by kernel_rfl
  have c4 : Tryd.prog.cellsOf 52 = 20 := by kernel_rfl
  have e0 := one_litS h.n 3
  have e1 := one_lit64 h.z 3
  have e2 := trW.lits_sum h.d 2
  have hl : (trW.sv r.sum).take 20 = trW.sv r.sum := List.take_of_length_le (by simp [trW.sv, h.d.len])
  have hls : (trW.sv r.sum).length = 20 := by simp [trW.sv, h.d.len]
  simp [c1, c2, c3, c4, hls, e0, e1, e2, hl, List.mapM_cons, lit]
theorem lit_inj {a b : Rc} : a = b ↔ lit a = lit b := by
  constructor
  · rintro rfl; rfl
  · intro h
    obtain ⟨a0, a1, a2⟩ := a
    obtain ⟨b0, b1, b2⟩ := b
    simp only [lit, List.cons_append, List.nil_append, List.cons.injEq, Lit.int.injEq, Lit.string.injEq, true_and] at h
    obtain ⟨h0, h1, h2⟩ := h
    have h3 := (trW.lit_inj a2 b2).2 h2
    have h4 : a0 = b0 := by
      cases a0; cases b0
      congr 1
      exact Array.ext' h0
    rw [h4, h1, h3]
theorem rec_formed (r : Rc) : (Value.agg (rcE r).toArray).formed Tryd.prog 54 = true := by
  have c : Tryd.prog.cellsOf 54 = 22 := by kernel_rfl
  unfold Value.formed
  rw [Tryd.underlying54]
  show ((rcE r).toArray.size == _) = true
  rw [c, List.size_toArray]
  simp [rcE]
open Classical in
theorem eq_rec {a b : Rc} (ha : RcOk a) (hb : RcOk b) (w : World) : (Op.equalIn 10000 54 (.agg (rcE a).toArray) (.agg (rcE b).toArray)).run Tryd.prog w = .ok (decide (a = b)) w := by
  obtain ⟨r, h1, h2⟩ := run_equalIn_deep (P := Tryd.prog) 9997 3 54 (by kernel_rfl) w 5 5 (.agg (rcE a).toArray) (.agg (rcE b).toArray) _ _ (rec_formed a) (rec_formed b) (lits_rec ha) (lits_rec hb)
  rw [h1]
  congr 1
  by_cases c : a = b
  · rw [decide_eq_true c]; exact h2.2 (lit_inj.1 c)
  · rw [decide_eq_false c]
    cases r
    · rfl
    · exact absurd (lit_inj.2 (h2.1 rfl)) c
open Classical in
theorem quiet_rneq {o : Oper} {a : Act} {w : World} {C : World → Prop} {l m : Rc} (x y : Operand) (t : TypeId) (ho : o.op = .binOp .neq 54 x y t) (hl : RcOk l) (hm : RcOk m)
    (hx : a.eval x = .agg (rcE l).toArray) (hy : a.eval y = .agg (rcE m).toArray) : Oper.quietAt Tryd.prog o a C w (.bool (!decide (l = m))) := by
  unfold Oper.quietAt execOp
  simp only [ho, hx, hy, Sem.run_bind, Sem.run_pure, Result.andThen_ok, run_neq_struct, run_eqGuard_agg _ _ _ _ _ _ _ (show Tryd.prog.eqGuardType Tryd.prog.depth 54 = false by kernel_rfl), eq_rec hl hm]
  exact ⟨rfl, rfl⟩
open Classical in
theorem wp_rneq {ops : Array Oper} {rest : List Oper} {o : Oper} {a : Act} {w : World} {Q : Exit → Act → World → Prop} {l m : Rc} (hw : Region.wanted o (yielded ops a.tmps) = true) (x y : Operand) (t : TypeId) (ho : o.op = .binOp .neq 54 x y t) (hl : RcOk l) (hm : RcOk m)
    (hx : a.eval x = .agg (rcE l).toArray) (hy : a.eval y = .agg (rcE m).toArray) (H : wpList Tryd.prog ops Q rest (a.put o.dst (.bool (!decide (l = m)))) w) : wpList Tryd.prog ops Q (o :: rest) a w := by
  refine wpList_step fun K hK => ?_
  rw [if_pos hw]
  unfold Oper.wp execOp
  simp only [ho, hx, hy, Sem.run_bind, Sem.run_pure, Result.andThen_ok, run_neq_struct, run_eqGuard_agg _ _ _ _ _ _ _ (show Tryd.prog.eqGuardType Tryd.prog.depth 54 = false by kernel_rfl), eq_rec hl hm]
  exact hK _ _ H
theorem undR : ∃ d, Tryd.prog.underlying 54 = some d ∧ d.isRow = true := ⟨_, Tryd.underlying54, rfl⟩
set_option maxHeartbeats 3200000 in
open Classical in
theorem Same_any (a b : List Rc) (A B : Option Addr) (n m c d : Nat) (w : World) (ha : RE.Has w A a) (hb : RE.Has w B b) (la : a.length = n) (lb : b.length = m) (hn : n ≤ 1000000) (hm : m ≤ 1000000) (oa : ∀ r ∈ a, RcOk r) (ob : ∀ r ∈ b, RcOk r) :
    Calls Tryd.prog 15 #[.slice A n c, .slice B m d] w fun e w' => e = .returned (.bool (decide (a = b))) ∧ Below w.heap.size w w' := by
  have HA := Lib.hid ha
  have HB := Lib.hid hb
  have LA := Lib.hid la
  have LB := Lib.hid lb
  have OA := Lib.hid oa
  have OB := Lib.hid ob
  have n9 : (n : Int) ≤ 1000000 := by omega
  have m9 : (m : Int) ≤ 1000000 := by omega
  clear ha hb la lb hn hm oa ob
  by_cases c1 : n = m
  · subst c1
    go_enter Tryd.func15, Tryd.ntmps15
    go_wp2_with fail
    go_loopw [5] (fun iv wr => ∃ k : Nat, k ≤ n ∧ iv = .int .i64 (k : Int) ∧ a.take k = b.take k ∧ Below w.heap.size w wr) (fun iv _ => n - (intOf iv).toNat)
    case atStart => exact ⟨0, Nat.zero_le _, rfl, rfl, Below.refl _ _⟩
    case round =>
      obtain ⟨k, hk, rfl, hs, hw⟩ := hrel
      rename World => wr
      have HS := Lib.hid hs
      have HW := Lib.hid hw
      by_cases hlt : k < n
      · obtain ⟨b1, o1, rfl, hb1⟩ := HA.out.some (by rw [LA.out]; omega)
        obtain ⟨b2, o2, rfl, hb2⟩ := HB.out.some (by rw [LB.out]; omega)
        have X1 := Lib.hid (fun x' (h : Below w.heap.size w x') => (HA.out.past h).rng (i := k) (by rw [LA.out]; exact hlt))
        have X2 := Lib.hid (fun x' (h : Below w.heap.size w x') => (HB.out.past h).rng (i := k) (by rw [LB.out]; exact hlt))
        have hka : k < a.length := by rw [LA.out]; exact hlt
        have hkb : k < b.length := by rw [LB.out]; exact hlt
        have PA : Hid (RcOk (a.getD k RE.d)) := Lib.hid (OA.out _ (by rw [List.getD_eq_getElem?_getD, List.getElem?_eq_getElem hka]; exact List.getElem_mem hka))
        have PB : Hid (RcOk (b.getD k RE.d)) := Lib.hid (OB.out _ (by rw [List.getD_eq_getElem?_getD, List.getElem?_eq_getElem hkb]; exact List.getElem_mem hkb))
        have HST : Hid (a.getD k RE.d = b.getD k RE.d → a.take (k + 1) = b.take (k + 1)) := Lib.hid (fun e => by
          rw [List.take_add_one, List.take_add_one, hs, List.getElem?_eq_getElem hka, List.getElem?_eq_getElem hkb]
          rw [List.getD_eq_getElem?_getD, List.getD_eq_getElem?_getD, List.getElem?_eq_getElem hka, List.getElem?_eq_getElem hkb] at e
          simp only [Option.getD_some] at e
          rw [e])
        have HNE : Hid (a.getD k RE.d ≠ b.getD k RE.d → a ≠ b) := Lib.hid (fun h e => h (by rw [e]))
        generalize a.getD k RE.d = x at *
        generalize b.getD k RE.d = y at *
        have HLT := Lib.hid hlt
        have k1 : (k : Int) < n := by omega
        have k0 : 0 ≤ (k : Int) := by omega
        clear hk hlt hs hb1 hb2 hw hka hkb
        go_upto_region 6 with fail
        (have RD := drawn_roads (S := fun x' => Below w.heap.size w x') (fun _ n h => below_drewN h n)); refine region_ord _ Drawn RD HW.out.drew (by kernel_rfl) ?_; intro ops Q' hops hPQ hN; (have HNS : Hid (Region.noSelect ops = true) := Lib.hid (by rw [hops]; kernel_rfl)); (have hsz : ops.size = 9 := (by rw [hops]; rfl)); have HOP := Lib.hid hops; have HPQ := Lib.hid hPQ; have HN := Lib.hid hN; rw [hsz]; clear hops hsz hPQ hN
        refine ord_take RD 0 (at_list (by rw [HOP.out]; rfl)) HNS.out HPQ.out (by rw [HOP.out]; kernel_rfl) (by rw [HOP.out]; kernel_rfl) (by rw [HOP.out]; rfl) (fun K hK => ?_); apply Exists.intro; refine ⟨fun W hSW => ?_, hK _ ?_⟩; (focus ((try dsimp only at hSW); go_simp; try with_reducible rfl)); clear hK K; (try simp only [Act.put, List.setIfInBounds_toArray, List.set_cons_zero, List.set_cons_succ])
        refine ord_take RD 1 (at_list (by rw [HOP.out]; rfl)) HNS.out HPQ.out (by rw [HOP.out]; kernel_rfl) (by rw [HOP.out]; kernel_rfl) (by rw [HOP.out]; rfl) (fun K hK => ?_); apply Exists.intro; refine ⟨fun W hSW => ?_, hK _ ?_⟩; (focus ((try dsimp only at hSW); go_simp; try with_reducible rfl)); clear hK K; (try simp only [Act.put, List.setIfInBounds_toArray, List.set_cons_zero, List.set_cons_succ])
        refine ord_take RD 2 (at_list (by rw [HOP.out]; rfl)) HNS.out HPQ.out (by rw [HOP.out]; kernel_rfl) (by rw [HOP.out]; kernel_rfl) (by rw [HOP.out]; rfl) (fun K hK => ?_); apply Exists.intro; refine ⟨fun W hSW => ?_, hK _ ?_⟩; (focus ((try dsimp only at hSW); go_simp; try with_reducible rfl)); clear hK K; (try simp only [Act.put, List.setIfInBounds_toArray, List.set_cons_zero, List.set_cons_succ])
        refine ord_take RD 3 (at_list (by rw [HOP.out]; rfl)) HNS.out HPQ.out (by rw [HOP.out]; kernel_rfl) (by rw [HOP.out]; kernel_rfl) (by rw [HOP.out]; rfl) (fun K hK => ?_); apply Exists.intro; refine ⟨fun W hSW => ?_, hK _ ?_⟩; (focus ((try dsimp only at hSW); exact Enc.quiet_ld RE (x := x) (P := Tryd.prog) Tryd.underlying54 rfl info22 _ rfl (X1.out _ hSW) rfl)); clear hK K; (try simp only [Act.put, List.setIfInBounds_toArray, List.set_cons_zero, List.set_cons_succ])
        refine ord_take RD 4 (at_list (by rw [HOP.out]; rfl)) HNS.out HPQ.out (by rw [HOP.out]; kernel_rfl) (by rw [HOP.out]; kernel_rfl) (by rw [HOP.out]; rfl) (fun K hK => ?_); apply Exists.intro; refine ⟨fun W hSW => ?_, hK _ ?_⟩; (focus ((try dsimp only at hSW); go_simp; try with_reducible rfl)); clear hK K; (try simp only [Act.put, List.setIfInBounds_toArray, List.set_cons_zero, List.set_cons_succ])
        refine ord_take RD 5 (at_list (by rw [HOP.out]; rfl)) HNS.out HPQ.out (by rw [HOP.out]; kernel_rfl) (by rw [HOP.out]; kernel_rfl) (by rw [HOP.out]; rfl) (fun K hK => ?_); apply Exists.intro; refine ⟨fun W hSW => ?_, hK _ ?_⟩; (focus ((try dsimp only at hSW); go_simp; try with_reducible rfl)); clear hK K; (try simp only [Act.put, List.setIfInBounds_toArray, List.set_cons_zero, List.set_cons_succ])
        refine ord_take RD 6 (at_list (by rw [HOP.out]; rfl)) HNS.out HPQ.out (by rw [HOP.out]; kernel_rfl) (by rw [HOP.out]; kernel_rfl) (by rw [HOP.out]; rfl) (fun K hK => ?_); apply Exists.intro; refine ⟨fun W hSW => ?_, hK _ ?_⟩; (focus ((try dsimp only at hSW); go_simp; try with_reducible rfl)); clear hK K; (try simp only [Act.put, List.setIfInBounds_toArray, List.set_cons_zero, List.set_cons_succ])
        refine ord_take RD 7 (at_list (by rw [HOP.out]; rfl)) HNS.out HPQ.out (by rw [HOP.out]; kernel_rfl) (by rw [HOP.out]; kernel_rfl) (by rw [HOP.out]; rfl) (fun K hK => ?_); apply Exists.intro; refine ⟨fun W hSW => ?_, hK _ ?_⟩; (focus ((try dsimp only at hSW); exact Enc.quiet_ld RE (x := y) (P := Tryd.prog) Tryd.underlying54 rfl info22 _ rfl (X2.out _ hSW) rfl)); clear hK K; (try simp only [Act.put, List.setIfInBounds_toArray, List.set_cons_zero, List.set_cons_succ])
        refine ord_take RD 8 (at_list (by rw [HOP.out]; rfl)) HNS.out HPQ.out (by rw [HOP.out]; kernel_rfl) (by rw [HOP.out]; kernel_rfl) (by rw [HOP.out]; rfl) (fun K hK => ?_); apply Exists.intro; refine ⟨fun W hSW => ?_, hK _ ?_⟩; (focus ((try dsimp only at hSW); exact quiet_rneq (l := x) (m := y) _ _ _ rfl PA.out PB.out rfl rfl)); clear hK K; (try simp only [Act.put, List.setIfInBounds_toArray, List.set_cons_zero, List.set_cons_succ])
        refine ord_done (by rw [HOP.out]; kernel_rfl) (fun W1 hWW hSW => HN.out _ _ ?_); clear HOP HNS HPQ HN RD; (try dsimp only at hSW)
        have HSW := Lib.hid hSW
        clear hWW hSW
        by_cases ce : x = y
        · rw [show (!decide (x = y)) = false by simp [ce]]
          have HE := Lib.hid (HST.out ce)
          clear ce
          go_wp2_with fail
          refine ⟨⟨k + 1, HLT.out, by go_num, HE.out, HSW.out⟩, by simp [intOf]; have := HLT.out; omega⟩
        · rw [show (!decide (x = y)) = true by simp [ce]]
          have HE := Lib.hid (HNE.out ce)
          clear ce
          go_wp2_with fail
          go_ret
          exact ⟨by rw [decide_eq_false HE.out]; rfl, HSW.out⟩
      · have k1 : ¬ (k : Int) < n := by omega
        have HE : Hid (a = b) := Lib.hid (by
          rw [← List.take_of_length_le (l := a) (i := k) (by rw [LA.out]; omega), ← List.take_of_length_le (l := b) (i := k) (by rw [LB.out]; omega)]; exact hs)
        clear hk hlt hs hw
        go_wp2_with fail
        go_ret
        exact ⟨by rw [decide_eq_true HE.out]; rfl, HW.out⟩
  · have HE : Hid (a ≠ b) := Lib.hid (fun e => c1 (by rw [← LA.out, ← LB.out, e]))
    have c2 : ¬ (n : Int) = m := by omega
    clear c1
    go_enter Tryd.func15, Tryd.ntmps15
    go_wp2_with fail
    go_ret
    exact ⟨by rw [decide_eq_false HE.out]; rfl, Below.refl _ _⟩
end Go.Proofs.YtphakelncjogpaaDoor.mbW
