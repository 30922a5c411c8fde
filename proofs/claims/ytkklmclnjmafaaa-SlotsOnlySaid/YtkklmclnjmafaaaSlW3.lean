/- Copies of tables, priorities, by walks. -/
import Derived.Test.YtkklmclnjmafaaaSlW2
namespace Go.Proofs.Ytkklmclnjmafaaa.slW
set_option maxRecDepth 100000
open Go.RowKit Go.Proofs.Ytkklmclnjmafaaa.base Go.Proofs.Ytkklmclnjmafaaa.slP
set_option linter.unusedVariables false
set_option linter.unusedSimpArgs false
theorem lies_set2 {w : World} {g : Nat} {t : TypeId} {x0 x1 : Value} (h : Lies w g t [x0, x1]) (a b : Value) : Lies ((w.setCell ⟨g, 0, none⟩ a).setCell ⟨g, 1, none⟩ b) g t [a, b] := (h.set 0 a).set 1 b
theorem below_set2 {B : Nat} {w w' : World} {g : Nat} (h : Below B w w') (hg : B ≤ g) (a b : Value) : Below B w ((w'.setCell ⟨g, 0, none⟩ a).setCell ⟨g, 1, none⟩ b) := Below.setCell (Below.setCell h (p := ⟨g, 0, none⟩) hg a) (p := ⟨g, 1, none⟩) hg b
theorem tb_set {w : World} {g n c m d : Nat} {lv l : Int} {A B : Option Addr} (h : TbAt w g l B m d) : TbAt ((w.setCell ⟨g, 0, none⟩ (.int .i64 lv)).setCell ⟨g, 1, none⟩ (.slice A n c)) g lv A n c := lies_set2 h _ _
theorem TbAt.f0 {w : World} {g n c : Nat} {lv : Int} {A : Option Addr} (k : TbAt w g lv A n c) : w.frozen? ⟨g, 0, none⟩ = false := Lies.free k 0
theorem TbAt.f1 {w : World} {g n c : Nat} {lv : Int} {A : Option Addr} (k : TbAt w g lv A n c) : w.frozen? ⟨g, 1, none⟩ = false := Lies.free k 1
theorem own_other {w : World} {B g n c : Nat} {fl : List Int} (k : OwnS w B (.slice (some ⟨g, 0, none⟩) n c) n fl) (p : Addr) (hp : p.block ≠ g) (v : Value) : OwnS (w.setCell p v) B (.slice (some ⟨g, 0, none⟩) n c) n fl := by
  refine ⟨k.1, ?_⟩
  rcases k.2 with h2 | ⟨g', cap, cur, hv, hB, hg, r⟩
  · exact .inl h2
  · injection hv with hv _ hc
    injection hv with hv
    injection hv with hv
    subst hv hc
    exact .inr ⟨g, c, cur, rfl, hB, by rw [Below.heap_setCell w p v g (fun e => hp e.symm)]; exact hg, r⟩
theorem wp_slots {o : Oper} {a : Act} {w : World} {K : Act → World → Prop} {Q : Exit → Act → World → Prop} (s x : Operand)
    (ho : o.op = .call { callee := .builtin .append, args := #[s, x], argTypes := #[22, 22] })
    (D : Option Addr) (hs : a.eval s = .slice D 0 0) (A : Option Addr) (m c : Nat) (fl : List Int) (hx : a.eval x = .slice A m c) (hr : Has .u8 w A fl) (hl : fl.length = m * 16) (hm : m ≤ 1000000)
    (h : ∀ A' c' w', Has .u8 w' A' fl → Below w.heap.size w w' → (m = 0 ∧ A' = D ∧ c' = 0 ∧ w' = w ∨ OwnS w' w.heap.size (.slice A' m c') m fl) → K (a.put o.dst (.slice A' m c')) w') : o.wp Try.prog a w K Q := by
  obtain ⟨A', c', w', hrun, h2, h3, h4⟩ := run_append_slots (w := w) o.type D A m c fl hr hl hm
  unfold Oper.wp execOp
  simp only [ho, resolve, invoke, builtin, Sem.run_bind, Sem.run_pure, Result.andThen_ok, List.map_toArray, List.map_cons, List.map_nil, hs, hx, hrun]
  exact h A' c' w' h2 h3 h4
theorem ins_own {w : World} {B n c : Nat} {A : Option Addr} {fl : List Int} (k : OwnS w B (.slice A n c) n fl) (hb : ∀ z ∈ fl, 0 ≤ z ∧ z ≤ 255) : InS w A n c fl := by
  have := k.cap_le
  unfold maxLen at this
  exact ⟨k.has, k.len, this.1, by omega, hb⟩
theorem twin_fin {w : World} {B B' n c gr : Nat} {A : Option Addr} {fl : List Int} {x y : Value} (h : n = 0 ∨ OwnS w B (.slice A n c) n fl) (k : InS w A n c fl) (hB : B' ≤ B) (hg : gr < B) :
    (n = 0 ∨ OwnS ((w.setCell ⟨gr, 0, none⟩ x).setCell ⟨gr, 1, none⟩ y) B' (.slice A n c) n fl) ∧ InS ((w.setCell ⟨gr, 0, none⟩ x).setCell ⟨gr, 1, none⟩ y) A n c fl := by
  rcases Nat.eq_zero_or_pos n with h0 | h0
  · subst h0
    have : fl = [] := List.eq_nil_of_length_eq_zero (by have := k.e; omega)
    subst this
    exact ⟨.inl rfl, .inl rfl, rfl, k.c1, k.c2, k.b⟩
  · have o : OwnS w B (.slice A n c) n fl := by
      rcases h with h | h
      · omega
      · exact h
    obtain ⟨g, rfl, h1, _⟩ := o.form h0
    have o2 := own_other (own_other (o.mono hB) ⟨gr, 0, none⟩ (by simp; omega) x) ⟨gr, 1, none⟩ (by simp; omega) y
    exact ⟨.inr o2, ins_own o2 k.b⟩
set_option maxRecDepth 100000 in
set_option maxHeartbeats 800000 in
theorem clone_any (lv : Int) (A : Option Addr) (n c : Nat) (fl : List Int) (w : World) (hi : InS w A n c fl) (hm : n ≤ 1000000) (hp : 0 < n) :
    Calls Try.prog 35 #[.agg #[.int .i64 lv, .slice A n c]] w fun e w' => ∃ g c', e = .returned (.agg #[.int .i64 lv, .slice (some ⟨g, 0, none⟩) n c']) ∧ OwnS w' w.heap.size (.slice (some ⟨g, 0, none⟩) n c') n fl ∧ Below w.heap.size w w' := by
  have HI := Lib.hid hi
  have HM := Lib.hid (And.intro hm hp)
  have G0 := tb_box w lv A n c
  have S0 : (w.alloc (.cells #[.int .i64 lv, .slice A n c] 24)).heap.size = w.heap.size + 1 := by simp
  have R0 := tb_new (w.alloc (.cells #[.int .i64 lv, .slice A n c] 24)) 0 none 0 0
  have G1 := tb_box (w.alloc (.cells #[.int .i64 lv, .slice A n c] 24)) 0 none 0 0
  rw [S0] at R0
  have T0 := Lib.hid ((tb_new w lv A n c).past G1)
  have HR0 := Lib.hid R0
  have B0 := Lib.hid (below_bs G0 G1)
  clear hi hm hp G0 G1 S0 R0
  go_enter Try.func35, Try.ntmps35
  go_upto_region 1 with fail
  generalize ((w.alloc (.cells #[.int .i64 lv, .slice A n c] 24)).alloc (.cells #[.int .i64 0, .slice none 0 0] 24)) = w0 at *
  have HGR : Hid (w.heap.size ≤ w.heap.size + 1) := Lib.hid (Nat.le_succ _)
  generalize w.heap.size + 1 = gr at *
  (have RD := grows_roads (S := fun x' => Below w0.heap.size w0 x') (fun a b h1 h2 => below_bs h2 h1)); refine region_ordT 6 _ Grows RD (Below.drew (Below.refl w0.heap.size w0)) (by kernel_rfl) (by decide) ?_; intro ops Q' hops hPQ hN; (have HNS : Hid (Region.noSelect ops = true ∧ Region.sinkB .any ops 6 = true ∧ Region.chainB .any ops 6 = true ∧ 6 < ops.size) := Lib.hid (by rw [hops]; exact ⟨by kernel_rfl, by kernel_rfl, by kernel_rfl, by decide⟩)); (have hsz : ops.size = 7 := (by rw [hops]; rfl)); have HOP := Lib.hid hops; have HPQ := Lib.hid hPQ; have HN := Lib.hid hN; rw [hsz]; clear hops hsz hPQ hN
  refine ordT_take RD 0 (at_list (by rw [HOP.out]; rfl)) HNS.out HPQ.out (by rw [HOP.out]; kernel_rfl) (by rw [HOP.out]; kernel_rfl) (by rw [HOP.out]; rfl) (fun K hK => ?_); apply Exists.intro; refine ⟨fun W hSW => ?_, hK _ ?_⟩; (focus ((try dsimp only at hSW); go_simp; try with_reducible rfl)); clear hK K; (try simp only [Act.put, List.setIfInBounds_toArray, List.set_cons_zero, List.set_cons_succ])
  refine ordT_take RD 1 (at_list (by rw [HOP.out]; rfl)) HNS.out HPQ.out (by rw [HOP.out]; kernel_rfl) (by rw [HOP.out]; kernel_rfl) (by rw [HOP.out]; rfl) (fun K hK => ?_); apply Exists.intro; refine ⟨fun W hSW => ?_, hK _ ?_⟩; (focus ((try dsimp only at hSW); (have z := (T0.out.past hSW).c0); go_simp; try with_reducible rfl)); clear hK K; (try simp only [Act.put, List.setIfInBounds_toArray, List.set_cons_zero, List.set_cons_succ])
  refine ordT_take RD 2 (at_list (by rw [HOP.out]; rfl)) HNS.out HPQ.out (by rw [HOP.out]; kernel_rfl) (by rw [HOP.out]; kernel_rfl) (by rw [HOP.out]; rfl) (fun K hK => ?_); apply Exists.intro; refine ⟨fun W hSW => ?_, hK _ ?_⟩; (focus ((try dsimp only at hSW); go_simp; try with_reducible rfl)); clear hK K; (try simp only [Act.put, List.setIfInBounds_toArray, List.set_cons_zero, List.set_cons_succ])
  refine ordT_take RD 3 (at_list (by rw [HOP.out]; rfl)) HNS.out HPQ.out (by rw [HOP.out]; kernel_rfl) (by rw [HOP.out]; kernel_rfl) (by rw [HOP.out]; rfl) (fun K hK => ?_); apply Exists.intro; refine ⟨fun W hSW => ?_, hK _ ?_⟩; (focus ((try dsimp only at hSW); (have z := (T0.out.past hSW).c1); go_simp; try with_reducible rfl)); clear hK K; (try simp only [Act.put, List.setIfInBounds_toArray, List.set_cons_zero, List.set_cons_succ])
  refine ordT_one RD 4 (by rw [HOP.out]; kernel_rfl) (at_list (by rw [HOP.out]; rfl)) (by rw [HOP.out]; rfl) (fun W1 hWW hSW K hK => ?_); (try dsimp only at hSW)
  go_simp
  refine (CloneS (A := A) (c := c) (fl := fl) ((HI.out.past B0.out).past hSW).h HI.out.e HM.out.1 HM.out.2).mono ?_
  rintro v w2 ⟨g, c', rfl, o2, b2⟩
  refine hK _ _ (RD.keep b2 hSW) ?_
  have O2 := Lib.hid (o2.mono hSW.size)
  have HG : Hid (w0.heap.size ≤ g) := Lib.hid (by
    obtain ⟨g', e, h1, h2⟩ := o2.form HM.out.2
    injection e with e; injection e with e; rw [e]; have := hSW.size; omega)
  clear o2 b2 hSW hWW
  clear hK K; (try simp only [Act.put, List.setIfInBounds_toArray, List.set_cons_zero, List.set_cons_succ])
  refine ordT_take RD 5 (at_list (by rw [HOP.out]; rfl)) HNS.out HPQ.out (by rw [HOP.out]; kernel_rfl) (by rw [HOP.out]; kernel_rfl) (by rw [HOP.out]; rfl) (fun K hK => ?_); apply Exists.intro; refine ⟨fun W hSW => ?_, hK _ ?_⟩; (focus ((try dsimp only at hSW); go_simp; try with_reducible rfl)); clear hK K; (try simp only [Act.put, List.setIfInBounds_toArray, List.set_cons_zero, List.set_cons_succ])
  refine ordT_end (by rw [HOP.out]; kernel_rfl) (fun W2 hWW hSW => ?_); rw [HOP.out]; simp only [List.drop_succ_cons, List.drop_zero]; have hN := HN.out; clear HOP HNS HPQ HN RD; (try dsimp only at hSW)
  have HN : Hid (∀ (a : Act) (w : World), _ → Q' Exit.normal a w) := Lib.hid hN
  have R2 := HR0.out.past hSW
  have O3 := Lib.hid (O2.out.past hWW)
  have B2 := Lib.hid (below_bs B0.out hSW)
  have HLT : Hid (gr < w0.heap.size) := Lib.hid (Lies.lt HR0.out)
  have z0 := R2.c0
  have z1 := R2.c1
  have z2 := R2.f0
  have z3 := R2.f1
  have HR2 := Lib.hid R2
  clear hN hSW hWW R2 O2 T0 HI B0
  go_wp2_with fail
  refine HN.out _ _ ?_
  have R3 := Lib.hid (tb_set (lv := lv) (A := some ⟨g, 0, none⟩) (n := n) (c := c') HR2.out)
  have t0 := R3.out.c0
  have t1 := R3.out.c1
  go_wp2_with fail
  refine bodyPost_ret (by simp [results, Try.results35, go_sem, t0, t1]; try rfl) rfl ?_
  have HNE : Hid (gr ≠ g) := Lib.hid (by have := HG.out; have := HLT.out; omega)
  exact ⟨g, c', rfl, own_other (own_other (O3.out.mono (by have := HGR.out; have := HLT.out; omega)) ⟨gr, 0, none⟩ HNE.out _) ⟨gr, 1, none⟩ HNE.out _, below_set2 B2.out HGR.out _ _⟩
set_option maxRecDepth 100000 in
set_option maxHeartbeats 800000 in
theorem Twin_any (lv : Int) (A : Option Addr) (n c : Nat) (fl : List Int) (w : World) (hi : InS w A n c fl) (hm : n ≤ 1000000) :
    Calls Try.prog 10 #[.agg #[.int .i64 lv, .slice A n c]] w fun e w' => ∃ A' c', e = .returned (.agg #[.int .i64 lv, .slice A' n c']) ∧ (n = 0 ∨ OwnS w' w.heap.size (.slice A' n c') n fl) ∧ InS w' A' n c' fl ∧ Below w.heap.size w w' := by
  have HI := Lib.hid hi
  have HM := Lib.hid hm
  have G0 := tb_box w lv A n c
  have S0 : (w.alloc (.cells #[.int .i64 lv, .slice A n c] 24)).heap.size = w.heap.size + 1 := by simp
  have R0 := tb_new (w.alloc (.cells #[.int .i64 lv, .slice A n c] 24)) 0 none 0 0
  have G1 := tb_box (w.alloc (.cells #[.int .i64 lv, .slice A n c] 24)) 0 none 0 0
  rw [S0] at R0
  have T0 := Lib.hid ((tb_new w lv A n c).past G1)
  have HR0 := Lib.hid R0
  have B0 := Lib.hid (below_bs G0 G1)
  clear hi hm G0 G1 S0 R0
  go_enter Try.func10, Try.ntmps10
  go_upto_region 1 with fail
  generalize ((w.alloc (.cells #[.int .i64 lv, .slice A n c] 24)).alloc (.cells #[.int .i64 0, .slice none 0 0] 24)) = w0 at *
  have HGR : Hid (w.heap.size ≤ w.heap.size + 1) := Lib.hid (Nat.le_succ _)
  generalize w.heap.size + 1 = gr at *
  (have RD := grows_roads (S := fun x' => Below w0.heap.size w0 x') (fun a b h1 h2 => below_bs h2 h1)); refine region_ordT 7 _ Grows RD (Below.drew (Below.refl w0.heap.size w0)) (by kernel_rfl) (by decide) ?_; intro ops Q' hops hPQ hN; (have HNS : Hid (Region.noSelect ops = true ∧ Region.sinkB .any ops 7 = true ∧ Region.chainB .any ops 7 = true ∧ 7 < ops.size) := Lib.hid (by rw [hops]; exact ⟨by kernel_rfl, by kernel_rfl, by kernel_rfl, by decide⟩)); (have hsz : ops.size = 8 := (by rw [hops]; rfl)); have HOP := Lib.hid hops; have HPQ := Lib.hid hPQ; have HN := Lib.hid hN; rw [hsz]; clear hops hsz hPQ hN
  refine ordT_take RD 0 (at_list (by rw [HOP.out]; rfl)) HNS.out HPQ.out (by rw [HOP.out]; kernel_rfl) (by rw [HOP.out]; kernel_rfl) (by rw [HOP.out]; rfl) (fun K hK => ?_); apply Exists.intro; refine ⟨fun W hSW => ?_, hK _ ?_⟩; (focus ((try dsimp only at hSW); go_simp; try with_reducible rfl)); clear hK K; (try simp only [Act.put, List.setIfInBounds_toArray, List.set_cons_zero, List.set_cons_succ])
  refine ordT_take RD 1 (at_list (by rw [HOP.out]; rfl)) HNS.out HPQ.out (by rw [HOP.out]; kernel_rfl) (by rw [HOP.out]; kernel_rfl) (by rw [HOP.out]; rfl) (fun K hK => ?_); apply Exists.intro; refine ⟨fun W hSW => ?_, hK _ ?_⟩; (focus ((try dsimp only at hSW); (have z := (T0.out.past hSW).c0); go_simp; try with_reducible rfl)); clear hK K; (try simp only [Act.put, List.setIfInBounds_toArray, List.set_cons_zero, List.set_cons_succ])
  refine ordT_take RD 3 (at_list (by rw [HOP.out]; rfl)) HNS.out HPQ.out (by rw [HOP.out]; kernel_rfl) (by rw [HOP.out]; kernel_rfl) (by rw [HOP.out]; rfl) (fun K hK => ?_); apply Exists.intro; refine ⟨fun W hSW => ?_, hK _ ?_⟩; (focus ((try dsimp only at hSW); go_simp; try with_reducible rfl)); clear hK K; (try simp only [Act.put, List.setIfInBounds_toArray, List.set_cons_zero, List.set_cons_succ])
  refine ordT_take RD 4 (at_list (by rw [HOP.out]; rfl)) HNS.out HPQ.out (by rw [HOP.out]; kernel_rfl) (by rw [HOP.out]; kernel_rfl) (by rw [HOP.out]; rfl) (fun K hK => ?_); apply Exists.intro; refine ⟨fun W hSW => ?_, hK _ ?_⟩; (focus ((try dsimp only at hSW); (have z := (T0.out.past hSW).c1); go_simp; try with_reducible rfl)); clear hK K; (try simp only [Act.put, List.setIfInBounds_toArray, List.set_cons_zero, List.set_cons_succ])
  refine ordT_one RD 2 (by rw [HOP.out]; kernel_rfl) (at_list (by rw [HOP.out]; rfl)) (by rw [HOP.out]; rfl) (fun W1 hWW hSW K hK => ?_); (try dsimp only at hSW)
  go_simp
  have GA := (Below.refl W1.heap.size W1).alloc (Nat.le_refl _) (.cells #[] 31)
  refine hK _ _ (RD.keep GA hSW) ?_
  clear hSW hWW GA
  clear hK K; (try simp only [Act.put, List.setIfInBounds_toArray, List.set_cons_zero, List.set_cons_succ])
  refine ordT_one RD 5 (by rw [HOP.out]; kernel_rfl) (at_list (by rw [HOP.out]; rfl)) (by rw [HOP.out]; rfl) (fun W2 hWW hSW K hK => ?_); (try dsimp only at hSW)
  refine wp_slots _ _ rfl (some ⟨W1.heap.size, 0, none⟩) rfl A n c fl rfl ((HI.out.past B0.out).past hSW).h HI.out.e HM.out ?_
  intro A' c' w2 hh hb ho
  refine hK _ _ (RD.keep hb hSW) ?_
  have HO : Hid ((n = 0 ∨ OwnS w2 w0.heap.size (.slice A' n c') n fl) ∧ InS w2 A' n c' fl) := Lib.hid (by
    rcases ho with ⟨h1, _, h3, _⟩ | ho
    · exact ⟨.inl h1, hh, HI.out.e, by omega, by omega, HI.out.b⟩
    · have := ho.cap_le
      unfold maxLen at this
      exact ⟨.inr (ho.mono hSW.size), hh, HI.out.e, this.1, by omega, HI.out.b⟩)
  clear hh hb ho hSW hWW
  clear hK K; (try simp only [Act.put, List.setIfInBounds_toArray, List.set_cons_zero, List.set_cons_succ])
  refine ordT_take RD 6 (at_list (by rw [HOP.out]; rfl)) HNS.out HPQ.out (by rw [HOP.out]; kernel_rfl) (by rw [HOP.out]; kernel_rfl) (by rw [HOP.out]; rfl) (fun K hK => ?_); apply Exists.intro; refine ⟨fun W hSW => ?_, hK _ ?_⟩; (focus ((try dsimp only at hSW); go_simp; try with_reducible rfl)); clear hK K; (try simp only [Act.put, List.setIfInBounds_toArray, List.set_cons_zero, List.set_cons_succ])
  refine ordT_end (by rw [HOP.out]; kernel_rfl) (fun W3 hWW hSW => ?_); rw [HOP.out]; simp only [List.drop_succ_cons, List.drop_zero]; have hN := HN.out; clear HOP HNS HPQ HN RD; (try dsimp only at hSW)
  have HN : Hid (∀ (a : Act) (w : World), _ → Q' Exit.normal a w) := Lib.hid hN
  have R2 := HR0.out.past hSW
  have O3 : Hid ((n = 0 ∨ OwnS W3 w0.heap.size (.slice A' n c') n fl) ∧ InS W3 A' n c' fl) := Lib.hid ⟨HO.out.1.imp id (fun k => k.past hWW), HO.out.2.past hWW⟩
  have B2 := Lib.hid (below_bs B0.out hSW)
  have HLT : Hid (gr < w0.heap.size) := Lib.hid (Lies.lt HR0.out)
  have z0 := R2.c0
  have z1 := R2.c1
  have z2 := R2.f0
  have z3 := R2.f1
  have HR2 := Lib.hid R2
  clear hN hSW hWW R2 HO T0
  go_wp2_with fail
  refine HN.out _ _ ?_
  have R3 := Lib.hid (tb_set (lv := lv) (A := A') (n := n) (c := c') HR2.out)
  have t0 := R3.out.c0
  have t1 := R3.out.c1
  go_wp2_with fail
  refine bodyPost_ret (by simp [results, Try.results10, go_sem, t0, t1]; try rfl) rfl ?_
  obtain ⟨h1, h2⟩ := twin_fin (B' := w.heap.size) (gr := gr) (x := .int .i64 lv) (y := .slice A' n c') O3.out.1 O3.out.2 (by have := HGR.out; have := HLT.out; omega) HLT.out
  exact ⟨A', c', rfl, h1, h2, below_set2 B2.out HGR.out _ _⟩
/-- A slot of a list of bytes. -/
def slA (fl : List Int) (i : Nat) : List Int := (fl.drop (16 * i)).take 16
def va (l : List Int) : Array Value := (l.map (Value.int .u8)).toArray
theorem slA_len {fl : List Int} {n i : Nat} (he : fl.length = n * 16) (hi : i < n) : (slA fl i).length = 16 := by
  rw [slA, List.length_take, List.length_drop, he]; omega
theorem slA_get {fl : List Int} {i j : Nat} (hj : j < 16) : (slA fl i).getD j 0 = fl.getD (16 * i + j) 0 := by
  rw [slA, List.getD_eq_getElem?_getD, List.getD_eq_getElem?_getD, List.getElem?_take, if_pos hj, List.getElem?_drop]
theorem slA_bd {fl : List Int} (hb : ∀ z ∈ fl, 0 ≤ z ∧ z ≤ 255) (i : Nat) : ∀ z ∈ slA fl i, 0 ≤ z ∧ z ≤ 255 := fun z hz => hb z (List.mem_of_mem_drop (List.mem_of_mem_take hz))
theorem info16 {l : List Int} (h : l.length = 16) : (Try.prog.info? 31).map (·.size) = some (l.map (Value.int .u8)).length := by
  rw [List.length_map, h]; kernel_rfl
attribute [irreducible] va
theorem slot_box (w : World) (l : List Int) : Lies (w.alloc (.cells (va l) 31)) w.heap.size 31 (l.map (Value.int .u8)) := by
  unfold va; exact Lies.fresh _ _ _
set_option maxHeartbeats 400000 in
theorem prio_any (l : List Int) (s : Int) (w : World) (hl : l.length = 16) (hs : l.getD 1 0 = s) (h0 : 0 ≤ s ∧ s ≤ 255) : Calls Try.prog 36 #[.agg (va l)] w fun e w' => e = .returned (.int .i32 (stP.stT s)) ∧ Below w.heap.size w w' := by
  have L0 := slot_box w l
  have c1 := L0.cell 1
  rw [List.getElem?_map, List.getElem?_eq_getElem (by omega), Option.map_some, show l[1] = s by rw [← hs, List.getD_eq_getElem?_getD, List.getElem?_eq_getElem (by omega)]; rfl] at c1
  have B0 : Hid (Below w.heap.size w (w.alloc (.cells (va l) 31))) := Lib.hid (by (repeat' (first | (with_reducible exact Below.refl _ _) | (with_reducible assumption) | (with_reducible refine below_drewN ?_ _) | (with_reducible refine below_new ?_ _) | (with_reducible refine Below.alloc ?_ ?_ _) | (with_reducible refine Below.drew ?_) | (with_reducible refine Below.setCell ?_ ?_ _) | (with_reducible apply below_at; (case k => (with_reducible assumption)); (case hB => omega)) | (with_reducible apply below_on; (with_reducible assumption)) | (go_size; done) | (with_reducible apply size_of))))
  clear L0
  go_enter Try.func36, Try.ntmps36
  go_upto_region 1 with fail
  generalize (w.alloc (.cells (va l) 31)) = w0 at *
  go_wp2_with (first | (refine (stW.Total_any' s _ h0.1 h0.2).mono ?_; rintro e w2 ⟨rfl, b2⟩; have B2 := Lib.hid (below_bs B0.out b2); clear b2))
  go_ret
  exact ⟨rfl, B2.out⟩
set_option maxHeartbeats 400000 in
theorem rPrio (l : List Int) (s : Int) (w : World) (hl : l.length = 16) (hs : l.getD 1 0 = s) (h0 : 0 ≤ s) (h1 : s < 193) : Calls Try.prog 58 #[.agg (va l)] w fun e w' => e = .returned (.int .i32 (stP.stT s)) ∧ Below w.heap.size w w' := by
  have L0 := slot_box w l
  have c1 := L0.cell 1
  rw [List.getElem?_map, List.getElem?_eq_getElem (by omega), Option.map_some, show l[1] = s by rw [← hs, List.getD_eq_getElem?_getD, List.getElem?_eq_getElem (by omega)]; rfl] at c1
  have B0 : Hid (Below w.heap.size w (w.alloc (.cells (va l) 31))) := Lib.hid (by (repeat' (first | (with_reducible exact Below.refl _ _) | (with_reducible assumption) | (with_reducible refine below_drewN ?_ _) | (with_reducible refine below_new ?_ _) | (with_reducible refine Below.alloc ?_ ?_ _) | (with_reducible refine Below.drew ?_) | (with_reducible refine Below.setCell ?_ ?_ _) | (with_reducible apply below_at; (case k => (with_reducible assumption)); (case hB => omega)) | (with_reducible apply below_on; (with_reducible assumption)) | (go_size; done) | (with_reducible apply size_of))))
  clear L0
  go_enter Try.func58, Try.ntmps58
  go_upto_region 1 with fail
  generalize (w.alloc (.cells (va l) 31)) = w0 at *
  go_wp2_with (first | (refine (stW.rSeen_any s _ h0 h1).mono ?_; rintro e w2 ⟨rfl, b2⟩; have B2 := Lib.hid (below_bs B0.out b2); clear b2))
  go_ret
  exact ⟨rfl, B2.out⟩
end Go.Proofs.Ytkklmclnjmafaaa.slW
