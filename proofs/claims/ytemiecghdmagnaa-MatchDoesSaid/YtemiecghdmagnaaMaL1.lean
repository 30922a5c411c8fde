/- MatchDoes, by a walk. -/
import Derived.Test.YtemiecghdmagnaaMaWF
import Derived.Test.YtemiecghdmagnaaGT
import Derived.Test.YtemiecghdmagnaaOrd6
namespace Go.Proofs.Ytemiecghdmagnaa.maW
set_option maxRecDepth 100000
open Go.RowKit Go.Proofs.Ytemiecghdmagnaa.base Go.Proofs.Ytemiecghdmagnaa.rgP Go.Proofs.Ytemiecghdmagnaa.fdP Go.Proofs.Ytemiecghdmagnaa.maP Go.Proofs.Ytemiecghdmagnaa.rgW Go.Proofs.Ytemiecghdmagnaa.rgL Go.Proofs.Ytemiecghdmagnaa.hashP Go.Proofs.Ytemiecghdmagnaa.hashW Go.Proofs.Ytemiecghdmagnaa.cxP Go.Proofs.Ytemiecghdmagnaa.fdW Go.Proofs.Ytemiecghdmagnaa.nibP Go.Proofs.Ytemiecghdmagnaa.nibW
set_option linter.unusedVariables false
set_option linter.unusedSimpArgs false
/-- The law's own boxes. -/
structure Doe (w W : World) (m : Mt) (r : Rg) (A : Option Addr) (n c : Nat) (f : Fnd) (B : Option Addr) (q d : Nat) (p : Int) : Prop where
  lm : Lies (W) (w.heap.size) 23 [.int .i64 (m).a, .int .i64 (m).k]
  lr : Lies (W) (w.heap.size + 1) 26 [.int .i64 (r).l, .slice (A) (n) (c), .int .i64 (r).n]
  lf : Lies (W) (w.heap.size + 2) 29 [.int .i64 (f).l, .slice (B) (q) (d)]
  lw : Lies W (w.heap.size + 3) 31 [.int .i64 p]
  i1 : RgIn W A n c r
  i2 : FdIn W B q d f
  hb : Below w.heap.size w W
theorem Doe.past {w W W' : World} {m : Mt} {r : Rg} {A : Option Addr} {n c : Nat} {f : Fnd} {B : Option Addr} {q d : Nat} {p : Int} (h : Doe w W m r A n c f B q d p) (hb : Below W.heap.size W W') : Doe w W' m r A n c f B q d p :=
  ⟨h.lm.past hb, h.lr.past hb, h.lf.past hb, h.lw.past hb, h.i1.below hb, h.i2.below hb, h.hb.trans (hb.mono h.hb.size)⟩
theorem doe_start (w : World) (m : Mt) (r : Rg) (A : Option Addr) (n c : Nat) (f : Fnd) (B : Option Addr) (q d : Nat) (p : Int) (h1 : RgIn w A n c r) (h2 : FdIn w B q d f) : Doe w ((((w.alloc (.cells #[.int .i64 m.a, .int .i64 m.k] 23)).alloc (.cells #[.int .i64 r.l, .slice A n c, .int .i64 r.n] 26)).alloc (.cells #[.int .i64 f.l, .slice B q d] 29)).alloc (.cells #[.int .i64 p] 31)) m r A n c f B q d p :=
  ⟨((((Lies.fresh _ _ _).alloc _).alloc _).alloc _), ((Lies.fresh_at (by simp)).alloc _).alloc _, (Lies.fresh_at (by simp)).alloc _, Lies.fresh_at (by simp), h1.below (by (repeat' (first | (with_reducible exact Below.refl _ _) | (with_reducible assumption) | (with_reducible refine below_drewN ?_ _) | (with_reducible refine below_new ?_ _) | (with_reducible refine Below.alloc ?_ ?_ _) | (with_reducible refine Below.drew ?_) | (with_reducible refine Below.setCell ?_ ?_ _) | (with_reducible apply below_at; (case k => (with_reducible assumption)); (case hB => omega)) | (with_reducible apply below_on; (with_reducible assumption)) | (go_size; done) | (with_reducible apply size_of)))), h2.below (by (repeat' (first | (with_reducible exact Below.refl _ _) | (with_reducible assumption) | (with_reducible refine below_drewN ?_ _) | (with_reducible refine below_new ?_ _) | (with_reducible refine Below.alloc ?_ ?_ _) | (with_reducible refine Below.drew ?_) | (with_reducible refine Below.setCell ?_ ?_ _) | (with_reducible apply below_at; (case k => (with_reducible assumption)); (case hB => omega)) | (with_reducible apply below_on; (with_reducible assumption)) | (go_size; done) | (with_reducible apply size_of)))), by (repeat' (first | (with_reducible exact Below.refl _ _) | (with_reducible assumption) | (with_reducible refine below_drewN ?_ _) | (with_reducible refine below_new ?_ _) | (with_reducible refine Below.alloc ?_ ?_ _) | (with_reducible refine Below.drew ?_) | (with_reducible refine Below.setCell ?_ ?_ _) | (with_reducible apply below_at; (case k => (with_reducible assumption)); (case hB => omega)) | (with_reducible apply below_on; (with_reducible assumption)) | (go_size; done) | (with_reducible apply size_of)))⟩
theorem Doe.st {w W : World} {m : Mt} {r : Rg} {A : Option Addr} {n c : Nat} {f : Fnd} {B : Option Addr} {q d : Nat} {p : Int} (h : Doe w W m r A n c f B q d p) (h1 : RgIn w A n c r) (h2 : FdIn w B q d f) {g : Nat} (hg : w.heap.size + 3 < g) (i : Nat) (x : Value) : Doe w (W.setCell ⟨g, i, none⟩ x) m r A n c f B q d p :=
  have hb := h.hb.setCell (p := ⟨g, i, none⟩) (by show w.heap.size ≤ g; omega) x
  ⟨h.lm.other (by show g ≠ w.heap.size; omega) _, h.lr.other (by show g ≠ w.heap.size + 1; omega) _, h.lf.other (by show g ≠ w.heap.size + 2; omega) _, h.lw.other (by show g ≠ w.heap.size + 3; omega) _, h1.below hb, h2.below hb, hb⟩
theorem sameB_self (a : Rg) : sameB a a = true := by unfold sameB; rw [decide_eq_true rfl, decide_eq_true rfl, decide_eq_true rfl]; rfl
theorem sameF_self (a : Fnd) : sameF a a = true := by unfold sameF; rw [decide_eq_true rfl, decide_eq_true rfl]; rfl
theorem twin_in {w w' : World} {A A' : Option Addr} {n c c' K : Nat} {r : Rg} (h : RgIn w A n c r) (o : OwnZ w' K (.slice A' n c') r.b) (hc : n ≤ c' ∧ c' ≤ 9223372036854775807) : RgIn w' A' n c' r := ⟨h.l1, h.l2, h.n1, h.n2, o.has, h.e, hc.1, hc.2, h.b⟩
theorem OwnZ_caps {w : World} {K : Nat} {A : Option Addr} {n c : Nat} {zs : List Int} (h : OwnZ w K (.slice A n c) zs) : n ≤ c ∧ c ≤ 9223372036854775807 := by
  rcases h with h | ⟨h0, D, e⟩
  · exact (fdL.own_capI h).2
  · injection e with _ v2 v3
    subst v2 v3
    exact ⟨Nat.le_refl _, by omega⟩
/-- The law's boxes, and the copies. -/
structure Stt (w W : World) (m : Mt) (r : Rg) (A : Option Addr) (n c : Nat) (f : Fnd) (B : Option Addr) (q d : Nat) (p : Int) (xX : Nat) (A1 : Option Addr) (c1 xY : Nat) (A2 : Option Addr) (c2 : Nat) : Prop where
  e : Doe w W m r A n c f B q d p
  lx : Lies (W) (xX) 26 [.int .i64 (r).l, .slice (A1) (n) (c1), .int .i64 (r).n]
  ly : Lies (W) (xY) 29 [.int .i64 (f).l, .slice (A2) (q) (c2)]
  j1 : RgIn W A1 n c1 r
  j2 : FdIn W A2 q c2 f
theorem Stt.past {w W W' : World} {m : Mt} {r : Rg} {A : Option Addr} {n c : Nat} {f : Fnd} {B : Option Addr} {q d : Nat} {p : Int} {xX : Nat} {A1 : Option Addr} {c1 xY : Nat} {A2 : Option Addr} {c2 : Nat} (h : Stt w W m r A n c f B q d p xX A1 c1 xY A2 c2) (hb : Below W.heap.size W W') : Stt w W' m r A n c f B q d p xX A1 c1 xY A2 c2 :=
  ⟨h.e.past hb, h.lx.past hb, h.ly.past hb, h.j1.below hb, h.j2.below hb⟩
theorem stt_mk {w W : World} {m : Mt} {r : Rg} {A : Option Addr} {n c : Nat} {f : Fnd} {B : Option Addr} {q d : Nat} {p : Int} {xX : Nat} {A1 : Option Addr} {c1 xY : Nat} {A2 : Option Addr} {c2 : Nat} (h1 : Doe w W m r A n c f B q d p) (h2 : Lies (W) (xX) 26 [.int .i64 (r).l, .slice (A1) (n) (c1), .int .i64 (r).n]) (h3 : Lies (W) (xY) 29 [.int .i64 (f).l, .slice (A2) (q) (c2)]) (h4 : RgIn W A1 n c1 r) (h5 : FdIn W A2 q c2 f) : Stt w W m r A n c f B q d p xX A1 c1 xY A2 c2 := ⟨h1, h2, h3, h4, h5⟩
theorem fd_twin {w w' : World} {A A' : Option Addr} {n c c' K : Nat} {f : Fnd} (h : FdIn w A n c f) (o : OwnV w' K (.slice A' n c') f.s) (hc : n ≤ c' ∧ c' ≤ 9223372036854775807) : FdIn w' A' n c' f := ⟨h.l1, h.l2, o.has, h.e, hc.1, hc.2, h.b⟩
theorem OwnV_caps {w : World} {K : Nat} {A : Option Addr} {n c : Nat} {zs : List Int} (h : OwnV w K (.slice A n c) zs) : n ≤ c ∧ c ≤ 9223372036854775807 := by
  rcases h with h | ⟨h0, D, e⟩
  · exact (fdL.own_capI h).2
  · injection e with _ v2 v3
    subst v2 v3
    exact ⟨Nat.le_refl _, by omega⟩
/-- Three boxes that a call's values lie in. -/
structure Bx (W : World) (g : Nat) (m : Mt) (r : Rg) (A : Option Addr) (n c : Nat) (f : Fnd) (B : Option Addr) (q d : Nat) : Prop where
  bm : Lies (W) (g) 23 [.int .i64 (m).a, .int .i64 (m).k]
  br : Lies (W) (g + 1) 26 [.int .i64 (r).l, .slice (A) (n) (c), .int .i64 (r).n]
  bf : Lies (W) (g + 2) 29 [.int .i64 (f).l, .slice (B) (q) (d)]
  j1 : RgIn W A n c r
  j2 : FdIn W B q d f
theorem Bx.past {W W' : World} {g : Nat} {m : Mt} {r : Rg} {A : Option Addr} {n c : Nat} {f : Fnd} {B : Option Addr} {q d : Nat} (h : Bx W g m r A n c f B q d) (hb : Below W.heap.size W W') : Bx W' g m r A n c f B q d := ⟨h.bm.past hb, h.br.past hb, h.bf.past hb, h.j1.below hb, h.j2.below hb⟩
theorem bx_start (w : World) (mm : Mt) (r2 : Rg) (A : Option Addr) (n c : Nat) (f2 : Fnd) (B : Option Addr) (q d : Nat) (i : RgIn w A n c r2) (k : FdIn w B q d f2) : Bx (((w.alloc (.cells #[.int .i64 mm.a, .int .i64 mm.k] 23)).alloc (.cells #[.int .i64 r2.l, .slice A n c, .int .i64 r2.n] 26)).alloc (.cells #[.int .i64 f2.l, .slice B q d] 29)) w.heap.size mm r2 A n c f2 B q d :=
  ⟨((Lies.fresh _ _ _).alloc _).alloc _, (Lies.fresh_at (by simp)).alloc _, Lies.fresh_at (by simp), i.below (by (repeat' (first | (with_reducible exact Below.refl _ _) | (with_reducible assumption) | (with_reducible refine below_drewN ?_ _) | (with_reducible refine below_new ?_ _) | (with_reducible refine Below.alloc ?_ ?_ _) | (with_reducible refine Below.drew ?_) | (with_reducible refine Below.setCell ?_ ?_ _) | (with_reducible apply below_at; (case k => (with_reducible assumption)); (case hB => omega)) | (with_reducible apply below_on; (with_reducible assumption)) | (go_size; done) | (with_reducible apply size_of)))), k.below (by (repeat' (first | (with_reducible exact Below.refl _ _) | (with_reducible assumption) | (with_reducible refine below_drewN ?_ _) | (with_reducible refine below_new ?_ _) | (with_reducible refine Below.alloc ?_ ?_ _) | (with_reducible refine Below.drew ?_) | (with_reducible refine Below.setCell ?_ ?_ _) | (with_reducible apply below_at; (case k => (with_reducible assumption)); (case hB => omega)) | (with_reducible apply below_on; (with_reducible assumption)) | (go_size; done) | (with_reducible apply size_of))))⟩
set_option maxHeartbeats 4000000 in
theorem does_law (m : Mt) (A : Option Addr) (n c : Nat) (r : Rg) (B : Option Addr) (q d : Nat) (f : Fnd) (p x : Int) (w : World) (h : RgIn w A n c r) (hf : FdIn w B q d f) (x0 : 0 ≤ x) (x1 : x ≤ 255) :
    Calls Try.prog 3 #[.agg #[.int .i64 (m).a, .int .i64 (m).k], .agg #[.int .i64 (r).l, .slice A n c, .int .i64 (r).n], .agg #[.int .i64 (f).l, .slice B q d], .agg #[.int .i64 p], .int .u8 x] w fun e w' => e = .returned (.bool true) ∧ Below w.heap.size w w' := by
  have T0 := Lib.hid (doe_start w m r A n c f B q d p h hf)
  have HR := Lib.hid h
  have HF0 := Lib.hid hf
  have HM : Hid (n ≤ 9223372036854775807 ∧ q ≤ 9223372036854775807) := Lib.hid ⟨by have := h.c1; have := h.c2; omega, by have := hf.c1; have := hf.c2; omega⟩
  have HX0 := Lib.hid (And.intro x0 x1)
  clear h hf x0 x1
  by_cases hg : 8300 < n
  · have HG : Hid (decide (8300 < n) = true) := Lib.hid (decide_eq_true hg)
    clear hg
    obtain ⟨sa0, sa1, -, -⟩ := T0.out.lm.two; obtain ⟨sb0, sb1, sb2, -, -, -⟩ := T0.out.lr.three; obtain ⟨sc0, sc1, -, -⟩ := T0.out.lf.two; obtain ⟨sd0, -⟩ := T0.out.lw.one; have sl0 := T0.out.lm.lt; have sl1 := T0.out.lr.lt; have sl2 := T0.out.lf.lt; have sl3 := T0.out.lw.lt
    go_enter Try.func3, Try.ntmps3
    go_wp2_with fail
    refine (great_any r A n c _ HM.out.1).mono ?_
    rintro e w1 ⟨rfl, hb1⟩
    rw [HG.out]
    have T1 := Lib.hid (T0.out.past hb1)
    clear hb1
    clear sa0 sa1 sb0 sb1 sb2 sc0 sc1 sd0 sl0 sl1 sl2 sl3
    go_wp2_with fail
    go_ret
    exact ⟨rfl, T1.out.hb⟩
  have HG : Hid (decide (8300 < n) = false) := Lib.hid (decide_eq_false hg)
  by_cases hg2 : 8300 < q
  · have HG2 : Hid (decide (8300 < q) = true) := Lib.hid (decide_eq_true hg2)
    clear hg hg2
    obtain ⟨sa0, sa1, -, -⟩ := T0.out.lm.two; obtain ⟨sb0, sb1, sb2, -, -, -⟩ := T0.out.lr.three; obtain ⟨sc0, sc1, -, -⟩ := T0.out.lf.two; obtain ⟨sd0, -⟩ := T0.out.lw.one; have sl0 := T0.out.lm.lt; have sl1 := T0.out.lr.lt; have sl2 := T0.out.lf.lt; have sl3 := T0.out.lw.lt
    go_enter Try.func3, Try.ntmps3
    go_wp2_with fail
    refine (great_any r A n c _ HM.out.1).mono ?_
    rintro e w1 ⟨rfl, hb1⟩
    rw [HG.out]
    have T1 := Lib.hid (T0.out.past hb1)
    clear hb1
    clear sa0 sa1 sb0 sb1 sb2 sc0 sc1 sd0 sl0 sl1 sl2 sl3
    obtain ⟨sa0, sa1, -, -⟩ := T1.out.lm.two; obtain ⟨sb0, sb1, sb2, -, -, -⟩ := T1.out.lr.three; obtain ⟨sc0, sc1, -, -⟩ := T1.out.lf.two; obtain ⟨sd0, -⟩ := T1.out.lw.one; have sl0 := T1.out.lm.lt; have sl1 := T1.out.lr.lt; have sl2 := T1.out.lf.lt; have sl3 := T1.out.lw.lt
    go_wp2_with fail
    refine (rGreat_any f B q d _ HM.out.2).mono ?_
    rintro e w2 ⟨rfl, hb2⟩
    rw [HG2.out]
    have T2 := Lib.hid (T1.out.past hb2)
    clear hb2
    clear sa0 sa1 sb0 sb1 sb2 sc0 sc1 sd0 sl0 sl1 sl2 sl3
    go_wp2_with fail
    go_ret
    exact ⟨rfl, T2.out.hb⟩
  have HG2 : Hid (decide (8300 < q) = false) := Lib.hid (decide_eq_false hg2)
  have HNN : Hid (n ≤ 8300 ∧ q ≤ 8300) := Lib.hid (by omega)
  clear hg hg2
  obtain ⟨sa0, sa1, -, -⟩ := T0.out.lm.two; obtain ⟨sb0, sb1, sb2, -, -, -⟩ := T0.out.lr.three; obtain ⟨sc0, sc1, -, -⟩ := T0.out.lf.two; obtain ⟨sd0, -⟩ := T0.out.lw.one; have sl0 := T0.out.lm.lt; have sl1 := T0.out.lr.lt; have sl2 := T0.out.lf.lt; have sl3 := T0.out.lw.lt
  go_enter Try.func3, Try.ntmps3
  go_wp2_with fail
  refine (great_any r A n c _ HM.out.1).mono ?_
  rintro e w1 ⟨rfl, hb1⟩
  rw [HG.out]
  have T1 := Lib.hid (T0.out.past hb1)
  clear hb1
  clear sa0 sa1 sb0 sb1 sb2 sc0 sc1 sd0 sl0 sl1 sl2 sl3
  obtain ⟨sa0, sa1, -, -⟩ := T1.out.lm.two; obtain ⟨sb0, sb1, sb2, -, -, -⟩ := T1.out.lr.three; obtain ⟨sc0, sc1, -, -⟩ := T1.out.lf.two; obtain ⟨sd0, -⟩ := T1.out.lw.one; have sl0 := T1.out.lm.lt; have sl1 := T1.out.lr.lt; have sl2 := T1.out.lf.lt; have sl3 := T1.out.lw.lt
  go_wp2_with fail
  refine (rGreat_any f B q d _ HM.out.2).mono ?_
  rintro e w2 ⟨rfl, hb2⟩
  rw [HG2.out]
  have T2 := Lib.hid (T1.out.past hb2)
  clear hb2
  clear sa0 sa1 sb0 sb1 sb2 sc0 sc1 sd0 sl0 sl1 sl2 sl3
  go_wp2_with fail
  (have RD := grows_roads (S := fun x' => Doe w x' m r A n c f B q d p ∧ w2.heap.size ≤ x'.heap.size) (fun a b h1 h2 => ⟨h2.1.past h1, Nat.le_trans h2.2 h1.size⟩)); refine region_ord _ Grows RD (⟨T2.out.past (Below.drew (Below.refl _ _)), Nat.le_refl _⟩) (by kernel_rfl) ?_; intro ops Q' hops hPQ hN; (have HNS : Hid (Region.noSelect ops = true) := Lib.hid (by rw [hops]; kernel_rfl)); (have hsz : ops.size = 8 := (by rw [hops]; rfl)); have HOP := Lib.hid hops; have HPQ := Lib.hid hPQ; have HN := Lib.hid hN; rw [hsz]; clear hops hsz hPQ hN
  refine ord_take RD 0 (at_list (by rw [HOP.out]; rfl)) HNS.out HPQ.out (by rw [HOP.out]; kernel_rfl) (by rw [HOP.out]; kernel_rfl) (by rw [HOP.out]; rfl) (fun K hK => ?_); apply Exists.intro; refine ⟨fun W hSW => ?_, hK _ ?_⟩; (focus ((try dsimp only at hSW); (obtain ⟨y0, y1, y2, -, -, -⟩ := hSW.1.lr.three); go_simp; try with_reducible rfl)); clear hK K; (try simp only [Act.put, List.setIfInBounds_toArray, List.set_cons_zero, List.set_cons_succ])
  refine ord_take RD 2 (at_list (by rw [HOP.out]; rfl)) HNS.out HPQ.out (by rw [HOP.out]; kernel_rfl) (by rw [HOP.out]; kernel_rfl) (by rw [HOP.out]; rfl) (fun K hK => ?_); apply Exists.intro; refine ⟨fun W hSW => ?_, hK _ ?_⟩; (focus ((try dsimp only at hSW); (obtain ⟨y0, y1, -, -⟩ := hSW.1.lf.two); go_simp; try with_reducible rfl)); clear hK K; (try simp only [Act.put, List.setIfInBounds_toArray, List.set_cons_zero, List.set_cons_succ])
  apply mid6 (C := fun A1 c1 A2 c2 xX xY W => (Doe w W m r A n c f B q d p ∧ w2.heap.size ≤ W.heap.size) ∧ OwnZ W w.heap.size (.slice A1 n c1) r.b ∧ OwnV W w.heap.size (.slice A2 q c2) f.s ∧ (Lies W xX 26 [.int .i64 0, .slice none 0 0, .int .i64 0] ∧ w2.heap.size ≤ xX) ∧ (Lies W xY 29 [.int .i64 0, .slice none 0 0] ∧ w2.heap.size ≤ xY))
  · intro HREST
    refine ord_three RD 1 4 5 (by rw [HOP.out]; kernel_rfl) (at_list (by rw [HOP.out]; rfl)) (at_list (by rw [HOP.out]; rfl)) (at_list (by rw [HOP.out]; rfl)) (by rw [HOP.out]; rfl) (by rw [HOP.out]; rfl) (by rw [HOP.out]; rfl) ?_ ?_ ?_
    · intro Wn hWW hSW K hK
      (try dsimp only at hSW)
      have HS := Lib.hid hSW
      clear hSW hWW
      go_simp
      refine (rgW.Twin_any r A n c _ HS.out.1.i1.h HS.out.1.i1.e HNN.out.1).mono ?_
      rintro e0 Wc ⟨A1, c1, rfl, o1, hb⟩
      refine hK _ _ ⟨HS.out.1.past hb, Nat.le_trans HS.out.2 hb.size⟩ ?_
      have HA := Lib.hid (o1.mono HS.out.1.hb.size)
      replace HS := Lib.hid (And.intro (HS.out.1.past hb) (Nat.le_trans HS.out.2 hb.size))
      clear hb o1
      clear hK K; (try simp only [Act.put, List.setIfInBounds_toArray, List.set_cons_zero, List.set_cons_succ])
      refine ord_three RD 3 4 5 (by rw [HOP.out]; kernel_rfl) (at_list (by rw [HOP.out]; rfl)) (at_list (by rw [HOP.out]; rfl)) (at_list (by rw [HOP.out]; rfl)) (by rw [HOP.out]; rfl) (by rw [HOP.out]; rfl) (by rw [HOP.out]; rfl) ?_ ?_ ?_
      · intro Wn hWW hSW K hK
        (try dsimp only at hSW)
        replace HA := Lib.hid (HA.out.past hWW)
        have HS := Lib.hid hSW
        clear hSW hWW
        go_simp
        refine (fdW.Twin_any f B q d _ HS.out.1.i2.h HS.out.1.i2.e HNN.out.2).mono ?_
        rintro e0 Wc ⟨A2, c2, rfl, o2, hb⟩
        refine hK _ _ ⟨HS.out.1.past hb, Nat.le_trans HS.out.2 hb.size⟩ ?_
        replace HA := Lib.hid (HA.out.past hb)
        have HF := Lib.hid (o2.mono HS.out.1.hb.size)
        replace HS := Lib.hid (And.intro (HS.out.1.past hb) (Nat.le_trans HS.out.2 hb.size))
        clear hb o2
        clear hK K; (try simp only [Act.put, List.setIfInBounds_toArray, List.set_cons_zero, List.set_cons_succ])
        refine ord_two RD 4 5 (by rw [HOP.out]; kernel_rfl) (at_list (by rw [HOP.out]; rfl)) (at_list (by rw [HOP.out]; rfl)) (by rw [HOP.out]; rfl) (by rw [HOP.out]; rfl) ?_ ?_
        · intro Wn hWW hSW K hK
          (try dsimp only at hSW)
          replace HA := Lib.hid (HA.out.past hWW)
          replace HF := Lib.hid (HF.out.past hWW)
          have HS := Lib.hid hSW
          have HX := Lib.hid (And.intro (Lies.fresh Wn 26 [.int .i64 0, .slice none 0 0, .int .i64 0]) hSW.2)
          clear hSW hWW
          go_simp
          refine hK _ _ ⟨HS.out.1.past (grows_alloc _ _), Nat.le_trans HS.out.2 (grows_alloc _ (.cells #[.int .i64 0, .slice none 0 0, .int .i64 0] 26)).size⟩ ?_
          replace HA := Lib.hid (HA.out.past (grows_alloc _ (.cells #[.int .i64 0, .slice none 0 0, .int .i64 0] 26)))
          replace HF := Lib.hid (HF.out.past (grows_alloc _ (.cells #[.int .i64 0, .slice none 0 0, .int .i64 0] 26)))
          replace HS := Lib.hid (And.intro (HS.out.1.past (grows_alloc _ (.cells #[.int .i64 0, .slice none 0 0, .int .i64 0] 26))) (Nat.le_trans HS.out.2 (grows_alloc _ (.cells #[.int .i64 0, .slice none 0 0, .int .i64 0] 26)).size))
          clear hK K; (try simp only [Act.put, List.setIfInBounds_toArray, List.set_cons_zero, List.set_cons_succ])
          generalize Wn.heap.size = xX at *
          refine ord_one RD 5 (by rw [HOP.out]; kernel_rfl) (at_list (by rw [HOP.out]; rfl)) (by rw [HOP.out]; rfl) ?_
          · intro Wn hWW hSW K hK
            (try dsimp only at hSW)
            replace HA := Lib.hid (HA.out.past hWW)
            replace HF := Lib.hid (HF.out.past hWW)
            replace HX := Lib.hid (And.intro (HX.out.1.past hWW) HX.out.2)
            have HS := Lib.hid hSW
            have HY := Lib.hid (And.intro (Lies.fresh Wn 29 [.int .i64 0, .slice none 0 0]) hSW.2)
            clear hSW hWW
            go_simp
            refine hK _ _ ⟨HS.out.1.past (grows_alloc _ _), Nat.le_trans HS.out.2 (grows_alloc _ (.cells #[.int .i64 0, .slice none 0 0] 29)).size⟩ ?_
            replace HA := Lib.hid (HA.out.past (grows_alloc _ (.cells #[.int .i64 0, .slice none 0 0] 29)))
            replace HF := Lib.hid (HF.out.past (grows_alloc _ (.cells #[.int .i64 0, .slice none 0 0] 29)))
            replace HX := Lib.hid (And.intro (HX.out.1.past (grows_alloc _ (.cells #[.int .i64 0, .slice none 0 0] 29))) HX.out.2)
            replace HS := Lib.hid (And.intro (HS.out.1.past (grows_alloc _ (.cells #[.int .i64 0, .slice none 0 0] 29))) (Nat.le_trans HS.out.2 (grows_alloc _ (.cells #[.int .i64 0, .slice none 0 0] 29)).size))
            clear hK K; (try simp only [Act.put, List.setIfInBounds_toArray, List.set_cons_zero, List.set_cons_succ])
            generalize Wn.heap.size = xY at *
            exact (HREST A1 c1 A2 c2 xX xY _ ⟨HS.out, HA.out, HF.out, HX.out, HY.out⟩)
        · intro Wn hWW hSW K hK
          (try dsimp only at hSW)
          replace HA := Lib.hid (HA.out.past hWW)
          replace HF := Lib.hid (HF.out.past hWW)
          have HS := Lib.hid hSW
          have HY := Lib.hid (And.intro (Lies.fresh Wn 29 [.int .i64 0, .slice none 0 0]) hSW.2)
          clear hSW hWW
          go_simp
          refine hK _ _ ⟨HS.out.1.past (grows_alloc _ _), Nat.le_trans HS.out.2 (grows_alloc _ (.cells #[.int .i64 0, .slice none 0 0] 29)).size⟩ ?_
          replace HA := Lib.hid (HA.out.past (grows_alloc _ (.cells #[.int .i64 0, .slice none 0 0] 29)))
          replace HF := Lib.hid (HF.out.past (grows_alloc _ (.cells #[.int .i64 0, .slice none 0 0] 29)))
          replace HS := Lib.hid (And.intro (HS.out.1.past (grows_alloc _ (.cells #[.int .i64 0, .slice none 0 0] 29))) (Nat.le_trans HS.out.2 (grows_alloc _ (.cells #[.int .i64 0, .slice none 0 0] 29)).size))
          clear hK K; (try simp only [Act.put, List.setIfInBounds_toArray, List.set_cons_zero, List.set_cons_succ])
          generalize Wn.heap.size = xY at *
          refine ord_one RD 4 (by rw [HOP.out]; kernel_rfl) (at_list (by rw [HOP.out]; rfl)) (by rw [HOP.out]; rfl) ?_
          · intro Wn hWW hSW K hK
            (try dsimp only at hSW)
            replace HA := Lib.hid (HA.out.past hWW)
            replace HF := Lib.hid (HF.out.past hWW)
            replace HY := Lib.hid (And.intro (HY.out.1.past hWW) HY.out.2)
            have HS := Lib.hid hSW
            have HX := Lib.hid (And.intro (Lies.fresh Wn 26 [.int .i64 0, .slice none 0 0, .int .i64 0]) hSW.2)
            clear hSW hWW
            go_simp
            refine hK _ _ ⟨HS.out.1.past (grows_alloc _ _), Nat.le_trans HS.out.2 (grows_alloc _ (.cells #[.int .i64 0, .slice none 0 0, .int .i64 0] 26)).size⟩ ?_
            replace HA := Lib.hid (HA.out.past (grows_alloc _ (.cells #[.int .i64 0, .slice none 0 0, .int .i64 0] 26)))
            replace HF := Lib.hid (HF.out.past (grows_alloc _ (.cells #[.int .i64 0, .slice none 0 0, .int .i64 0] 26)))
            replace HY := Lib.hid (And.intro (HY.out.1.past (grows_alloc _ (.cells #[.int .i64 0, .slice none 0 0, .int .i64 0] 26))) HY.out.2)
            replace HS := Lib.hid (And.intro (HS.out.1.past (grows_alloc _ (.cells #[.int .i64 0, .slice none 0 0, .int .i64 0] 26))) (Nat.le_trans HS.out.2 (grows_alloc _ (.cells #[.int .i64 0, .slice none 0 0, .int .i64 0] 26)).size))
            clear hK K; (try simp only [Act.put, List.setIfInBounds_toArray, List.set_cons_zero, List.set_cons_succ])
            generalize Wn.heap.size = xX at *
            exact ord_at (by kernel_rfl) (HREST A1 c1 A2 c2 xX xY _ ⟨HS.out, HA.out, HF.out, HX.out, HY.out⟩)
      · intro Wn hWW hSW K hK
        (try dsimp only at hSW)
        replace HA := Lib.hid (HA.out.past hWW)
        have HS := Lib.hid hSW
        have HX := Lib.hid (And.intro (Lies.fresh Wn 26 [.int .i64 0, .slice none 0 0, .int .i64 0]) hSW.2)
        clear hSW hWW
        go_simp
        refine hK _ _ ⟨HS.out.1.past (grows_alloc _ _), Nat.le_trans HS.out.2 (grows_alloc _ (.cells #[.int .i64 0, .slice none 0 0, .int .i64 0] 26)).size⟩ ?_
        replace HA := Lib.hid (HA.out.past (grows_alloc _ (.cells #[.int .i64 0, .slice none 0 0, .int .i64 0] 26)))
        replace HS := Lib.hid (And.intro (HS.out.1.past (grows_alloc _ (.cells #[.int .i64 0, .slice none 0 0, .int .i64 0] 26))) (Nat.le_trans HS.out.2 (grows_alloc _ (.cells #[.int .i64 0, .slice none 0 0, .int .i64 0] 26)).size))
        clear hK K; (try simp only [Act.put, List.setIfInBounds_toArray, List.set_cons_zero, List.set_cons_succ])
        generalize Wn.heap.size = xX at *
        refine ord_two RD 3 5 (by rw [HOP.out]; kernel_rfl) (at_list (by rw [HOP.out]; rfl)) (at_list (by rw [HOP.out]; rfl)) (by rw [HOP.out]; rfl) (by rw [HOP.out]; rfl) ?_ ?_
        · intro Wn hWW hSW K hK
          (try dsimp only at hSW)
          replace HA := Lib.hid (HA.out.past hWW)
          replace HX := Lib.hid (And.intro (HX.out.1.past hWW) HX.out.2)
          have HS := Lib.hid hSW
          clear hSW hWW
          go_simp
          refine (fdW.Twin_any f B q d _ HS.out.1.i2.h HS.out.1.i2.e HNN.out.2).mono ?_
          rintro e0 Wc ⟨A2, c2, rfl, o2, hb⟩
          refine hK _ _ ⟨HS.out.1.past hb, Nat.le_trans HS.out.2 hb.size⟩ ?_
          replace HA := Lib.hid (HA.out.past hb)
          replace HX := Lib.hid (And.intro (HX.out.1.past hb) HX.out.2)
          have HF := Lib.hid (o2.mono HS.out.1.hb.size)
          replace HS := Lib.hid (And.intro (HS.out.1.past hb) (Nat.le_trans HS.out.2 hb.size))
          clear hb o2
          clear hK K; (try simp only [Act.put, List.setIfInBounds_toArray, List.set_cons_zero, List.set_cons_succ])
          refine ord_one RD 5 (by rw [HOP.out]; kernel_rfl) (at_list (by rw [HOP.out]; rfl)) (by rw [HOP.out]; rfl) ?_
          · intro Wn hWW hSW K hK
            (try dsimp only at hSW)
            replace HA := Lib.hid (HA.out.past hWW)
            replace HX := Lib.hid (And.intro (HX.out.1.past hWW) HX.out.2)
            replace HF := Lib.hid (HF.out.past hWW)
            have HS := Lib.hid hSW
            have HY := Lib.hid (And.intro (Lies.fresh Wn 29 [.int .i64 0, .slice none 0 0]) hSW.2)
            clear hSW hWW
            go_simp
            refine hK _ _ ⟨HS.out.1.past (grows_alloc _ _), Nat.le_trans HS.out.2 (grows_alloc _ (.cells #[.int .i64 0, .slice none 0 0] 29)).size⟩ ?_
            replace HA := Lib.hid (HA.out.past (grows_alloc _ (.cells #[.int .i64 0, .slice none 0 0] 29)))
            replace HX := Lib.hid (And.intro (HX.out.1.past (grows_alloc _ (.cells #[.int .i64 0, .slice none 0 0] 29))) HX.out.2)
            replace HF := Lib.hid (HF.out.past (grows_alloc _ (.cells #[.int .i64 0, .slice none 0 0] 29)))
            replace HS := Lib.hid (And.intro (HS.out.1.past (grows_alloc _ (.cells #[.int .i64 0, .slice none 0 0] 29))) (Nat.le_trans HS.out.2 (grows_alloc _ (.cells #[.int .i64 0, .slice none 0 0] 29)).size))
            clear hK K; (try simp only [Act.put, List.setIfInBounds_toArray, List.set_cons_zero, List.set_cons_succ])
            generalize Wn.heap.size = xY at *
            exact ord_at (by kernel_rfl) (HREST A1 c1 A2 c2 xX xY _ ⟨HS.out, HA.out, HF.out, HX.out, HY.out⟩)
        · intro Wn hWW hSW K hK
          (try dsimp only at hSW)
          replace HA := Lib.hid (HA.out.past hWW)
          replace HX := Lib.hid (And.intro (HX.out.1.past hWW) HX.out.2)
          have HS := Lib.hid hSW
          have HY := Lib.hid (And.intro (Lies.fresh Wn 29 [.int .i64 0, .slice none 0 0]) hSW.2)
          clear hSW hWW
          go_simp
          refine hK _ _ ⟨HS.out.1.past (grows_alloc _ _), Nat.le_trans HS.out.2 (grows_alloc _ (.cells #[.int .i64 0, .slice none 0 0] 29)).size⟩ ?_
          replace HA := Lib.hid (HA.out.past (grows_alloc _ (.cells #[.int .i64 0, .slice none 0 0] 29)))
          replace HX := Lib.hid (And.intro (HX.out.1.past (grows_alloc _ (.cells #[.int .i64 0, .slice none 0 0] 29))) HX.out.2)
          replace HS := Lib.hid (And.intro (HS.out.1.past (grows_alloc _ (.cells #[.int .i64 0, .slice none 0 0] 29))) (Nat.le_trans HS.out.2 (grows_alloc _ (.cells #[.int .i64 0, .slice none 0 0] 29)).size))
          clear hK K; (try simp only [Act.put, List.setIfInBounds_toArray, List.set_cons_zero, List.set_cons_succ])
          generalize Wn.heap.size = xY at *
          refine ord_one RD 3 (by rw [HOP.out]; kernel_rfl) (at_list (by rw [HOP.out]; rfl)) (by rw [HOP.out]; rfl) ?_
          · intro Wn hWW hSW K hK
            (try dsimp only at hSW)
            replace HA := Lib.hid (HA.out.past hWW)
            replace HX := Lib.hid (And.intro (HX.out.1.past hWW) HX.out.2)
            replace HY := Lib.hid (And.intro (HY.out.1.past hWW) HY.out.2)
            have HS := Lib.hid hSW
            clear hSW hWW
            go_simp
            refine (fdW.Twin_any f B q d _ HS.out.1.i2.h HS.out.1.i2.e HNN.out.2).mono ?_
            rintro e0 Wc ⟨A2, c2, rfl, o2, hb⟩
            refine hK _ _ ⟨HS.out.1.past hb, Nat.le_trans HS.out.2 hb.size⟩ ?_
            replace HA := Lib.hid (HA.out.past hb)
            replace HX := Lib.hid (And.intro (HX.out.1.past hb) HX.out.2)
            replace HY := Lib.hid (And.intro (HY.out.1.past hb) HY.out.2)
            have HF := Lib.hid (o2.mono HS.out.1.hb.size)
            replace HS := Lib.hid (And.intro (HS.out.1.past hb) (Nat.le_trans HS.out.2 hb.size))
            clear hb o2
            clear hK K; (try simp only [Act.put, List.setIfInBounds_toArray, List.set_cons_zero, List.set_cons_succ])
            exact ord_at (by kernel_rfl) (HREST A1 c1 A2 c2 xX xY _ ⟨HS.out, HA.out, HF.out, HX.out, HY.out⟩)
      · intro Wn hWW hSW K hK
        (try dsimp only at hSW)
        replace HA := Lib.hid (HA.out.past hWW)
        have HS := Lib.hid hSW
        have HY := Lib.hid (And.intro (Lies.fresh Wn 29 [.int .i64 0, .slice none 0 0]) hSW.2)
        clear hSW hWW
        go_simp
        refine hK _ _ ⟨HS.out.1.past (grows_alloc _ _), Nat.le_trans HS.out.2 (grows_alloc _ (.cells #[.int .i64 0, .slice none 0 0] 29)).size⟩ ?_
        replace HA := Lib.hid (HA.out.past (grows_alloc _ (.cells #[.int .i64 0, .slice none 0 0] 29)))
        replace HS := Lib.hid (And.intro (HS.out.1.past (grows_alloc _ (.cells #[.int .i64 0, .slice none 0 0] 29))) (Nat.le_trans HS.out.2 (grows_alloc _ (.cells #[.int .i64 0, .slice none 0 0] 29)).size))
        clear hK K; (try simp only [Act.put, List.setIfInBounds_toArray, List.set_cons_zero, List.set_cons_succ])
        generalize Wn.heap.size = xY at *
        refine ord_two RD 3 4 (by rw [HOP.out]; kernel_rfl) (at_list (by rw [HOP.out]; rfl)) (at_list (by rw [HOP.out]; rfl)) (by rw [HOP.out]; rfl) (by rw [HOP.out]; rfl) ?_ ?_
        · intro Wn hWW hSW K hK
          (try dsimp only at hSW)
          replace HA := Lib.hid (HA.out.past hWW)
          replace HY := Lib.hid (And.intro (HY.out.1.past hWW) HY.out.2)
          have HS := Lib.hid hSW
          clear hSW hWW
          go_simp
          refine (fdW.Twin_any f B q d _ HS.out.1.i2.h HS.out.1.i2.e HNN.out.2).mono ?_
          rintro e0 Wc ⟨A2, c2, rfl, o2, hb⟩
          refine hK _ _ ⟨HS.out.1.past hb, Nat.le_trans HS.out.2 hb.size⟩ ?_
          replace HA := Lib.hid (HA.out.past hb)
          replace HY := Lib.hid (And.intro (HY.out.1.past hb) HY.out.2)
          have HF := Lib.hid (o2.mono HS.out.1.hb.size)
          replace HS := Lib.hid (And.intro (HS.out.1.past hb) (Nat.le_trans HS.out.2 hb.size))
          clear hb o2
          clear hK K; (try simp only [Act.put, List.setIfInBounds_toArray, List.set_cons_zero, List.set_cons_succ])
          refine ord_one RD 4 (by rw [HOP.out]; kernel_rfl) (at_list (by rw [HOP.out]; rfl)) (by rw [HOP.out]; rfl) ?_
          · intro Wn hWW hSW K hK
            (try dsimp only at hSW)
            replace HA := Lib.hid (HA.out.past hWW)
            replace HY := Lib.hid (And.intro (HY.out.1.past hWW) HY.out.2)
            replace HF := Lib.hid (HF.out.past hWW)
            have HS := Lib.hid hSW
            have HX := Lib.hid (And.intro (Lies.fresh Wn 26 [.int .i64 0, .slice none 0 0, .int .i64 0]) hSW.2)
            clear hSW hWW
            go_simp
            refine hK _ _ ⟨HS.out.1.past (grows_alloc _ _), Nat.le_trans HS.out.2 (grows_alloc _ (.cells #[.int .i64 0, .slice none 0 0, .int .i64 0] 26)).size⟩ ?_
            replace HA := Lib.hid (HA.out.past (grows_alloc _ (.cells #[.int .i64 0, .slice none 0 0, .int .i64 0] 26)))
            replace HY := Lib.hid (And.intro (HY.out.1.past (grows_alloc _ (.cells #[.int .i64 0, .slice none 0 0, .int .i64 0] 26))) HY.out.2)
            replace HF := Lib.hid (HF.out.past (grows_alloc _ (.cells #[.int .i64 0, .slice none 0 0, .int .i64 0] 26)))
            replace HS := Lib.hid (And.intro (HS.out.1.past (grows_alloc _ (.cells #[.int .i64 0, .slice none 0 0, .int .i64 0] 26))) (Nat.le_trans HS.out.2 (grows_alloc _ (.cells #[.int .i64 0, .slice none 0 0, .int .i64 0] 26)).size))
            clear hK K; (try simp only [Act.put, List.setIfInBounds_toArray, List.set_cons_zero, List.set_cons_succ])
            generalize Wn.heap.size = xX at *
            exact ord_at (by kernel_rfl) (HREST A1 c1 A2 c2 xX xY _ ⟨HS.out, HA.out, HF.out, HX.out, HY.out⟩)
        · intro Wn hWW hSW K hK
          (try dsimp only at hSW)
          replace HA := Lib.hid (HA.out.past hWW)
          replace HY := Lib.hid (And.intro (HY.out.1.past hWW) HY.out.2)
          have HS := Lib.hid hSW
          have HX := Lib.hid (And.intro (Lies.fresh Wn 26 [.int .i64 0, .slice none 0 0, .int .i64 0]) hSW.2)
          clear hSW hWW
          go_simp
          refine hK _ _ ⟨HS.out.1.past (grows_alloc _ _), Nat.le_trans HS.out.2 (grows_alloc _ (.cells #[.int .i64 0, .slice none 0 0, .int .i64 0] 26)).size⟩ ?_
          replace HA := Lib.hid (HA.out.past (grows_alloc _ (.cells #[.int .i64 0, .slice none 0 0, .int .i64 0] 26)))
          replace HY := Lib.hid (And.intro (HY.out.1.past (grows_alloc _ (.cells #[.int .i64 0, .slice none 0 0, .int .i64 0] 26))) HY.out.2)
          replace HS := Lib.hid (And.intro (HS.out.1.past (grows_alloc _ (.cells #[.int .i64 0, .slice none 0 0, .int .i64 0] 26))) (Nat.le_trans HS.out.2 (grows_alloc _ (.cells #[.int .i64 0, .slice none 0 0, .int .i64 0] 26)).size))
          clear hK K; (try simp only [Act.put, List.setIfInBounds_toArray, List.set_cons_zero, List.set_cons_succ])
          generalize Wn.heap.size = xX at *
          refine ord_one RD 3 (by rw [HOP.out]; kernel_rfl) (at_list (by rw [HOP.out]; rfl)) (by rw [HOP.out]; rfl) ?_
          · intro Wn hWW hSW K hK
            (try dsimp only at hSW)
            replace HA := Lib.hid (HA.out.past hWW)
            replace HY := Lib.hid (And.intro (HY.out.1.past hWW) HY.out.2)
            replace HX := Lib.hid (And.intro (HX.out.1.past hWW) HX.out.2)
            have HS := Lib.hid hSW
            clear hSW hWW
            go_simp
            refine (fdW.Twin_any f B q d _ HS.out.1.i2.h HS.out.1.i2.e HNN.out.2).mono ?_
            rintro e0 Wc ⟨A2, c2, rfl, o2, hb⟩
            refine hK _ _ ⟨HS.out.1.past hb, Nat.le_trans HS.out.2 hb.size⟩ ?_
            replace HA := Lib.hid (HA.out.past hb)
            replace HY := Lib.hid (And.intro (HY.out.1.past hb) HY.out.2)
            replace HX := Lib.hid (And.intro (HX.out.1.past hb) HX.out.2)
            have HF := Lib.hid (o2.mono HS.out.1.hb.size)
            replace HS := Lib.hid (And.intro (HS.out.1.past hb) (Nat.le_trans HS.out.2 hb.size))
            clear hb o2
            clear hK K; (try simp only [Act.put, List.setIfInBounds_toArray, List.set_cons_zero, List.set_cons_succ])
            exact ord_at (by kernel_rfl) (HREST A1 c1 A2 c2 xX xY _ ⟨HS.out, HA.out, HF.out, HX.out, HY.out⟩)
    · intro Wn hWW hSW K hK
      (try dsimp only at hSW)
      have HS := Lib.hid hSW
      have HX := Lib.hid (And.intro (Lies.fresh Wn 26 [.int .i64 0, .slice none 0 0, .int .i64 0]) hSW.2)
      clear hSW hWW
      go_simp
      refine hK _ _ ⟨HS.out.1.past (grows_alloc _ _), Nat.le_trans HS.out.2 (grows_alloc _ (.cells #[.int .i64 0, .slice none 0 0, .int .i64 0] 26)).size⟩ ?_
      replace HS := Lib.hid (And.intro (HS.out.1.past (grows_alloc _ (.cells #[.int .i64 0, .slice none 0 0, .int .i64 0] 26))) (Nat.le_trans HS.out.2 (grows_alloc _ (.cells #[.int .i64 0, .slice none 0 0, .int .i64 0] 26)).size))
      clear hK K; (try simp only [Act.put, List.setIfInBounds_toArray, List.set_cons_zero, List.set_cons_succ])
      generalize Wn.heap.size = xX at *
      refine ord_two RD 1 5 (by rw [HOP.out]; kernel_rfl) (at_list (by rw [HOP.out]; rfl)) (at_list (by rw [HOP.out]; rfl)) (by rw [HOP.out]; rfl) (by rw [HOP.out]; rfl) ?_ ?_
      · intro Wn hWW hSW K hK
        (try dsimp only at hSW)
        replace HX := Lib.hid (And.intro (HX.out.1.past hWW) HX.out.2)
        have HS := Lib.hid hSW
        clear hSW hWW
        go_simp
        refine (rgW.Twin_any r A n c _ HS.out.1.i1.h HS.out.1.i1.e HNN.out.1).mono ?_
        rintro e0 Wc ⟨A1, c1, rfl, o1, hb⟩
        refine hK _ _ ⟨HS.out.1.past hb, Nat.le_trans HS.out.2 hb.size⟩ ?_
        replace HX := Lib.hid (And.intro (HX.out.1.past hb) HX.out.2)
        have HA := Lib.hid (o1.mono HS.out.1.hb.size)
        replace HS := Lib.hid (And.intro (HS.out.1.past hb) (Nat.le_trans HS.out.2 hb.size))
        clear hb o1
        clear hK K; (try simp only [Act.put, List.setIfInBounds_toArray, List.set_cons_zero, List.set_cons_succ])
        refine ord_two RD 3 5 (by rw [HOP.out]; kernel_rfl) (at_list (by rw [HOP.out]; rfl)) (at_list (by rw [HOP.out]; rfl)) (by rw [HOP.out]; rfl) (by rw [HOP.out]; rfl) ?_ ?_
        · intro Wn hWW hSW K hK
          (try dsimp only at hSW)
          replace HX := Lib.hid (And.intro (HX.out.1.past hWW) HX.out.2)
          replace HA := Lib.hid (HA.out.past hWW)
          have HS := Lib.hid hSW
          clear hSW hWW
          go_simp
          refine (fdW.Twin_any f B q d _ HS.out.1.i2.h HS.out.1.i2.e HNN.out.2).mono ?_
          rintro e0 Wc ⟨A2, c2, rfl, o2, hb⟩
          refine hK _ _ ⟨HS.out.1.past hb, Nat.le_trans HS.out.2 hb.size⟩ ?_
          replace HX := Lib.hid (And.intro (HX.out.1.past hb) HX.out.2)
          replace HA := Lib.hid (HA.out.past hb)
          have HF := Lib.hid (o2.mono HS.out.1.hb.size)
          replace HS := Lib.hid (And.intro (HS.out.1.past hb) (Nat.le_trans HS.out.2 hb.size))
          clear hb o2
          clear hK K; (try simp only [Act.put, List.setIfInBounds_toArray, List.set_cons_zero, List.set_cons_succ])
          refine ord_one RD 5 (by rw [HOP.out]; kernel_rfl) (at_list (by rw [HOP.out]; rfl)) (by rw [HOP.out]; rfl) ?_
          · intro Wn hWW hSW K hK
            (try dsimp only at hSW)
            replace HX := Lib.hid (And.intro (HX.out.1.past hWW) HX.out.2)
            replace HA := Lib.hid (HA.out.past hWW)
            replace HF := Lib.hid (HF.out.past hWW)
            have HS := Lib.hid hSW
            have HY := Lib.hid (And.intro (Lies.fresh Wn 29 [.int .i64 0, .slice none 0 0]) hSW.2)
            clear hSW hWW
            go_simp
            refine hK _ _ ⟨HS.out.1.past (grows_alloc _ _), Nat.le_trans HS.out.2 (grows_alloc _ (.cells #[.int .i64 0, .slice none 0 0] 29)).size⟩ ?_
            replace HX := Lib.hid (And.intro (HX.out.1.past (grows_alloc _ (.cells #[.int .i64 0, .slice none 0 0] 29))) HX.out.2)
            replace HA := Lib.hid (HA.out.past (grows_alloc _ (.cells #[.int .i64 0, .slice none 0 0] 29)))
            replace HF := Lib.hid (HF.out.past (grows_alloc _ (.cells #[.int .i64 0, .slice none 0 0] 29)))
            replace HS := Lib.hid (And.intro (HS.out.1.past (grows_alloc _ (.cells #[.int .i64 0, .slice none 0 0] 29))) (Nat.le_trans HS.out.2 (grows_alloc _ (.cells #[.int .i64 0, .slice none 0 0] 29)).size))
            clear hK K; (try simp only [Act.put, List.setIfInBounds_toArray, List.set_cons_zero, List.set_cons_succ])
            generalize Wn.heap.size = xY at *
            exact ord_at (by kernel_rfl) (HREST A1 c1 A2 c2 xX xY _ ⟨HS.out, HA.out, HF.out, HX.out, HY.out⟩)
        · intro Wn hWW hSW K hK
          (try dsimp only at hSW)
          replace HX := Lib.hid (And.intro (HX.out.1.past hWW) HX.out.2)
          replace HA := Lib.hid (HA.out.past hWW)
          have HS := Lib.hid hSW
          have HY := Lib.hid (And.intro (Lies.fresh Wn 29 [.int .i64 0, .slice none 0 0]) hSW.2)
          clear hSW hWW
          go_simp
          refine hK _ _ ⟨HS.out.1.past (grows_alloc _ _), Nat.le_trans HS.out.2 (grows_alloc _ (.cells #[.int .i64 0, .slice none 0 0] 29)).size⟩ ?_
          replace HX := Lib.hid (And.intro (HX.out.1.past (grows_alloc _ (.cells #[.int .i64 0, .slice none 0 0] 29))) HX.out.2)
          replace HA := Lib.hid (HA.out.past (grows_alloc _ (.cells #[.int .i64 0, .slice none 0 0] 29)))
          replace HS := Lib.hid (And.intro (HS.out.1.past (grows_alloc _ (.cells #[.int .i64 0, .slice none 0 0] 29))) (Nat.le_trans HS.out.2 (grows_alloc _ (.cells #[.int .i64 0, .slice none 0 0] 29)).size))
          clear hK K; (try simp only [Act.put, List.setIfInBounds_toArray, List.set_cons_zero, List.set_cons_succ])
          generalize Wn.heap.size = xY at *
          refine ord_one RD 3 (by rw [HOP.out]; kernel_rfl) (at_list (by rw [HOP.out]; rfl)) (by rw [HOP.out]; rfl) ?_
          · intro Wn hWW hSW K hK
            (try dsimp only at hSW)
            replace HX := Lib.hid (And.intro (HX.out.1.past hWW) HX.out.2)
            replace HA := Lib.hid (HA.out.past hWW)
            replace HY := Lib.hid (And.intro (HY.out.1.past hWW) HY.out.2)
            have HS := Lib.hid hSW
            clear hSW hWW
            go_simp
            refine (fdW.Twin_any f B q d _ HS.out.1.i2.h HS.out.1.i2.e HNN.out.2).mono ?_
            rintro e0 Wc ⟨A2, c2, rfl, o2, hb⟩
            refine hK _ _ ⟨HS.out.1.past hb, Nat.le_trans HS.out.2 hb.size⟩ ?_
            replace HX := Lib.hid (And.intro (HX.out.1.past hb) HX.out.2)
            replace HA := Lib.hid (HA.out.past hb)
            replace HY := Lib.hid (And.intro (HY.out.1.past hb) HY.out.2)
            have HF := Lib.hid (o2.mono HS.out.1.hb.size)
            replace HS := Lib.hid (And.intro (HS.out.1.past hb) (Nat.le_trans HS.out.2 hb.size))
            clear hb o2
            clear hK K; (try simp only [Act.put, List.setIfInBounds_toArray, List.set_cons_zero, List.set_cons_succ])
            exact ord_at (by kernel_rfl) (HREST A1 c1 A2 c2 xX xY _ ⟨HS.out, HA.out, HF.out, HX.out, HY.out⟩)
      · intro Wn hWW hSW K hK
        (try dsimp only at hSW)
        replace HX := Lib.hid (And.intro (HX.out.1.past hWW) HX.out.2)
        have HS := Lib.hid hSW
        have HY := Lib.hid (And.intro (Lies.fresh Wn 29 [.int .i64 0, .slice none 0 0]) hSW.2)
        clear hSW hWW
        go_simp
        refine hK _ _ ⟨HS.out.1.past (grows_alloc _ _), Nat.le_trans HS.out.2 (grows_alloc _ (.cells #[.int .i64 0, .slice none 0 0] 29)).size⟩ ?_
        replace HX := Lib.hid (And.intro (HX.out.1.past (grows_alloc _ (.cells #[.int .i64 0, .slice none 0 0] 29))) HX.out.2)
        replace HS := Lib.hid (And.intro (HS.out.1.past (grows_alloc _ (.cells #[.int .i64 0, .slice none 0 0] 29))) (Nat.le_trans HS.out.2 (grows_alloc _ (.cells #[.int .i64 0, .slice none 0 0] 29)).size))
        clear hK K; (try simp only [Act.put, List.setIfInBounds_toArray, List.set_cons_zero, List.set_cons_succ])
        generalize Wn.heap.size = xY at *
        refine ord_one RD 1 (by rw [HOP.out]; kernel_rfl) (at_list (by rw [HOP.out]; rfl)) (by rw [HOP.out]; rfl) ?_
        · intro Wn hWW hSW K hK
          (try dsimp only at hSW)
          replace HX := Lib.hid (And.intro (HX.out.1.past hWW) HX.out.2)
          replace HY := Lib.hid (And.intro (HY.out.1.past hWW) HY.out.2)
          have HS := Lib.hid hSW
          clear hSW hWW
          go_simp
          refine (rgW.Twin_any r A n c _ HS.out.1.i1.h HS.out.1.i1.e HNN.out.1).mono ?_
          rintro e0 Wc ⟨A1, c1, rfl, o1, hb⟩
          refine hK _ _ ⟨HS.out.1.past hb, Nat.le_trans HS.out.2 hb.size⟩ ?_
          replace HX := Lib.hid (And.intro (HX.out.1.past hb) HX.out.2)
          replace HY := Lib.hid (And.intro (HY.out.1.past hb) HY.out.2)
          have HA := Lib.hid (o1.mono HS.out.1.hb.size)
          replace HS := Lib.hid (And.intro (HS.out.1.past hb) (Nat.le_trans HS.out.2 hb.size))
          clear hb o1
          clear hK K; (try simp only [Act.put, List.setIfInBounds_toArray, List.set_cons_zero, List.set_cons_succ])
          refine ord_one RD 3 (by rw [HOP.out]; kernel_rfl) (at_list (by rw [HOP.out]; rfl)) (by rw [HOP.out]; rfl) ?_
          · intro Wn hWW hSW K hK
            (try dsimp only at hSW)
            replace HX := Lib.hid (And.intro (HX.out.1.past hWW) HX.out.2)
            replace HY := Lib.hid (And.intro (HY.out.1.past hWW) HY.out.2)
            replace HA := Lib.hid (HA.out.past hWW)
            have HS := Lib.hid hSW
            clear hSW hWW
            go_simp
            refine (fdW.Twin_any f B q d _ HS.out.1.i2.h HS.out.1.i2.e HNN.out.2).mono ?_
            rintro e0 Wc ⟨A2, c2, rfl, o2, hb⟩
            refine hK _ _ ⟨HS.out.1.past hb, Nat.le_trans HS.out.2 hb.size⟩ ?_
            replace HX := Lib.hid (And.intro (HX.out.1.past hb) HX.out.2)
            replace HY := Lib.hid (And.intro (HY.out.1.past hb) HY.out.2)
            replace HA := Lib.hid (HA.out.past hb)
            have HF := Lib.hid (o2.mono HS.out.1.hb.size)
            replace HS := Lib.hid (And.intro (HS.out.1.past hb) (Nat.le_trans HS.out.2 hb.size))
            clear hb o2
            clear hK K; (try simp only [Act.put, List.setIfInBounds_toArray, List.set_cons_zero, List.set_cons_succ])
            exact ord_at (by kernel_rfl) (HREST A1 c1 A2 c2 xX xY _ ⟨HS.out, HA.out, HF.out, HX.out, HY.out⟩)
    · intro Wn hWW hSW K hK
      (try dsimp only at hSW)
      have HS := Lib.hid hSW
      have HY := Lib.hid (And.intro (Lies.fresh Wn 29 [.int .i64 0, .slice none 0 0]) hSW.2)
      clear hSW hWW
      go_simp
      refine hK _ _ ⟨HS.out.1.past (grows_alloc _ _), Nat.le_trans HS.out.2 (grows_alloc _ (.cells #[.int .i64 0, .slice none 0 0] 29)).size⟩ ?_
      replace HS := Lib.hid (And.intro (HS.out.1.past (grows_alloc _ (.cells #[.int .i64 0, .slice none 0 0] 29))) (Nat.le_trans HS.out.2 (grows_alloc _ (.cells #[.int .i64 0, .slice none 0 0] 29)).size))
      clear hK K; (try simp only [Act.put, List.setIfInBounds_toArray, List.set_cons_zero, List.set_cons_succ])
      generalize Wn.heap.size = xY at *
      refine ord_two RD 1 4 (by rw [HOP.out]; kernel_rfl) (at_list (by rw [HOP.out]; rfl)) (at_list (by rw [HOP.out]; rfl)) (by rw [HOP.out]; rfl) (by rw [HOP.out]; rfl) ?_ ?_
      · intro Wn hWW hSW K hK
        (try dsimp only at hSW)
        replace HY := Lib.hid (And.intro (HY.out.1.past hWW) HY.out.2)
        have HS := Lib.hid hSW
        clear hSW hWW
        go_simp
        refine (rgW.Twin_any r A n c _ HS.out.1.i1.h HS.out.1.i1.e HNN.out.1).mono ?_
        rintro e0 Wc ⟨A1, c1, rfl, o1, hb⟩
        refine hK _ _ ⟨HS.out.1.past hb, Nat.le_trans HS.out.2 hb.size⟩ ?_
        replace HY := Lib.hid (And.intro (HY.out.1.past hb) HY.out.2)
        have HA := Lib.hid (o1.mono HS.out.1.hb.size)
        replace HS := Lib.hid (And.intro (HS.out.1.past hb) (Nat.le_trans HS.out.2 hb.size))
        clear hb o1
        clear hK K; (try simp only [Act.put, List.setIfInBounds_toArray, List.set_cons_zero, List.set_cons_succ])
        refine ord_two RD 3 4 (by rw [HOP.out]; kernel_rfl) (at_list (by rw [HOP.out]; rfl)) (at_list (by rw [HOP.out]; rfl)) (by rw [HOP.out]; rfl) (by rw [HOP.out]; rfl) ?_ ?_
        · intro Wn hWW hSW K hK
          (try dsimp only at hSW)
          replace HY := Lib.hid (And.intro (HY.out.1.past hWW) HY.out.2)
          replace HA := Lib.hid (HA.out.past hWW)
          have HS := Lib.hid hSW
          clear hSW hWW
          go_simp
          refine (fdW.Twin_any f B q d _ HS.out.1.i2.h HS.out.1.i2.e HNN.out.2).mono ?_
          rintro e0 Wc ⟨A2, c2, rfl, o2, hb⟩
          refine hK _ _ ⟨HS.out.1.past hb, Nat.le_trans HS.out.2 hb.size⟩ ?_
          replace HY := Lib.hid (And.intro (HY.out.1.past hb) HY.out.2)
          replace HA := Lib.hid (HA.out.past hb)
          have HF := Lib.hid (o2.mono HS.out.1.hb.size)
          replace HS := Lib.hid (And.intro (HS.out.1.past hb) (Nat.le_trans HS.out.2 hb.size))
          clear hb o2
          clear hK K; (try simp only [Act.put, List.setIfInBounds_toArray, List.set_cons_zero, List.set_cons_succ])
          refine ord_one RD 4 (by rw [HOP.out]; kernel_rfl) (at_list (by rw [HOP.out]; rfl)) (by rw [HOP.out]; rfl) ?_
          · intro Wn hWW hSW K hK
            (try dsimp only at hSW)
            replace HY := Lib.hid (And.intro (HY.out.1.past hWW) HY.out.2)
            replace HA := Lib.hid (HA.out.past hWW)
            replace HF := Lib.hid (HF.out.past hWW)
            have HS := Lib.hid hSW
            have HX := Lib.hid (And.intro (Lies.fresh Wn 26 [.int .i64 0, .slice none 0 0, .int .i64 0]) hSW.2)
            clear hSW hWW
            go_simp
            refine hK _ _ ⟨HS.out.1.past (grows_alloc _ _), Nat.le_trans HS.out.2 (grows_alloc _ (.cells #[.int .i64 0, .slice none 0 0, .int .i64 0] 26)).size⟩ ?_
            replace HY := Lib.hid (And.intro (HY.out.1.past (grows_alloc _ (.cells #[.int .i64 0, .slice none 0 0, .int .i64 0] 26))) HY.out.2)
            replace HA := Lib.hid (HA.out.past (grows_alloc _ (.cells #[.int .i64 0, .slice none 0 0, .int .i64 0] 26)))
            replace HF := Lib.hid (HF.out.past (grows_alloc _ (.cells #[.int .i64 0, .slice none 0 0, .int .i64 0] 26)))
            replace HS := Lib.hid (And.intro (HS.out.1.past (grows_alloc _ (.cells #[.int .i64 0, .slice none 0 0, .int .i64 0] 26))) (Nat.le_trans HS.out.2 (grows_alloc _ (.cells #[.int .i64 0, .slice none 0 0, .int .i64 0] 26)).size))
            clear hK K; (try simp only [Act.put, List.setIfInBounds_toArray, List.set_cons_zero, List.set_cons_succ])
            generalize Wn.heap.size = xX at *
            exact ord_at (by kernel_rfl) (HREST A1 c1 A2 c2 xX xY _ ⟨HS.out, HA.out, HF.out, HX.out, HY.out⟩)
        · intro Wn hWW hSW K hK
          (try dsimp only at hSW)
          replace HY := Lib.hid (And.intro (HY.out.1.past hWW) HY.out.2)
          replace HA := Lib.hid (HA.out.past hWW)
          have HS := Lib.hid hSW
          have HX := Lib.hid (And.intro (Lies.fresh Wn 26 [.int .i64 0, .slice none 0 0, .int .i64 0]) hSW.2)
          clear hSW hWW
          go_simp
          refine hK _ _ ⟨HS.out.1.past (grows_alloc _ _), Nat.le_trans HS.out.2 (grows_alloc _ (.cells #[.int .i64 0, .slice none 0 0, .int .i64 0] 26)).size⟩ ?_
          replace HY := Lib.hid (And.intro (HY.out.1.past (grows_alloc _ (.cells #[.int .i64 0, .slice none 0 0, .int .i64 0] 26))) HY.out.2)
          replace HA := Lib.hid (HA.out.past (grows_alloc _ (.cells #[.int .i64 0, .slice none 0 0, .int .i64 0] 26)))
          replace HS := Lib.hid (And.intro (HS.out.1.past (grows_alloc _ (.cells #[.int .i64 0, .slice none 0 0, .int .i64 0] 26))) (Nat.le_trans HS.out.2 (grows_alloc _ (.cells #[.int .i64 0, .slice none 0 0, .int .i64 0] 26)).size))
          clear hK K; (try simp only [Act.put, List.setIfInBounds_toArray, List.set_cons_zero, List.set_cons_succ])
          generalize Wn.heap.size = xX at *
          refine ord_one RD 3 (by rw [HOP.out]; kernel_rfl) (at_list (by rw [HOP.out]; rfl)) (by rw [HOP.out]; rfl) ?_
          · intro Wn hWW hSW K hK
            (try dsimp only at hSW)
            replace HY := Lib.hid (And.intro (HY.out.1.past hWW) HY.out.2)
            replace HA := Lib.hid (HA.out.past hWW)
            replace HX := Lib.hid (And.intro (HX.out.1.past hWW) HX.out.2)
            have HS := Lib.hid hSW
            clear hSW hWW
            go_simp
            refine (fdW.Twin_any f B q d _ HS.out.1.i2.h HS.out.1.i2.e HNN.out.2).mono ?_
            rintro e0 Wc ⟨A2, c2, rfl, o2, hb⟩
            refine hK _ _ ⟨HS.out.1.past hb, Nat.le_trans HS.out.2 hb.size⟩ ?_
            replace HY := Lib.hid (And.intro (HY.out.1.past hb) HY.out.2)
            replace HA := Lib.hid (HA.out.past hb)
            replace HX := Lib.hid (And.intro (HX.out.1.past hb) HX.out.2)
            have HF := Lib.hid (o2.mono HS.out.1.hb.size)
            replace HS := Lib.hid (And.intro (HS.out.1.past hb) (Nat.le_trans HS.out.2 hb.size))
            clear hb o2
            clear hK K; (try simp only [Act.put, List.setIfInBounds_toArray, List.set_cons_zero, List.set_cons_succ])
            exact ord_at (by kernel_rfl) (HREST A1 c1 A2 c2 xX xY _ ⟨HS.out, HA.out, HF.out, HX.out, HY.out⟩)
      · intro Wn hWW hSW K hK
        (try dsimp only at hSW)
        replace HY := Lib.hid (And.intro (HY.out.1.past hWW) HY.out.2)
        have HS := Lib.hid hSW
        have HX := Lib.hid (And.intro (Lies.fresh Wn 26 [.int .i64 0, .slice none 0 0, .int .i64 0]) hSW.2)
        clear hSW hWW
        go_simp
        refine hK _ _ ⟨HS.out.1.past (grows_alloc _ _), Nat.le_trans HS.out.2 (grows_alloc _ (.cells #[.int .i64 0, .slice none 0 0, .int .i64 0] 26)).size⟩ ?_
        replace HY := Lib.hid (And.intro (HY.out.1.past (grows_alloc _ (.cells #[.int .i64 0, .slice none 0 0, .int .i64 0] 26))) HY.out.2)
        replace HS := Lib.hid (And.intro (HS.out.1.past (grows_alloc _ (.cells #[.int .i64 0, .slice none 0 0, .int .i64 0] 26))) (Nat.le_trans HS.out.2 (grows_alloc _ (.cells #[.int .i64 0, .slice none 0 0, .int .i64 0] 26)).size))
        clear hK K; (try simp only [Act.put, List.setIfInBounds_toArray, List.set_cons_zero, List.set_cons_succ])
        generalize Wn.heap.size = xX at *
        refine ord_one RD 1 (by rw [HOP.out]; kernel_rfl) (at_list (by rw [HOP.out]; rfl)) (by rw [HOP.out]; rfl) ?_
        · intro Wn hWW hSW K hK
          (try dsimp only at hSW)
          replace HY := Lib.hid (And.intro (HY.out.1.past hWW) HY.out.2)
          replace HX := Lib.hid (And.intro (HX.out.1.past hWW) HX.out.2)
          have HS := Lib.hid hSW
          clear hSW hWW
          go_simp
          refine (rgW.Twin_any r A n c _ HS.out.1.i1.h HS.out.1.i1.e HNN.out.1).mono ?_
          rintro e0 Wc ⟨A1, c1, rfl, o1, hb⟩
          refine hK _ _ ⟨HS.out.1.past hb, Nat.le_trans HS.out.2 hb.size⟩ ?_
          replace HY := Lib.hid (And.intro (HY.out.1.past hb) HY.out.2)
          replace HX := Lib.hid (And.intro (HX.out.1.past hb) HX.out.2)
          have HA := Lib.hid (o1.mono HS.out.1.hb.size)
          replace HS := Lib.hid (And.intro (HS.out.1.past hb) (Nat.le_trans HS.out.2 hb.size))
          clear hb o1
          clear hK K; (try simp only [Act.put, List.setIfInBounds_toArray, List.set_cons_zero, List.set_cons_succ])
          refine ord_one RD 3 (by rw [HOP.out]; kernel_rfl) (at_list (by rw [HOP.out]; rfl)) (by rw [HOP.out]; rfl) ?_
          · intro Wn hWW hSW K hK
            (try dsimp only at hSW)
            replace HY := Lib.hid (And.intro (HY.out.1.past hWW) HY.out.2)
            replace HX := Lib.hid (And.intro (HX.out.1.past hWW) HX.out.2)
            replace HA := Lib.hid (HA.out.past hWW)
            have HS := Lib.hid hSW
            clear hSW hWW
            go_simp
            refine (fdW.Twin_any f B q d _ HS.out.1.i2.h HS.out.1.i2.e HNN.out.2).mono ?_
            rintro e0 Wc ⟨A2, c2, rfl, o2, hb⟩
            refine hK _ _ ⟨HS.out.1.past hb, Nat.le_trans HS.out.2 hb.size⟩ ?_
            replace HY := Lib.hid (And.intro (HY.out.1.past hb) HY.out.2)
            replace HX := Lib.hid (And.intro (HX.out.1.past hb) HX.out.2)
            replace HA := Lib.hid (HA.out.past hb)
            have HF := Lib.hid (o2.mono HS.out.1.hb.size)
            replace HS := Lib.hid (And.intro (HS.out.1.past hb) (Nat.le_trans HS.out.2 hb.size))
            clear hb o2
            clear hK K; (try simp only [Act.put, List.setIfInBounds_toArray, List.set_cons_zero, List.set_cons_succ])
            exact ord_at (by kernel_rfl) (HREST A1 c1 A2 c2 xX xY _ ⟨HS.out, HA.out, HF.out, HX.out, HY.out⟩)
  · intro A1 c1 A2 c2 xX xY W hC
    have HC := Lib.hid hC
    have HW2 : Hid (w.heap.size + 3 < w2.heap.size) := Lib.hid T2.out.lw.lt
    clear hC
    have RD' := grows_roads (S := fun x' => (Doe w x' m r A n c f B q d p) ∧ OwnZ x' w.heap.size (.slice A1 n c1) r.b ∧ OwnV x' w.heap.size (.slice A2 q c2) f.s ∧ (∃ a b c, Lies (x') (xX) 26 [a, b, c]) ∧ (∃ a b, Lies (x') (xY) 29 [a, b]) ∧ w2.heap.size ≤ x'.heap.size) (fun a b h1 h2 => ⟨h2.1.past h1, h2.2.1.past h1, h2.2.2.1.past h1, ex3_past h2.2.2.2.1 h1, ex2_past h2.2.2.2.2.1 h1, Nat.le_trans h2.2.2.2.2.2 h1.size⟩)
    refine ord_more RD' (S' := fun x' => (Doe w x' m r A n c f B q d p) ∧ OwnZ x' w.heap.size (.slice A1 n c1) r.b ∧ OwnV x' w.heap.size (.slice A2 q c2) f.s ∧ (∃ a b c, Lies (x') (xX) 26 [a, b, c]) ∧ (∃ a b, Lies (x') (xY) 29 [a, b]) ∧ w2.heap.size ≤ x'.heap.size) ?_ ?_ ?_
    · intro W1 hW1
      exact ⟨hW1.1, hW1.2.2.2.2.2⟩
    · intro W1 hg hW1
      exact ⟨hW1.1, HC.out.2.1.past hg, HC.out.2.2.1.past hg, ⟨_, _, _, HC.out.2.2.2.1.1.past hg⟩, ⟨_, _, HC.out.2.2.2.2.1.past hg⟩, hW1.2⟩
    clear RD
    have RD := RD'
    clear RD'
    refine ord_one RD 6 (by rw [HOP.out]; kernel_rfl) (at_list (by rw [HOP.out]; rfl)) (by rw [HOP.out]; rfl) (fun Wa hWW hSW K hK => ?_); (try dsimp only at hSW)
    have HS := Lib.hid hSW
    clear hSW hWW
    obtain ⟨xa, xb, xc, K1⟩ := HS.out.2.2.2.1
    obtain ⟨k0', k1', k2', k3', k4', k5'⟩ := K1.three
    have kl := K1.lt
    have hgx : w.heap.size + 3 < xX := by have := HW2.out; have := HC.out.2.2.2.1.2; omega
    have HL3 := Lib.hid (K1.store3 (a := .int .i64 r.l) (b := .slice A1 n c1) (c := .int .i64 r.n))
    have HN := Lib.hid (And.intro (((HS.out.1.st HR.out HF0.out hgx 0 (.int .i64 r.l)).st HR.out HF0.out hgx 1 (.slice A1 n c1)).st HR.out HF0.out hgx 2 (.int .i64 r.n)) (And.intro (HS.out.2.1.store3 K1 (by decide) (a := .int .i64 r.l) (b := .slice A1 n c1) (c := .int .i64 r.n)) (HS.out.2.2.1.store3 K1 (by decide) (a := .int .i64 r.l) (b := .slice A1 n c1) (c := .int .i64 r.n))))
    have HY3 := Lib.hid (ex2_set (ex2_set (ex2_set HS.out.2.2.2.2.1 0 (.inl (by omega)) (g := xX) (.int .i64 r.l)) 1 (.inl (by omega)) (g := xX) (.slice A1 n c1)) 2 (.inr (by obtain ⟨ya, yb, KY⟩ := HS.out.2.2.2.2.1; exact lies_ne K1 KY (by decide))) (.int .i64 r.n))
    go_simp
    refine hK _ _ ⟨HN.out.1, HN.out.2.1, HN.out.2.2, ⟨_, _, _, HL3.out⟩, HY3.out, by simp; exact HS.out.2.2.2.2.2⟩ ?_
    clear k0' k1' k2' k3' k4' k5' kl HS HN HY3 K1 hgx
    clear hK K; (try simp only [Act.put, List.setIfInBounds_toArray, List.set_cons_zero, List.set_cons_succ])
    refine ord_one RD 7 (by rw [HOP.out]; kernel_rfl) (at_list (by rw [HOP.out]; rfl)) (by rw [HOP.out]; rfl) (fun Wb hWW hSW K hK => ?_); (try dsimp only at hSW)
    have HS := Lib.hid hSW
    have HL4 := Lib.hid (HL3.out.past hWW)
    clear hSW hWW HL3
    obtain ⟨xa, xb, K1⟩ := HS.out.2.2.2.2.1
    obtain ⟨k0', k1', k2', k3'⟩ := K1.two
    have kl := K1.lt
    have hgy : w.heap.size + 3 < xY := by have := HW2.out; have := HC.out.2.2.2.2.2; omega
    have hxy : xY ≠ xX := lies_ne K1 HL4.out (by decide)
    have HL5 := Lib.hid (And.intro ((HL4.out.other (p := ⟨xY, 0, none⟩) hxy (.int .i64 f.l)).other (p := ⟨xY, 1, none⟩) hxy (.slice A2 q c2)) ((K1.set 0 (.int .i64 f.l)).set 1 (.slice A2 q c2)))
    have HN := Lib.hid (And.intro ((HS.out.1.st HR.out HF0.out hgy 0 (.int .i64 f.l)).st HR.out HF0.out hgy 1 (.slice A2 q c2)) (And.intro ((HS.out.2.1.other K1 (by decide) 0 (.int .i64 f.l)).other (K1.set 0 (.int .i64 f.l)) (by decide) 1 (.slice A2 q c2)) ((HS.out.2.2.1.other K1 (by decide) 0 (.int .i64 f.l)).other (K1.set 0 (.int .i64 f.l)) (by decide) 1 (.slice A2 q c2))))
    go_simp
    refine hK _ _ ⟨HN.out.1, HN.out.2.1, HN.out.2.2, ⟨_, _, _, HL5.out.1⟩, ⟨_, _, HL5.out.2⟩, by simp; exact HS.out.2.2.2.2.2⟩ ?_
    clear k0' k1' k2' k3' kl HS HN K1 hgy hxy
    clear hK K; (try simp only [Act.put, List.setIfInBounds_toArray, List.set_cons_zero, List.set_cons_succ])
    refine ord_done (by rw [HOP.out]; kernel_rfl) (fun Wc hWW hSW => HN.out _ _ ?_); clear HOP HNS HPQ HN RD; (try dsimp only at hSW)
    have T3 := Lib.hid hSW.1
    have HO := Lib.hid (And.intro hSW.2.1 hSW.2.2.1)
    have HL6 := Lib.hid (And.intro (HL5.out.1.past hWW) (HL5.out.2.past hWW))
    clear hSW hWW HL5 HC
    have S3 := Lib.hid (stt_mk T3.out HL6.out.1 HL6.out.2 (twin_in HR.out HO.out.1 (OwnZ_caps HO.out.1)) (fd_twin HF0.out HO.out.2 (OwnV_caps HO.out.2)))
    clear T3 HO HL6
    obtain ⟨sa0, sa1, -, -⟩ := S3.out.e.lm.two; obtain ⟨sb0, sb1, sb2, -, -, -⟩ := S3.out.e.lr.three; obtain ⟨sc0, sc1, -, -⟩ := S3.out.e.lf.two; obtain ⟨sd0, -⟩ := S3.out.e.lw.one; have sl0 := S3.out.e.lm.lt; have sl1 := S3.out.e.lr.lt; have sl2 := S3.out.e.lf.lt; have sl3 := S3.out.e.lw.lt; obtain ⟨se0, se1, se2, -, -, -⟩ := S3.out.lx.three; obtain ⟨sf0, sf1, -, -⟩ := S3.out.ly.two; have sl4 := S3.out.lx.lt; have sl5 := S3.out.ly.lt
    go_wp2_with fail
    refine (Expect_any m r A1 n c1 _ S3.out.j1).mono ?_
    rintro e w4 ⟨rfl, hb4⟩
    have S4 := Lib.hid (S3.out.past hb4)
    clear hb4 S3
    clear sa0 sa1 sb0 sb1 sb2 sc0 sc1 sd0 sl0 sl1 sl2 sl3; clear se0 se1 se2 sf0 sf1 sl4 sl5
    obtain ⟨sa0, sa1, -, -⟩ := S4.out.e.lm.two; obtain ⟨sb0, sb1, sb2, -, -, -⟩ := S4.out.e.lr.three; obtain ⟨sc0, sc1, -, -⟩ := S4.out.e.lf.two; obtain ⟨sd0, -⟩ := S4.out.e.lw.one; have sl0 := S4.out.e.lm.lt; have sl1 := S4.out.e.lr.lt; have sl2 := S4.out.e.lf.lt; have sl3 := S4.out.e.lw.lt; obtain ⟨se0, se1, se2, -, -, -⟩ := S4.out.lx.three; obtain ⟨sf0, sf1, -, -⟩ := S4.out.ly.two; have sl4 := S4.out.lx.lt; have sl5 := S4.out.ly.lt
    go_wp2_with fail
    refine (rExpect_any m r A n c _ S4.out.e.i1).mono ?_
    rintro e w5 ⟨rfl, hb5⟩
    generalize exV m r = ev at *
    generalize exB m r = eb at *
    generalize exE m r = ee at *
    have S5 := Lib.hid (S4.out.past hb5)
    clear hb5 S4
    clear sa0 sa1 sb0 sb1 sb2 sc0 sc1 sd0 sl0 sl1 sl2 sl3; clear se0 se1 se2 sf0 sf1 sl4 sl5
    obtain ⟨sa0, sa1, -, -⟩ := S5.out.e.lm.two; obtain ⟨sb0, sb1, sb2, -, -, -⟩ := S5.out.e.lr.three; obtain ⟨sc0, sc1, -, -⟩ := S5.out.e.lf.two; obtain ⟨sd0, -⟩ := S5.out.e.lw.one; have sl0 := S5.out.e.lm.lt; have sl1 := S5.out.e.lr.lt; have sl2 := S5.out.e.lf.lt; have sl3 := S5.out.e.lw.lt; obtain ⟨se0, se1, se2, -, -, -⟩ := S5.out.lx.three; obtain ⟨sf0, sf1, -, -⟩ := S5.out.ly.two; have sl4 := S5.out.lx.lt; have sl5 := S5.out.ly.lt
    go_wp2_with fail
    refine (Input_any m r A1 n c1 p _ S5.out.j1).mono ?_
    rintro e w6 ⟨rfl, hb6⟩
    have S6 := Lib.hid (S5.out.past hb6)
    clear hb6 S5
    clear sa0 sa1 sb0 sb1 sb2 sc0 sc1 sd0 sl0 sl1 sl2 sl3; clear se0 se1 se2 sf0 sf1 sl4 sl5
    obtain ⟨sa0, sa1, -, -⟩ := S6.out.e.lm.two; obtain ⟨sb0, sb1, sb2, -, -, -⟩ := S6.out.e.lr.three; obtain ⟨sc0, sc1, -, -⟩ := S6.out.e.lf.two; obtain ⟨sd0, -⟩ := S6.out.e.lw.one; have sl0 := S6.out.e.lm.lt; have sl1 := S6.out.e.lr.lt; have sl2 := S6.out.e.lf.lt; have sl3 := S6.out.e.lw.lt; obtain ⟨se0, se1, se2, -, -, -⟩ := S6.out.lx.three; obtain ⟨sf0, sf1, -, -⟩ := S6.out.ly.two; have sl4 := S6.out.lx.lt; have sl5 := S6.out.ly.lt
    go_wp2_with fail
    refine (rInput_any m r A n c p _ S6.out.e.i1).mono ?_
    rintro e w7 ⟨rfl, hb7⟩
    generalize inV m r p = iv at *
    generalize inE m r p = ie at *
    have S7 := Lib.hid (S6.out.past hb7)
    clear hb7 S6
    clear sa0 sa1 sb0 sb1 sb2 sc0 sc1 sd0 sl0 sl1 sl2 sl3; clear se0 se1 se2 sf0 sf1 sl4 sl5
    obtain ⟨sa0, sa1, -, -⟩ := S7.out.e.lm.two; obtain ⟨sb0, sb1, sb2, -, -, -⟩ := S7.out.e.lr.three; obtain ⟨sc0, sc1, -, -⟩ := S7.out.e.lf.two; obtain ⟨sd0, -⟩ := S7.out.e.lw.one; have sl0 := S7.out.e.lm.lt; have sl1 := S7.out.e.lr.lt; have sl2 := S7.out.e.lf.lt; have sl3 := S7.out.e.lw.lt; obtain ⟨se0, se1, se2, -, -, -⟩ := S7.out.lx.three; obtain ⟨sf0, sf1, -, -⟩ := S7.out.ly.two; have sl4 := S7.out.lx.lt; have sl5 := S7.out.ly.lt
    go_wp2_with fail
    refine (Byte_any m r A1 n c1 f A2 q c2 x _ S7.out.j1 S7.out.j2 HX0.out.1 HX0.out.2).mono ?_
    rintro e w8 ⟨A8, n8, c8, B8, q8, d8, rfl, i8, -, k8, -, hb8⟩
    have hby8 := rByteM_any m r A n c f B q d x
    generalize byM m r f x = mm at *
    generalize byR m r f x = r2 at *
    generalize byF m r f x = f2 at *
    generalize byE m r f = be at *
    have HBY := Lib.hid hby8
    clear hby8
    have L8 : Hid (Bx (((w8.alloc (.cells #[.int .i64 mm.a, .int .i64 mm.k] 23)).alloc (.cells #[.int .i64 r2.l, .slice A8 n8 c8, .int .i64 r2.n] 26)).alloc (.cells #[.int .i64 f2.l, .slice B8 q8 d8] 29)) w8.heap.size mm r2 A8 n8 c8 f2 B8 q8 d8) := Lib.hid (bx_start w8 mm r2 A8 n8 c8 f2 B8 q8 d8 i8 k8)
    have S8 := Lib.hid (((S7.out.past hb8).past (grows_alloc _ (.cells #[.int .i64 mm.a, .int .i64 mm.k] 23))).past (grows_alloc _ (.cells #[.int .i64 r2.l, .slice A8 n8 c8, .int .i64 r2.n] 26)) |>.past (grows_alloc _ (.cells #[.int .i64 f2.l, .slice B8 q8 d8] 29)))
    clear hb8 i8 k8 S7
    clear sa0 sa1 sb0 sb1 sb2 sc0 sc1 sd0 sl0 sl1 sl2 sl3; clear se0 se1 se2 sf0 sf1 sl4 sl5
    obtain ⟨sa0, sa1, -, -⟩ := S8.out.e.lm.two; obtain ⟨sb0, sb1, sb2, -, -, -⟩ := S8.out.e.lr.three; obtain ⟨sc0, sc1, -, -⟩ := S8.out.e.lf.two; obtain ⟨sd0, -⟩ := S8.out.e.lw.one; have sl0 := S8.out.e.lm.lt; have sl1 := S8.out.e.lr.lt; have sl2 := S8.out.e.lf.lt; have sl3 := S8.out.e.lw.lt; obtain ⟨se0, se1, se2, -, -, -⟩ := S8.out.lx.three; obtain ⟨sf0, sf1, -, -⟩ := S8.out.ly.two; have sl4 := S8.out.lx.lt; have sl5 := S8.out.ly.lt
    go_wp2_with fail
    generalize hw9 : ((w8.alloc (.cells #[.int .i64 mm.a, .int .i64 mm.k] 23)).alloc (.cells #[.int .i64 r2.l, .slice A8 n8 c8, .int .i64 r2.n] 26)).alloc (.cells #[.int .i64 f2.l, .slice B8 q8 d8] 29) = w9 at *
    generalize w8.heap.size = g8 at *
    clear hw9
    refine (HBY.out _ S8.out.e.i1 S8.out.e.i2 HX0.out.1 HX0.out.2).mono ?_
    rintro e w10 ⟨A9, n9, c9, B9, q9, d9, rfl, i9, -, k9, -, hb10⟩
    have L10 : Hid (Bx (((w10.alloc (.cells #[.int .i64 mm.a, .int .i64 mm.k] 23)).alloc (.cells #[.int .i64 r2.l, .slice A9 n9 c9, .int .i64 r2.n] 26)).alloc (.cells #[.int .i64 f2.l, .slice B9 q9 d9] 29)) w10.heap.size mm r2 A9 n9 c9 f2 B9 q9 d9) := Lib.hid (bx_start w10 mm r2 A9 n9 c9 f2 B9 q9 d9 i9 k9)
    have S10 := Lib.hid (((S8.out.past hb10).past (grows_alloc _ (.cells #[.int .i64 mm.a, .int .i64 mm.k] 23))).past (grows_alloc _ (.cells #[.int .i64 r2.l, .slice A9 n9 c9, .int .i64 r2.n] 26)) |>.past (grows_alloc _ (.cells #[.int .i64 f2.l, .slice B9 q9 d9] 29)))
    have L8' := Lib.hid (((L8.out.past hb10).past (grows_alloc _ (.cells #[.int .i64 mm.a, .int .i64 mm.k] 23))).past (grows_alloc _ (.cells #[.int .i64 r2.l, .slice A9 n9 c9, .int .i64 r2.n] 26)) |>.past (grows_alloc _ (.cells #[.int .i64 f2.l, .slice B9 q9 d9] 29)))
    clear hb10 i9 k9 S8 L8
    clear sa0 sa1 sb0 sb1 sb2 sc0 sc1 sd0 sl0 sl1 sl2 sl3; clear se0 se1 se2 sf0 sf1 sl4 sl5
    go_wp2_with fail
    generalize hw11 : ((w10.alloc (.cells #[.int .i64 mm.a, .int .i64 mm.k] 23)).alloc (.cells #[.int .i64 r2.l, .slice A9 n9 c9, .int .i64 r2.n] 26)).alloc (.cells #[.int .i64 f2.l, .slice B9 q9 d9] 29) = w11 at *
    generalize w10.heap.size = g9 at *
    clear hw11
    (have RD := grows_roads (S := fun x' => Doe w x' m r A n c f B q d p ∧ Grows w11 x') (fun a b h1 h2 => ⟨h2.1.past h1, h2.2.trans (h1.mono h2.2.size)⟩)); refine region_ord _ Grows RD (⟨S10.out.e.past (Below.drew (Below.refl _ _)), Below.drew (Below.refl _ _)⟩) (by kernel_rfl) ?_; intro ops Q' hops hPQ hN; (have HNS : Hid (Region.noSelect ops = true) := Lib.hid (by rw [hops]; kernel_rfl)); (have hsz : ops.size = 30 := (by rw [hops]; rfl)); have HOP := Lib.hid hops; have HPQ := Lib.hid hPQ; have HN := Lib.hid hN; rw [hsz]; clear hops hsz hPQ hN
    refine ord_take RD 0 (at_list (by rw [HOP.out]; rfl)) HNS.out HPQ.out (by rw [HOP.out]; kernel_rfl) (by rw [HOP.out]; kernel_rfl) (by rw [HOP.out]; rfl) (fun K hK => ?_); apply Exists.intro; refine ⟨fun W hSW => ?_, hK _ ?_⟩; (focus ((try dsimp only at hSW); go_simp; try with_reducible rfl)); clear hK K; (try simp only [Act.put, List.setIfInBounds_toArray, List.set_cons_zero, List.set_cons_succ])
    refine ord_take RD 1 (at_list (by rw [HOP.out]; rfl)) HNS.out HPQ.out (by rw [HOP.out]; kernel_rfl) (by rw [HOP.out]; kernel_rfl) (by rw [HOP.out]; rfl) (fun K hK => ?_); apply Exists.intro; refine ⟨fun W hSW => ?_, hK _ ?_⟩; (focus ((try dsimp only at hSW); go_simp; try with_reducible rfl)); clear hK K; (try simp only [Act.put, List.setIfInBounds_toArray, List.set_cons_zero, List.set_cons_succ])
    refine ord_take RD 2 (at_list (by rw [HOP.out]; rfl)) HNS.out HPQ.out (by rw [HOP.out]; kernel_rfl) (by rw [HOP.out]; kernel_rfl) (by rw [HOP.out]; rfl) (fun K hK => ?_); apply Exists.intro; refine ⟨fun W hSW => ?_, hK _ ?_⟩; (focus ((try dsimp only at hSW); go_simp; try with_reducible rfl)); clear hK K; (try simp only [Act.put, List.setIfInBounds_toArray, List.set_cons_zero, List.set_cons_succ])
    refine ord_take RD 3 (at_list (by rw [HOP.out]; rfl)) HNS.out HPQ.out (by rw [HOP.out]; kernel_rfl) (by rw [HOP.out]; kernel_rfl) (by rw [HOP.out]; rfl) (fun K hK => ?_); apply Exists.intro; refine ⟨fun W hSW => ?_, hK _ ?_⟩; (focus ((try dsimp only at hSW); go_simp; try with_reducible rfl)); clear hK K; (try simp only [Act.put, List.setIfInBounds_toArray, List.set_cons_zero, List.set_cons_succ])
    refine ord_take RD 4 (at_list (by rw [HOP.out]; rfl)) HNS.out HPQ.out (by rw [HOP.out]; kernel_rfl) (by rw [HOP.out]; kernel_rfl) (by rw [HOP.out]; rfl) (fun K hK => ?_); apply Exists.intro; refine ⟨fun W hSW => ?_, hK _ ?_⟩; (focus ((try dsimp only at hSW); go_simp; try with_reducible rfl)); clear hK K; (try simp only [Act.put, List.setIfInBounds_toArray, List.set_cons_zero, List.set_cons_succ])
    refine ord_take RD 5 (at_list (by rw [HOP.out]; rfl)) HNS.out HPQ.out (by rw [HOP.out]; kernel_rfl) (by rw [HOP.out]; kernel_rfl) (by rw [HOP.out]; rfl) (fun K hK => ?_); apply Exists.intro; refine ⟨fun W hSW => ?_, hK _ ?_⟩; (focus ((try dsimp only at hSW); go_simp; try with_reducible rfl)); clear hK K; (try simp only [Act.put, List.setIfInBounds_toArray, List.set_cons_zero, List.set_cons_succ])
    refine ord_take RD 6 (at_list (by rw [HOP.out]; rfl)) HNS.out HPQ.out (by rw [HOP.out]; kernel_rfl) (by rw [HOP.out]; kernel_rfl) (by rw [HOP.out]; rfl) (fun K hK => ?_); apply Exists.intro; refine ⟨fun W hSW => ?_, hK _ ?_⟩; (focus ((try dsimp only at hSW); go_simp; try with_reducible rfl)); clear hK K; (try simp only [Act.put, List.setIfInBounds_toArray, List.set_cons_zero, List.set_cons_succ])
    refine ord_take RD 7 (at_list (by rw [HOP.out]; rfl)) HNS.out HPQ.out (by rw [HOP.out]; kernel_rfl) (by rw [HOP.out]; kernel_rfl) (by rw [HOP.out]; rfl) (fun K hK => ?_); apply Exists.intro; refine ⟨fun W hSW => ?_, hK _ ?_⟩; (focus ((try dsimp only at hSW); go_simp; try with_reducible rfl)); clear hK K; (try simp only [Act.put, List.setIfInBounds_toArray, List.set_cons_zero, List.set_cons_succ])
    refine ord_take RD 8 (at_list (by rw [HOP.out]; rfl)) HNS.out HPQ.out (by rw [HOP.out]; kernel_rfl) (by rw [HOP.out]; kernel_rfl) (by rw [HOP.out]; rfl) (fun K hK => ?_); apply Exists.intro; refine ⟨fun W hSW => ?_, hK _ ?_⟩; (focus ((try dsimp only at hSW); go_simp; try with_reducible rfl)); clear hK K; (try simp only [Act.put, List.setIfInBounds_toArray, List.set_cons_zero, List.set_cons_succ])
    refine ord_take RD 9 (at_list (by rw [HOP.out]; rfl)) HNS.out HPQ.out (by rw [HOP.out]; kernel_rfl) (by rw [HOP.out]; kernel_rfl) (by rw [HOP.out]; rfl) (fun K hK => ?_); apply Exists.intro; refine ⟨fun W hSW => ?_, hK _ ?_⟩; (focus ((try dsimp only at hSW); go_simp; try with_reducible rfl)); clear hK K; (try simp only [Act.put, List.setIfInBounds_toArray, List.set_cons_zero, List.set_cons_succ])
    refine ord_take RD 10 (at_list (by rw [HOP.out]; rfl)) HNS.out HPQ.out (by rw [HOP.out]; kernel_rfl) (by rw [HOP.out]; kernel_rfl) (by rw [HOP.out]; rfl) (fun K hK => ?_); apply Exists.intro; refine ⟨fun W hSW => ?_, hK _ ?_⟩; (focus ((try dsimp only at hSW); go_simp; try with_reducible rfl)); clear hK K; (try simp only [Act.put, List.setIfInBounds_toArray, List.set_cons_zero, List.set_cons_succ])
    refine ord_take RD 11 (at_list (by rw [HOP.out]; rfl)) HNS.out HPQ.out (by rw [HOP.out]; kernel_rfl) (by rw [HOP.out]; kernel_rfl) (by rw [HOP.out]; rfl) (fun K hK => ?_); apply Exists.intro; refine ⟨fun W hSW => ?_, hK _ ?_⟩; (focus ((try dsimp only at hSW); go_simp; try with_reducible rfl)); clear hK K; (try simp only [Act.put, List.setIfInBounds_toArray, List.set_cons_zero, List.set_cons_succ])
    refine ord_take RD 12 (at_list (by rw [HOP.out]; rfl)) HNS.out HPQ.out (by rw [HOP.out]; kernel_rfl) (by rw [HOP.out]; kernel_rfl) (by rw [HOP.out]; rfl) (fun K hK => ?_); apply Exists.intro; refine ⟨fun W hSW => ?_, hK _ ?_⟩; (focus ((try dsimp only at hSW); go_simp; try with_reducible rfl)); clear hK K; (try simp only [Act.put, List.setIfInBounds_toArray, List.set_cons_zero, List.set_cons_succ])
    refine ord_take RD 13 (at_list (by rw [HOP.out]; rfl)) HNS.out HPQ.out (by rw [HOP.out]; kernel_rfl) (by rw [HOP.out]; kernel_rfl) (by rw [HOP.out]; rfl) (fun K hK => ?_); apply Exists.intro; refine ⟨fun W hSW => ?_, hK _ ?_⟩; (focus ((try dsimp only at hSW); go_simp; try with_reducible rfl)); clear hK K; (try simp only [Act.put, List.setIfInBounds_toArray, List.set_cons_zero, List.set_cons_succ])
    refine ord_take RD 14 (at_list (by rw [HOP.out]; rfl)) HNS.out HPQ.out (by rw [HOP.out]; kernel_rfl) (by rw [HOP.out]; kernel_rfl) (by rw [HOP.out]; rfl) (fun K hK => ?_); apply Exists.intro; refine ⟨fun W hSW => ?_, hK _ ?_⟩; (focus ((try dsimp only at hSW); go_simp; try with_reducible rfl)); clear hK K; (try simp only [Act.put, List.setIfInBounds_toArray, List.set_cons_zero, List.set_cons_succ])
    refine ord_take RD 15 (at_list (by rw [HOP.out]; rfl)) HNS.out HPQ.out (by rw [HOP.out]; kernel_rfl) (by rw [HOP.out]; kernel_rfl) (by rw [HOP.out]; rfl) (fun K hK => ?_); apply Exists.intro; refine ⟨fun W hSW => ?_, hK _ ?_⟩; (focus ((try dsimp only at hSW); go_simp; try with_reducible rfl)); clear hK K; (try simp only [Act.put, List.setIfInBounds_toArray, List.set_cons_zero, List.set_cons_succ])
    refine ord_take RD 16 (at_list (by rw [HOP.out]; rfl)) HNS.out HPQ.out (by rw [HOP.out]; kernel_rfl) (by rw [HOP.out]; kernel_rfl) (by rw [HOP.out]; rfl) (fun K hK => ?_); apply Exists.intro; refine ⟨fun W hSW => ?_, hK _ ?_⟩; (focus ((try dsimp only at hSW); go_simp; try with_reducible rfl)); clear hK K; (try simp only [Act.put, List.setIfInBounds_toArray, List.set_cons_zero, List.set_cons_succ])
    refine ord_take RD 17 (at_list (by rw [HOP.out]; rfl)) HNS.out HPQ.out (by rw [HOP.out]; kernel_rfl) (by rw [HOP.out]; kernel_rfl) (by rw [HOP.out]; rfl) (fun K hK => ?_); apply Exists.intro; refine ⟨fun W hSW => ?_, hK _ ?_⟩; (focus ((try dsimp only at hSW); go_simp; try with_reducible rfl)); clear hK K; (try simp only [Act.put, List.setIfInBounds_toArray, List.set_cons_zero, List.set_cons_succ])
    refine ord_take RD 18 (at_list (by rw [HOP.out]; rfl)) HNS.out HPQ.out (by rw [HOP.out]; kernel_rfl) (by rw [HOP.out]; kernel_rfl) (by rw [HOP.out]; rfl) (fun K hK => ?_); apply Exists.intro; refine ⟨fun W hSW => ?_, hK _ ?_⟩; (focus ((try dsimp only at hSW); go_simp; try with_reducible rfl)); clear hK K; (try simp only [Act.put, List.setIfInBounds_toArray, List.set_cons_zero, List.set_cons_succ])
    refine ord_take RD 19 (at_list (by rw [HOP.out]; rfl)) HNS.out HPQ.out (by rw [HOP.out]; kernel_rfl) (by rw [HOP.out]; kernel_rfl) (by rw [HOP.out]; rfl) (fun K hK => ?_); apply Exists.intro; refine ⟨fun W hSW => ?_, hK _ ?_⟩; (focus ((try dsimp only at hSW); go_simp; try with_reducible rfl)); clear hK K; (try simp only [Act.put, List.setIfInBounds_toArray, List.set_cons_zero, List.set_cons_succ])
    refine ord_take RD 20 (at_list (by rw [HOP.out]; rfl)) HNS.out HPQ.out (by rw [HOP.out]; kernel_rfl) (by rw [HOP.out]; kernel_rfl) (by rw [HOP.out]; rfl) (fun K hK => ?_); apply Exists.intro; refine ⟨fun W hSW => ?_, hK _ ?_⟩; (focus ((try dsimp only at hSW); go_simp; try with_reducible rfl)); clear hK K; (try simp only [Act.put, List.setIfInBounds_toArray, List.set_cons_zero, List.set_cons_succ])
    refine ord_take RD 21 (at_list (by rw [HOP.out]; rfl)) HNS.out HPQ.out (by rw [HOP.out]; kernel_rfl) (by rw [HOP.out]; kernel_rfl) (by rw [HOP.out]; rfl) (fun K hK => ?_); apply Exists.intro; refine ⟨fun W hSW => ?_, hK _ ?_⟩; (focus ((try dsimp only at hSW); go_simp; try with_reducible rfl)); clear hK K; (try simp only [Act.put, List.setIfInBounds_toArray, List.set_cons_zero, List.set_cons_succ])
    refine ord_take RD 22 (at_list (by rw [HOP.out]; rfl)) HNS.out HPQ.out (by rw [HOP.out]; kernel_rfl) (by rw [HOP.out]; kernel_rfl) (by rw [HOP.out]; rfl) (fun K hK => ?_); apply Exists.intro; refine ⟨fun W hSW => ?_, hK _ ?_⟩; (focus ((try dsimp only at hSW); go_simp; try with_reducible rfl)); clear hK K; (try simp only [Act.put, List.setIfInBounds_toArray, List.set_cons_zero, List.set_cons_succ])
    refine ord_take RD 23 (at_list (by rw [HOP.out]; rfl)) HNS.out HPQ.out (by rw [HOP.out]; kernel_rfl) (by rw [HOP.out]; kernel_rfl) (by rw [HOP.out]; rfl) (fun K hK => ?_); apply Exists.intro; refine ⟨fun W hSW => ?_, hK _ ?_⟩; (focus ((try dsimp only at hSW); go_simp; try with_reducible rfl)); clear hK K; (try simp only [Act.put, List.setIfInBounds_toArray, List.set_cons_zero, List.set_cons_succ])
    refine ord_take RD 24 (at_list (by rw [HOP.out]; rfl)) HNS.out HPQ.out (by rw [HOP.out]; kernel_rfl) (by rw [HOP.out]; kernel_rfl) (by rw [HOP.out]; rfl) (fun K hK => ?_); apply Exists.intro; refine ⟨fun W hSW => ?_, hK _ ?_⟩; (focus ((try dsimp only at hSW); (obtain ⟨y0, y1, -, -⟩ := hSW.1.lm.two); go_simp; try with_reducible rfl)); clear hK K; (try simp only [Act.put, List.setIfInBounds_toArray, List.set_cons_zero, List.set_cons_succ])
    refine ord_take RD 25 (at_list (by rw [HOP.out]; rfl)) HNS.out HPQ.out (by rw [HOP.out]; kernel_rfl) (by rw [HOP.out]; kernel_rfl) (by rw [HOP.out]; rfl) (fun K hK => ?_); apply Exists.intro; refine ⟨fun W hSW => ?_, hK _ ?_⟩; (focus ((try dsimp only at hSW); go_simp; exact (Check_any m W))); clear hK K; (try simp only [Act.put, List.setIfInBounds_toArray, List.set_cons_zero, List.set_cons_succ])
    refine ord_take RD 26 (at_list (by rw [HOP.out]; rfl)) HNS.out HPQ.out (by rw [HOP.out]; kernel_rfl) (by rw [HOP.out]; kernel_rfl) (by rw [HOP.out]; rfl) (fun K hK => ?_); apply Exists.intro; refine ⟨fun W hSW => ?_, hK _ ?_⟩; (focus ((try dsimp only at hSW); (obtain ⟨y0, y1, -, -⟩ := hSW.1.lm.two); go_simp; try with_reducible rfl)); clear hK K; (try simp only [Act.put, List.setIfInBounds_toArray, List.set_cons_zero, List.set_cons_succ])
    refine ord_take RD 27 (at_list (by rw [HOP.out]; rfl)) HNS.out HPQ.out (by rw [HOP.out]; kernel_rfl) (by rw [HOP.out]; kernel_rfl) (by rw [HOP.out]; rfl) (fun K hK => ?_); apply Exists.intro; refine ⟨fun W hSW => ?_, hK _ ?_⟩; (focus ((try dsimp only at hSW); go_simp; exact (rCheck_any m W))); clear hK K; (try simp only [Act.put, List.setIfInBounds_toArray, List.set_cons_zero, List.set_cons_succ])
    refine ord_take RD 28 (at_list (by rw [HOP.out]; rfl)) HNS.out HPQ.out (by rw [HOP.out]; kernel_rfl) (by rw [HOP.out]; kernel_rfl) (by rw [HOP.out]; rfl) (fun K hK => ?_); apply Exists.intro; refine ⟨fun W hSW => ?_, hK _ ?_⟩; (focus ((try dsimp only at hSW); go_simp; try with_reducible rfl)); clear hK K; (try simp only [Act.put, List.setIfInBounds_toArray, List.set_cons_zero, List.set_cons_succ])
    refine ord_take RD 29 (at_list (by rw [HOP.out]; rfl)) HNS.out HPQ.out (by rw [HOP.out]; kernel_rfl) (by rw [HOP.out]; kernel_rfl) (by rw [HOP.out]; rfl) (fun K hK => ?_); apply Exists.intro; refine ⟨fun W hSW => ?_, hK _ ?_⟩; (focus ((try dsimp only at hSW); go_simp; try with_reducible rfl)); clear hK K; (try simp only [Act.put, List.setIfInBounds_toArray, List.set_cons_zero, List.set_cons_succ])
    refine ord_done (by rw [HOP.out]; kernel_rfl) (fun Wf hWW hSW => HN.out _ _ ?_); clear HOP HNS HPQ HN RD; (try dsimp only at hSW)
    have S11 := Lib.hid (S10.out.past hSW.2)
    have L11 := Lib.hid (And.intro (L8'.out.past hSW.2) (L10.out.past hSW.2))
    clear hSW hWW S10 L8' L10
    go_wp2_with fail
    refine (New_any _).mono ?_
    rintro e w12 ⟨rfl, hb12⟩
    have S12 := Lib.hid (S11.out.past hb12)
    have L12 := Lib.hid (And.intro (L11.out.1.past hb12) (L11.out.2.past hb12))
    clear hb12 S11 L11
    obtain ⟨p0, p1, -, -⟩ := L12.out.1.bm.two; obtain ⟨p2, p3, p4, -, -, -⟩ := L12.out.1.br.three; obtain ⟨p5, p6, -, -⟩ := L12.out.1.bf.two; obtain ⟨q0, q1, -, -⟩ := L12.out.2.bm.two; obtain ⟨q2, q3, q4, -, -, -⟩ := L12.out.2.br.three; obtain ⟨q5, q6, -, -⟩ := L12.out.2.bf.two; have pl0 := L12.out.1.bm.lt; have pl1 := L12.out.1.br.lt; have pl2 := L12.out.1.bf.lt; have ql0 := L12.out.2.bm.lt; have ql1 := L12.out.2.br.lt; have ql2 := L12.out.2.bf.lt
    go_wp2_with fail
    refine (rgW.rSame_any r2 r2 A8 A9 n8 n9 c8 c9 _ L12.out.1.j1.h L12.out.1.j1.e L12.out.2.j1.h L12.out.2.j1.e (by have := L12.out.1.j1.c1; have := L12.out.1.j1.c2; omega) (by have := L12.out.2.j1.c1; have := L12.out.2.j1.c2; omega)).mono ?_
    rintro e w13 ⟨rfl, hb13⟩
    rw [sameB_self]
    have S13 := Lib.hid (S12.out.past hb13)
    have L13 := Lib.hid (And.intro (L12.out.1.past hb13) (L12.out.2.past hb13))
    clear hb13 S12 L12
    clear p0 p1 p2 p3 p4 p5 p6 q0 q1 q2 q3 q4 q5 q6 pl0 pl1 pl2 ql0 ql1 ql2
    obtain ⟨p0, p1, -, -⟩ := L13.out.1.bm.two; obtain ⟨p2, p3, p4, -, -, -⟩ := L13.out.1.br.three; obtain ⟨p5, p6, -, -⟩ := L13.out.1.bf.two; obtain ⟨q0, q1, -, -⟩ := L13.out.2.bm.two; obtain ⟨q2, q3, q4, -, -, -⟩ := L13.out.2.br.three; obtain ⟨q5, q6, -, -⟩ := L13.out.2.bf.two; have pl0 := L13.out.1.bm.lt; have pl1 := L13.out.1.br.lt; have pl2 := L13.out.1.bf.lt; have ql0 := L13.out.2.bm.lt; have ql1 := L13.out.2.br.lt; have ql2 := L13.out.2.bf.lt
    go_wp2_with fail
    refine (fdW.rSame_any f2 f2 B8 B9 q8 q9 d8 d9 _ L13.out.1.j2.h L13.out.1.j2.e L13.out.2.j2.h L13.out.2.j2.e (by have := L13.out.1.j2.c1; have := L13.out.1.j2.c2; omega) (by have := L13.out.2.j2.c1; have := L13.out.2.j2.c2; omega)).mono ?_
    rintro e w14 ⟨rfl, hb14⟩
    rw [sameF_self]
    have S14 := Lib.hid (S13.out.past hb14)
    clear hb14 S13 L13
    clear p0 p1 p2 p3 p4 p5 p6 q0 q1 q2 q3 q4 q5 q6 pl0 pl1 pl2 ql0 ql1 ql2
    obtain ⟨sa0, sa1, -, -⟩ := S14.out.e.lm.two; obtain ⟨sb0, sb1, sb2, -, -, -⟩ := S14.out.e.lr.three; obtain ⟨sc0, sc1, -, -⟩ := S14.out.e.lf.two; obtain ⟨sd0, -⟩ := S14.out.e.lw.one; have sl0 := S14.out.e.lm.lt; have sl1 := S14.out.e.lr.lt; have sl2 := S14.out.e.lf.lt; have sl3 := S14.out.e.lw.lt; obtain ⟨se0, se1, se2, -, -, -⟩ := S14.out.lx.three; obtain ⟨sf0, sf1, -, -⟩ := S14.out.ly.two; have sl4 := S14.out.lx.lt; have sl5 := S14.out.ly.lt
    go_wp2_with fail
    refine (rgW.rSame_any r r A1 A n n c1 c _ S14.out.j1.h S14.out.j1.e S14.out.e.i1.h S14.out.e.i1.e (by have := HNN.out; omega) (by have := HNN.out; omega)).mono ?_
    rintro e w15 ⟨rfl, hb15⟩
    rw [sameB_self]
    have S15 := Lib.hid (S14.out.past hb15)
    clear hb15 S14
    clear sa0 sa1 sb0 sb1 sb2 sc0 sc1 sd0 sl0 sl1 sl2 sl3; clear se0 se1 se2 sf0 sf1 sl4 sl5
    obtain ⟨sa0, sa1, -, -⟩ := S15.out.e.lm.two; obtain ⟨sb0, sb1, sb2, -, -, -⟩ := S15.out.e.lr.three; obtain ⟨sc0, sc1, -, -⟩ := S15.out.e.lf.two; obtain ⟨sd0, -⟩ := S15.out.e.lw.one; have sl0 := S15.out.e.lm.lt; have sl1 := S15.out.e.lr.lt; have sl2 := S15.out.e.lf.lt; have sl3 := S15.out.e.lw.lt; obtain ⟨se0, se1, se2, -, -, -⟩ := S15.out.lx.three; obtain ⟨sf0, sf1, -, -⟩ := S15.out.ly.two; have sl4 := S15.out.lx.lt; have sl5 := S15.out.ly.lt
    go_wp2_with fail
    refine (fdW.rSame_any f f A2 B q q c2 d _ S15.out.j2.h S15.out.j2.e S15.out.e.i2.h S15.out.e.i2.e (by have := HNN.out; omega) (by have := HNN.out; omega)).mono ?_
    rintro e w16 ⟨rfl, hb16⟩
    rw [sameF_self]
    have S16 := Lib.hid (S15.out.past hb16)
    clear hb16 S15
    clear sa0 sa1 sb0 sb1 sb2 sc0 sc1 sd0 sl0 sl1 sl2 sl3; clear se0 se1 se2 sf0 sf1 sl4 sl5
    go_wp2_with fail
    go_ret
    exact ⟨rfl, S16.out.e.hb⟩
end Go.Proofs.Ytemiecghdmagnaa.maW
