/- MatchNames, by a walk. -/
import Derived.Test.YtemiecghdmagnaaMaWF
import Derived.Test.YtemiecghdmagnaaGT
import Derived.Test.YtemiecghdmagnaaOrd7
namespace Go.Proofs.Ytemiecghdmagnaa.maW
set_option maxRecDepth 100000
open Go.RowKit Go.Proofs.Ytemiecghdmagnaa.base Go.Proofs.Ytemiecghdmagnaa.rgP Go.Proofs.Ytemiecghdmagnaa.fdP Go.Proofs.Ytemiecghdmagnaa.maP Go.Proofs.Ytemiecghdmagnaa.rgW Go.Proofs.Ytemiecghdmagnaa.rgL Go.Proofs.Ytemiecghdmagnaa.hashP Go.Proofs.Ytemiecghdmagnaa.hashW Go.Proofs.Ytemiecghdmagnaa.cxP Go.Proofs.Ytemiecghdmagnaa.fdW Go.Proofs.Ytemiecghdmagnaa.nibP Go.Proofs.Ytemiecghdmagnaa.nibW
set_option linter.unusedVariables false
set_option linter.unusedSimpArgs false
def bads : List Mt := [⟨0, 0⟩, ⟨-1, 1⟩, ⟨-2, 0⟩, ⟨1073741825, 1⟩, ⟨0, 41⟩, ⟨5, -1⟩]
def flat (l : List Mt) : List Value := l.flatMap fun c => [.int .i64 c.a, .int .i64 c.k]
theorem flat_get : ∀ (l : List Mt) (k : Nat) (h : k < l.length), (flat l)[k * 2]? = some (.int .i64 l[k].a) ∧ (flat l)[k * 2 + 1]? = some (.int .i64 l[k].k)
  | c :: l, 0, _ => ⟨rfl, rfl⟩
  | c :: l, k + 1, h => by
    have ih := flat_get l k (by simpa using h)
    have e : flat (c :: l) = [.int .i64 c.a, .int .i64 c.k] ++ flat l := rfl
    rw [e]
    have e1 : (k + 1) * 2 = 2 + k * 2 := by omega
    have e2 : (k + 1) * 2 + 1 = 2 + (k * 2 + 1) := by omega
    rw [e2, e1, List.getElem?_append_right (by simp), List.getElem?_append_right (by simp)]
    simpa using ih
theorem bads_no : ∀ k, (h : k < bads.length) → mtB bads[k] = false := by decide
def rN : Rg := newR 0
def fN : Fnd := newF 0
def rF : Rg := ⟨rN.l, rN.b, 1073741824⟩
theorem rN_ok : rgOk rN = true := newR_ok (by decide)
theorem fN_ok : fdOk fN = true := newF_ok (by decide)
theorem rF_ok : rgOk rF = true := by
  have h := (rgOk_iff rN).1 rN_ok
  refine (rgOk_iff rF).2 ⟨⟨h.1.1, h.1.2.1, by decide, by decide⟩, fun i hi => ?_⟩
  show rN.b.getD i 0 = 0
  exact h.2 i (by show (0 : Int).toNat ≤ i; omega)
theorem zR_no : rgOk zeroR = false := by decide +kernel
theorem zF_no : fdOk zeroF = false := by decide +kernel
theorem bad_all {m : Mt} (h : mtB m = false) : mtE m = 8 ∧ (exE m rN = 8 ∧ exB m rN = false ∧ exV m rN = 0) ∧ (inE m rN 1 = 8 ∧ inV m rN 1 = 0) ∧ byE m rN fN = 8 := by
  have e : exE m rN = 8 := by rw [exE, h]; rfl
  have e2 : inE m rN 1 = 8 := by rw [inE, if_neg (by omega)]
  exact ⟨mtE_no h, ⟨e, ex_no e⟩, ⟨e2, in_no e2⟩, by rw [byE, if_neg (by omega)]⟩
theorem val_all : (exE ⟨-1, 0⟩ zeroR = 8 ∧ exB ⟨-1, 0⟩ zeroR = false ∧ exV ⟨-1, 0⟩ zeroR = 0) ∧ (inE ⟨-1, 0⟩ rN 0 = 8 ∧ inV ⟨-1, 0⟩ rN 0 = 0) ∧ (inE ⟨-1, 0⟩ zeroR 1 = 8 ∧ inV ⟨-1, 0⟩ zeroR 1 = 0) ∧ byE ⟨-1, 0⟩ rN zeroF = 8 ∧ byE ⟨-1, 0⟩ zeroR fN = 8 ∧ byE ⟨-1, 0⟩ rF fN = 16 ∧ (exE ⟨3, 40⟩ rN = 0 ∧ exB ⟨3, 40⟩ rN = false ∧ exV ⟨3, 40⟩ rN = 0) ∧ (inE ⟨3, 40⟩ rN 1 = 0 ∧ inV ⟨3, 40⟩ rN 1 = 0) ∧ mtE ⟨1073741824, 1⟩ = 0 := by
  have a1 : exE ⟨-1, 0⟩ zeroR = 8 := by rw [exE, if_pos (by decide), rgE, zR_no]; rfl
  have a2 : exE ⟨-1, 0⟩ rN = 0 := exE_yes (by decide) rN_ok
  have a3 : inE ⟨-1, 0⟩ rN 0 = 8 := by rw [inE, if_pos a2]; rfl
  have a4 : inE ⟨-1, 0⟩ zeroR 1 = 8 := by rw [inE, if_neg (by omega)]
  have a5 : exE ⟨3, 40⟩ rN = 0 := exE_yes (by decide) rN_ok
  have a6 : exB ⟨3, 40⟩ rN = false := by rw [exB, if_pos a5]; rfl
  have a7 : inE ⟨3, 40⟩ rN 1 = 0 := by rw [inE, if_pos a5]; rfl
  have a8 : exE ⟨-1, 0⟩ rF = 0 := exE_yes (by decide) rF_ok
  exact ⟨⟨a1, ex_no a1⟩, ⟨a3, in_no a3⟩, ⟨a4, in_no a4⟩, by rw [byE, if_neg (by rw [fdE_no zF_no]; omega)], by rw [byE, if_neg (by omega)], by rw [byE, if_pos ⟨a8, fdE_yes fN_ok⟩, if_pos (by rfl)], ⟨a5, a6, by rw [exV, a6]; rfl⟩, ⟨a7, by rw [inV, if_pos a7, a6]; rfl⟩, mtE_yes (by decide)⟩
/-- The law's boxes. -/
structure Nam (w W : World) (gR gF gB : Nat) (A : Option Addr) (n c : Nat) (B : Option Addr) (q d : Nat) : Prop where
  lr : Lies (W) (gR) 26 [.int .i64 (rN).l, .slice (A) (n) (c), .int .i64 (rN).n]
  lf : Lies (W) (gF) 29 [.int .i64 (fN).l, .slice (B) (q) (d)]
  lb : Lies W gB 23 (flat bads)
  o : OwnZ W w.heap.size (.slice A n c) rN.b
  v : OwnV W w.heap.size (.slice B q d) fN.s
  i1 : RgIn W A n c rN
  i2 : FdIn W B q d fN
  hb : Below w.heap.size w W
theorem Nam.past {w W W' : World} {gR gF gB : Nat} {A : Option Addr} {n c : Nat} {B : Option Addr} {q d : Nat} (h : Nam w W gR gF gB A n c B q d) (hb : Below W.heap.size W W') : Nam w W' gR gF gB A n c B q d :=
  ⟨h.lr.past hb, h.lf.past hb, h.lb.past hb, h.o.past hb, h.v.past hb, h.i1.below hb, h.i2.below hb, h.hb.trans (hb.mono h.hb.size)⟩
theorem Nam.st {w W : World} {gR gF gB g : Nat} {A : Option Addr} {n c : Nat} {B : Option Addr} {q d : Nat} {t : TypeId} {cs : List Value} (h : Nam w W gR gF gB A n c B q d) (K : Lies W g t cs) (h1 : t ≠ 5) (h2 : t ≠ 3) (hg : g ≠ gR ∧ g ≠ gF ∧ g ≠ gB ∧ w.heap.size ≤ g) (i : Nat) (x : Value) : Nam w (W.setCell ⟨g, i, none⟩ x) gR gF gB A n c B q d :=
  ⟨h.lr.other hg.1 x, h.lf.other hg.2.1 x, h.lb.other hg.2.2.1 x, h.o.other K h1 i x, h.v.other K h2 i x, h.i1.own (h.o.other K h1 i x), h.i2.own (h.v.other K h2 i x), h.hb.setCell (show w.heap.size ≤ g from hg.2.2.2) x⟩
/-- .. with the three boxes of a call's values. -/
def Nx (w W : World) (gR gF gB : Nat) (A : Option Addr) (n c : Nat) (B : Option Addr) (q d : Nat) (x y z k : Nat) : Prop := Nam w W gR gF gB A n c B q d ∧ (∃ a b, Lies (W) (x) 23 [a, b]) ∧ (∃ a b c, Lies (W) (y) 26 [a, b, c]) ∧ (∃ a b, Lies (W) (z) 29 [a, b]) ∧ k ≤ W.heap.size
theorem nx_st2 {w W : World} {gR gF gB g : Nat} {A : Option Addr} {n c : Nat} {B : Option Addr} {q d x y z k : Nat} {t : TypeId} {a b : Value} (h : Nx w W gR gF gB A n c B q d x y z k) (K : Lies W g t [a, b]) (hg : ∀ g, g = x ∨ g = y ∨ g = z → g ≠ gR ∧ g ≠ gF ∧ g ≠ gB ∧ w.heap.size ≤ g) (h1 : t ≠ 5) (h2 : t ≠ 3) (he : g = x ∨ g = y ∨ g = z) (u v : Value) : Nx w ((W.setCell ⟨g, 0, none⟩ u).setCell ⟨g, 1, none⟩ v) gR gF gB A n c B q d x y z k := by
  have K' := K.set 0 u
  refine ⟨(h.1.st K h1 h2 (hg g he) 0 u).st K' h1 h2 (hg g he) 1 v, ?_, ?_, ?_, by simp; exact h.2.2.2.2⟩
  · exact ex2_set (ex2_set h.2.1 0 (.inl (by omega)) u) 1 (.inl (by omega)) v
  · exact ex3_set (ex3_set h.2.2.1 0 (.inl (by omega)) u) 1 (.inl (by omega)) v
  · exact ex2_set (ex2_set h.2.2.2.1 0 (.inl (by omega)) u) 1 (.inl (by omega)) v
theorem nx_st3 {w W : World} {gR gF gB g : Nat} {A : Option Addr} {n c : Nat} {B : Option Addr} {q d x y z k : Nat} {t : TypeId} {a b e : Value} (h : Nx w W gR gF gB A n c B q d x y z k) (K : Lies W g t [a, b, e]) (hg : ∀ g, g = x ∨ g = y ∨ g = z → g ≠ gR ∧ g ≠ gF ∧ g ≠ gB ∧ w.heap.size ≤ g) (h1 : t ≠ 5) (h2 : t ≠ 3) (he : g = x ∨ g = y ∨ g = z) (u v s : Value) (hx : g ≠ x ∧ g ≠ z) : Nx w (((W.setCell ⟨g, 0, none⟩ u).setCell ⟨g, 1, none⟩ v).setCell ⟨g, 2, none⟩ s) gR gF gB A n c B q d x y z k := by
  have K' := K.set 0 u
  have K2 := K'.set 1 v
  refine ⟨((h.1.st K h1 h2 (hg g he) 0 u).st K' h1 h2 (hg g he) 1 v).st K2 h1 h2 (hg g he) 2 s, ?_, ?_, ?_, by simp; exact h.2.2.2.2⟩
  · exact ex2_set (ex2_set (ex2_set h.2.1 0 (.inl (by omega)) u) 1 (.inl (by omega)) v) 2 (.inr hx.1) s
  · exact ex3_set (ex3_set (ex3_set h.2.2.1 0 (.inl (by omega)) u) 1 (.inl (by omega)) v) 2 (.inl (by omega)) s
  · exact ex2_set (ex2_set (ex2_set h.2.2.2.1 0 (.inl (by omega)) u) 1 (.inl (by omega)) v) 2 (.inr hx.2) s
theorem nx_past {w W W' : World} {gR gF gB : Nat} {A : Option Addr} {n c : Nat} {B : Option Addr} {q d x y z k : Nat} (h : Nx w W gR gF gB A n c B q d x y z k) (hb : Below W.heap.size W W') : Nx w W' gR gF gB A n c B q d x y z k := ⟨h.1.past hb, ex2_past h.2.1 hb, ex3_past h.2.2.1 hb, ex2_past h.2.2.2.1 hb, Nat.le_trans h.2.2.2.2 hb.size⟩
theorem caps_of {w : World} {K : Nat} {A : Option Addr} {n c : Nat} {zs : List Int} (h : OwnZ w K (.slice A n c) zs) : n ≤ c ∧ c ≤ 9223372036854775807 := by
  rcases h with h | ⟨h0, D, e⟩
  · exact (fdL.own_capI h).2
  · injection e with _ v2 v3
    subst v2 v3
    exact ⟨Nat.le_refl _, by omega⟩
set_option maxRecDepth 100000 in
set_option maxHeartbeats 8000000 in
theorem names_law (w : World) : Calls Try.prog 4 #[] w fun e w' => e = .returned (.bool true) ∧ Below w.heap.size w w' := by
  have HV := Lib.hid val_all
  have HN83' : ∀ W A n c, RgIn W A n c rN → n ≤ 8300 := fun W A n c h => by rw [← h.e]; show (newR 0).b.length ≤ 8300; rw [newR, if_pos (by decide)]; show (List.replicate _ _).length ≤ 8300; rw [List.length_replicate]; decide +kernel
  have HE0 : Hid (newE 0 = 0 ∧ fN = ⟨0, List.replicate (szOf 0) (-1)⟩) := Lib.hid ⟨by decide, by unfold fN newF; rw [if_pos (by decide)]⟩
  go_enter Try.func4, Try.ntmps4
  go_wp2_with fail
  refine (rgL.New_any 0 _).mono ?_
  rintro e w1 ⟨A, n, c, rfl, i0, o0, hb1⟩
  rw [HE0.out.1, show newR 0 = rN from rfl] at *
  have HR1 := Lib.hid (And.intro i0 o0)
  have HN83 : Hid (n ≤ 8300) := Lib.hid (HN83' _ _ _ _ i0)
  clear HN83'
  have HB1 := Lib.hid hb1
  clear i0 o0 hb1
  go_wp2_with fail
  refine (fdW.New_ok 0 _ (by decide)).mono ?_
  rintro e w2 ⟨g2, rfl, o2, hb2⟩
  have hfi := fdL.new_in (l := 0) (by decide) o2
  have HB2 : Hid (Below w.heap.size w w2) := Lib.hid ((HB1.out.alloc HB1.out.size _).trans (hb2.mono (HB1.out.alloc HB1.out.size _).size))
  have HR2 := Lib.hid (And.intro ((HR1.out.1.below (grows_alloc _ _)).below hb2) (And.intro ((HR1.out.2.alloc _).past hb2) (And.intro hfi (And.intro (o2.mono (HB1.out.alloc HB1.out.size (.cells #[.int .i64 rN.l, .slice A n c, .int .i64 rN.n] 26)).size) ((Lies.fresh w1 26 [.int .i64 rN.l, .slice A n c, .int .i64 rN.n]).past hb2)))))
  clear o2 hb2 hfi
  go_wp2_with fail
  have HN0 : Hid (Nam w ((w2.alloc (.cells #[.int .i64 0, .slice (some ⟨g2, 0, none⟩) (szOf 0) (szOf 0)] 29)).alloc (.cells #[.int .i64 0, .int .i64 0, .int .i64 (-1), .int .i64 1, .int .i64 (-2), .int .i64 0, .int .i64 1073741825, .int .i64 1, .int .i64 0, .int .i64 41, .int .i64 5, .int .i64 (-1)] 23)) w1.heap.size w2.heap.size (w2.heap.size + 1) A n c (some ⟨g2, 0, none⟩) (szOf 0) (szOf 0)) := Lib.hid (by
    have hz2 : Below w2.heap.size w2 ((w2.alloc (.cells #[.int .i64 0, .slice (some ⟨g2, 0, none⟩) (szOf 0) (szOf 0)] 29)).alloc (.cells #[.int .i64 0, .int .i64 0, .int .i64 (-1), .int .i64 1, .int .i64 (-2), .int .i64 0, .int .i64 1073741825, .int .i64 1, .int .i64 0, .int .i64 41, .int .i64 5, .int .i64 (-1)] 23)) := by (repeat' (first | (with_reducible exact Below.refl _ _) | (with_reducible assumption) | (with_reducible refine below_drewN ?_ _) | (with_reducible refine below_new ?_ _) | (with_reducible refine Below.alloc ?_ ?_ _) | (with_reducible refine Below.drew ?_) | (with_reducible refine Below.setCell ?_ ?_ _) | (with_reducible apply below_at; (case k => (with_reducible assumption)); (case hB => omega)) | (with_reducible apply below_on; (with_reducible assumption)) | (go_size; done) | (with_reducible apply size_of)))
    have hb2' := HB2.out
    refine ⟨HR2.out.2.2.2.2.past hz2, ?_, Lies.fresh_at (by simp), HR2.out.2.1.past hz2, ?_, HR2.out.1.below hz2, HR2.out.2.2.1.below hz2, hb2'.trans (hz2.mono hb2'.size)⟩
    · rw [HE0.out.2]
      exact (Lies.fresh _ _ _).alloc _
    · rw [HE0.out.2]
      exact OwnV.past (.inl HR2.out.2.2.2.1) hz2)
  have HG : Hid (w.heap.size ≤ w1.heap.size ∧ w1.heap.size < w2.heap.size) := Lib.hid ⟨HB1.out.size, HR2.out.2.2.2.2.lt⟩
  generalize hw3 : (w2.alloc (.cells #[.int .i64 0, .slice (some ⟨g2, 0, none⟩) (szOf 0) (szOf 0)] 29)).alloc (.cells #[.int .i64 0, .int .i64 0, .int .i64 (-1), .int .i64 1, .int .i64 (-2), .int .i64 0, .int .i64 1073741825, .int .i64 1, .int .i64 0, .int .i64 41, .int .i64 5, .int .i64 (-1)] 23) = w3 at *
  clear hw3 HR1 HR2 HB1 HB2
  have HGB : Hid (w.heap.size ≤ w2.heap.size) := Lib.hid (by have := HG.out; omega)
  generalize hgr : w1.heap.size = gR at *
  generalize hgf : w2.heap.size = gF at *
  clear hgr hgf
  generalize szOf 0 = q at *
  go_loopw [6] (fun i wr => ∃ k : Nat, k ≤ 6 ∧ i = .int .i64 k ∧ Nam w wr gR gF (gF + 1) A n c (some ⟨g2, 0, none⟩) q q) (fun i _ => 6 - (intOf i).toNat)
  case atStart => exact ⟨0, by omega, rfl, HN0.out⟩
  case round =>
    obtain ⟨k, hk, rfl, N⟩ := hrel
    by_cases hlt : k < 6
    · obtain ⟨e0, e1⟩ := flat_get bads k hlt
      obtain ⟨b, hb⟩ : ∃ b, bads[k]'hlt = b := ⟨_, rfl⟩
      have hbn := bads_no k hlt
      rw [hb] at e0 e1 hbn
      have HBV := Lib.hid (bad_all hbn)
      have HCE : Hid (∀ x : World, Lies x (gF + 1) 23 (flat bads) → x.cell? ⟨gF + 1, k * 2, none⟩ = some (.int .i64 b.a) ∧ x.cell? ⟨gF + 1, k * 2 + 1, none⟩ = some (.int .i64 b.k) ∧ gF + 1 < x.heap.size) := Lib.hid (fun x hx => ⟨(hx.cell (k * 2)).trans e0, (hx.cell (k * 2 + 1)).trans e1, hx.lt⟩)
      have HN := Lib.hid N
      have HLT := Lib.hid hlt
      have k1 : (k : Int) < 6 := by omega
      have k0 : 0 ≤ (k : Int) := by omega
      clear e0 e1 hb hbn N hlt hk
      go_wp2_with fail
      (have RD := grows_roads (S := fun x' => Nam w x' gR gF (gF + 1) A n c (some ⟨g2, 0, none⟩) q q) (fun a b h1 h2 => h2.past h1)); refine region_ord _ Grows RD (HN.out.past (Below.drew (Below.refl _ _))) (by kernel_rfl) ?_; intro ops Q' hops hPQ hN; (have HNS : Hid (Region.noSelect ops = true) := Lib.hid (by rw [hops]; kernel_rfl)); (have hsz : ops.size = 13 := (by rw [hops]; rfl)); have HOP := Lib.hid hops; have HPQ := Lib.hid hPQ; have HN := Lib.hid hN; rw [hsz]; clear hops hsz hPQ hN
      refine ord_take RD 0 (at_list (by rw [HOP.out]; rfl)) HNS.out HPQ.out (by rw [HOP.out]; kernel_rfl) (by rw [HOP.out]; kernel_rfl) (by rw [HOP.out]; rfl) (fun K hK => ?_); apply Exists.intro; refine ⟨fun W hSW => ?_, hK _ ?_⟩; (focus ((try dsimp only at hSW); go_simp; try with_reducible rfl)); clear hK K; (try simp only [Act.put, List.setIfInBounds_toArray, List.set_cons_zero, List.set_cons_succ])
      refine ord_take RD 1 (at_list (by rw [HOP.out]; rfl)) HNS.out HPQ.out (by rw [HOP.out]; kernel_rfl) (by rw [HOP.out]; kernel_rfl) (by rw [HOP.out]; rfl) (fun K hK => ?_); apply Exists.intro; refine ⟨fun W hSW => ?_, hK _ ?_⟩; (focus ((try dsimp only at hSW); go_simp; try with_reducible rfl)); clear hK K; (try simp only [Act.put, List.setIfInBounds_toArray, List.set_cons_zero, List.set_cons_succ])
      refine ord_take RD 2 (at_list (by rw [HOP.out]; rfl)) HNS.out HPQ.out (by rw [HOP.out]; kernel_rfl) (by rw [HOP.out]; kernel_rfl) (by rw [HOP.out]; rfl) (fun K hK => ?_); apply Exists.intro; refine ⟨fun W hSW => ?_, hK _ ?_⟩; (focus ((try dsimp only at hSW); go_simp; try with_reducible rfl)); clear hK K; (try simp only [Act.put, List.setIfInBounds_toArray, List.set_cons_zero, List.set_cons_succ])
      refine ord_take RD 3 (at_list (by rw [HOP.out]; rfl)) HNS.out HPQ.out (by rw [HOP.out]; kernel_rfl) (by rw [HOP.out]; kernel_rfl) (by rw [HOP.out]; rfl) (fun K hK => ?_); apply Exists.intro; refine ⟨fun W hSW => ?_, hK _ ?_⟩; (focus ((try dsimp only at hSW); (obtain ⟨y0, y1, y2⟩ := HCE.out W hSW.lb); go_simp; try with_reducible rfl)); clear hK K; (try simp only [Act.put, List.setIfInBounds_toArray, List.set_cons_zero, List.set_cons_succ])
      refine ord_take RD 4 (at_list (by rw [HOP.out]; rfl)) HNS.out HPQ.out (by rw [HOP.out]; kernel_rfl) (by rw [HOP.out]; kernel_rfl) (by rw [HOP.out]; rfl) (fun K hK => ?_); apply Exists.intro; refine ⟨fun W hSW => ?_, hK _ ?_⟩; (focus ((try dsimp only at hSW); (obtain ⟨z0, z1, z2, -, -, -⟩ := hSW.lr.three); go_simp; try with_reducible rfl)); clear hK K; (try simp only [Act.put, List.setIfInBounds_toArray, List.set_cons_zero, List.set_cons_succ])
      refine ord_take RD 5 (at_list (by rw [HOP.out]; rfl)) HNS.out HPQ.out (by rw [HOP.out]; kernel_rfl) (by rw [HOP.out]; kernel_rfl) (by rw [HOP.out]; rfl) (fun K hK => ?_); apply Exists.intro; refine ⟨fun W hSW => ?_, hK _ ?_⟩; (focus ((try dsimp only at hSW); go_simp; exact (Expect_any b rN A n c W hSW.i1))); clear hK K; (try simp only [Act.put, List.setIfInBounds_toArray, List.set_cons_zero, List.set_cons_succ])
      rw [HBV.out.2.1.1, HBV.out.2.1.2.1, HBV.out.2.1.2.2]
      refine ord_take RD 6 (at_list (by rw [HOP.out]; rfl)) HNS.out HPQ.out (by rw [HOP.out]; kernel_rfl) (by rw [HOP.out]; kernel_rfl) (by rw [HOP.out]; rfl) (fun K hK => ?_); apply Exists.intro; refine ⟨fun W hSW => ?_, hK _ ?_⟩; (focus ((try dsimp only at hSW); go_simp; try with_reducible rfl)); clear hK K; (try simp only [Act.put, List.setIfInBounds_toArray, List.set_cons_zero, List.set_cons_succ])
      refine ord_take RD 7 (at_list (by rw [HOP.out]; rfl)) HNS.out HPQ.out (by rw [HOP.out]; kernel_rfl) (by rw [HOP.out]; kernel_rfl) (by rw [HOP.out]; rfl) (fun K hK => ?_); apply Exists.intro; refine ⟨fun W hSW => ?_, hK _ ?_⟩; (focus ((try dsimp only at hSW); go_simp; try with_reducible rfl)); clear hK K; (try simp only [Act.put, List.setIfInBounds_toArray, List.set_cons_zero, List.set_cons_succ])
      refine ord_take RD 8 (at_list (by rw [HOP.out]; rfl)) HNS.out HPQ.out (by rw [HOP.out]; kernel_rfl) (by rw [HOP.out]; kernel_rfl) (by rw [HOP.out]; rfl) (fun K hK => ?_); apply Exists.intro; refine ⟨fun W hSW => ?_, hK _ ?_⟩; (focus ((try dsimp only at hSW); go_simp; try with_reducible rfl)); clear hK K; (try simp only [Act.put, List.setIfInBounds_toArray, List.set_cons_zero, List.set_cons_succ])
      refine ord_take RD 9 (at_list (by rw [HOP.out]; rfl)) HNS.out HPQ.out (by rw [HOP.out]; kernel_rfl) (by rw [HOP.out]; kernel_rfl) (by rw [HOP.out]; rfl) (fun K hK => ?_); apply Exists.intro; refine ⟨fun W hSW => ?_, hK _ ?_⟩; (focus ((try dsimp only at hSW); go_simp; try with_reducible rfl)); clear hK K; (try simp only [Act.put, List.setIfInBounds_toArray, List.set_cons_zero, List.set_cons_succ])
      refine ord_take RD 10 (at_list (by rw [HOP.out]; rfl)) HNS.out HPQ.out (by rw [HOP.out]; kernel_rfl) (by rw [HOP.out]; kernel_rfl) (by rw [HOP.out]; rfl) (fun K hK => ?_); apply Exists.intro; refine ⟨fun W hSW => ?_, hK _ ?_⟩; (focus ((try dsimp only at hSW); go_simp; try with_reducible rfl)); clear hK K; (try simp only [Act.put, List.setIfInBounds_toArray, List.set_cons_zero, List.set_cons_succ])
      refine ord_take RD 11 (at_list (by rw [HOP.out]; rfl)) HNS.out HPQ.out (by rw [HOP.out]; kernel_rfl) (by rw [HOP.out]; kernel_rfl) (by rw [HOP.out]; rfl) (fun K hK => ?_); apply Exists.intro; refine ⟨fun W hSW => ?_, hK _ ?_⟩; (focus ((try dsimp only at hSW); go_simp; try with_reducible rfl)); clear hK K; (try simp only [Act.put, List.setIfInBounds_toArray, List.set_cons_zero, List.set_cons_succ])
      refine ord_take RD 12 (at_list (by rw [HOP.out]; rfl)) HNS.out HPQ.out (by rw [HOP.out]; kernel_rfl) (by rw [HOP.out]; kernel_rfl) (by rw [HOP.out]; rfl) (fun K hK => ?_); apply Exists.intro; refine ⟨fun W hSW => ?_, hK _ ?_⟩; (focus ((try dsimp only at hSW); go_simp; try with_reducible rfl)); clear hK K; (try simp only [Act.put, List.setIfInBounds_toArray, List.set_cons_zero, List.set_cons_succ])
      refine ord_done (by rw [HOP.out]; kernel_rfl) (fun Wa hWW hSW => HN.out _ _ ?_); clear HOP HNS HPQ HN RD; (try dsimp only at hSW)
      have HN1 := Lib.hid hSW
      clear hSW hWW HN
      go_wp2_with fail
      (have RD := grows_roads (S := fun x' => Nam w x' gR gF (gF + 1) A n c (some ⟨g2, 0, none⟩) q q) (fun a b h1 h2 => h2.past h1)); refine region_ord _ Grows RD (HN1.out.past (Below.drew (Below.refl _ _))) (by kernel_rfl) ?_; intro ops Q' hops hPQ hN; (have HNS : Hid (Region.noSelect ops = true) := Lib.hid (by rw [hops]; kernel_rfl)); (have hsz : ops.size = 12 := (by rw [hops]; rfl)); have HOP := Lib.hid hops; have HPQ := Lib.hid hPQ; have HN := Lib.hid hN; rw [hsz]; clear hops hsz hPQ hN
      refine ord_take RD 0 (at_list (by rw [HOP.out]; rfl)) HNS.out HPQ.out (by rw [HOP.out]; kernel_rfl) (by rw [HOP.out]; kernel_rfl) (by rw [HOP.out]; rfl) (fun K hK => ?_); apply Exists.intro; refine ⟨fun W hSW => ?_, hK _ ?_⟩; (focus ((try dsimp only at hSW); go_simp; try with_reducible rfl)); clear hK K; (try simp only [Act.put, List.setIfInBounds_toArray, List.set_cons_zero, List.set_cons_succ])
      refine ord_take RD 1 (at_list (by rw [HOP.out]; rfl)) HNS.out HPQ.out (by rw [HOP.out]; kernel_rfl) (by rw [HOP.out]; kernel_rfl) (by rw [HOP.out]; rfl) (fun K hK => ?_); apply Exists.intro; refine ⟨fun W hSW => ?_, hK _ ?_⟩; (focus ((try dsimp only at hSW); go_simp; try with_reducible rfl)); clear hK K; (try simp only [Act.put, List.setIfInBounds_toArray, List.set_cons_zero, List.set_cons_succ])
      refine ord_take RD 2 (at_list (by rw [HOP.out]; rfl)) HNS.out HPQ.out (by rw [HOP.out]; kernel_rfl) (by rw [HOP.out]; kernel_rfl) (by rw [HOP.out]; rfl) (fun K hK => ?_); apply Exists.intro; refine ⟨fun W hSW => ?_, hK _ ?_⟩; (focus ((try dsimp only at hSW); go_simp; try with_reducible rfl)); clear hK K; (try simp only [Act.put, List.setIfInBounds_toArray, List.set_cons_zero, List.set_cons_succ])
      refine ord_take RD 3 (at_list (by rw [HOP.out]; rfl)) HNS.out HPQ.out (by rw [HOP.out]; kernel_rfl) (by rw [HOP.out]; kernel_rfl) (by rw [HOP.out]; rfl) (fun K hK => ?_); apply Exists.intro; refine ⟨fun W hSW => ?_, hK _ ?_⟩; (focus ((try dsimp only at hSW); (obtain ⟨y0, y1, y2⟩ := HCE.out W hSW.lb); go_simp; try with_reducible rfl)); clear hK K; (try simp only [Act.put, List.setIfInBounds_toArray, List.set_cons_zero, List.set_cons_succ])
      refine ord_take RD 4 (at_list (by rw [HOP.out]; rfl)) HNS.out HPQ.out (by rw [HOP.out]; kernel_rfl) (by rw [HOP.out]; kernel_rfl) (by rw [HOP.out]; rfl) (fun K hK => ?_); apply Exists.intro; refine ⟨fun W hSW => ?_, hK _ ?_⟩; (focus ((try dsimp only at hSW); (obtain ⟨z0, z1, z2, -, -, -⟩ := hSW.lr.three); go_simp; try with_reducible rfl)); clear hK K; (try simp only [Act.put, List.setIfInBounds_toArray, List.set_cons_zero, List.set_cons_succ])
      refine ord_take RD 5 (at_list (by rw [HOP.out]; rfl)) HNS.out HPQ.out (by rw [HOP.out]; kernel_rfl) (by rw [HOP.out]; kernel_rfl) (by rw [HOP.out]; rfl) (fun K hK => ?_); apply Exists.intro; refine ⟨fun W hSW => ?_, hK _ ?_⟩; (focus ((try dsimp only at hSW); go_simp; exact (nibW.New_any W))); clear hK K; (try simp only [Act.put, List.setIfInBounds_toArray, List.set_cons_zero, List.set_cons_succ])
      refine ord_take RD 6 (at_list (by rw [HOP.out]; rfl)) HNS.out HPQ.out (by rw [HOP.out]; kernel_rfl) (by rw [HOP.out]; kernel_rfl) (by rw [HOP.out]; rfl) (fun K hK => ?_); apply Exists.intro; refine ⟨fun W hSW => ?_, hK _ ?_⟩; (focus ((try dsimp only at hSW); go_simp; exact (Input_any b rN A n c 1 W hSW.i1))); clear hK K; (try simp only [Act.put, List.setIfInBounds_toArray, List.set_cons_zero, List.set_cons_succ])
      rw [HBV.out.2.2.1.1, HBV.out.2.2.1.2]
      refine ord_take RD 7 (at_list (by rw [HOP.out]; rfl)) HNS.out HPQ.out (by rw [HOP.out]; kernel_rfl) (by rw [HOP.out]; kernel_rfl) (by rw [HOP.out]; rfl) (fun K hK => ?_); apply Exists.intro; refine ⟨fun W hSW => ?_, hK _ ?_⟩; (focus ((try dsimp only at hSW); go_simp; try with_reducible rfl)); clear hK K; (try simp only [Act.put, List.setIfInBounds_toArray, List.set_cons_zero, List.set_cons_succ])
      refine ord_take RD 8 (at_list (by rw [HOP.out]; rfl)) HNS.out HPQ.out (by rw [HOP.out]; kernel_rfl) (by rw [HOP.out]; kernel_rfl) (by rw [HOP.out]; rfl) (fun K hK => ?_); apply Exists.intro; refine ⟨fun W hSW => ?_, hK _ ?_⟩; (focus ((try dsimp only at hSW); go_simp; try with_reducible rfl)); clear hK K; (try simp only [Act.put, List.setIfInBounds_toArray, List.set_cons_zero, List.set_cons_succ])
      refine ord_take RD 9 (at_list (by rw [HOP.out]; rfl)) HNS.out HPQ.out (by rw [HOP.out]; kernel_rfl) (by rw [HOP.out]; kernel_rfl) (by rw [HOP.out]; rfl) (fun K hK => ?_); apply Exists.intro; refine ⟨fun W hSW => ?_, hK _ ?_⟩; (focus ((try dsimp only at hSW); go_simp; try with_reducible rfl)); clear hK K; (try simp only [Act.put, List.setIfInBounds_toArray, List.set_cons_zero, List.set_cons_succ])
      refine ord_take RD 10 (at_list (by rw [HOP.out]; rfl)) HNS.out HPQ.out (by rw [HOP.out]; kernel_rfl) (by rw [HOP.out]; kernel_rfl) (by rw [HOP.out]; rfl) (fun K hK => ?_); apply Exists.intro; refine ⟨fun W hSW => ?_, hK _ ?_⟩; (focus ((try dsimp only at hSW); go_simp; try with_reducible rfl)); clear hK K; (try simp only [Act.put, List.setIfInBounds_toArray, List.set_cons_zero, List.set_cons_succ])
      refine ord_take RD 11 (at_list (by rw [HOP.out]; rfl)) HNS.out HPQ.out (by rw [HOP.out]; kernel_rfl) (by rw [HOP.out]; kernel_rfl) (by rw [HOP.out]; rfl) (fun K hK => ?_); apply Exists.intro; refine ⟨fun W hSW => ?_, hK _ ?_⟩; (focus ((try dsimp only at hSW); go_simp; try with_reducible rfl)); clear hK K; (try simp only [Act.put, List.setIfInBounds_toArray, List.set_cons_zero, List.set_cons_succ])
      refine ord_done (by rw [HOP.out]; kernel_rfl) (fun Wb hWW hSW => HN.out _ _ ?_); clear HOP HNS HPQ HN RD; (try dsimp only at hSW)
      have HN2 := Lib.hid hSW
      clear hSW hWW HN1
      go_wp2_with fail
      (have RD := grows_roads (S := fun x' => Nam w x' gR gF (gF + 1) A n c (some ⟨g2, 0, none⟩) q q ∧ Wb.heap.size ≤ x'.heap.size) (fun a b h1 h2 => ⟨h2.1.past h1, Nat.le_trans h2.2 h1.size⟩)); refine region_ord _ Grows RD (⟨HN2.out.past (Below.drew (Below.refl _ _)), Nat.le_refl _⟩) (by kernel_rfl) ?_; intro ops Q' hops hPQ hN; (have HNS : Hid (Region.noSelect ops = true) := Lib.hid (by rw [hops]; kernel_rfl)); (have hsz : ops.size = 19 := (by rw [hops]; rfl)); have HOP := Lib.hid hops; have HPQ := Lib.hid hPQ; have HN := Lib.hid hN; rw [hsz]; clear hops hsz hPQ hN
      refine ord_take RD 0 (at_list (by rw [HOP.out]; rfl)) HNS.out HPQ.out (by rw [HOP.out]; kernel_rfl) (by rw [HOP.out]; kernel_rfl) (by rw [HOP.out]; rfl) (fun K hK => ?_); apply Exists.intro; refine ⟨fun W hSW => ?_, hK _ ?_⟩; (focus ((try dsimp only at hSW); go_simp; try with_reducible rfl)); clear hK K; (try simp only [Act.put, List.setIfInBounds_toArray, List.set_cons_zero, List.set_cons_succ])
      refine ord_take RD 1 (at_list (by rw [HOP.out]; rfl)) HNS.out HPQ.out (by rw [HOP.out]; kernel_rfl) (by rw [HOP.out]; kernel_rfl) (by rw [HOP.out]; rfl) (fun K hK => ?_); apply Exists.intro; refine ⟨fun W hSW => ?_, hK _ ?_⟩; (focus ((try dsimp only at hSW); go_simp; try with_reducible rfl)); clear hK K; (try simp only [Act.put, List.setIfInBounds_toArray, List.set_cons_zero, List.set_cons_succ])
      refine ord_take RD 2 (at_list (by rw [HOP.out]; rfl)) HNS.out HPQ.out (by rw [HOP.out]; kernel_rfl) (by rw [HOP.out]; kernel_rfl) (by rw [HOP.out]; rfl) (fun K hK => ?_); apply Exists.intro; refine ⟨fun W hSW => ?_, hK _ ?_⟩; (focus ((try dsimp only at hSW); go_simp; try with_reducible rfl)); clear hK K; (try simp only [Act.put, List.setIfInBounds_toArray, List.set_cons_zero, List.set_cons_succ])
      refine ord_take RD 3 (at_list (by rw [HOP.out]; rfl)) HNS.out HPQ.out (by rw [HOP.out]; kernel_rfl) (by rw [HOP.out]; kernel_rfl) (by rw [HOP.out]; rfl) (fun K hK => ?_); apply Exists.intro; refine ⟨fun W hSW => ?_, hK _ ?_⟩; (focus ((try dsimp only at hSW); (obtain ⟨y0, y1, y2⟩ := HCE.out W hSW.1.lb); go_simp; try with_reducible rfl)); clear hK K; (try simp only [Act.put, List.setIfInBounds_toArray, List.set_cons_zero, List.set_cons_succ])
      refine ord_take RD 4 (at_list (by rw [HOP.out]; rfl)) HNS.out HPQ.out (by rw [HOP.out]; kernel_rfl) (by rw [HOP.out]; kernel_rfl) (by rw [HOP.out]; rfl) (fun K hK => ?_); apply Exists.intro; refine ⟨fun W hSW => ?_, hK _ ?_⟩; (focus ((try dsimp only at hSW); (obtain ⟨z0, z1, z2, -, -, -⟩ := hSW.1.lr.three); go_simp; try with_reducible rfl)); clear hK K; (try simp only [Act.put, List.setIfInBounds_toArray, List.set_cons_zero, List.set_cons_succ])
      refine ord_take RD 5 (at_list (by rw [HOP.out]; rfl)) HNS.out HPQ.out (by rw [HOP.out]; kernel_rfl) (by rw [HOP.out]; kernel_rfl) (by rw [HOP.out]; rfl) (fun K hK => ?_); apply Exists.intro; refine ⟨fun W hSW => ?_, hK _ ?_⟩; (focus ((try dsimp only at hSW); (obtain ⟨z0, z1, -, -⟩ := hSW.1.lf.two); go_simp; try with_reducible rfl)); clear hK K; (try simp only [Act.put, List.setIfInBounds_toArray, List.set_cons_zero, List.set_cons_succ])
      refine ord_take RD 6 (at_list (by rw [HOP.out]; rfl)) HNS.out HPQ.out (by rw [HOP.out]; kernel_rfl) (by rw [HOP.out]; kernel_rfl) (by rw [HOP.out]; rfl) (fun K hK => ?_); apply Exists.intro; refine ⟨fun W hSW => ?_, hK _ ?_⟩; (focus ((try dsimp only at hSW); go_simp; exact (Byte_bad b rN A n c fN (some ⟨g2, 0, none⟩) q q 1 W hSW.1.i1 hSW.1.i2 (by rw [HBV.out.2.2.2]; decide)))); clear hK K; (try simp only [Act.put, List.setIfInBounds_toArray, List.set_cons_zero, List.set_cons_succ])
      rw [HBV.out.2.2.2]
      refine ord_take RD 7 (at_list (by rw [HOP.out]; rfl)) HNS.out HPQ.out (by rw [HOP.out]; kernel_rfl) (by rw [HOP.out]; kernel_rfl) (by rw [HOP.out]; rfl) (fun K hK => ?_); apply Exists.intro; refine ⟨fun W hSW => ?_, hK _ ?_⟩; (focus ((try dsimp only at hSW); go_simp; try with_reducible rfl)); clear hK K; (try simp only [Act.put, List.setIfInBounds_toArray, List.set_cons_zero, List.set_cons_succ])
      refine ord_take RD 8 (at_list (by rw [HOP.out]; rfl)) HNS.out HPQ.out (by rw [HOP.out]; kernel_rfl) (by rw [HOP.out]; kernel_rfl) (by rw [HOP.out]; rfl) (fun K hK => ?_); apply Exists.intro; refine ⟨fun W hSW => ?_, hK _ ?_⟩; (focus ((try dsimp only at hSW); go_simp; try with_reducible rfl)); clear hK K; (try simp only [Act.put, List.setIfInBounds_toArray, List.set_cons_zero, List.set_cons_succ])
      refine ord_take RD 9 (at_list (by rw [HOP.out]; rfl)) HNS.out HPQ.out (by rw [HOP.out]; kernel_rfl) (by rw [HOP.out]; kernel_rfl) (by rw [HOP.out]; rfl) (fun K hK => ?_); apply Exists.intro; refine ⟨fun W hSW => ?_, hK _ ?_⟩; (focus ((try dsimp only at hSW); go_simp; try with_reducible rfl)); clear hK K; (try simp only [Act.put, List.setIfInBounds_toArray, List.set_cons_zero, List.set_cons_succ])
      refine ord_take RD 10 (at_list (by rw [HOP.out]; rfl)) HNS.out HPQ.out (by rw [HOP.out]; kernel_rfl) (by rw [HOP.out]; kernel_rfl) (by rw [HOP.out]; rfl) (fun K hK => ?_); apply Exists.intro; refine ⟨fun W hSW => ?_, hK _ ?_⟩; (focus ((try dsimp only at hSW); go_simp; try with_reducible rfl)); clear hK K; (try simp only [Act.put, List.setIfInBounds_toArray, List.set_cons_zero, List.set_cons_succ])
      refine ord_take RD 11 (at_list (by rw [HOP.out]; rfl)) HNS.out HPQ.out (by rw [HOP.out]; kernel_rfl) (by rw [HOP.out]; kernel_rfl) (by rw [HOP.out]; rfl) (fun K hK => ?_); apply Exists.intro; refine ⟨fun W hSW => ?_, hK _ ?_⟩; (focus ((try dsimp only at hSW); go_simp; try with_reducible rfl)); clear hK K; (try simp only [Act.put, List.setIfInBounds_toArray, List.set_cons_zero, List.set_cons_succ])
      apply mid3 (C := fun xX xY xZ W => (Nam w W gR gF (gF + 1) A n c (some ⟨g2, 0, none⟩) q q ∧ Wb.heap.size ≤ W.heap.size) ∧ (Lies W xX 23 [.int .i64 0, .int .i64 0] ∧ Wb.heap.size ≤ xX) ∧ (Lies W xY 26 [.int .i64 0, .slice none 0 0, .int .i64 0] ∧ Wb.heap.size ≤ xY) ∧ (Lies W xZ 29 [.int .i64 0, .slice none 0 0] ∧ Wb.heap.size ≤ xZ))
      ·   intro HREST
          refine ord_three RD 12 13 14 (by rw [HOP.out]; kernel_rfl) (at_list (by rw [HOP.out]; rfl)) (at_list (by rw [HOP.out]; rfl)) (at_list (by rw [HOP.out]; rfl)) (by rw [HOP.out]; rfl) (by rw [HOP.out]; rfl) (by rw [HOP.out]; rfl) ?_ ?_ ?_
          · intro Wn hWW hSW K hK
            (try dsimp only at hSW)
            have HS := Lib.hid hSW
            have HX := Lib.hid (And.intro (Lies.fresh Wn 23 [.int .i64 0, .int .i64 0]) hSW.2)
            clear hSW hWW
            go_simp
            refine hK _ _ ⟨HS.out.1.past (grows_alloc _ _), Nat.le_trans HS.out.2 (grows_alloc _ (.cells #[.int .i64 0, .int .i64 0] 23)).size⟩ ?_
            replace HS := Lib.hid (And.intro (HS.out.1.past (grows_alloc _ (.cells #[.int .i64 0, .int .i64 0] 23))) (Nat.le_trans HS.out.2 (grows_alloc _ (.cells #[.int .i64 0, .int .i64 0] 23)).size))
            clear hK K; (try simp only [Act.put, List.setIfInBounds_toArray, List.set_cons_zero, List.set_cons_succ])
            generalize Wn.heap.size = xX at *
            refine ord_two RD 13 14 (by rw [HOP.out]; kernel_rfl) (at_list (by rw [HOP.out]; rfl)) (at_list (by rw [HOP.out]; rfl)) (by rw [HOP.out]; rfl) (by rw [HOP.out]; rfl) ?_ ?_
            · intro Wn hWW hSW K hK
              (try dsimp only at hSW)
              replace HX := Lib.hid (And.intro (HX.out.1.past hWW) HX.out.2)
              have HS := Lib.hid hSW
              have HY := Lib.hid (And.intro (Lies.fresh Wn 26 [.int .i64 0, .slice none 0 0, .int .i64 0]) hSW.2)
              clear hSW hWW
              go_simp
              refine hK _ _ ⟨HS.out.1.past (grows_alloc _ _), Nat.le_trans HS.out.2 (grows_alloc _ (.cells #[.int .i64 0, .slice none 0 0, .int .i64 0] 26)).size⟩ ?_
              replace HX := Lib.hid (And.intro (HX.out.1.past (grows_alloc _ (.cells #[.int .i64 0, .slice none 0 0, .int .i64 0] 26))) HX.out.2)
              replace HS := Lib.hid (And.intro (HS.out.1.past (grows_alloc _ (.cells #[.int .i64 0, .slice none 0 0, .int .i64 0] 26))) (Nat.le_trans HS.out.2 (grows_alloc _ (.cells #[.int .i64 0, .slice none 0 0, .int .i64 0] 26)).size))
              clear hK K; (try simp only [Act.put, List.setIfInBounds_toArray, List.set_cons_zero, List.set_cons_succ])
              generalize Wn.heap.size = xY at *
              refine ord_one RD 14 (by rw [HOP.out]; kernel_rfl) (at_list (by rw [HOP.out]; rfl)) (by rw [HOP.out]; rfl) ?_
              · intro Wn hWW hSW K hK
                (try dsimp only at hSW)
                replace HX := Lib.hid (And.intro (HX.out.1.past hWW) HX.out.2)
                replace HY := Lib.hid (And.intro (HY.out.1.past hWW) HY.out.2)
                have HS := Lib.hid hSW
                have HZ := Lib.hid (And.intro (Lies.fresh Wn 29 [.int .i64 0, .slice none 0 0]) hSW.2)
                clear hSW hWW
                go_simp
                refine hK _ _ ⟨HS.out.1.past (grows_alloc _ _), Nat.le_trans HS.out.2 (grows_alloc _ (.cells #[.int .i64 0, .slice none 0 0] 29)).size⟩ ?_
                replace HX := Lib.hid (And.intro (HX.out.1.past (grows_alloc _ (.cells #[.int .i64 0, .slice none 0 0] 29))) HX.out.2)
                replace HY := Lib.hid (And.intro (HY.out.1.past (grows_alloc _ (.cells #[.int .i64 0, .slice none 0 0] 29))) HY.out.2)
                replace HS := Lib.hid (And.intro (HS.out.1.past (grows_alloc _ (.cells #[.int .i64 0, .slice none 0 0] 29))) (Nat.le_trans HS.out.2 (grows_alloc _ (.cells #[.int .i64 0, .slice none 0 0] 29)).size))
                clear hK K; (try simp only [Act.put, List.setIfInBounds_toArray, List.set_cons_zero, List.set_cons_succ])
                generalize Wn.heap.size = xZ at *
                exact (HREST xX xY xZ _ ⟨HS.out, HX.out, HY.out, HZ.out⟩)
            · intro Wn hWW hSW K hK
              (try dsimp only at hSW)
              replace HX := Lib.hid (And.intro (HX.out.1.past hWW) HX.out.2)
              have HS := Lib.hid hSW
              have HZ := Lib.hid (And.intro (Lies.fresh Wn 29 [.int .i64 0, .slice none 0 0]) hSW.2)
              clear hSW hWW
              go_simp
              refine hK _ _ ⟨HS.out.1.past (grows_alloc _ _), Nat.le_trans HS.out.2 (grows_alloc _ (.cells #[.int .i64 0, .slice none 0 0] 29)).size⟩ ?_
              replace HX := Lib.hid (And.intro (HX.out.1.past (grows_alloc _ (.cells #[.int .i64 0, .slice none 0 0] 29))) HX.out.2)
              replace HS := Lib.hid (And.intro (HS.out.1.past (grows_alloc _ (.cells #[.int .i64 0, .slice none 0 0] 29))) (Nat.le_trans HS.out.2 (grows_alloc _ (.cells #[.int .i64 0, .slice none 0 0] 29)).size))
              clear hK K; (try simp only [Act.put, List.setIfInBounds_toArray, List.set_cons_zero, List.set_cons_succ])
              generalize Wn.heap.size = xZ at *
              refine ord_one RD 13 (by rw [HOP.out]; kernel_rfl) (at_list (by rw [HOP.out]; rfl)) (by rw [HOP.out]; rfl) ?_
              · intro Wn hWW hSW K hK
                (try dsimp only at hSW)
                replace HX := Lib.hid (And.intro (HX.out.1.past hWW) HX.out.2)
                replace HZ := Lib.hid (And.intro (HZ.out.1.past hWW) HZ.out.2)
                have HS := Lib.hid hSW
                have HY := Lib.hid (And.intro (Lies.fresh Wn 26 [.int .i64 0, .slice none 0 0, .int .i64 0]) hSW.2)
                clear hSW hWW
                go_simp
                refine hK _ _ ⟨HS.out.1.past (grows_alloc _ _), Nat.le_trans HS.out.2 (grows_alloc _ (.cells #[.int .i64 0, .slice none 0 0, .int .i64 0] 26)).size⟩ ?_
                replace HX := Lib.hid (And.intro (HX.out.1.past (grows_alloc _ (.cells #[.int .i64 0, .slice none 0 0, .int .i64 0] 26))) HX.out.2)
                replace HZ := Lib.hid (And.intro (HZ.out.1.past (grows_alloc _ (.cells #[.int .i64 0, .slice none 0 0, .int .i64 0] 26))) HZ.out.2)
                replace HS := Lib.hid (And.intro (HS.out.1.past (grows_alloc _ (.cells #[.int .i64 0, .slice none 0 0, .int .i64 0] 26))) (Nat.le_trans HS.out.2 (grows_alloc _ (.cells #[.int .i64 0, .slice none 0 0, .int .i64 0] 26)).size))
                clear hK K; (try simp only [Act.put, List.setIfInBounds_toArray, List.set_cons_zero, List.set_cons_succ])
                generalize Wn.heap.size = xY at *
                exact ord_at (by kernel_rfl) (HREST xX xY xZ _ ⟨HS.out, HX.out, HY.out, HZ.out⟩)
          · intro Wn hWW hSW K hK
            (try dsimp only at hSW)
            have HS := Lib.hid hSW
            have HY := Lib.hid (And.intro (Lies.fresh Wn 26 [.int .i64 0, .slice none 0 0, .int .i64 0]) hSW.2)
            clear hSW hWW
            go_simp
            refine hK _ _ ⟨HS.out.1.past (grows_alloc _ _), Nat.le_trans HS.out.2 (grows_alloc _ (.cells #[.int .i64 0, .slice none 0 0, .int .i64 0] 26)).size⟩ ?_
            replace HS := Lib.hid (And.intro (HS.out.1.past (grows_alloc _ (.cells #[.int .i64 0, .slice none 0 0, .int .i64 0] 26))) (Nat.le_trans HS.out.2 (grows_alloc _ (.cells #[.int .i64 0, .slice none 0 0, .int .i64 0] 26)).size))
            clear hK K; (try simp only [Act.put, List.setIfInBounds_toArray, List.set_cons_zero, List.set_cons_succ])
            generalize Wn.heap.size = xY at *
            refine ord_two RD 12 14 (by rw [HOP.out]; kernel_rfl) (at_list (by rw [HOP.out]; rfl)) (at_list (by rw [HOP.out]; rfl)) (by rw [HOP.out]; rfl) (by rw [HOP.out]; rfl) ?_ ?_
            · intro Wn hWW hSW K hK
              (try dsimp only at hSW)
              replace HY := Lib.hid (And.intro (HY.out.1.past hWW) HY.out.2)
              have HS := Lib.hid hSW
              have HX := Lib.hid (And.intro (Lies.fresh Wn 23 [.int .i64 0, .int .i64 0]) hSW.2)
              clear hSW hWW
              go_simp
              refine hK _ _ ⟨HS.out.1.past (grows_alloc _ _), Nat.le_trans HS.out.2 (grows_alloc _ (.cells #[.int .i64 0, .int .i64 0] 23)).size⟩ ?_
              replace HY := Lib.hid (And.intro (HY.out.1.past (grows_alloc _ (.cells #[.int .i64 0, .int .i64 0] 23))) HY.out.2)
              replace HS := Lib.hid (And.intro (HS.out.1.past (grows_alloc _ (.cells #[.int .i64 0, .int .i64 0] 23))) (Nat.le_trans HS.out.2 (grows_alloc _ (.cells #[.int .i64 0, .int .i64 0] 23)).size))
              clear hK K; (try simp only [Act.put, List.setIfInBounds_toArray, List.set_cons_zero, List.set_cons_succ])
              generalize Wn.heap.size = xX at *
              refine ord_one RD 14 (by rw [HOP.out]; kernel_rfl) (at_list (by rw [HOP.out]; rfl)) (by rw [HOP.out]; rfl) ?_
              · intro Wn hWW hSW K hK
                (try dsimp only at hSW)
                replace HY := Lib.hid (And.intro (HY.out.1.past hWW) HY.out.2)
                replace HX := Lib.hid (And.intro (HX.out.1.past hWW) HX.out.2)
                have HS := Lib.hid hSW
                have HZ := Lib.hid (And.intro (Lies.fresh Wn 29 [.int .i64 0, .slice none 0 0]) hSW.2)
                clear hSW hWW
                go_simp
                refine hK _ _ ⟨HS.out.1.past (grows_alloc _ _), Nat.le_trans HS.out.2 (grows_alloc _ (.cells #[.int .i64 0, .slice none 0 0] 29)).size⟩ ?_
                replace HY := Lib.hid (And.intro (HY.out.1.past (grows_alloc _ (.cells #[.int .i64 0, .slice none 0 0] 29))) HY.out.2)
                replace HX := Lib.hid (And.intro (HX.out.1.past (grows_alloc _ (.cells #[.int .i64 0, .slice none 0 0] 29))) HX.out.2)
                replace HS := Lib.hid (And.intro (HS.out.1.past (grows_alloc _ (.cells #[.int .i64 0, .slice none 0 0] 29))) (Nat.le_trans HS.out.2 (grows_alloc _ (.cells #[.int .i64 0, .slice none 0 0] 29)).size))
                clear hK K; (try simp only [Act.put, List.setIfInBounds_toArray, List.set_cons_zero, List.set_cons_succ])
                generalize Wn.heap.size = xZ at *
                exact ord_at (by kernel_rfl) (HREST xX xY xZ _ ⟨HS.out, HX.out, HY.out, HZ.out⟩)
            · intro Wn hWW hSW K hK
              (try dsimp only at hSW)
              replace HY := Lib.hid (And.intro (HY.out.1.past hWW) HY.out.2)
              have HS := Lib.hid hSW
              have HZ := Lib.hid (And.intro (Lies.fresh Wn 29 [.int .i64 0, .slice none 0 0]) hSW.2)
              clear hSW hWW
              go_simp
              refine hK _ _ ⟨HS.out.1.past (grows_alloc _ _), Nat.le_trans HS.out.2 (grows_alloc _ (.cells #[.int .i64 0, .slice none 0 0] 29)).size⟩ ?_
              replace HY := Lib.hid (And.intro (HY.out.1.past (grows_alloc _ (.cells #[.int .i64 0, .slice none 0 0] 29))) HY.out.2)
              replace HS := Lib.hid (And.intro (HS.out.1.past (grows_alloc _ (.cells #[.int .i64 0, .slice none 0 0] 29))) (Nat.le_trans HS.out.2 (grows_alloc _ (.cells #[.int .i64 0, .slice none 0 0] 29)).size))
              clear hK K; (try simp only [Act.put, List.setIfInBounds_toArray, List.set_cons_zero, List.set_cons_succ])
              generalize Wn.heap.size = xZ at *
              refine ord_one RD 12 (by rw [HOP.out]; kernel_rfl) (at_list (by rw [HOP.out]; rfl)) (by rw [HOP.out]; rfl) ?_
              · intro Wn hWW hSW K hK
                (try dsimp only at hSW)
                replace HY := Lib.hid (And.intro (HY.out.1.past hWW) HY.out.2)
                replace HZ := Lib.hid (And.intro (HZ.out.1.past hWW) HZ.out.2)
                have HS := Lib.hid hSW
                have HX := Lib.hid (And.intro (Lies.fresh Wn 23 [.int .i64 0, .int .i64 0]) hSW.2)
                clear hSW hWW
                go_simp
                refine hK _ _ ⟨HS.out.1.past (grows_alloc _ _), Nat.le_trans HS.out.2 (grows_alloc _ (.cells #[.int .i64 0, .int .i64 0] 23)).size⟩ ?_
                replace HY := Lib.hid (And.intro (HY.out.1.past (grows_alloc _ (.cells #[.int .i64 0, .int .i64 0] 23))) HY.out.2)
                replace HZ := Lib.hid (And.intro (HZ.out.1.past (grows_alloc _ (.cells #[.int .i64 0, .int .i64 0] 23))) HZ.out.2)
                replace HS := Lib.hid (And.intro (HS.out.1.past (grows_alloc _ (.cells #[.int .i64 0, .int .i64 0] 23))) (Nat.le_trans HS.out.2 (grows_alloc _ (.cells #[.int .i64 0, .int .i64 0] 23)).size))
                clear hK K; (try simp only [Act.put, List.setIfInBounds_toArray, List.set_cons_zero, List.set_cons_succ])
                generalize Wn.heap.size = xX at *
                exact ord_at (by kernel_rfl) (HREST xX xY xZ _ ⟨HS.out, HX.out, HY.out, HZ.out⟩)
          · intro Wn hWW hSW K hK
            (try dsimp only at hSW)
            have HS := Lib.hid hSW
            have HZ := Lib.hid (And.intro (Lies.fresh Wn 29 [.int .i64 0, .slice none 0 0]) hSW.2)
            clear hSW hWW
            go_simp
            refine hK _ _ ⟨HS.out.1.past (grows_alloc _ _), Nat.le_trans HS.out.2 (grows_alloc _ (.cells #[.int .i64 0, .slice none 0 0] 29)).size⟩ ?_
            replace HS := Lib.hid (And.intro (HS.out.1.past (grows_alloc _ (.cells #[.int .i64 0, .slice none 0 0] 29))) (Nat.le_trans HS.out.2 (grows_alloc _ (.cells #[.int .i64 0, .slice none 0 0] 29)).size))
            clear hK K; (try simp only [Act.put, List.setIfInBounds_toArray, List.set_cons_zero, List.set_cons_succ])
            generalize Wn.heap.size = xZ at *
            refine ord_two RD 12 13 (by rw [HOP.out]; kernel_rfl) (at_list (by rw [HOP.out]; rfl)) (at_list (by rw [HOP.out]; rfl)) (by rw [HOP.out]; rfl) (by rw [HOP.out]; rfl) ?_ ?_
            · intro Wn hWW hSW K hK
              (try dsimp only at hSW)
              replace HZ := Lib.hid (And.intro (HZ.out.1.past hWW) HZ.out.2)
              have HS := Lib.hid hSW
              have HX := Lib.hid (And.intro (Lies.fresh Wn 23 [.int .i64 0, .int .i64 0]) hSW.2)
              clear hSW hWW
              go_simp
              refine hK _ _ ⟨HS.out.1.past (grows_alloc _ _), Nat.le_trans HS.out.2 (grows_alloc _ (.cells #[.int .i64 0, .int .i64 0] 23)).size⟩ ?_
              replace HZ := Lib.hid (And.intro (HZ.out.1.past (grows_alloc _ (.cells #[.int .i64 0, .int .i64 0] 23))) HZ.out.2)
              replace HS := Lib.hid (And.intro (HS.out.1.past (grows_alloc _ (.cells #[.int .i64 0, .int .i64 0] 23))) (Nat.le_trans HS.out.2 (grows_alloc _ (.cells #[.int .i64 0, .int .i64 0] 23)).size))
              clear hK K; (try simp only [Act.put, List.setIfInBounds_toArray, List.set_cons_zero, List.set_cons_succ])
              generalize Wn.heap.size = xX at *
              refine ord_one RD 13 (by rw [HOP.out]; kernel_rfl) (at_list (by rw [HOP.out]; rfl)) (by rw [HOP.out]; rfl) ?_
              · intro Wn hWW hSW K hK
                (try dsimp only at hSW)
                replace HZ := Lib.hid (And.intro (HZ.out.1.past hWW) HZ.out.2)
                replace HX := Lib.hid (And.intro (HX.out.1.past hWW) HX.out.2)
                have HS := Lib.hid hSW
                have HY := Lib.hid (And.intro (Lies.fresh Wn 26 [.int .i64 0, .slice none 0 0, .int .i64 0]) hSW.2)
                clear hSW hWW
                go_simp
                refine hK _ _ ⟨HS.out.1.past (grows_alloc _ _), Nat.le_trans HS.out.2 (grows_alloc _ (.cells #[.int .i64 0, .slice none 0 0, .int .i64 0] 26)).size⟩ ?_
                replace HZ := Lib.hid (And.intro (HZ.out.1.past (grows_alloc _ (.cells #[.int .i64 0, .slice none 0 0, .int .i64 0] 26))) HZ.out.2)
                replace HX := Lib.hid (And.intro (HX.out.1.past (grows_alloc _ (.cells #[.int .i64 0, .slice none 0 0, .int .i64 0] 26))) HX.out.2)
                replace HS := Lib.hid (And.intro (HS.out.1.past (grows_alloc _ (.cells #[.int .i64 0, .slice none 0 0, .int .i64 0] 26))) (Nat.le_trans HS.out.2 (grows_alloc _ (.cells #[.int .i64 0, .slice none 0 0, .int .i64 0] 26)).size))
                clear hK K; (try simp only [Act.put, List.setIfInBounds_toArray, List.set_cons_zero, List.set_cons_succ])
                generalize Wn.heap.size = xY at *
                exact ord_at (by kernel_rfl) (HREST xX xY xZ _ ⟨HS.out, HX.out, HY.out, HZ.out⟩)
            · intro Wn hWW hSW K hK
              (try dsimp only at hSW)
              replace HZ := Lib.hid (And.intro (HZ.out.1.past hWW) HZ.out.2)
              have HS := Lib.hid hSW
              have HY := Lib.hid (And.intro (Lies.fresh Wn 26 [.int .i64 0, .slice none 0 0, .int .i64 0]) hSW.2)
              clear hSW hWW
              go_simp
              refine hK _ _ ⟨HS.out.1.past (grows_alloc _ _), Nat.le_trans HS.out.2 (grows_alloc _ (.cells #[.int .i64 0, .slice none 0 0, .int .i64 0] 26)).size⟩ ?_
              replace HZ := Lib.hid (And.intro (HZ.out.1.past (grows_alloc _ (.cells #[.int .i64 0, .slice none 0 0, .int .i64 0] 26))) HZ.out.2)
              replace HS := Lib.hid (And.intro (HS.out.1.past (grows_alloc _ (.cells #[.int .i64 0, .slice none 0 0, .int .i64 0] 26))) (Nat.le_trans HS.out.2 (grows_alloc _ (.cells #[.int .i64 0, .slice none 0 0, .int .i64 0] 26)).size))
              clear hK K; (try simp only [Act.put, List.setIfInBounds_toArray, List.set_cons_zero, List.set_cons_succ])
              generalize Wn.heap.size = xY at *
              refine ord_one RD 12 (by rw [HOP.out]; kernel_rfl) (at_list (by rw [HOP.out]; rfl)) (by rw [HOP.out]; rfl) ?_
              · intro Wn hWW hSW K hK
                (try dsimp only at hSW)
                replace HZ := Lib.hid (And.intro (HZ.out.1.past hWW) HZ.out.2)
                replace HY := Lib.hid (And.intro (HY.out.1.past hWW) HY.out.2)
                have HS := Lib.hid hSW
                have HX := Lib.hid (And.intro (Lies.fresh Wn 23 [.int .i64 0, .int .i64 0]) hSW.2)
                clear hSW hWW
                go_simp
                refine hK _ _ ⟨HS.out.1.past (grows_alloc _ _), Nat.le_trans HS.out.2 (grows_alloc _ (.cells #[.int .i64 0, .int .i64 0] 23)).size⟩ ?_
                replace HZ := Lib.hid (And.intro (HZ.out.1.past (grows_alloc _ (.cells #[.int .i64 0, .int .i64 0] 23))) HZ.out.2)
                replace HY := Lib.hid (And.intro (HY.out.1.past (grows_alloc _ (.cells #[.int .i64 0, .int .i64 0] 23))) HY.out.2)
                replace HS := Lib.hid (And.intro (HS.out.1.past (grows_alloc _ (.cells #[.int .i64 0, .int .i64 0] 23))) (Nat.le_trans HS.out.2 (grows_alloc _ (.cells #[.int .i64 0, .int .i64 0] 23)).size))
                clear hK K; (try simp only [Act.put, List.setIfInBounds_toArray, List.set_cons_zero, List.set_cons_succ])
                generalize Wn.heap.size = xX at *
                exact ord_at (by kernel_rfl) (HREST xX xY xZ _ ⟨HS.out, HX.out, HY.out, HZ.out⟩)
      ·   intro xX xY xZ W hC
          have HC := Lib.hid hC
          have HXG : Hid (∀ g, g = xX ∨ g = xY ∨ g = xZ → g ≠ gR ∧ g ≠ gF ∧ g ≠ gF + 1 ∧ w.heap.size ≤ g) := Lib.hid (fun g hg => by
            have h1 := hC.2.1.2
            have h2 := hC.2.2.1.2
            have h3 := hC.2.2.2.2
            have h4 := HN2.out.lr.lt
            have h5 := HN2.out.lf.lt
            have h6 := HN2.out.lb.lt
            have h7 := HN2.out.hb.size
            rcases hg with rfl | rfl | rfl <;> omega)
          have HXY : Hid (xY ≠ xX ∧ xY ≠ xZ) := Lib.hid ⟨lies_ne hC.2.2.1.1 hC.2.1.1 (by decide), lies_ne hC.2.2.1.1 hC.2.2.2.1 (by decide)⟩
          clear hC
          have RD' := grows_roads (S := fun x' => Nx w x' gR gF (gF + 1) A n c (some ⟨g2, 0, none⟩) q q xX xY xZ Wb.heap.size) (fun a b h1 h2 => nx_past h2 h1)
          refine ord_more RD' (S' := fun x' => Nx w x' gR gF (gF + 1) A n c (some ⟨g2, 0, none⟩) q q xX xY xZ Wb.heap.size) ?_ ?_ ?_
          · intro W1 hW1
            exact ⟨hW1.1, hW1.2.2.2.2⟩
          · intro W1 hg hW1
            exact ⟨hW1.1, ⟨_, _, HC.out.2.1.1.past hg⟩, ⟨_, _, _, HC.out.2.2.1.1.past hg⟩, ⟨_, _, HC.out.2.2.2.1.past hg⟩, hW1.2⟩
          clear RD
          have RD := RD'
          clear RD'
          refine ord_one RD 15 (by rw [HOP.out]; kernel_rfl) (at_list (by rw [HOP.out]; rfl)) (by rw [HOP.out]; rfl) (fun Wp hWW hSW K hK => ?_); (try dsimp only at hSW)
          have HS := Lib.hid hSW
          clear hSW hWW
          obtain ⟨xa, xb, K1⟩ := HS.out.2.1
          obtain ⟨k0', k1', k2', k3'⟩ := K1.two
          have kl := K1.lt
          have HQ := Lib.hid (nx_st2 HS.out K1 HXG.out (by decide) (by decide) (.inl rfl) (.int .i64 0) (.int .i64 0))
          clear K1
          go_simp
          refine hK _ _ HQ.out ?_
          clear k0' k1' k2' k3' kl HS HQ
          clear hK K; (try simp only [Act.put, List.setIfInBounds_toArray, List.set_cons_zero, List.set_cons_succ])
          refine ord_one RD 16 (by rw [HOP.out]; kernel_rfl) (at_list (by rw [HOP.out]; rfl)) (by rw [HOP.out]; rfl) (fun Wq hWW hSW K hK => ?_); (try dsimp only at hSW)
          have HS := Lib.hid hSW
          clear hSW hWW
          obtain ⟨xa, xb, xc, K1⟩ := HS.out.2.2.1
          obtain ⟨k0', k1', k2', k3', k4', k5'⟩ := K1.three
          have kl := K1.lt
          have HQ := Lib.hid (nx_st3 HS.out K1 HXG.out (by decide) (by decide) (.inr (.inl rfl)) (.int .i64 0) (.slice none 0 0) (.int .i64 0) HXY.out)
          clear K1
          go_simp
          refine hK _ _ HQ.out ?_
          clear k0' k1' k2' k3' k4' k5' kl HS HQ
          clear hK K; (try simp only [Act.put, List.setIfInBounds_toArray, List.set_cons_zero, List.set_cons_succ])
          refine ord_one RD 17 (by rw [HOP.out]; kernel_rfl) (at_list (by rw [HOP.out]; rfl)) (by rw [HOP.out]; rfl) (fun Wr hWW hSW K hK => ?_); (try dsimp only at hSW)
          have HS := Lib.hid hSW
          clear hSW hWW
          obtain ⟨xa, xb, K1⟩ := HS.out.2.2.2.1
          obtain ⟨k0', k1', k2', k3'⟩ := K1.two
          have kl := K1.lt
          have HQ := Lib.hid (nx_st2 HS.out K1 HXG.out (by decide) (by decide) (.inr (.inr rfl)) (.int .i64 0) (.slice none 0 0))
          clear K1
          go_simp
          refine hK _ _ HQ.out ?_
          clear k0' k1' k2' k3' kl HS HQ
          clear hK K; (try simp only [Act.put, List.setIfInBounds_toArray, List.set_cons_zero, List.set_cons_succ])
          refine ord_take RD 18 (at_list (by rw [HOP.out]; rfl)) HNS.out HPQ.out (by rw [HOP.out]; kernel_rfl) (by rw [HOP.out]; kernel_rfl) (by rw [HOP.out]; rfl) (fun K hK => ?_); apply Exists.intro; refine ⟨fun W hSW => ?_, hK _ ?_⟩; (focus ((try dsimp only at hSW); go_simp; try with_reducible rfl)); clear hK K; (try simp only [Act.put, List.setIfInBounds_toArray, List.set_cons_zero, List.set_cons_succ])
          refine ord_done (by rw [HOP.out]; kernel_rfl) (fun Wf hWW hSW => HN.out _ _ ?_); clear HOP HNS HPQ HN RD; (try dsimp only at hSW)
          have HN3 := Lib.hid hSW.1
          clear hSW hWW HN2 HXG HC HXY
          obtain ⟨y0, y1, y2⟩ := HCE.out Wf HN3.out.lb
          go_wp2_with fail
          refine (Check_any b _).mono ?_
          rintro e w9 ⟨rfl, hb9⟩
          rw [HBV.out.1]
          have HN4 := Lib.hid (HN3.out.past hb9)
          clear hb9 y0 y1 y2 HN3
          go_wp2_with fail
          refine ⟨⟨k + 1, by have := HLT.out; omega, by first | rfl | go_num, HN4.out⟩, by simp [intOf]; have := HLT.out; omega⟩
    · have e6 : k = 6 := by omega
      subst e6
      have HN := Lib.hid N
      clear N hlt hk
      go_wp2_with fail
      refine (New_any _).mono ?_
      rintro e w4 ⟨rfl, hb4⟩
      have M1 : Hid ((Nam w (w4.alloc (.cells #[.int .i64 (-1), .int .i64 0] 23)) gR gF (gF + 1) A n c (some ⟨g2, 0, none⟩) q q) ∧ Lies (w4.alloc (.cells #[.int .i64 (-1), .int .i64 0] 23)) w4.heap.size 23 [.int .i64 (-1), .int .i64 0]) := Lib.hid ⟨(HN.out.past hb4).past (grows_alloc _ _), Lies.fresh _ _ _⟩
      clear hb4 HN
      go_wp2_with fail
      generalize hw5 : w4.alloc (.cells #[.int .i64 (-1), .int .i64 0] 23) = w5 at *
      generalize w4.heap.size = gm at *
      clear hw5
      refine (Expect_any ⟨-1, 0⟩ zeroR none 0 0 _ (rgL.zero_in _)).mono ?_
      rintro e w6 ⟨rfl, hb6⟩
      rw [HV.out.1.1, HV.out.1.2.1, HV.out.1.2.2]
      have M2 := Lib.hid (And.intro (M1.out.1.past hb6) (M1.out.2.past hb6))
      clear hb6 M1
      obtain ⟨sa0, sa1, sa2, -, -, -⟩ := M2.out.1.lr.three; obtain ⟨sb0, sb1, -, -⟩ := M2.out.1.lf.two; obtain ⟨sc0, sc1, -, -⟩ := M2.out.2.two; have sl0 := M2.out.1.lr.lt; have sl1 := M2.out.1.lf.lt; have sl2 := M2.out.2.lt
      go_wp2_with fail
      refine (Input_any ⟨-1, 0⟩ rN A n c 0 _ M2.out.1.i1).mono ?_
      rintro e w7 ⟨rfl, hb7⟩
      rw [HV.out.2.1.1, HV.out.2.1.2]
      have M3 := Lib.hid (And.intro (M2.out.1.past hb7) (M2.out.2.past hb7))
      clear hb7 M2
      clear sa0 sa1 sa2 sb0 sb1 sc0 sc1 sl0 sl1 sl2
      go_wp2_with fail
      (have RD := grows_roads (S := fun x' => (Nam w x' gR gF (gF + 1) A n c (some ⟨g2, 0, none⟩) q q) ∧ Lies x' gm 23 [.int .i64 (-1), .int .i64 0]) (fun a b h1 h2 => ⟨h2.1.past h1, h2.2.past h1⟩)); refine region_ord _ Grows RD (⟨M3.out.1.past (Below.drew (Below.refl _ _)), M3.out.2.drew⟩) (by kernel_rfl) ?_; intro ops Q' hops hPQ hN; (have HNS : Hid (Region.noSelect ops = true) := Lib.hid (by rw [hops]; kernel_rfl)); (have hsz : ops.size = 9 := (by rw [hops]; rfl)); have HOP := Lib.hid hops; have HPQ := Lib.hid hPQ; have HN := Lib.hid hN; rw [hsz]; clear hops hsz hPQ hN
      refine ord_take RD 0 (at_list (by rw [HOP.out]; rfl)) HNS.out HPQ.out (by rw [HOP.out]; kernel_rfl) (by rw [HOP.out]; kernel_rfl) (by rw [HOP.out]; rfl) (fun K hK => ?_); apply Exists.intro; refine ⟨fun W hSW => ?_, hK _ ?_⟩; (focus ((try dsimp only at hSW); (obtain ⟨z0, z1, -, -⟩ := hSW.2.two); go_simp; try with_reducible rfl)); clear hK K; (try simp only [Act.put, List.setIfInBounds_toArray, List.set_cons_zero, List.set_cons_succ])
      refine ord_take RD 1 (at_list (by rw [HOP.out]; rfl)) HNS.out HPQ.out (by rw [HOP.out]; kernel_rfl) (by rw [HOP.out]; kernel_rfl) (by rw [HOP.out]; rfl) (fun K hK => ?_); apply Exists.intro; refine ⟨fun W hSW => ?_, hK _ ?_⟩; (focus ((try dsimp only at hSW); go_simp; try with_reducible rfl)); clear hK K; (try simp only [Act.put, List.setIfInBounds_toArray, List.set_cons_zero, List.set_cons_succ])
      refine ord_take RD 2 (at_list (by rw [HOP.out]; rfl)) HNS.out HPQ.out (by rw [HOP.out]; kernel_rfl) (by rw [HOP.out]; kernel_rfl) (by rw [HOP.out]; rfl) (fun K hK => ?_); apply Exists.intro; refine ⟨fun W hSW => ?_, hK _ ?_⟩; (focus ((try dsimp only at hSW); go_simp; exact (nibW.New_any W))); clear hK K; (try simp only [Act.put, List.setIfInBounds_toArray, List.set_cons_zero, List.set_cons_succ])
      refine ord_take RD 3 (at_list (by rw [HOP.out]; rfl)) HNS.out HPQ.out (by rw [HOP.out]; kernel_rfl) (by rw [HOP.out]; kernel_rfl) (by rw [HOP.out]; rfl) (fun K hK => ?_); apply Exists.intro; refine ⟨fun W hSW => ?_, hK _ ?_⟩; (focus ((try dsimp only at hSW); go_simp; exact (Input_any ⟨-1, 0⟩ zeroR none 0 0 1 W (rgL.zero_in _)))); clear hK K; (try simp only [Act.put, List.setIfInBounds_toArray, List.set_cons_zero, List.set_cons_succ])
      rw [HV.out.2.2.1.1, HV.out.2.2.1.2]
      refine ord_take RD 4 (at_list (by rw [HOP.out]; rfl)) HNS.out HPQ.out (by rw [HOP.out]; kernel_rfl) (by rw [HOP.out]; kernel_rfl) (by rw [HOP.out]; rfl) (fun K hK => ?_); apply Exists.intro; refine ⟨fun W hSW => ?_, hK _ ?_⟩; (focus ((try dsimp only at hSW); go_simp; try with_reducible rfl)); clear hK K; (try simp only [Act.put, List.setIfInBounds_toArray, List.set_cons_zero, List.set_cons_succ])
      refine ord_take RD 5 (at_list (by rw [HOP.out]; rfl)) HNS.out HPQ.out (by rw [HOP.out]; kernel_rfl) (by rw [HOP.out]; kernel_rfl) (by rw [HOP.out]; rfl) (fun K hK => ?_); apply Exists.intro; refine ⟨fun W hSW => ?_, hK _ ?_⟩; (focus ((try dsimp only at hSW); go_simp; try with_reducible rfl)); clear hK K; (try simp only [Act.put, List.setIfInBounds_toArray, List.set_cons_zero, List.set_cons_succ])
      refine ord_take RD 6 (at_list (by rw [HOP.out]; rfl)) HNS.out HPQ.out (by rw [HOP.out]; kernel_rfl) (by rw [HOP.out]; kernel_rfl) (by rw [HOP.out]; rfl) (fun K hK => ?_); apply Exists.intro; refine ⟨fun W hSW => ?_, hK _ ?_⟩; (focus ((try dsimp only at hSW); go_simp; try with_reducible rfl)); clear hK K; (try simp only [Act.put, List.setIfInBounds_toArray, List.set_cons_zero, List.set_cons_succ])
      refine ord_take RD 7 (at_list (by rw [HOP.out]; rfl)) HNS.out HPQ.out (by rw [HOP.out]; kernel_rfl) (by rw [HOP.out]; kernel_rfl) (by rw [HOP.out]; rfl) (fun K hK => ?_); apply Exists.intro; refine ⟨fun W hSW => ?_, hK _ ?_⟩; (focus ((try dsimp only at hSW); go_simp; try with_reducible rfl)); clear hK K; (try simp only [Act.put, List.setIfInBounds_toArray, List.set_cons_zero, List.set_cons_succ])
      refine ord_take RD 8 (at_list (by rw [HOP.out]; rfl)) HNS.out HPQ.out (by rw [HOP.out]; kernel_rfl) (by rw [HOP.out]; kernel_rfl) (by rw [HOP.out]; rfl) (fun K hK => ?_); apply Exists.intro; refine ⟨fun W hSW => ?_, hK _ ?_⟩; (focus ((try dsimp only at hSW); go_simp; try with_reducible rfl)); clear hK K; (try simp only [Act.put, List.setIfInBounds_toArray, List.set_cons_zero, List.set_cons_succ])
      refine ord_done (by rw [HOP.out]; kernel_rfl) (fun Wa hWW hSW => HN.out _ _ ?_); clear HOP HNS HPQ HN RD; (try dsimp only at hSW)
      have M4 := Lib.hid hSW
      clear hSW hWW M3
      obtain ⟨sa0, sa1, sa2, -, -, -⟩ := M4.out.1.lr.three; obtain ⟨sb0, sb1, -, -⟩ := M4.out.1.lf.two; obtain ⟨sc0, sc1, -, -⟩ := M4.out.2.two; have sl0 := M4.out.1.lr.lt; have sl1 := M4.out.1.lf.lt; have sl2 := M4.out.2.lt
      go_wp2_with fail
      refine (Byte_bad ⟨-1, 0⟩ rN A n c zeroF none 0 0 1 _ M4.out.1.i1 (zf_in _) (by rw [HV.out.2.2.2.1]; decide)).mono ?_
      rintro e w8 ⟨rfl, hb8⟩
      rw [HV.out.2.2.2.1]
      have M5 := Lib.hid (And.intro (M4.out.1.past hb8) (M4.out.2.past hb8))
      clear hb8 M4
      clear sa0 sa1 sa2 sb0 sb1 sc0 sc1 sl0 sl1 sl2
      go_upto_region 17 with fail
      have M6 : Hid ((Nam w (((w8.alloc (.cells #[.int .i64 zM.a, .int .i64 zM.k] 23)).alloc (.cells #[.int .i64 zeroR.l, .slice none 0 0, .int .i64 zeroR.n] 26)).alloc (.cells #[.int .i64 zeroF.l, .slice none 0 0] 29)) gR gF (gF + 1) A n c (some ⟨g2, 0, none⟩) q q) ∧ Lies (((w8.alloc (.cells #[.int .i64 zM.a, .int .i64 zM.k] 23)).alloc (.cells #[.int .i64 zeroR.l, .slice none 0 0, .int .i64 zeroR.n] 26)).alloc (.cells #[.int .i64 zeroF.l, .slice none 0 0] 29)) gm 23 [.int .i64 (-1), .int .i64 0]) := Lib.hid ⟨((M5.out.1.past (grows_alloc _ _)).past (grows_alloc _ _)).past (grows_alloc _ _), ((M5.out.2.alloc _).alloc _).alloc _⟩
      generalize hw : (((w8.alloc (.cells #[.int .i64 zM.a, .int .i64 zM.k] 23)).alloc (.cells #[.int .i64 zeroR.l, .slice none 0 0, .int .i64 zeroR.n] 26)).alloc (.cells #[.int .i64 zeroF.l, .slice none 0 0] 29)) = w9 at *
      clear hw M5
      obtain ⟨sa0, sa1, sa2, -, -, -⟩ := M6.out.1.lr.three; obtain ⟨sb0, sb1, -, -⟩ := M6.out.1.lf.two; obtain ⟨sc0, sc1, -, -⟩ := M6.out.2.two; have sl0 := M6.out.1.lr.lt; have sl1 := M6.out.1.lf.lt; have sl2 := M6.out.2.lt
      go_wp2_with fail
      refine (Byte_bad ⟨-1, 0⟩ zeroR none 0 0 fN (some ⟨g2, 0, none⟩) q q 1 _ (rgL.zero_in _) M6.out.1.i2 (by rw [HV.out.2.2.2.2.1]; decide)).mono ?_
      rintro e w10 ⟨rfl, hb10⟩
      rw [HV.out.2.2.2.2.1]
      have M7 := Lib.hid (And.intro (M6.out.1.past hb10) (M6.out.2.past hb10))
      clear hb10 M6
      clear sa0 sa1 sa2 sb0 sb1 sc0 sc1 sl0 sl1 sl2
      go_upto_region 18 with fail
      have M8 : Hid ((Nam w (((w10.alloc (.cells #[.int .i64 zM.a, .int .i64 zM.k] 23)).alloc (.cells #[.int .i64 zeroR.l, .slice none 0 0, .int .i64 zeroR.n] 26)).alloc (.cells #[.int .i64 zeroF.l, .slice none 0 0] 29)) gR gF (gF + 1) A n c (some ⟨g2, 0, none⟩) q q) ∧ Lies (((w10.alloc (.cells #[.int .i64 zM.a, .int .i64 zM.k] 23)).alloc (.cells #[.int .i64 zeroR.l, .slice none 0 0, .int .i64 zeroR.n] 26)).alloc (.cells #[.int .i64 zeroF.l, .slice none 0 0] 29)) gm 23 [.int .i64 (-1), .int .i64 0]) := Lib.hid ⟨((M7.out.1.past (grows_alloc _ _)).past (grows_alloc _ _)).past (grows_alloc _ _), ((M7.out.2.alloc _).alloc _).alloc _⟩
      generalize hw : (((w10.alloc (.cells #[.int .i64 zM.a, .int .i64 zM.k] 23)).alloc (.cells #[.int .i64 zeroR.l, .slice none 0 0, .int .i64 zeroR.n] 26)).alloc (.cells #[.int .i64 zeroF.l, .slice none 0 0] 29)) = w11 at *
      clear hw M7
      obtain ⟨sa0, sa1, sa2, -, -, -⟩ := M8.out.1.lr.three; obtain ⟨sb0, sb1, -, -⟩ := M8.out.1.lf.two; obtain ⟨sc0, sc1, -, -⟩ := M8.out.2.two; have sl0 := M8.out.1.lr.lt; have sl1 := M8.out.1.lf.lt; have sl2 := M8.out.2.lt
      go_wp2_with fail
      refine (rgW.Twin_any rN A n c _ M8.out.1.i1.h M8.out.1.i1.e HN83.out).mono ?_
      rintro e w12 ⟨A2, c2, rfl, o2, hb12⟩
      have M9 : Hid (((Nam w (w12.alloc (.cells #[.int .i64 rN.l, .slice A2 n c2, .int .i64 rN.n] 26)) gR gF (gF + 1) A n c (some ⟨g2, 0, none⟩) q q) ∧ Lies (w12.alloc (.cells #[.int .i64 rN.l, .slice A2 n c2, .int .i64 rN.n] 26)) gm 23 [.int .i64 (-1), .int .i64 0]) ∧ (Lies ((w12.alloc (.cells #[.int .i64 rN.l, .slice A2 n c2, .int .i64 rN.n] 26))) (w12.heap.size) 26 [.int .i64 (rN).l, .slice (A2) (n) (c2), .int .i64 (rN).n]) ∧ OwnZ (w12.alloc (.cells #[.int .i64 rN.l, .slice A2 n c2, .int .i64 rN.n] 26)) w.heap.size (.slice A2 n c2) rN.b) := Lib.hid ⟨⟨(M8.out.1.past hb12).past (grows_alloc _ _), (M8.out.2.past hb12).alloc _⟩, Lies.fresh _ _ _, (o2.mono M8.out.1.hb.size).alloc _⟩
      have HGU : Hid (gR < w12.heap.size ∧ gF + 1 < w12.heap.size ∧ gm < w12.heap.size ∧ w.heap.size ≤ w12.heap.size) := Lib.hid ⟨(M8.out.1.past hb12).lr.lt, (M8.out.1.past hb12).lb.lt, (M8.out.2.past hb12).lt, (M8.out.1.past hb12).hb.size⟩
      clear o2 hb12 M8
      clear sa0 sa1 sa2 sb0 sb1 sc0 sc1 sl0 sl1 sl2
      go_upto_region 19 with fail
      generalize hw : w12.alloc (.cells #[.int .i64 rN.l, .slice A2 n c2, .int .i64 rN.n] 26) = w13 at *
      generalize w12.heap.size = gU at *
      clear hw
      have v2 := M9.out.2.1.free 2
      have ul := M9.out.2.1.lt
      obtain ⟨u0, u1, u2, -, -, -⟩ := M9.out.2.1.three
      have MA : Hid (((Nam w (w13.setCell ⟨gU, 2, none⟩ (.int .i64 1073741824)) gR gF (gF + 1) A n c (some ⟨g2, 0, none⟩) q q) ∧ Lies (w13.setCell ⟨gU, 2, none⟩ (.int .i64 1073741824)) gm 23 [.int .i64 (-1), .int .i64 0]) ∧ (Lies ((w13.setCell ⟨gU, 2, none⟩ (.int .i64 1073741824))) (gU) 26 [.int .i64 (rF).l, .slice (A2) (n) (c2), .int .i64 (rF).n]) ∧ OwnZ (w13.setCell ⟨gU, 2, none⟩ (.int .i64 1073741824)) w.heap.size (.slice A2 n c2) rF.b) := Lib.hid (by
        have g := HGU.out
        exact ⟨⟨M9.out.1.1.st M9.out.2.1 (by decide) (by decide) ⟨by omega, by omega, by omega, by omega⟩ 2 _, M9.out.1.2.other (by show gU ≠ gm; omega) _⟩, M9.out.2.1.set 2 _, M9.out.2.2.other M9.out.2.1 (by decide) 2 _⟩)
      have HRF : Hid (RgIn (w13.setCell ⟨gU, 2, none⟩ (.int .i64 1073741824)) A2 n c2 rF) := Lib.hid (by
        have h := MA.out.1.1.i1
        have hc := caps_of M9.out.2.2
        exact ⟨h.l1, h.l2, by decide, by decide, MA.out.2.2.has, h.e, hc.1, hc.2, h.b⟩)
      go_upto_region 20 with fail
      generalize hw : w13.setCell ⟨gU, 2, none⟩ (.int .i64 1073741824) = w14 at *
      clear hw v2 ul u0 u1 u2 M9
      have M10 := Lib.hid MA.out.1
      obtain ⟨sa0, sa1, sa2, -, -, -⟩ := M10.out.1.lr.three; obtain ⟨sb0, sb1, -, -⟩ := M10.out.1.lf.two; obtain ⟨sc0, sc1, -, -⟩ := M10.out.2.two; have sl0 := M10.out.1.lr.lt; have sl1 := M10.out.1.lf.lt; have sl2 := M10.out.2.lt
      obtain ⟨u0, u1, u2, -, -, -⟩ := MA.out.2.1.three
      have ul := MA.out.2.1.lt
      go_wp2_with fail
      refine (Byte_bad ⟨-1, 0⟩ rF A2 n c2 fN (some ⟨g2, 0, none⟩) q q 1 _ HRF.out M10.out.1.i2 (by rw [HV.out.2.2.2.2.2.1]; decide)).mono ?_
      rintro e w15 ⟨rfl, hb15⟩
      rw [HV.out.2.2.2.2.2.1]
      have M11 := Lib.hid (M10.out.1.past hb15)
      clear hb15 M10 MA HRF HGU u0 u1 u2 ul
      clear sa0 sa1 sa2 sb0 sb1 sc0 sc1 sl0 sl1 sl2
      go_upto_region 21 with fail
      have M12 : Hid (Nam w (((w15.alloc (.cells #[.int .i64 zM.a, .int .i64 zM.k] 23)).alloc (.cells #[.int .i64 zeroR.l, .slice none 0 0, .int .i64 zeroR.n] 26)).alloc (.cells #[.int .i64 zeroF.l, .slice none 0 0] 29)) gR gF (gF + 1) A n c (some ⟨g2, 0, none⟩) q q) := Lib.hid (((M11.out.past (grows_alloc _ _)).past (grows_alloc _ _)).past (grows_alloc _ _))
      generalize hw : (((w15.alloc (.cells #[.int .i64 zM.a, .int .i64 zM.k] 23)).alloc (.cells #[.int .i64 zeroR.l, .slice none 0 0, .int .i64 zeroR.n] 26)).alloc (.cells #[.int .i64 zeroF.l, .slice none 0 0] 29)) = w16 at *
      clear hw M11
      obtain ⟨sa0, sa1, sa2, -, -, -⟩ := M12.out.lr.three
      have sl0 := M12.out.lr.lt
      go_wp2_with fail
      refine (Expect_any ⟨3, 40⟩ rN A n c _ M12.out.i1).mono ?_
      rintro e w17 ⟨rfl, hb17⟩
      rw [HV.out.2.2.2.2.2.2.1.1, HV.out.2.2.2.2.2.2.1.2.1, HV.out.2.2.2.2.2.2.1.2.2]
      have M13 := Lib.hid (M12.out.past hb17)
      clear hb17 M12 sa0 sa1 sa2 sl0
      go_wp2_with fail
      (have RD := grows_roads (S := fun x' => Nam w x' gR gF (gF + 1) A n c (some ⟨g2, 0, none⟩) q q) (fun a b h1 h2 => h2.past h1)); refine region_ord _ Grows RD (M13.out.past (Below.drew (Below.refl _ _))) (by kernel_rfl) ?_; intro ops Q' hops hPQ hN; (have HNS : Hid (Region.noSelect ops = true) := Lib.hid (by rw [hops]; kernel_rfl)); (have hsz : ops.size = 9 := (by rw [hops]; rfl)); have HOP := Lib.hid hops; have HPQ := Lib.hid hPQ; have HN := Lib.hid hN; rw [hsz]; clear hops hsz hPQ hN
      refine ord_take RD 0 (at_list (by rw [HOP.out]; rfl)) HNS.out HPQ.out (by rw [HOP.out]; kernel_rfl) (by rw [HOP.out]; kernel_rfl) (by rw [HOP.out]; rfl) (fun K hK => ?_); apply Exists.intro; refine ⟨fun W hSW => ?_, hK _ ?_⟩; (focus ((try dsimp only at hSW); go_simp; try with_reducible rfl)); clear hK K; (try simp only [Act.put, List.setIfInBounds_toArray, List.set_cons_zero, List.set_cons_succ])
      refine ord_take RD 1 (at_list (by rw [HOP.out]; rfl)) HNS.out HPQ.out (by rw [HOP.out]; kernel_rfl) (by rw [HOP.out]; kernel_rfl) (by rw [HOP.out]; rfl) (fun K hK => ?_); apply Exists.intro; refine ⟨fun W hSW => ?_, hK _ ?_⟩; (focus ((try dsimp only at hSW); (obtain ⟨z0, z1, z2, -, -, -⟩ := hSW.lr.three); go_simp; try with_reducible rfl)); clear hK K; (try simp only [Act.put, List.setIfInBounds_toArray, List.set_cons_zero, List.set_cons_succ])
      refine ord_take RD 2 (at_list (by rw [HOP.out]; rfl)) HNS.out HPQ.out (by rw [HOP.out]; kernel_rfl) (by rw [HOP.out]; kernel_rfl) (by rw [HOP.out]; rfl) (fun K hK => ?_); apply Exists.intro; refine ⟨fun W hSW => ?_, hK _ ?_⟩; (focus ((try dsimp only at hSW); go_simp; exact (nibW.New_any W))); clear hK K; (try simp only [Act.put, List.setIfInBounds_toArray, List.set_cons_zero, List.set_cons_succ])
      refine ord_take RD 3 (at_list (by rw [HOP.out]; rfl)) HNS.out HPQ.out (by rw [HOP.out]; kernel_rfl) (by rw [HOP.out]; kernel_rfl) (by rw [HOP.out]; rfl) (fun K hK => ?_); apply Exists.intro; refine ⟨fun W hSW => ?_, hK _ ?_⟩; (focus ((try dsimp only at hSW); go_simp; exact (Input_any ⟨3, 40⟩ rN A n c 1 W hSW.i1))); clear hK K; (try simp only [Act.put, List.setIfInBounds_toArray, List.set_cons_zero, List.set_cons_succ])
      rw [HV.out.2.2.2.2.2.2.2.1.1, HV.out.2.2.2.2.2.2.2.1.2]
      refine ord_take RD 4 (at_list (by rw [HOP.out]; rfl)) HNS.out HPQ.out (by rw [HOP.out]; kernel_rfl) (by rw [HOP.out]; kernel_rfl) (by rw [HOP.out]; rfl) (fun K hK => ?_); apply Exists.intro; refine ⟨fun W hSW => ?_, hK _ ?_⟩; (focus ((try dsimp only at hSW); go_simp; try with_reducible rfl)); clear hK K; (try simp only [Act.put, List.setIfInBounds_toArray, List.set_cons_zero, List.set_cons_succ])
      refine ord_take RD 5 (at_list (by rw [HOP.out]; rfl)) HNS.out HPQ.out (by rw [HOP.out]; kernel_rfl) (by rw [HOP.out]; kernel_rfl) (by rw [HOP.out]; rfl) (fun K hK => ?_); apply Exists.intro; refine ⟨fun W hSW => ?_, hK _ ?_⟩; (focus ((try dsimp only at hSW); go_simp; try with_reducible rfl)); clear hK K; (try simp only [Act.put, List.setIfInBounds_toArray, List.set_cons_zero, List.set_cons_succ])
      refine ord_take RD 6 (at_list (by rw [HOP.out]; rfl)) HNS.out HPQ.out (by rw [HOP.out]; kernel_rfl) (by rw [HOP.out]; kernel_rfl) (by rw [HOP.out]; rfl) (fun K hK => ?_); apply Exists.intro; refine ⟨fun W hSW => ?_, hK _ ?_⟩; (focus ((try dsimp only at hSW); go_simp; try with_reducible rfl)); clear hK K; (try simp only [Act.put, List.setIfInBounds_toArray, List.set_cons_zero, List.set_cons_succ])
      refine ord_take RD 7 (at_list (by rw [HOP.out]; rfl)) HNS.out HPQ.out (by rw [HOP.out]; kernel_rfl) (by rw [HOP.out]; kernel_rfl) (by rw [HOP.out]; rfl) (fun K hK => ?_); apply Exists.intro; refine ⟨fun W hSW => ?_, hK _ ?_⟩; (focus ((try dsimp only at hSW); go_simp; try with_reducible rfl)); clear hK K; (try simp only [Act.put, List.setIfInBounds_toArray, List.set_cons_zero, List.set_cons_succ])
      refine ord_take RD 8 (at_list (by rw [HOP.out]; rfl)) HNS.out HPQ.out (by rw [HOP.out]; kernel_rfl) (by rw [HOP.out]; kernel_rfl) (by rw [HOP.out]; rfl) (fun K hK => ?_); apply Exists.intro; refine ⟨fun W hSW => ?_, hK _ ?_⟩; (focus ((try dsimp only at hSW); go_simp; try with_reducible rfl)); clear hK K; (try simp only [Act.put, List.setIfInBounds_toArray, List.set_cons_zero, List.set_cons_succ])
      refine ord_done (by rw [HOP.out]; kernel_rfl) (fun Wz hWW hSW => HN.out _ _ ?_); clear HOP HNS HPQ HN RD; (try dsimp only at hSW)
      have M14 := Lib.hid hSW.hb
      clear hSW hWW M13
      go_wp2_with fail
      refine (alive _).mono ?_
      rintro e w18 ⟨rfl, hb18⟩
      have M15 := Lib.hid (M14.out.trans (hb18.mono M14.out.size))
      clear hb18 M14
      go_wp2_with fail
      refine (Check_any ⟨1073741824, 1⟩ _).mono ?_
      rintro e w19 ⟨rfl, hb19⟩
      rw [HV.out.2.2.2.2.2.2.2.2]
      have M16 := Lib.hid (M15.out.trans (hb19.mono M15.out.size))
      clear hb19 M15
      go_wp2_with fail
      go_ret
      exact ⟨rfl, M16.out⟩
end Go.Proofs.Ytemiecghdmagnaa.maW
