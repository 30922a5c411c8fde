/- Looking into both maps, by walks. -/
import Derived.Test.YtdmnaipngcldbaaDoorFnW2
import Derived.Test.YtdmnaipngcldbaaDoorOrd
namespace Go.Proofs.YtdmnaipngcldbaaDoor.fnW
set_option maxRecDepth 100000
open Go.RowKit Go.Proofs.YtdmnaipngcldbaaDoor.base Go.Proofs.YtdmnaipngcldbaaDoor.rfP Go.Proofs.YtdmnaipngcldbaaDoor.rfW Go.Proofs.YtdmnaipngcldbaaDoor.fnP
set_option linter.unusedVariables false
set_option linter.unusedSimpArgs false
theorem four {w : World} {g : Nat} {t : TypeId} {a b c d : Value} (h : Lies w g t [a, b, c, d]) : w.cell? ⟨g, 0, none⟩ = some a ∧ w.cell? ⟨g, 1, none⟩ = some b ∧ w.cell? ⟨g, 2, none⟩ = some c ∧ w.cell? ⟨g, 3, none⟩ = some d := ⟨h.cell 0, h.cell 1, h.cell 2, h.cell 3⟩
theorem free4 {w : World} {g : Nat} {t : TypeId} {l : List Value} (h : Lies w g t l) : w.frozen? ⟨g, 0, none⟩ = false ∧ w.frozen? ⟨g, 1, none⟩ = false ∧ w.frozen? ⟨g, 2, none⟩ = false ∧ w.frozen? ⟨g, 3, none⟩ = false := ⟨h.free 0, h.free 1, h.free 2, h.free 3⟩
theorem lies_set4 {w : World} {g : Nat} {t : TypeId} {x0 x1 x2 x3 : Value} (h : Lies w g t [x0, x1, x2, x3]) (a b c d : Value) : Lies ((((w.setCell ⟨g, 0, none⟩ a).setCell ⟨g, 1, none⟩ b).setCell ⟨g, 2, none⟩ c).setCell ⟨g, 3, none⟩ d) g t [a, b, c, d] := (((h.set 0 a).set 1 b).set 2 c).set 3 d
theorem below_set4 {w w' : World} {B g : Nat} (h : Below B w w') (hg : B ≤ g) (a b c d : Value) : Below B w ((((w'.setCell ⟨g, 0, none⟩ a).setCell ⟨g, 1, none⟩ b).setCell ⟨g, 2, none⟩ c).setCell ⟨g, 3, none⟩ d) := (((h.setCell hg a).setCell hg b).setCell hg c).setCell hg d
set_option maxHeartbeats 1500000 in
theorem Look_any (P : Option Addr) (m c : Nat) (rs : List RY) (Q : Option Addr) (n e : Nat) (qs : List RY) (r0 r1 d p : Int) (w : World) (h : RowsY w P m c rs) (h' : RowsY w Q n e qs) :
    Calls Tryd.prog 14 #[.agg #[.slice P m c, .slice Q n e], .agg #[.int .i64 r0, .int .i64 r1], .int .i32 d, .int .i32 p] w fun v w' => v = .returned (.tuple #[.int .i32 (fV (numsY rs) (numsY qs) r0 r1 d p), .agg #[.int .i64 (fZ (numsY rs) (numsY qs) r0 r1 d p r0), .int .i64 (fZ (numsY rs) (numsY qs) r0 r1 d p r1), .int .i64 (fZ (numsY rs) (numsY qs) r0 r1 d p (lookJ (numsY rs) r0 d)), .int .i64 (fZ (numsY rs) (numsY qs) r0 r1 d p (lookJ (numsY qs) r1 d))], .int .i64 (fE (numsY rs) (numsY qs) r0 r1 d p)]) ∧ Below w.heap.size w w' := by
  have H := Lib.hid (And.intro h h')
  have S0 : Hid (FnAt (((w.alloc (.cells #[.slice P m c, .slice Q n e] 26)).alloc (.cells #[.int .i64 r0, .int .i64 r1] 27)).alloc (.cells #[.int .i64 0, .int .i64 0, .int .i64 0, .int .i64 0] 39)) w.heap.size P m c rs Q n e qs ∧ Lies ((((w.alloc (.cells #[.slice P m c, .slice Q n e] 26)).alloc (.cells #[.int .i64 r0, .int .i64 r1] 27)).alloc (.cells #[.int .i64 0, .int .i64 0, .int .i64 0, .int .i64 0] 39))) (w.heap.size + 1) 27 [.int .i64 (r0), .int .i64 (r1)] ∧ Lies ((((w.alloc (.cells #[.slice P m c, .slice Q n e] 26)).alloc (.cells #[.int .i64 r0, .int .i64 r1] 27)).alloc (.cells #[.int .i64 0, .int .i64 0, .int .i64 0, .int .i64 0] 39))) (w.heap.size + 2) 39 [.int .i64 (0), .int .i64 (0), .int .i64 (0), .int .i64 (0)] ∧ Below w.heap.size w (((w.alloc (.cells #[.slice P m c, .slice Q n e] 26)).alloc (.cells #[.int .i64 r0, .int .i64 r1] 27)).alloc (.cells #[.int .i64 0, .int .i64 0, .int .i64 0, .int .i64 0] 39)) ∧ w.heap.size < w.heap.size + 1 ∧ w.heap.size + 1 < w.heap.size + 2) := Lib.hid ⟨((fnAt_new h h').alloc _).alloc _, (Lies.fresh_at (cs := [.int .i64 r0, .int .i64 r1]) (by simp)).alloc _, Lies.fresh_at (cs := [.int .i64 0, .int .i64 0, .int .i64 0, .int .i64 0]) (by simp), by (repeat' (first | (with_reducible exact Below.refl _ _) | (with_reducible assumption) | (with_reducible refine below_drewN ?_ _) | (with_reducible refine below_new ?_ _) | (with_reducible refine Below.alloc ?_ ?_ _) | (with_reducible refine Below.drew ?_) | (with_reducible refine Below.setCell ?_ ?_ _) | (with_reducible apply below_at; (case k => (with_reducible assumption)); (case hB => omega)) | (with_reducible apply below_on; (with_reducible assumption)) | (go_size; done) | (with_reducible apply size_of))), by omega, by omega⟩
  clear h h'
  go_enter Tryd.func14, Tryd.ntmps14
  go_wp2_with fail
  generalize hw0 : (((w.alloc (.cells #[.slice P m c, .slice Q n e] 26)).alloc (.cells #[.int .i64 r0, .int .i64 r1] 27)).alloc (.cells #[.int .i64 0, .int .i64 0, .int .i64 0, .int .i64 0] 39)) = w0 at *
  generalize w.heap.size + 2 = g2 at *
  generalize w.heap.size + 1 = g1 at *
  clear hw0
  refine (Check_any P m c rs Q n e qs w0 S0.out.1.r1 S0.out.1.r2).mono ?_
  rintro v w1 ⟨rfl, b1⟩
  have S1 : Hid (FnAt w1 w.heap.size P m c rs Q n e qs ∧ Lies (w1) (g1) 27 [.int .i64 (r0), .int .i64 (r1)] ∧ Lies (w1) (g2) 39 [.int .i64 (0), .int .i64 (0), .int .i64 (0), .int .i64 (0)] ∧ Below w.heap.size w w1 ∧ w.heap.size < g1 ∧ g1 < g2) := Lib.hid ⟨S0.out.1.past b1, S0.out.2.1.past b1, S0.out.2.2.1.past b1, below_bs S0.out.2.2.2.1 b1, S0.out.2.2.2.2⟩
  clear b1 S0
  cases hf : fnB (numsY rs) (numsY qs)
  · have HE := Lib.hid (fE_no (r0 := r0) (r1 := r1) (d := d) (p := p) hf)
    have HZ := Lib.hid (f_bad (x := numsY rs) (y := numsY qs) (r0 := r0) (r1 := r1) (d := d) (p := p) (by rw [HE.out]; decide))
    rw [fnE_no hf]
    clear hf
    obtain ⟨f0, f1, f2, f3⟩ := free4 S1.out.2.2.1
    obtain ⟨z0, z1, z2, z3⟩ := four S1.out.2.2.1
    go_wp2_with fail
    obtain ⟨t0, t1, t2, t3⟩ := four (lies_set4 S1.out.2.2.1 (.int .i64 0) (.int .i64 0) (.int .i64 0) (.int .i64 0))
    clear f0 f1 f2 f3 z0 z1 z2 z3
    refine bodyPost_ret (by simp [results, Tryd.results14, go_sem, t0, t1, t2, t3]; try rfl) rfl ?_
    exact ⟨by simp only [HE.out, HZ.out.1, HZ.out.2], below_set4 S1.out.2.2.2.1 (by have := S1.out.2.2.2.2; omega) _ _ _ _⟩
  have HF := Lib.hid hf
  have HSZ : Hid (w.heap.size ≤ w1.heap.size) := Lib.hid S1.out.2.2.2.1.size
  rw [fnE_yes hf]
  clear hf
  obtain ⟨x0, x1, -, -⟩ := S1.out.2.1.two
  have x2 := S1.out.1.c0
  have x3 := S1.out.1.c1
  have S2 : Hid (Lies (((w1.alloc (.cells #[.int .i64 r0, .int .i64 r1, .int .i64 0, .int .i64 0] 39)).alloc (.cells #[.int .i32 0, .int .i32 0] 73))) (w1.heap.size) 39 [.int .i64 (r0), .int .i64 (r1), .int .i64 (0), .int .i64 (0)] ∧ Lies (((w1.alloc (.cells #[.int .i64 r0, .int .i64 r1, .int .i64 0, .int .i64 0] 39)).alloc (.cells #[.int .i32 0, .int .i32 0] 73))) (w1.heap.size + 1) 73 [.int .i32 (0), .int .i32 (0)] ∧ FnAt ((w1.alloc (.cells #[.int .i64 r0, .int .i64 r1, .int .i64 0, .int .i64 0] 39)).alloc (.cells #[.int .i32 0, .int .i32 0] 73)) w.heap.size P m c rs Q n e qs ∧ Lies (((w1.alloc (.cells #[.int .i64 r0, .int .i64 r1, .int .i64 0, .int .i64 0] 39)).alloc (.cells #[.int .i32 0, .int .i32 0] 73))) (g1) 27 [.int .i64 (r0), .int .i64 (r1)] ∧ Lies (((w1.alloc (.cells #[.int .i64 r0, .int .i64 r1, .int .i64 0, .int .i64 0] 39)).alloc (.cells #[.int .i32 0, .int .i32 0] 73))) (g2) 39 [.int .i64 (0), .int .i64 (0), .int .i64 (0), .int .i64 (0)] ∧ Below w.heap.size w ((w1.alloc (.cells #[.int .i64 r0, .int .i64 r1, .int .i64 0, .int .i64 0] 39)).alloc (.cells #[.int .i32 0, .int .i32 0] 73))) := Lib.hid ⟨(Lies.fresh w1 39 [.int .i64 r0, .int .i64 r1, .int .i64 0, .int .i64 0]).alloc _, Lies.fresh_at (cs := [.int .i32 0, .int .i32 0]) (by simp), (S1.out.1.alloc _).alloc _, (S1.out.2.1.alloc _).alloc _, (S1.out.2.2.1.alloc _).alloc _, below_al (below_al S1.out.2.2.2.1 _) _⟩
  have i0 : ∀ w : World, (Instr.index 74 (.agg #[.slice P m c, .slice Q n e]) (.int .i64 0)).run Tryd.prog w = .ok (.agg #[.slice P m c]) w := fun _ => by kernel_rfl
  have i1 : ∀ w : World, (Instr.index 74 (.agg #[.slice P m c, .slice Q n e]) (.int .i64 1)).run Tryd.prog w = .ok (.agg #[.slice Q n e]) w := fun _ => by kernel_rfl
  have HGG : Hid (w.heap.size < g1 ∧ g1 < g2 ∧ g2 < w1.heap.size) := Lib.hid ⟨S1.out.2.2.2.2.1, S1.out.2.2.2.2.2, S1.out.2.2.1.lt⟩
  go_upto_region 6 with fail
  clear x0 x1 x2 x3
  generalize hw3 : ((w1.alloc (.cells #[.int .i64 r0, .int .i64 r1, .int .i64 0, .int .i64 0] 39)).alloc (.cells #[.int .i32 0, .int .i32 0] 73)) = w3 at *
  generalize hgl : w1.heap.size + 1 = gl at *
  generalize w1.heap.size = gc at *
  have HGL := Lib.hid hgl
  clear hw3 hgl S1
  have x2 := S2.out.2.2.1.c0
  have x3 := S2.out.2.2.1.c1
  go_wp2_with fail
  clear x2 x3
  have S3 : Hid (Lies (w3) (gc) 39 [.int .i64 (r0), .int .i64 (r1), .int .i64 (0), .int .i64 (0)] ∧ Lies (w3) (gl) 73 [.int .i32 (0), .int .i32 (0)] ∧ Lies (w3) (g1) 27 [.int .i64 (r0), .int .i64 (r1)] ∧ Lies (w3) (g2) 39 [.int .i64 (0), .int .i64 (0), .int .i64 (0), .int .i64 (0)] ∧ Below w.heap.size w w3) := Lib.hid ⟨S2.out.1, S2.out.2.1, S2.out.2.2.2.1, S2.out.2.2.2.2.1, S2.out.2.2.2.2.2⟩
  clear S2
  go_loopw [34] (fun iv wr => ((iv = .int .i64 0 ∧ Lies (wr) (gc) 39 [.int .i64 (r0), .int .i64 (r1), .int .i64 (0), .int .i64 (0)] ∧ Lies (wr) (gl) 73 [.int .i32 (0), .int .i32 (0)]) ∨ (iv = .int .i64 1 ∧ lookE (numsY rs) r0 d = 0 ∧ Lies (wr) (gc) 39 [.int .i64 (r0), .int .i64 (r1), .int .i64 (lookJ (numsY rs) r0 d), .int .i64 (0)] ∧ Lies (wr) (gl) 73 [.int .i32 (lookV (numsY rs) r0 d), .int .i32 (0)]) ∨ (iv = .int .i64 2 ∧ lookE (numsY rs) r0 d = 0 ∧ lookE (numsY qs) r1 d = 0 ∧ Lies (wr) (gc) 39 [.int .i64 (r0), .int .i64 (r1), .int .i64 (lookJ (numsY rs) r0 d), .int .i64 (lookJ (numsY qs) r1 d)] ∧ Lies (wr) (gl) 73 [.int .i32 (lookV (numsY rs) r0 d), .int .i32 (lookV (numsY qs) r1 d)])) ∧ Lies (wr) (g1) 27 [.int .i64 (r0), .int .i64 (r1)] ∧ Lies (wr) (g2) 39 [.int .i64 (0), .int .i64 (0), .int .i64 (0), .int .i64 (0)] ∧ Below w.heap.size w wr) (fun iv _ => 2 - (intOf iv).toNat)
  case atStart => exact ⟨.inl ⟨rfl, S3.out.1, S3.out.2.1⟩, S3.out.2.2⟩
  case round =>
    clear S3
    obtain ⟨hiv, hco⟩ := hrel
    have HCO := Lib.hid hco
    clear hco
    rcases hiv with ⟨rfl, hl, hm⟩ | ⟨rfl, he, hl, hm⟩ | ⟨rfl, he, he2, hl, hm⟩
    · have SA : Hid (RfAt (wr.alloc (.cells #[.slice P m c] 24)) wr.heap.size P m c rs ∧ Lies ((wr.alloc (.cells #[.slice P m c] 24))) (gc) 39 [.int .i64 (r0), .int .i64 (r1), .int .i64 (0), .int .i64 (0)] ∧ Lies ((wr.alloc (.cells #[.slice P m c] 24))) (gl) 73 [.int .i32 (0), .int .i32 (0)] ∧ Lies ((wr.alloc (.cells #[.slice P m c] 24))) (g1) 27 [.int .i64 (r0), .int .i64 (r1)] ∧ Lies ((wr.alloc (.cells #[.slice P m c] 24))) (g2) 39 [.int .i64 (0), .int .i64 (0), .int .i64 (0), .int .i64 (0)] ∧ Below w.heap.size w (wr.alloc (.cells #[.slice P m c] 24))) := Lib.hid ⟨rfAt_new (H.out.1.past HCO.out.2.2), hl.alloc _, hm.alloc _, HCO.out.1.alloc _, HCO.out.2.1.alloc _, below_al HCO.out.2.2 _⟩
      clear hl hm HCO
      go_upto_region 9 with fail
      generalize (wr.alloc (.cells #[.slice P m c] 24)) = wa at *
      generalize wr.heap.size = gr at *
      have hle : ∃ le, lookE (numsY rs) r0 d = le := ⟨_, rfl⟩
      (have RD := grows_roads (S := fun x' => Below wa.heap.size wa x') (fun a b h1 h2 => below_bs h2 h1)); refine region_ord _ Grows RD (Below.drew (Below.refl wa.heap.size wa)) (by kernel_rfl) ?_; intro ops Q' hops hPQ hN; (have HNS : Hid (Region.noSelect ops = true) := Lib.hid (by rw [hops]; kernel_rfl)); (have hsz : ops.size = 13 := (by rw [hops]; rfl)); have HOP := Lib.hid hops; have HPQ := Lib.hid hPQ; have HN := Lib.hid hN; rw [hsz]; clear hops hsz hPQ hN
      refine ord_take RD 0 (at_list (by rw [HOP.out]; rfl)) HNS.out HPQ.out (by rw [HOP.out]; kernel_rfl) (by rw [HOP.out]; kernel_rfl) (by rw [HOP.out]; rfl) (fun K hK => ?_); apply Exists.intro; refine ⟨fun W hSW => ?_, hK _ ?_⟩; (focus ((try dsimp only at hSW); (have z1 := (SA.out.1.past hSW).cell); go_simp; try with_reducible rfl)); clear hK K; (try simp only [Act.put, List.setIfInBounds_toArray, List.set_cons_zero, List.set_cons_succ])
      refine ord_take RD 1 (at_list (by rw [HOP.out]; rfl)) HNS.out HPQ.out (by rw [HOP.out]; kernel_rfl) (by rw [HOP.out]; kernel_rfl) (by rw [HOP.out]; rfl) (fun K hK => ?_); apply Exists.intro; refine ⟨fun W hSW => ?_, hK _ ?_⟩; (focus ((try dsimp only at hSW); go_simp; try with_reducible rfl)); clear hK K; (try simp only [Act.put, List.setIfInBounds_toArray, List.set_cons_zero, List.set_cons_succ])
      refine ord_take RD 2 (at_list (by rw [HOP.out]; rfl)) HNS.out HPQ.out (by rw [HOP.out]; kernel_rfl) (by rw [HOP.out]; kernel_rfl) (by rw [HOP.out]; rfl) (fun K hK => ?_); apply Exists.intro; refine ⟨fun W hSW => ?_, hK _ ?_⟩; (focus ((try dsimp only at hSW); go_simp; try with_reducible rfl)); clear hK K; (try simp only [Act.put, List.setIfInBounds_toArray, List.set_cons_zero, List.set_cons_succ])
      refine ord_take RD 3 (at_list (by rw [HOP.out]; rfl)) HNS.out HPQ.out (by rw [HOP.out]; kernel_rfl) (by rw [HOP.out]; kernel_rfl) (by rw [HOP.out]; rfl) (fun K hK => ?_); apply Exists.intro; refine ⟨fun W hSW => ?_, hK _ ?_⟩; (focus ((try dsimp only at hSW); (obtain ⟨x1, -, -, -⟩ := (SA.out.2.2.2.1.past hSW).two); go_simp; try with_reducible rfl)); clear hK K; (try simp only [Act.put, List.setIfInBounds_toArray, List.set_cons_zero, List.set_cons_succ])
      refine ord_take RD 4 (at_list (by rw [HOP.out]; rfl)) HNS.out HPQ.out (by rw [HOP.out]; kernel_rfl) (by rw [HOP.out]; kernel_rfl) (by rw [HOP.out]; rfl) (fun K hK => ?_); apply Exists.intro; refine ⟨fun W hSW => ?_, hK _ ?_⟩; (focus ((try dsimp only at hSW); go_simp; try with_reducible rfl)); clear hK K; (try simp only [Act.put, List.setIfInBounds_toArray, List.set_cons_zero, List.set_cons_succ])
      refine ord_take RD 5 (at_list (by rw [HOP.out]; rfl)) HNS.out HPQ.out (by rw [HOP.out]; kernel_rfl) (by rw [HOP.out]; kernel_rfl) (by rw [HOP.out]; rfl) (fun K hK => ?_); apply Exists.intro; refine ⟨fun W hSW => ?_, hK _ ?_⟩; (focus ((try dsimp only at hSW); go_simp; exact (rfW.Look_any P m c rs r0 d W (SA.out.1.past hSW).rows))); clear hK K; (try simp only [Act.put, List.setIfInBounds_toArray, List.set_cons_zero, List.set_cons_succ])
      refine ord_take RD 6 (at_list (by rw [HOP.out]; rfl)) HNS.out HPQ.out (by rw [HOP.out]; kernel_rfl) (by rw [HOP.out]; kernel_rfl) (by rw [HOP.out]; rfl) (fun K hK => ?_); apply Exists.intro; refine ⟨fun W hSW => ?_, hK _ ?_⟩; (focus ((try dsimp only at hSW); go_simp; try with_reducible rfl)); clear hK K; (try simp only [Act.put, List.setIfInBounds_toArray, List.set_cons_zero, List.set_cons_succ])
      refine ord_take RD 7 (at_list (by rw [HOP.out]; rfl)) HNS.out HPQ.out (by rw [HOP.out]; kernel_rfl) (by rw [HOP.out]; kernel_rfl) (by rw [HOP.out]; rfl) (fun K hK => ?_); apply Exists.intro; refine ⟨fun W hSW => ?_, hK _ ?_⟩; (focus ((try dsimp only at hSW); go_simp; try with_reducible rfl)); clear hK K; (try simp only [Act.put, List.setIfInBounds_toArray, List.set_cons_zero, List.set_cons_succ])
      refine ord_take RD 8 (at_list (by rw [HOP.out]; rfl)) HNS.out HPQ.out (by rw [HOP.out]; kernel_rfl) (by rw [HOP.out]; kernel_rfl) (by rw [HOP.out]; rfl) (fun K hK => ?_); apply Exists.intro; refine ⟨fun W hSW => ?_, hK _ ?_⟩; (focus ((try dsimp only at hSW); go_simp; try with_reducible rfl)); clear hK K; (try simp only [Act.put, List.setIfInBounds_toArray, List.set_cons_zero, List.set_cons_succ])
      refine ord_take RD 9 (at_list (by rw [HOP.out]; rfl)) HNS.out HPQ.out (by rw [HOP.out]; kernel_rfl) (by rw [HOP.out]; kernel_rfl) (by rw [HOP.out]; rfl) (fun K hK => ?_); apply Exists.intro; refine ⟨fun W hSW => ?_, hK _ ?_⟩; (focus ((try dsimp only at hSW); go_simp; try with_reducible rfl)); clear hK K; (try simp only [Act.put, List.setIfInBounds_toArray, List.set_cons_zero, List.set_cons_succ])
      refine ord_take RD 10 (at_list (by rw [HOP.out]; rfl)) HNS.out HPQ.out (by rw [HOP.out]; kernel_rfl) (by rw [HOP.out]; kernel_rfl) (by rw [HOP.out]; rfl) (fun K hK => ?_); apply Exists.intro; refine ⟨fun W hSW => ?_, hK _ ?_⟩; (focus ((try dsimp only at hSW); go_simp; try with_reducible rfl)); clear hK K; (try simp only [Act.put, List.setIfInBounds_toArray, List.set_cons_zero, List.set_cons_succ])
      refine ord_take RD 11 (at_list (by rw [HOP.out]; rfl)) HNS.out HPQ.out (by rw [HOP.out]; kernel_rfl) (by rw [HOP.out]; kernel_rfl) (by rw [HOP.out]; rfl) (fun K hK => ?_); apply Exists.intro; refine ⟨fun W hSW => ?_, hK _ ?_⟩; (focus ((try dsimp only at hSW); go_simp; try with_reducible rfl)); clear hK K; (try simp only [Act.put, List.setIfInBounds_toArray, List.set_cons_zero, List.set_cons_succ])
      refine ord_take RD 12 (at_list (by rw [HOP.out]; rfl)) HNS.out HPQ.out (by rw [HOP.out]; kernel_rfl) (by rw [HOP.out]; kernel_rfl) (by rw [HOP.out]; rfl) (fun K hK => ?_); apply Exists.intro; refine ⟨fun W hSW => ?_, hK _ ?_⟩; (focus ((try dsimp only at hSW); go_simp; try with_reducible rfl)); clear hK K; (try simp only [Act.put, List.setIfInBounds_toArray, List.set_cons_zero, List.set_cons_succ])
      refine ord_done (by rw [HOP.out]; kernel_rfl) (fun W9 hWW hSW => HN.out _ _ ?_); clear HOP HNS HPQ HN RD; (try dsimp only at hSW)
      have SB : Hid (Lies (W9) (gc) 39 [.int .i64 (r0), .int .i64 (r1), .int .i64 (0), .int .i64 (0)] ∧ Lies (W9) (gl) 73 [.int .i32 (0), .int .i32 (0)] ∧ Lies (W9) (g1) 27 [.int .i64 (r0), .int .i64 (r1)] ∧ Lies (W9) (g2) 39 [.int .i64 (0), .int .i64 (0), .int .i64 (0), .int .i64 (0)] ∧ Below w.heap.size w W9) := Lib.hid ⟨SA.out.2.1.past hSW, SA.out.2.2.1.past hSW, SA.out.2.2.2.1.past hSW, SA.out.2.2.2.2.1.past hSW, below_bs SA.out.2.2.2.2.2 hSW⟩
      clear hSW hWW SA
      obtain ⟨le, hle0⟩ := hle
      have HLE := Lib.hid hle0
      rw [hle0]
      clear hle0
      by_cases hle : le = 0
      · subst hle
        obtain ⟨y0, y1, y2, y3⟩ := SB.out.2.1.two
        have y4 := SB.out.1.cell 2
        have y5 := SB.out.1.free 2
        simp only [List.getElem?_cons_succ, List.getElem?_cons_zero] at y4
        go_wp2_with fail
        have hgg := HGG.out
        have hgl := HGL.out
        have HL4 := (SB.out.1.other (p := ⟨gl, 0, none⟩) (by show gl ≠ gc; omega) (.int .i32 (lookV (numsY rs) r0 d))).set 2 (.int .i64 (lookJ (numsY rs) r0 d))
        have HM2 := (SB.out.2.1.set 0 (.int .i32 (lookV (numsY rs) r0 d))).other (p := ⟨gc, 2, none⟩) (by show gc ≠ gl; omega) (.int .i64 (lookJ (numsY rs) r0 d))
        have HL2 := (SB.out.2.2.1.other (p := ⟨gl, 0, none⟩) (by show gl ≠ g1; omega) (.int .i32 (lookV (numsY rs) r0 d))).other (p := ⟨gc, 2, none⟩) (by show gc ≠ g1; omega) (.int .i64 (lookJ (numsY rs) r0 d))
        have HZ4 := (SB.out.2.2.2.1.other (p := ⟨gl, 0, none⟩) (by show gl ≠ g2; omega) (.int .i32 (lookV (numsY rs) r0 d))).other (p := ⟨gc, 2, none⟩) (by show gc ≠ g2; omega) (.int .i64 (lookJ (numsY rs) r0 d))
        have HBW := (SB.out.2.2.2.2.setCell (p := ⟨gl, 0, none⟩) (by show w.heap.size ≤ gl; omega) (.int .i32 (lookV (numsY rs) r0 d))).setCell (p := ⟨gc, 2, none⟩) (by show w.heap.size ≤ gc; omega) (.int .i64 (lookJ (numsY rs) r0 d))
        exact ⟨⟨.inr (.inl ⟨rfl, HLE.out, HL4, HM2⟩), HL2, HZ4, HBW⟩, by simp [intOf]⟩
      · have HE := Lib.hid (fE_one (r0 := r0) (r1 := r1) (d := d) (p := p) HF.out (by rw [HLE.out]; exact hle))
        have HZ := Lib.hid (f_bad (x := numsY rs) (y := numsY qs) (r0 := r0) (r1 := r1) (d := d) (p := p) (by rw [HE.out, HLE.out]; exact hle))
        obtain ⟨f0, f1, f2, f3⟩ := free4 SB.out.2.2.2.1
        obtain ⟨z0, z1, z2, z3⟩ := four SB.out.2.2.2.1
        go_wp2_with fail
        obtain ⟨t0, t1, t2, t3⟩ := four (lies_set4 SB.out.2.2.2.1 (.int .i64 0) (.int .i64 0) (.int .i64 0) (.int .i64 0))
        clear f0 f1 f2 f3 z0 z1 z2 z3
        refine bodyPost_ret (by simp [results, Tryd.results14, go_sem, t0, t1, t2, t3]; try rfl) rfl ?_
        exact ⟨by simp only [HZ.out.1, HZ.out.2]; rw [HE.out, HLE.out], below_set4 SB.out.2.2.2.2 (by have := HGG.out; omega) _ _ _ _⟩
    · have HEA := Lib.hid he
      clear he
      have SA : Hid (RfAt (wr.alloc (.cells #[.slice Q n e] 24)) wr.heap.size Q n e qs ∧ Lies ((wr.alloc (.cells #[.slice Q n e] 24))) (gc) 39 [.int .i64 (r0), .int .i64 (r1), .int .i64 (lookJ (numsY rs) r0 d), .int .i64 (0)] ∧ Lies ((wr.alloc (.cells #[.slice Q n e] 24))) (gl) 73 [.int .i32 (lookV (numsY rs) r0 d), .int .i32 (0)] ∧ Lies ((wr.alloc (.cells #[.slice Q n e] 24))) (g1) 27 [.int .i64 (r0), .int .i64 (r1)] ∧ Lies ((wr.alloc (.cells #[.slice Q n e] 24))) (g2) 39 [.int .i64 (0), .int .i64 (0), .int .i64 (0), .int .i64 (0)] ∧ Below w.heap.size w (wr.alloc (.cells #[.slice Q n e] 24))) := Lib.hid ⟨rfAt_new (H.out.2.past HCO.out.2.2), hl.alloc _, hm.alloc _, HCO.out.1.alloc _, HCO.out.2.1.alloc _, below_al HCO.out.2.2 _⟩
      clear hl hm HCO
      go_upto_region 9 with fail
      generalize (wr.alloc (.cells #[.slice Q n e] 24)) = wa at *
      generalize wr.heap.size = gr at *
      have hle : ∃ le, lookE (numsY qs) r1 d = le := ⟨_, rfl⟩
      (have RD := grows_roads (S := fun x' => Below wa.heap.size wa x') (fun a b h1 h2 => below_bs h2 h1)); refine region_ord _ Grows RD (Below.drew (Below.refl wa.heap.size wa)) (by kernel_rfl) ?_; intro ops Q' hops hPQ hN; (have HNS : Hid (Region.noSelect ops = true) := Lib.hid (by rw [hops]; kernel_rfl)); (have hsz : ops.size = 13 := (by rw [hops]; rfl)); have HOP := Lib.hid hops; have HPQ := Lib.hid hPQ; have HN := Lib.hid hN; rw [hsz]; clear hops hsz hPQ hN
      refine ord_take RD 0 (at_list (by rw [HOP.out]; rfl)) HNS.out HPQ.out (by rw [HOP.out]; kernel_rfl) (by rw [HOP.out]; kernel_rfl) (by rw [HOP.out]; rfl) (fun K hK => ?_); apply Exists.intro; refine ⟨fun W hSW => ?_, hK _ ?_⟩; (focus ((try dsimp only at hSW); (have z1 := (SA.out.1.past hSW).cell); go_simp; try with_reducible rfl)); clear hK K; (try simp only [Act.put, List.setIfInBounds_toArray, List.set_cons_zero, List.set_cons_succ])
      refine ord_take RD 1 (at_list (by rw [HOP.out]; rfl)) HNS.out HPQ.out (by rw [HOP.out]; kernel_rfl) (by rw [HOP.out]; kernel_rfl) (by rw [HOP.out]; rfl) (fun K hK => ?_); apply Exists.intro; refine ⟨fun W hSW => ?_, hK _ ?_⟩; (focus ((try dsimp only at hSW); go_simp; try with_reducible rfl)); clear hK K; (try simp only [Act.put, List.setIfInBounds_toArray, List.set_cons_zero, List.set_cons_succ])
      refine ord_take RD 2 (at_list (by rw [HOP.out]; rfl)) HNS.out HPQ.out (by rw [HOP.out]; kernel_rfl) (by rw [HOP.out]; kernel_rfl) (by rw [HOP.out]; rfl) (fun K hK => ?_); apply Exists.intro; refine ⟨fun W hSW => ?_, hK _ ?_⟩; (focus ((try dsimp only at hSW); go_simp; try with_reducible rfl)); clear hK K; (try simp only [Act.put, List.setIfInBounds_toArray, List.set_cons_zero, List.set_cons_succ])
      refine ord_take RD 3 (at_list (by rw [HOP.out]; rfl)) HNS.out HPQ.out (by rw [HOP.out]; kernel_rfl) (by rw [HOP.out]; kernel_rfl) (by rw [HOP.out]; rfl) (fun K hK => ?_); apply Exists.intro; refine ⟨fun W hSW => ?_, hK _ ?_⟩; (focus ((try dsimp only at hSW); (obtain ⟨-, x1, -, -⟩ := (SA.out.2.2.2.1.past hSW).two); go_simp; try with_reducible rfl)); clear hK K; (try simp only [Act.put, List.setIfInBounds_toArray, List.set_cons_zero, List.set_cons_succ])
      refine ord_take RD 4 (at_list (by rw [HOP.out]; rfl)) HNS.out HPQ.out (by rw [HOP.out]; kernel_rfl) (by rw [HOP.out]; kernel_rfl) (by rw [HOP.out]; rfl) (fun K hK => ?_); apply Exists.intro; refine ⟨fun W hSW => ?_, hK _ ?_⟩; (focus ((try dsimp only at hSW); go_simp; try with_reducible rfl)); clear hK K; (try simp only [Act.put, List.setIfInBounds_toArray, List.set_cons_zero, List.set_cons_succ])
      refine ord_take RD 5 (at_list (by rw [HOP.out]; rfl)) HNS.out HPQ.out (by rw [HOP.out]; kernel_rfl) (by rw [HOP.out]; kernel_rfl) (by rw [HOP.out]; rfl) (fun K hK => ?_); apply Exists.intro; refine ⟨fun W hSW => ?_, hK _ ?_⟩; (focus ((try dsimp only at hSW); go_simp; exact (rfW.Look_any Q n e qs r1 d W (SA.out.1.past hSW).rows))); clear hK K; (try simp only [Act.put, List.setIfInBounds_toArray, List.set_cons_zero, List.set_cons_succ])
      refine ord_take RD 6 (at_list (by rw [HOP.out]; rfl)) HNS.out HPQ.out (by rw [HOP.out]; kernel_rfl) (by rw [HOP.out]; kernel_rfl) (by rw [HOP.out]; rfl) (fun K hK => ?_); apply Exists.intro; refine ⟨fun W hSW => ?_, hK _ ?_⟩; (focus ((try dsimp only at hSW); go_simp; try with_reducible rfl)); clear hK K; (try simp only [Act.put, List.setIfInBounds_toArray, List.set_cons_zero, List.set_cons_succ])
      refine ord_take RD 7 (at_list (by rw [HOP.out]; rfl)) HNS.out HPQ.out (by rw [HOP.out]; kernel_rfl) (by rw [HOP.out]; kernel_rfl) (by rw [HOP.out]; rfl) (fun K hK => ?_); apply Exists.intro; refine ⟨fun W hSW => ?_, hK _ ?_⟩; (focus ((try dsimp only at hSW); go_simp; try with_reducible rfl)); clear hK K; (try simp only [Act.put, List.setIfInBounds_toArray, List.set_cons_zero, List.set_cons_succ])
      refine ord_take RD 8 (at_list (by rw [HOP.out]; rfl)) HNS.out HPQ.out (by rw [HOP.out]; kernel_rfl) (by rw [HOP.out]; kernel_rfl) (by rw [HOP.out]; rfl) (fun K hK => ?_); apply Exists.intro; refine ⟨fun W hSW => ?_, hK _ ?_⟩; (focus ((try dsimp only at hSW); go_simp; try with_reducible rfl)); clear hK K; (try simp only [Act.put, List.setIfInBounds_toArray, List.set_cons_zero, List.set_cons_succ])
      refine ord_take RD 9 (at_list (by rw [HOP.out]; rfl)) HNS.out HPQ.out (by rw [HOP.out]; kernel_rfl) (by rw [HOP.out]; kernel_rfl) (by rw [HOP.out]; rfl) (fun K hK => ?_); apply Exists.intro; refine ⟨fun W hSW => ?_, hK _ ?_⟩; (focus ((try dsimp only at hSW); go_simp; try with_reducible rfl)); clear hK K; (try simp only [Act.put, List.setIfInBounds_toArray, List.set_cons_zero, List.set_cons_succ])
      refine ord_take RD 10 (at_list (by rw [HOP.out]; rfl)) HNS.out HPQ.out (by rw [HOP.out]; kernel_rfl) (by rw [HOP.out]; kernel_rfl) (by rw [HOP.out]; rfl) (fun K hK => ?_); apply Exists.intro; refine ⟨fun W hSW => ?_, hK _ ?_⟩; (focus ((try dsimp only at hSW); go_simp; try with_reducible rfl)); clear hK K; (try simp only [Act.put, List.setIfInBounds_toArray, List.set_cons_zero, List.set_cons_succ])
      refine ord_take RD 11 (at_list (by rw [HOP.out]; rfl)) HNS.out HPQ.out (by rw [HOP.out]; kernel_rfl) (by rw [HOP.out]; kernel_rfl) (by rw [HOP.out]; rfl) (fun K hK => ?_); apply Exists.intro; refine ⟨fun W hSW => ?_, hK _ ?_⟩; (focus ((try dsimp only at hSW); go_simp; try with_reducible rfl)); clear hK K; (try simp only [Act.put, List.setIfInBounds_toArray, List.set_cons_zero, List.set_cons_succ])
      refine ord_take RD 12 (at_list (by rw [HOP.out]; rfl)) HNS.out HPQ.out (by rw [HOP.out]; kernel_rfl) (by rw [HOP.out]; kernel_rfl) (by rw [HOP.out]; rfl) (fun K hK => ?_); apply Exists.intro; refine ⟨fun W hSW => ?_, hK _ ?_⟩; (focus ((try dsimp only at hSW); go_simp; try with_reducible rfl)); clear hK K; (try simp only [Act.put, List.setIfInBounds_toArray, List.set_cons_zero, List.set_cons_succ])
      refine ord_done (by rw [HOP.out]; kernel_rfl) (fun W9 hWW hSW => HN.out _ _ ?_); clear HOP HNS HPQ HN RD; (try dsimp only at hSW)
      have SB : Hid (Lies (W9) (gc) 39 [.int .i64 (r0), .int .i64 (r1), .int .i64 (lookJ (numsY rs) r0 d), .int .i64 (0)] ∧ Lies (W9) (gl) 73 [.int .i32 (lookV (numsY rs) r0 d), .int .i32 (0)] ∧ Lies (W9) (g1) 27 [.int .i64 (r0), .int .i64 (r1)] ∧ Lies (W9) (g2) 39 [.int .i64 (0), .int .i64 (0), .int .i64 (0), .int .i64 (0)] ∧ Below w.heap.size w W9) := Lib.hid ⟨SA.out.2.1.past hSW, SA.out.2.2.1.past hSW, SA.out.2.2.2.1.past hSW, SA.out.2.2.2.2.1.past hSW, below_bs SA.out.2.2.2.2.2 hSW⟩
      clear hSW hWW SA
      obtain ⟨le, hle0⟩ := hle
      have HLE := Lib.hid hle0
      rw [hle0]
      clear hle0
      by_cases hle : le = 0
      · subst hle
        obtain ⟨y0, y1, y2, y3⟩ := SB.out.2.1.two
        have y4 := SB.out.1.cell 3
        have y5 := SB.out.1.free 3
        simp only [List.getElem?_cons_succ, List.getElem?_cons_zero] at y4
        go_wp2_with fail
        have hgg := HGG.out
        have hgl := HGL.out
        have HL4 := (SB.out.1.other (p := ⟨gl, 1, none⟩) (by show gl ≠ gc; omega) (.int .i32 (lookV (numsY qs) r1 d))).set 3 (.int .i64 (lookJ (numsY qs) r1 d))
        have HM2 := (SB.out.2.1.set 1 (.int .i32 (lookV (numsY qs) r1 d))).other (p := ⟨gc, 3, none⟩) (by show gc ≠ gl; omega) (.int .i64 (lookJ (numsY qs) r1 d))
        have HL2 := (SB.out.2.2.1.other (p := ⟨gl, 1, none⟩) (by show gl ≠ g1; omega) (.int .i32 (lookV (numsY qs) r1 d))).other (p := ⟨gc, 3, none⟩) (by show gc ≠ g1; omega) (.int .i64 (lookJ (numsY qs) r1 d))
        have HZ4 := (SB.out.2.2.2.1.other (p := ⟨gl, 1, none⟩) (by show gl ≠ g2; omega) (.int .i32 (lookV (numsY qs) r1 d))).other (p := ⟨gc, 3, none⟩) (by show gc ≠ g2; omega) (.int .i64 (lookJ (numsY qs) r1 d))
        have HBW := (SB.out.2.2.2.2.setCell (p := ⟨gl, 1, none⟩) (by show w.heap.size ≤ gl; omega) (.int .i32 (lookV (numsY qs) r1 d))).setCell (p := ⟨gc, 3, none⟩) (by show w.heap.size ≤ gc; omega) (.int .i64 (lookJ (numsY qs) r1 d))
        exact ⟨⟨.inr (.inr ⟨rfl, HEA.out, HLE.out, HL4, HM2⟩), HL2, HZ4, HBW⟩, by simp [intOf]⟩
      · have HE := Lib.hid (fE_two (r0 := r0) (r1 := r1) (d := d) (p := p) HF.out HEA.out (by rw [HLE.out]; exact hle))
        have HZ := Lib.hid (f_bad (x := numsY rs) (y := numsY qs) (r0 := r0) (r1 := r1) (d := d) (p := p) (by rw [HE.out, HLE.out]; exact hle))
        obtain ⟨f0, f1, f2, f3⟩ := free4 SB.out.2.2.2.1
        obtain ⟨z0, z1, z2, z3⟩ := four SB.out.2.2.2.1
        go_wp2_with fail
        obtain ⟨t0, t1, t2, t3⟩ := four (lies_set4 SB.out.2.2.2.1 (.int .i64 0) (.int .i64 0) (.int .i64 0) (.int .i64 0))
        clear f0 f1 f2 f3 z0 z1 z2 z3
        refine bodyPost_ret (by simp [results, Tryd.results14, go_sem, t0, t1, t2, t3]; try rfl) rfl ?_
        exact ⟨by simp only [HZ.out.1, HZ.out.2]; rw [HE.out, HLE.out], below_set4 SB.out.2.2.2.2 (by have := HGG.out; omega) _ _ _ _⟩
    · have HEA := Lib.hid (And.intro he he2)
      have S8 : Hid (Lies (wr) (gc) 39 [.int .i64 (r0), .int .i64 (r1), .int .i64 (lookJ (numsY rs) r0 d), .int .i64 (lookJ (numsY qs) r1 d)] ∧ Lies (wr) (gl) 73 [.int .i32 (lookV (numsY rs) r0 d), .int .i32 (lookV (numsY qs) r1 d)] ∧ Lies (wr) (g1) 27 [.int .i64 (r0), .int .i64 (r1)] ∧ Lies (wr) (g2) 39 [.int .i64 (0), .int .i64 (0), .int .i64 (0), .int .i64 (0)] ∧ Below w.heap.size w wr) := Lib.hid ⟨hl, hm, HCO.out⟩
      have HE := Lib.hid (fE_join (r0 := r0) (r1 := r1) (d := d) (p := p) HF.out he he2)
      clear he he2 hl hm HCO
      obtain ⟨y0, y1, -, -⟩ := S8.out.2.1.two
      go_wp2_with fail
      refine (Join_any p (lookV (numsY rs) r0 d) (lookV (numsY qs) r1 d) wr).mono ?_
      rintro v wj ⟨rfl, rfl⟩
      clear y0 y1
      cases hj : joinB p (lookV (numsY rs) r0 d) (lookV (numsY qs) r1 d)
      · obtain ⟨j1, j2⟩ := join_no hj
        have HZ := Lib.hid (f_bad (x := numsY rs) (y := numsY qs) (r0 := r0) (r1 := r1) (d := d) (p := p) (by rw [HE.out, j1]; decide))
        have HE2 : Hid (fE (numsY rs) (numsY qs) r0 r1 d p = 2) := Lib.hid (by rw [HE.out, j1])
        rw [j1, j2]
        clear j1 j2 hj
        obtain ⟨f0, f1, f2, f3⟩ := free4 S8.out.2.2.2.1
        obtain ⟨z0, z1, z2, z3⟩ := four S8.out.2.2.2.1
        go_wp2_with fail
        obtain ⟨t0, t1, t2, t3⟩ := four (lies_set4 S8.out.2.2.2.1 (.int .i64 0) (.int .i64 0) (.int .i64 0) (.int .i64 0))
        clear f0 f1 f2 f3 z0 z1 z2 z3
        refine bodyPost_ret (by simp [results, Tryd.results14, go_sem, t0, t1, t2, t3]; try rfl) rfl ?_
        exact ⟨by simp only [HZ.out.1, HZ.out.2, HE2.out], below_set4 S8.out.2.2.2.2 (by have := HGG.out; omega) _ _ _ _⟩
      · obtain ⟨j1, j2⟩ := join_yes hj
        have HE2 : Hid (fE (numsY rs) (numsY qs) r0 r1 d p = 0) := Lib.hid (by rw [HE.out, j1])
        have HZ := Lib.hid (f_ok HE2.out)
        rw [j1, j2]
        clear j1 j2 hj
        generalize joinN p (lookV (numsY rs) r0 d) (lookV (numsY qs) r1 d) = jn at *
        generalize lookV (numsY rs) r0 d = va at *
        generalize lookV (numsY qs) r1 d = vb at *
        go_upto_region 17 with fail
        (have RD := grows_roads (S := fun x' => Below wj.heap.size wj x') (fun a b h1 h2 => below_bs h2 h1)); refine region_ordT 3 _ Grows RD (Below.drew (Below.refl wj.heap.size wj)) (by kernel_rfl) (by decide) ?_; intro ops Q' hops hPQ hN; (have HNS : Hid (Region.noSelect ops = true ∧ Region.sinkB .any ops 3 = true ∧ Region.chainB .any ops 3 = true ∧ 3 < ops.size) := Lib.hid (by rw [hops]; exact ⟨by kernel_rfl, by kernel_rfl, by kernel_rfl, by decide⟩)); (have hsz : ops.size = 5 := (by rw [hops]; rfl)); have HOP := Lib.hid hops; have HPQ := Lib.hid hPQ; have HN := Lib.hid hN; rw [hsz]; clear hops hsz hPQ hN
        refine ordT_take RD 0 (at_list (by rw [HOP.out]; rfl)) HNS.out HPQ.out (by rw [HOP.out]; kernel_rfl) (by rw [HOP.out]; kernel_rfl) (by rw [HOP.out]; rfl) (fun K hK => ?_); apply Exists.intro; refine ⟨fun W hSW => ?_, hK _ ?_⟩; (focus ((try dsimp only at hSW); go_simp; try with_reducible rfl)); clear hK K; (try simp only [Act.put, List.setIfInBounds_toArray, List.set_cons_zero, List.set_cons_succ])
        refine ordT_take RD 1 (at_list (by rw [HOP.out]; rfl)) HNS.out HPQ.out (by rw [HOP.out]; kernel_rfl) (by rw [HOP.out]; kernel_rfl) (by rw [HOP.out]; rfl) (fun K hK => ?_); apply Exists.intro; refine ⟨fun W hSW => ?_, hK _ ?_⟩; (focus ((try dsimp only at hSW); (obtain ⟨z0, z1, z2, z3⟩ := four (S8.out.1.past hSW)); go_simp; try with_reducible rfl)); clear hK K; (try simp only [Act.put, List.setIfInBounds_toArray, List.set_cons_zero, List.set_cons_succ])
        refine ordT_take RD 2 (at_list (by rw [HOP.out]; rfl)) HNS.out HPQ.out (by rw [HOP.out]; kernel_rfl) (by rw [HOP.out]; kernel_rfl) (by rw [HOP.out]; rfl) (fun K hK => ?_); apply Exists.intro; refine ⟨fun W hSW => ?_, hK _ ?_⟩; (focus ((try dsimp only at hSW); go_simp; try with_reducible rfl)); clear hK K; (try simp only [Act.put, List.setIfInBounds_toArray, List.set_cons_zero, List.set_cons_succ])
        refine ordT_end (by rw [HOP.out]; kernel_rfl) (fun W5 hWW hSW => ?_); rw [HOP.out]; simp only [List.drop_succ_cons, List.drop_zero]; have hN := HN.out; clear HOP HNS HPQ HN RD; (try dsimp only at hSW)
        have S9 : Hid (Lies (W5) (g2) 39 [.int .i64 (0), .int .i64 (0), .int .i64 (0), .int .i64 (0)] ∧ Below w.heap.size w W5) := Lib.hid ⟨S8.out.2.2.2.1.past hSW, below_bs S8.out.2.2.2.2 hSW⟩
        clear hSW hWW
        obtain ⟨f0, f1, f2, f3⟩ := free4 S9.out.1
        obtain ⟨z0, z1, z2, z3⟩ := four S9.out.1
        go_wp2_with fail
        obtain ⟨t0, t1, t2, t3⟩ := four (lies_set4 S9.out.1 (.int .i64 r0) (.int .i64 r1) (.int .i64 (lookJ (numsY rs) r0 d)) (.int .i64 (lookJ (numsY qs) r1 d)))
        clear f0 f1 f2 f3 z0 z1 z2 z3
        refine bodyPost_ret (by simp [results, Tryd.results14, go_sem, t0, t1, t2, t3]; try rfl) rfl ?_
        exact ⟨by simp only [HZ.out.1, HZ.out.2, HE2.out], below_set4 S9.out.2 (by have := HGG.out; omega) _ _ _ _⟩
end Go.Proofs.YtdmnaipngcldbaaDoor.fnW
namespace Go.Proofs.YtdmnaipngcldbaaDoor.fnW
set_option maxRecDepth 100000
open Go.RowKit Go.Proofs.YtdmnaipngcldbaaDoor.base Go.Proofs.YtdmnaipngcldbaaDoor.rfP Go.Proofs.YtdmnaipngcldbaaDoor.rfW Go.Proofs.YtdmnaipngcldbaaDoor.fnP Go.Proofs.YtdmnaipngcldbaaDoor.sqP Go.Proofs.YtdmnaipngcldbaaDoor.sqW
set_option linter.unusedVariables false
set_option linter.unusedSimpArgs false
theorem new_256 : newE 256 = 0 := by decide
theorem lies_set2 {w : World} {g : Nat} {t : TypeId} {x0 x1 : Value} (h : Lies w g t [x0, x1]) (a b : Value) : Lies ((w.setCell ⟨g, 0, none⟩ a).setCell ⟨g, 1, none⟩ b) g t [a, b] := (h.set 0 a).set 1 b
theorem below_set2 {w w' : World} {B g : Nat} (h : Below B w w') (hg : B ≤ g) (a b : Value) : Below B w ((w'.setCell ⟨g, 0, none⟩ a).setCell ⟨g, 1, none⟩ b) := (h.setCell hg a).setCell hg b
set_option maxHeartbeats 800000 in
theorem New_any (w : World) (hT : Tab w) :
    Calls Tryd.prog 17 #[] w fun v w' => ∃ A m c rs B n e qs, v = .returned (.agg #[.slice A m c, .slice B n e]) ∧ OwnR w' w.heap.size (.slice A m c) rs ∧ OwnR w' w.heap.size (.slice B n e) qs ∧ numsY rs = newV 256 ∧ numsY qs = newV 256 ∧ Below w.heap.size w w' := by
  have HT := Lib.hid hT
  have S0 : Hid (Lies (w.alloc (.cells #[.slice none 0 0, .slice none 0 0] 26)) w.heap.size 26 [.slice none 0 0, .slice none 0 0] ∧ Below w.heap.size w (w.alloc (.cells #[.slice none 0 0, .slice none 0 0] 26))) := Lib.hid ⟨Lies.fresh _ _ _, by (repeat' (first | (with_reducible exact Below.refl _ _) | (with_reducible assumption) | (with_reducible refine below_drewN ?_ _) | (with_reducible refine below_new ?_ _) | (with_reducible refine Below.alloc ?_ ?_ _) | (with_reducible refine Below.drew ?_) | (with_reducible refine Below.setCell ?_ ?_ _) | (with_reducible apply below_at; (case k => (with_reducible assumption)); (case hB => omega)) | (with_reducible apply below_on; (with_reducible assumption)) | (go_size; done) | (with_reducible apply size_of)))⟩
  clear hT
  go_enter Tryd.func17, Tryd.ntmps17
  go_wp2_with fail
  generalize (w.alloc (.cells #[.slice none 0 0, .slice none 0 0] 26)) = w0 at *
  refine (rfW.New_any 256 w0 (HT.out.below S0.out.2)).mono ?_
  rintro v w1 ⟨A1, n1, d1, q1, rfl, o1, e1, b1⟩
  rw [new_256]
  have E1 := Lib.hid e1
  have S1 : Hid (Lies (w1.alloc (.cells #[.slice A1 n1 d1] 24)) w.heap.size 26 [.slice none 0 0, .slice none 0 0] ∧ RfAt (w1.alloc (.cells #[.slice A1 n1 d1] 24)) w1.heap.size A1 n1 d1 q1 ∧ OwnR (w1.alloc (.cells #[.slice A1 n1 d1] 24)) w.heap.size (.slice A1 n1 d1) q1 ∧ Below w.heap.size w (w1.alloc (.cells #[.slice A1 n1 d1] 24))) := Lib.hid ⟨(S0.out.1.past b1).alloc _, rfAt_new o1.rows, (o1.alloc _).mono S0.out.2.size, below_al (below_bs S0.out.2 b1) _⟩
  clear o1 e1 b1 S0
  go_wp2_with fail
  generalize hw1 : (w1.alloc (.cells #[.slice A1 n1 d1] 24)) = w2 at *
  generalize w1.heap.size = g1 at *
  clear hw1
  refine (rfW.New_any 256 w2 (HT.out.below S1.out.2.2.2)).mono ?_
  rintro v w3 ⟨A2, n2, d2, q2, rfl, o2, e2, b2⟩
  rw [new_256]
  have E2 := Lib.hid e2
  have S2 : Hid (Lies (w3.alloc (.cells #[.slice A2 n2 d2] 24)) w.heap.size 26 [.slice none 0 0, .slice none 0 0] ∧ RfAt (w3.alloc (.cells #[.slice A2 n2 d2] 24)) g1 A1 n1 d1 q1 ∧ OwnR (w3.alloc (.cells #[.slice A2 n2 d2] 24)) w.heap.size (.slice A1 n1 d1) q1 ∧ RfAt (w3.alloc (.cells #[.slice A2 n2 d2] 24)) w3.heap.size A2 n2 d2 q2 ∧ OwnR (w3.alloc (.cells #[.slice A2 n2 d2] 24)) w.heap.size (.slice A2 n2 d2) q2 ∧ Below w.heap.size w (w3.alloc (.cells #[.slice A2 n2 d2] 24))) := Lib.hid ⟨(S1.out.1.past b2).alloc _, (S1.out.2.1.past b2).alloc _, (S1.out.2.2.1.past b2).alloc _, rfAt_new o2.rows, (o2.alloc _).mono S1.out.2.2.2.size, below_al (below_bs S1.out.2.2.2 b2) _⟩
  clear o2 e2 b2 S1
  have x1 := S2.out.2.1.cell
  have x2 := S2.out.2.2.2.1.cell
  obtain ⟨z0, z1, f0, f1⟩ := S2.out.1.two
  go_wp2_with fail
  obtain ⟨t0, t1, -, -⟩ := (lies_set2 S2.out.1 (.slice A1 n1 d1) (.slice A2 n2 d2)).two
  clear x1 x2 z0 z1 f0 f1
  refine bodyPost_ret (by simp [results, Tryd.results17, go_sem, t0, t1]; try rfl) rfl ?_
  exact ⟨_, _, _, q1, _, _, _, q2, rfl, (S2.out.2.2.1.other S2.out.1 (by decide) (by decide) 0 _).other (S2.out.1.set 0 _) (by decide) (by decide) 1 _, (S2.out.2.2.2.2.1.other S2.out.1 (by decide) (by decide) 0 _).other (S2.out.1.set 0 _) (by decide) (by decide) 1 _, E1.out, E2.out, below_set2 S2.out.2.2.2.2.2 (Nat.le_refl _) _ _⟩
set_option maxHeartbeats 800000 in
theorem rNew_any (w : World) :
    Calls Tryd.prog 18 #[] w fun v w' => ∃ A m c rs B n e qs, v = .returned (.agg #[.slice A m c, .slice B n e]) ∧ RowsY w' A m c rs ∧ RowsY w' B n e qs ∧ numsY rs = newV 256 ∧ numsY qs = newV 256 ∧ Below w.heap.size w w' := by
  have S0 : Hid (Lies (w.alloc (.cells #[.slice none 0 0, .slice none 0 0] 26)) w.heap.size 26 [.slice none 0 0, .slice none 0 0] ∧ Below w.heap.size w (w.alloc (.cells #[.slice none 0 0, .slice none 0 0] 26))) := Lib.hid ⟨Lies.fresh _ _ _, by (repeat' (first | (with_reducible exact Below.refl _ _) | (with_reducible assumption) | (with_reducible refine below_drewN ?_ _) | (with_reducible refine below_new ?_ _) | (with_reducible refine Below.alloc ?_ ?_ _) | (with_reducible refine Below.drew ?_) | (with_reducible refine Below.setCell ?_ ?_ _) | (with_reducible apply below_at; (case k => (with_reducible assumption)); (case hB => omega)) | (with_reducible apply below_on; (with_reducible assumption)) | (go_size; done) | (with_reducible apply size_of)))⟩
  go_enter Tryd.func18, Tryd.ntmps18
  go_wp2_with fail
  generalize (w.alloc (.cells #[.slice none 0 0, .slice none 0 0] 26)) = w0 at *
  refine (rfW.rNew_any 256 w0).mono ?_
  rintro v w1 ⟨A1, n1, d1, q1, rfl, o1, e1, b1⟩
  rw [new_256]
  have E1 := Lib.hid e1
  have S1 : Hid (Lies (w1.alloc (.cells #[.slice A1 n1 d1] 24)) w.heap.size 26 [.slice none 0 0, .slice none 0 0] ∧ RfAt (w1.alloc (.cells #[.slice A1 n1 d1] 24)) w1.heap.size A1 n1 d1 q1 ∧ OwnR (w1.alloc (.cells #[.slice A1 n1 d1] 24)) w.heap.size (.slice A1 n1 d1) q1 ∧ Below w.heap.size w (w1.alloc (.cells #[.slice A1 n1 d1] 24))) := Lib.hid ⟨(S0.out.1.past b1).alloc _, rfAt_new o1.rows, (o1.alloc _).mono S0.out.2.size, below_al (below_bs S0.out.2 b1) _⟩
  clear o1 e1 b1 S0
  go_wp2_with fail
  generalize hw1 : (w1.alloc (.cells #[.slice A1 n1 d1] 24)) = w2 at *
  generalize w1.heap.size = g1 at *
  clear hw1
  refine (rfW.rNew_any 256 w2).mono ?_
  rintro v w3 ⟨A2, n2, d2, q2, rfl, o2, e2, b2⟩
  rw [new_256]
  have E2 := Lib.hid e2
  have S2 : Hid (Lies (w3.alloc (.cells #[.slice A2 n2 d2] 24)) w.heap.size 26 [.slice none 0 0, .slice none 0 0] ∧ RfAt (w3.alloc (.cells #[.slice A2 n2 d2] 24)) g1 A1 n1 d1 q1 ∧ OwnR (w3.alloc (.cells #[.slice A2 n2 d2] 24)) w.heap.size (.slice A1 n1 d1) q1 ∧ RfAt (w3.alloc (.cells #[.slice A2 n2 d2] 24)) w3.heap.size A2 n2 d2 q2 ∧ OwnR (w3.alloc (.cells #[.slice A2 n2 d2] 24)) w.heap.size (.slice A2 n2 d2) q2 ∧ Below w.heap.size w (w3.alloc (.cells #[.slice A2 n2 d2] 24))) := Lib.hid ⟨(S1.out.1.past b2).alloc _, (S1.out.2.1.past b2).alloc _, (S1.out.2.2.1.past b2).alloc _, rfAt_new o2.rows, (o2.alloc _).mono S1.out.2.2.2.size, below_al (below_bs S1.out.2.2.2 b2) _⟩
  clear o2 e2 b2 S1
  have x1 := S2.out.2.1.cell
  have x2 := S2.out.2.2.2.1.cell
  obtain ⟨z0, z1, f0, f1⟩ := S2.out.1.two
  go_wp2_with fail
  obtain ⟨t0, t1, -, -⟩ := (lies_set2 S2.out.1 (.slice A1 n1 d1) (.slice A2 n2 d2)).two
  clear x1 x2 z0 z1 f0 f1
  refine bodyPost_ret (by simp [results, Tryd.results18, go_sem, t0, t1]; try rfl) rfl ?_
  exact ⟨_, _, _, q1, _, _, _, q2, rfl, ((S2.out.2.2.1.other S2.out.1 (by decide) (by decide) 0 _).other (S2.out.1.set 0 _) (by decide) (by decide) 1 _).rows, ((S2.out.2.2.2.2.1.other S2.out.1 (by decide) (by decide) 0 _).other (S2.out.1.set 0 _) (by decide) (by decide) 1 _).rows, E1.out, E2.out, below_set2 S2.out.2.2.2.2.2 (Nat.le_refl _) _ _⟩
end Go.Proofs.YtdmnaipngcldbaaDoor.fnW
