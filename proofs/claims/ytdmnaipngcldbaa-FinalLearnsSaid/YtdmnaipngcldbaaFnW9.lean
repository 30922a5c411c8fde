/- Learning of the reference in both maps; copies: walks. -/
import Derived.Test.YtdmnaipngcldbaaFnW8
namespace Go.Proofs.Ytdmnaipngcldbaa.fnW
set_option maxRecDepth 100000
open Go.RowKit Go.Proofs.Ytdmnaipngcldbaa.base Go.Proofs.Ytdmnaipngcldbaa.rfP Go.Proofs.Ytdmnaipngcldbaa.rfW Go.Proofs.Ytdmnaipngcldbaa.fnP
set_option linter.unusedVariables false
set_option linter.unusedSimpArgs false
set_option maxHeartbeats 1500000 in
theorem rLearn_any (P : Option Addr) (m c : Nat) (rs : List RY) (Q : Option Addr) (n e : Nat) (qs : List RY) (r0 r1 j0 j1 : Int) (bit : Bool) (w : World) (h : RowsY w P m c rs) (h' : RowsY w Q n e qs) :
    Calls Try.prog 7 #[.agg #[.slice P m c, .slice Q n e], .agg #[.int .i64 r0, .int .i64 r1, .int .i64 j0, .int .i64 j1], .bool bit] w fun v w' => ∃ A k d us B l f vs, v = .returned (.tuple #[.agg #[.slice A k d, .slice B l f], .int .i64 (gE (numsY rs) (numsY qs) r0 r1 j0 j1)]) ∧ OwnR w' w.heap.size (.slice A k d) us ∧ OwnR w' w.heap.size (.slice B l f) vs ∧ numsY us = gX (numsY rs) (numsY qs) r0 r1 j0 j1 bit ∧ numsY vs = gY (numsY rs) (numsY qs) r0 r1 j0 j1 bit ∧ Below w.heap.size w w' := by
  have S0 : Hid (FnAt (((w.alloc (.cells #[.slice P m c, .slice Q n e] 26)).alloc (.cells #[.int .i64 r0, .int .i64 r1, .int .i64 j0, .int .i64 j1] 29)).alloc (.cells #[.slice none 0 0, .slice none 0 0] 26)) w.heap.size P m c rs Q n e qs ∧ Lies ((((w.alloc (.cells #[.slice P m c, .slice Q n e] 26)).alloc (.cells #[.int .i64 r0, .int .i64 r1, .int .i64 j0, .int .i64 j1] 29)).alloc (.cells #[.slice none 0 0, .slice none 0 0] 26))) (w.heap.size + 1) 29 [.int .i64 (r0), .int .i64 (r1), .int .i64 (j0), .int .i64 (j1)] ∧ Lies ((((w.alloc (.cells #[.slice P m c, .slice Q n e] 26)).alloc (.cells #[.int .i64 r0, .int .i64 r1, .int .i64 j0, .int .i64 j1] 29)).alloc (.cells #[.slice none 0 0, .slice none 0 0] 26))) (w.heap.size + 2) 26 [.slice none 0 0, .slice none 0 0] ∧ Below w.heap.size w (((w.alloc (.cells #[.slice P m c, .slice Q n e] 26)).alloc (.cells #[.int .i64 r0, .int .i64 r1, .int .i64 j0, .int .i64 j1] 29)).alloc (.cells #[.slice none 0 0, .slice none 0 0] 26)) ∧ w.heap.size < w.heap.size + 1 ∧ w.heap.size + 1 < w.heap.size + 2) := Lib.hid ⟨((fnAt_new h h').alloc _).alloc _, (Lies.fresh_at (cs := [.int .i64 r0, .int .i64 r1, .int .i64 j0, .int .i64 j1]) (by simp)).alloc _, Lies.fresh_at (cs := [.slice none 0 0, .slice none 0 0]) (by simp), by (repeat' (first | (with_reducible exact Below.refl _ _) | (with_reducible assumption) | (with_reducible refine below_drewN ?_ _) | (with_reducible refine below_new ?_ _) | (with_reducible refine Below.alloc ?_ ?_ _) | (with_reducible refine Below.drew ?_) | (with_reducible refine Below.setCell ?_ ?_ _) | (with_reducible apply below_at; (case k => (with_reducible assumption)); (case hB => omega)) | (with_reducible apply below_on; (with_reducible assumption)) | (go_size; done) | (with_reducible apply size_of))), by omega, by omega⟩
  clear h h'
  go_enter Try.func7, Try.ntmps7
  go_wp2_with fail
  generalize hw0 : (((w.alloc (.cells #[.slice P m c, .slice Q n e] 26)).alloc (.cells #[.int .i64 r0, .int .i64 r1, .int .i64 j0, .int .i64 j1] 29)).alloc (.cells #[.slice none 0 0, .slice none 0 0] 26)) = w0 at *
  generalize w.heap.size + 2 = g2 at *
  generalize w.heap.size + 1 = g1 at *
  clear hw0
  refine (rCheck_any P m c rs Q n e qs w0 S0.out.1.r1 S0.out.1.r2).mono ?_
  rintro v w1 ⟨rfl, b1⟩
  have S1 : Hid (FnAt w1 w.heap.size P m c rs Q n e qs ∧ Lies (w1) (g1) 29 [.int .i64 (r0), .int .i64 (r1), .int .i64 (j0), .int .i64 (j1)] ∧ Lies (w1) (g2) 26 [.slice none 0 0, .slice none 0 0] ∧ Below w.heap.size w w1 ∧ w.heap.size < g1 ∧ g1 < g2) := Lib.hid ⟨S0.out.1.past b1, S0.out.2.1.past b1, S0.out.2.2.1.past b1, below_bs S0.out.2.2.2.1 b1, S0.out.2.2.2.2⟩
  clear b1 S0
  cases hf : fnB (numsY rs) (numsY qs)
  · have HE := Lib.hid (gE_no (r0 := r0) (r1 := r1) (j0 := j0) (j1 := j1) hf)
    have HZ := Lib.hid (g_bad (x := numsY rs) (y := numsY qs) (r0 := r0) (r1 := r1) (j0 := j0) (j1 := j1) (bit := bit) (by rw [HE.out]; decide))
    have HF := Lib.hid hf
    rw [fnE_no hf]
    clear hf
    have x0 := S1.out.1.c0
    have x1 := S1.out.1.c1
    go_wp2_with fail
    clear x0 x1
    refine (rCheck_any P m c rs Q n e qs w1 S1.out.1.r1 S1.out.1.r2).mono ?_
    rintro v w2 ⟨rfl, b2⟩
    rw [fnE_no HF.out]
    have S2 : Hid (Lies (w2) (g2) 26 [.slice none 0 0, .slice none 0 0] ∧ Below w.heap.size w w2) := Lib.hid ⟨S1.out.2.2.1.past b2, below_bs S1.out.2.2.2.1 b2⟩
    clear b2
    obtain ⟨z0, z1, f0, f1⟩ := S2.out.1.two
    go_wp2_with fail
    obtain ⟨t0, t1, -, -⟩ := (lies_set2 S2.out.1 (.slice none 0 0) (.slice none 0 0)).two
    clear z0 z1 f0 f1
    refine bodyPost_ret (by simp [results, Try.results7, go_sem, t0, t1]; try rfl) rfl ?_
    exact ⟨_, _, _, [], _, _, _, [], by rw [HE.out], OwnR.nil _ _, OwnR.nil _ _, HZ.out.1.symm, HZ.out.2.symm, below_set2 S2.out.2 (by have := S1.out.2.2.2.2; omega) _ _⟩
  have HF := Lib.hid hf
  rw [fnE_yes hf]
  clear hf
  obtain ⟨c0, c1, c2, c3⟩ := four S1.out.2.1
  go_wp2_with fail
  clear c0 c1 c2 c3
  refine (Chosen_any r0 r1 j0 j1 w1).mono ?_
  rintro v w2 ⟨rfl, b2⟩
  have S2 : Hid (FnAt w2 w.heap.size P m c rs Q n e qs ∧ Lies (w2) (g1) 29 [.int .i64 (r0), .int .i64 (r1), .int .i64 (j0), .int .i64 (j1)] ∧ Lies (w2) (g2) 26 [.slice none 0 0, .slice none 0 0] ∧ Below w.heap.size w w2 ∧ w.heap.size < g1 ∧ g1 < g2) := Lib.hid ⟨S1.out.1.past b2, S1.out.2.1.past b2, S1.out.2.2.1.past b2, below_bs S1.out.2.2.2.1 b2, S1.out.2.2.2.2⟩
  clear b2 S1
  cases hc : chB r0 r1 j0 j1
  · have HE := Lib.hid (ch_no (r0 := r0) (r1 := r1) (j0 := j0) (j1 := j1) HF.out hc)
    have HZ := Lib.hid (g_bad (x := numsY rs) (y := numsY qs) (r0 := r0) (r1 := r1) (j0 := j0) (j1 := j1) (bit := bit) (by rw [HE.out]; decide))
    clear hc
    obtain ⟨z0, z1, f0, f1⟩ := S2.out.2.2.1.two
    go_wp2_with fail
    obtain ⟨t0, t1, -, -⟩ := (lies_set2 S2.out.2.2.1 (.slice none 0 0) (.slice none 0 0)).two
    clear z0 z1 f0 f1
    refine bodyPost_ret (by simp [results, Try.results7, go_sem, t0, t1]; try rfl) rfl ?_
    exact ⟨_, _, _, [], _, _, _, [], by rw [HE.out], OwnR.nil _ _, OwnR.nil _ _, HZ.out.1.symm, HZ.out.2.symm, below_set2 S2.out.2.2.2.1 (by have := S2.out.2.2.2.2; omega) _ _⟩
  obtain ⟨h1, h2, h3⟩ := ch_yes (r0 := r0) (r1 := r1) (j0 := j0) (j1 := j1) HF.out hc
  have HE := Lib.hid h3
  have HL := Lib.hid (And.intro h1 h2)
  have HZ := Lib.hid (g_ok (x := numsY rs) (y := numsY qs) (r0 := r0) (r1 := r1) (j0 := j0) (j1 := j1) (bit := bit) h3)
  clear h1 h2 h3 hc
  obtain ⟨c0, c1, c2, c3⟩ := four S2.out.2.1
  have x0 := S2.out.1.c0
  go_wp2_with fail
  clear c0 c1 c2 c3 x0
  refine (rfW.rLearn_any P m c rs r0 j0 bit w2 S2.out.1.r1).mono ?_
  rintro v v2 ⟨A1, n1, d1, q1, rfl, o1, e1, b1⟩
  rw [HL.out.1]
  have E1 := Lib.hid e1
  have S3 : Hid (FnAt (v2.alloc (.cells #[.slice A1 n1 d1] 24)) w.heap.size P m c rs Q n e qs ∧ Lies ((v2.alloc (.cells #[.slice A1 n1 d1] 24))) (g1) 29 [.int .i64 (r0), .int .i64 (r1), .int .i64 (j0), .int .i64 (j1)] ∧ Lies ((v2.alloc (.cells #[.slice A1 n1 d1] 24))) (g2) 26 [.slice none 0 0, .slice none 0 0] ∧ RfAt (v2.alloc (.cells #[.slice A1 n1 d1] 24)) v2.heap.size A1 n1 d1 q1 ∧ OwnR (v2.alloc (.cells #[.slice A1 n1 d1] 24)) w.heap.size (.slice A1 n1 d1) q1 ∧ Below w.heap.size w (v2.alloc (.cells #[.slice A1 n1 d1] 24))) := Lib.hid ⟨(S2.out.1.past b1).alloc _, (S2.out.2.1.past b1).alloc _, (S2.out.2.2.1.past b1).alloc _, rfAt_new o1.rows, (o1.alloc _).mono S2.out.2.2.2.1.size, below_al (below_bs S2.out.2.2.2.1 b1) _⟩
  have HGG : Hid (w.heap.size < g1 ∧ g1 < g2) := Lib.hid S2.out.2.2.2.2
  clear o1 e1 b1 S2
  go_upto_region 6 with fail
  generalize hw1 : (v2.alloc (.cells #[.slice A1 n1 d1] 24)) = w3 at *
  generalize v2.heap.size = g3 at *
  clear hw1
  obtain ⟨c0, c1, c2, c3⟩ := four S3.out.2.1
  have x1 := S3.out.1.c1
  go_wp2_with fail
  clear c0 c1 c2 c3 x1
  refine (rfW.rLearn_any Q n e qs r1 j1 bit w3 S3.out.1.r2).mono ?_
  rintro v v3 ⟨A2, n2, d2, q2, rfl, o2, e2, b2⟩
  rw [HL.out.2]
  have E2 := Lib.hid e2
  have S4 : Hid (Lies ((v3.alloc (.cells #[.slice A2 n2 d2] 24))) (g2) 26 [.slice none 0 0, .slice none 0 0] ∧ RfAt (v3.alloc (.cells #[.slice A2 n2 d2] 24)) g3 A1 n1 d1 q1 ∧ OwnR (v3.alloc (.cells #[.slice A2 n2 d2] 24)) w.heap.size (.slice A1 n1 d1) q1 ∧ RfAt (v3.alloc (.cells #[.slice A2 n2 d2] 24)) v3.heap.size A2 n2 d2 q2 ∧ OwnR (v3.alloc (.cells #[.slice A2 n2 d2] 24)) w.heap.size (.slice A2 n2 d2) q2 ∧ Below w.heap.size w (v3.alloc (.cells #[.slice A2 n2 d2] 24))) := Lib.hid ⟨(S3.out.2.2.1.past b2).alloc _, (S3.out.2.2.2.1.past b2).alloc _, (S3.out.2.2.2.2.1.past b2).alloc _, rfAt_new o2.rows, (o2.alloc _).mono S3.out.2.2.2.2.2.size, below_al (below_bs S3.out.2.2.2.2.2 b2) _⟩
  clear o2 e2 b2 S3
  go_upto_region 7 with fail
  generalize hw3 : (v3.alloc (.cells #[.slice A2 n2 d2] 24)) = w4 at *
  generalize v3.heap.size = g4 at *
  clear hw3
  obtain ⟨z0, z1, f0, f1⟩ := S4.out.1.two
  have x0 := S4.out.2.1.cell
  have x1 := S4.out.2.2.2.1.cell
  go_wp2_with fail
  obtain ⟨t0, t1, -, -⟩ := (lies_set2 S4.out.1 (.slice A1 n1 d1) (.slice A2 n2 d2)).two
  clear z0 z1 f0 f1 x0 x1
  refine bodyPost_ret (by simp [results, Try.results7, go_sem, t0, t1]; try rfl) rfl ?_
  exact ⟨_, _, _, q1, _, _, _, q2, by rw [HE.out], (S4.out.2.2.1.other S4.out.1 (by decide) (by decide) 0 _).other (S4.out.1.set 0 _) (by decide) (by decide) 1 _, (S4.out.2.2.2.2.1.other S4.out.1 (by decide) (by decide) 0 _).other (S4.out.1.set 0 _) (by decide) (by decide) 1 _, by rw [HZ.out.1, E1.out], by rw [HZ.out.2, E2.out], below_set2 S4.out.2.2.2.2.2 (by have := HGG.out; omega) _ _⟩
set_option maxHeartbeats 1500000 in
theorem Twin_any (P : Option Addr) (m c : Nat) (rs : List RY) (Q : Option Addr) (n e : Nat) (qs : List RY) (w : World) (h : RowsY w P m c rs) (h' : RowsY w Q n e qs) (hg : greatB (numsY rs) = false) (hg' : greatB (numsY qs) = false) :
    Calls Try.prog 5 #[.agg #[.slice P m c, .slice Q n e]] w fun v w' => ∃ A d us B f vs, v = .returned (.agg #[.slice A m d, .slice B n f]) ∧ OwnR w' w.heap.size (.slice A m d) us ∧ OwnR w' w.heap.size (.slice B n f) vs ∧ numsY us = numsY rs ∧ numsY vs = numsY qs ∧ Below w.heap.size w w' := by
  have H := Lib.hid (And.intro h (And.intro h' (And.intro hg hg')))
  have S0 : Hid (Lies ((w.alloc (.cells #[.slice P m c, .slice Q n e] 26)).alloc (.cells #[.slice none 0 0, .slice none 0 0] 26)) w.heap.size 26 [.slice P m c, .slice Q n e] ∧ (∃ a b, Lies ((w.alloc (.cells #[.slice P m c, .slice Q n e] 26)).alloc (.cells #[.slice none 0 0, .slice none 0 0] 26)) (w.heap.size + 1) 26 [a, b]) ∧ Below w.heap.size w ((w.alloc (.cells #[.slice P m c, .slice Q n e] 26)).alloc (.cells #[.slice none 0 0, .slice none 0 0] 26)) ∧ w.heap.size < w.heap.size + 1) := Lib.hid ⟨(Lies.fresh w 26 [.slice P m c, .slice Q n e]).alloc _, ⟨_, _, Lies.fresh_at (cs := [.slice none 0 0, .slice none 0 0]) (by simp)⟩, by (repeat' (first | (with_reducible exact Below.refl _ _) | (with_reducible assumption) | (with_reducible refine below_drewN ?_ _) | (with_reducible refine below_new ?_ _) | (with_reducible refine Below.alloc ?_ ?_ _) | (with_reducible refine Below.drew ?_) | (with_reducible refine Below.setCell ?_ ?_ _) | (with_reducible apply below_at; (case k => (with_reducible assumption)); (case hB => omega)) | (with_reducible apply below_on; (with_reducible assumption)) | (go_size; done) | (with_reducible apply size_of))), by omega⟩
  clear h h' hg hg'
  go_enter Try.func5, Try.ntmps5
  go_wp2_with fail
  generalize hw0 : ((w.alloc (.cells #[.slice P m c, .slice Q n e] 26)).alloc (.cells #[.slice none 0 0, .slice none 0 0] 26)) = w0 at *
  generalize w.heap.size + 1 = g2 at *
  clear hw0
  go_cut [] (fun wx => ∃ A d us B f vs, Lies wx g2 26 [.slice A m d, .slice B n f] ∧ OwnR wx w.heap.size (.slice A m d) us ∧ OwnR wx w.heap.size (.slice B n f) vs ∧ numsY us = numsY rs ∧ numsY vs = numsY qs ∧ Below w.heap.size w wx)
  case first =>
    (have RD := grows_roads (S := fun x' => Lies x' w.heap.size 26 [.slice P m c, .slice Q n e] ∧ (∃ a b, Lies x' g2 26 [a, b]) ∧ Below w.heap.size w x') (fun a b h1 h2 => ⟨h2.1.past h1, h2.2.1.elim fun a h => h.elim fun b h => ⟨a, b, h.past h1⟩, below_bs h2.2.2 h1⟩)); refine region_ord _ Grows RD (by have d0 := Below.drew (Below.refl w0.heap.size w0); exact ⟨S0.out.1.past d0, S0.out.2.1.elim fun a h => h.elim fun b h => ⟨a, b, h.past d0⟩, below_bs S0.out.2.2.1 d0⟩) (by kernel_rfl) ?_; intro ops Q' hops hPQ hN; (have HNS : Hid (Region.noSelect ops = true) := Lib.hid (by rw [hops]; kernel_rfl)); (have hsz : ops.size = 8 := (by rw [hops]; rfl)); have HOP := Lib.hid hops; have HPQ := Lib.hid hPQ; have HN := Lib.hid hN; rw [hsz]; clear hops hsz hPQ hN
    refine ord_take RD 0 (at_list (by rw [HOP.out]; rfl)) HNS.out HPQ.out (by rw [HOP.out]; kernel_rfl) (by rw [HOP.out]; kernel_rfl) (by rw [HOP.out]; rfl) (fun K hK => ?_); apply Exists.intro; refine ⟨fun W hSW => ?_, hK _ ?_⟩; (focus ((try dsimp only at hSW); go_simp; try with_reducible rfl)); clear hK K; (try simp only [Act.put, List.setIfInBounds_toArray, List.set_cons_zero, List.set_cons_succ])
    refine ord_take RD 1 (at_list (by rw [HOP.out]; rfl)) HNS.out HPQ.out (by rw [HOP.out]; kernel_rfl) (by rw [HOP.out]; kernel_rfl) (by rw [HOP.out]; rfl) (fun K hK => ?_); apply Exists.intro; refine ⟨fun W hSW => ?_, hK _ ?_⟩; (focus ((try dsimp only at hSW); (obtain ⟨z1, z2, -, -⟩ := hSW.1.two); go_simp; try with_reducible rfl)); clear hK K; (try simp only [Act.put, List.setIfInBounds_toArray, List.set_cons_zero, List.set_cons_succ])
    refine ord_take RD 3 (at_list (by rw [HOP.out]; rfl)) HNS.out HPQ.out (by rw [HOP.out]; kernel_rfl) (by rw [HOP.out]; kernel_rfl) (by rw [HOP.out]; rfl) (fun K hK => ?_); apply Exists.intro; refine ⟨fun W hSW => ?_, hK _ ?_⟩; (focus ((try dsimp only at hSW); go_simp; try with_reducible rfl)); clear hK K; (try simp only [Act.put, List.setIfInBounds_toArray, List.set_cons_zero, List.set_cons_succ])
    refine ord_take RD 4 (at_list (by rw [HOP.out]; rfl)) HNS.out HPQ.out (by rw [HOP.out]; kernel_rfl) (by rw [HOP.out]; kernel_rfl) (by rw [HOP.out]; rfl) (fun K hK => ?_); apply Exists.intro; refine ⟨fun W hSW => ?_, hK _ ?_⟩; (focus ((try dsimp only at hSW); (obtain ⟨z1, z2, -, -⟩ := hSW.1.two); go_simp; try with_reducible rfl)); clear hK K; (try simp only [Act.put, List.setIfInBounds_toArray, List.set_cons_zero, List.set_cons_succ])
    refine ord_one RD 2 (by rw [HOP.out]; kernel_rfl) (at_list (by rw [HOP.out]; rfl)) (by rw [HOP.out]; rfl) (fun W hWW hSW K hK => ?_); (try dsimp only at hSW)
    go_simp
    refine (rfW.twin17_any P m c rs W (H.out.1.past hSW.2.2) H.out.2.2.1).mono ?_
    rintro v w3 ⟨A, d, us, rfl, o3, e3, b3⟩
    have E3 := Lib.hid e3
    refine hK _ _ (RD.keep b3 hSW) ?_
    have H3 : Hid (OwnR w3 w.heap.size (.slice A m d) us) := Lib.hid (o3.mono hSW.2.2.size)
    clear o3 e3 b3 hSW hWW
    clear hK K; (try simp only [Act.put, List.setIfInBounds_toArray, List.set_cons_zero, List.set_cons_succ])
    refine ord_one RD 5 (by rw [HOP.out]; kernel_rfl) (at_list (by rw [HOP.out]; rfl)) (by rw [HOP.out]; rfl) (fun W4 hWW hSW K hK => ?_); (try dsimp only at hSW)
    go_simp
    refine (rfW.twin17_any Q n e qs W4 (H.out.2.1.past hSW.2.2) H.out.2.2.2).mono ?_
    rintro v w5 ⟨B, f, vs, rfl, o5, e5, b5⟩
    have E5 := Lib.hid e5
    refine hK _ _ (RD.keep b5 hSW) ?_
    have H5 : Hid (OwnR w5 w.heap.size (.slice A m d) us ∧ OwnR w5 w.heap.size (.slice B n f) vs) := Lib.hid ⟨(H3.out.past hWW).past b5, o5.mono hSW.2.2.size⟩
    clear o5 e5 b5 hSW hWW
    clear hK K; (try simp only [Act.put, List.setIfInBounds_toArray, List.set_cons_zero, List.set_cons_succ])
    refine ord_take RD 6 (at_list (by rw [HOP.out]; rfl)) HNS.out HPQ.out (by rw [HOP.out]; kernel_rfl) (by rw [HOP.out]; kernel_rfl) (by rw [HOP.out]; rfl) (fun K hK => ?_); apply Exists.intro; refine ⟨fun W hSW => ?_, hK _ ?_⟩; (focus ((try dsimp only at hSW); go_simp; try with_reducible rfl)); clear hK K; (try simp only [Act.put, List.setIfInBounds_toArray, List.set_cons_zero, List.set_cons_succ])
    refine ord_one RD 7 (by rw [HOP.out]; kernel_rfl) (at_list (by rw [HOP.out]; rfl)) (by rw [HOP.out]; rfl) (fun W6 hWW hSW K hK => ?_); (try dsimp only at hSW)
    have H6 : Hid (OwnR W6 w.heap.size (.slice A m d) us ∧ OwnR W6 w.heap.size (.slice B n f) vs ∧ Below w.heap.size w W6 ∧ Lies W6 w.heap.size 26 [.slice P m c, .slice Q n e]) := Lib.hid ⟨H5.out.1.past hWW, H5.out.2.past hWW, hSW.2.2, hSW.1⟩
    obtain ⟨a6, b6, hl6⟩ := hSW.2.1
    have HL6 := Lib.hid hl6
    obtain ⟨z0, z1, f0, f1⟩ := hl6.two
    clear hl6 hSW
    go_simp
    have hne : g2 ≠ w.heap.size := by have := S0.out.2.2.2; omega
    have hle : w.heap.size ≤ g2 := by have := S0.out.2.2.2; omega
    refine hK _ _ ⟨(H6.out.2.2.2.other (p := ⟨g2, 0, none⟩) hne _).other (p := ⟨g2, 1, none⟩) hne _, ⟨_, _, lies_set2 HL6.out (.slice A m d) (.slice B n f)⟩, below_set2 H6.out.2.2.1 hle _ _⟩ ?_
    have H7 : Hid (Lies ((W6.setCell ⟨g2, 0, none⟩ (.slice A m d)).setCell ⟨g2, 1, none⟩ (.slice B n f)) g2 26 [.slice A m d, .slice B n f] ∧ OwnR ((W6.setCell ⟨g2, 0, none⟩ (.slice A m d)).setCell ⟨g2, 1, none⟩ (.slice B n f)) w.heap.size (.slice A m d) us ∧ OwnR ((W6.setCell ⟨g2, 0, none⟩ (.slice A m d)).setCell ⟨g2, 1, none⟩ (.slice B n f)) w.heap.size (.slice B n f) vs) := Lib.hid ⟨lies_set2 HL6.out _ _, (H6.out.1.other HL6.out (by decide) (by decide) 0 _).other (HL6.out.set 0 _) (by decide) (by decide) 1 _, (H6.out.2.1.other HL6.out (by decide) (by decide) 0 _).other (HL6.out.set 0 _) (by decide) (by decide) 1 _⟩
    clear z0 z1 f0 f1 hWW
    clear hK K; (try simp only [Act.put, List.setIfInBounds_toArray, List.set_cons_zero, List.set_cons_succ])
    generalize ((W6.setCell ⟨g2, 0, none⟩ (.slice A m d)).setCell ⟨g2, 1, none⟩ (.slice B n f)) = w7 at *
    refine ord_done (by rw [HOP.out]; kernel_rfl) (fun W8 hWW hSW => HN.out _ _ ?_); clear HOP HNS HPQ HN RD; (try dsimp only at hSW)
    have HF := Lib.hid (And.intro (H7.out.1.past hWW) (And.intro (H7.out.2.1.past hWW) (And.intro (H7.out.2.2.past hWW) hSW.2.2)))
    clear hSW hWW
    go_wp2_with fail
    go_meet
    exact ⟨A, d, us, B, f, vs, HF.out.1, HF.out.2.1, HF.out.2.2.1, E3.out, E5.out, HF.out.2.2.2⟩
  case rest =>
    rename World => W6
    obtain ⟨A, d, us, B, f, vs, hl, ho1, ho2, e1, e2, hb⟩ := hcut
    obtain ⟨t0, t1, -, -⟩ := hl.two
    go_wp2_with fail
    refine bodyPost_ret (by simp [results, Try.results5, go_sem, t0, t1]; try rfl) rfl ?_
    exact ⟨A, d, us, B, f, vs, rfl, ho1, ho2, e1, e2, hb⟩
end Go.Proofs.Ytdmnaipngcldbaa.fnW
