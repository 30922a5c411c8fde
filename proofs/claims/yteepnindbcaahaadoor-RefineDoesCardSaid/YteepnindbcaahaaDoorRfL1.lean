/- RefineDoes, by a walk. -/
import Derived.Test.YteepnindbcaahaaDoorRfA1
namespace Go.Proofs.YteepnindbcaahaaDoor.rfL
set_option maxRecDepth 100000
open Go.RowKit Go.Proofs.YteepnindbcaahaaDoor.base Go.Proofs.YteepnindbcaahaaDoor.rfP Go.Proofs.YteepnindbcaahaaDoor.rfW Go.Proofs.YteepnindbcaahaaDoor.sqP Go.Proofs.YteepnindbcaahaaDoor.sqW
set_option linter.unusedVariables false
set_option linter.unusedSimpArgs false
theorem same_yes {rs qs : List RY} {l : List (List Int)} (h : numsY rs = l) (h' : numsY qs = l) : decide (numsY rs = numsY qs) = true := by rw [h, h']; exact decide_eq_true rfl
set_option maxHeartbeats 1500000 in
theorem does (n : Int) (P : Option Addr) (m c : Nat) (rs : List RY) (row d near : Int) (bit : Bool) (w : World) (h : RowsY w P m c rs) (hT : Tab w) :
    Calls Tryd.prog 3 #[.int .i64 n, .agg #[.slice P m c], .int .i64 row, .int .i32 d, .int .i64 near, .bool bit] w fun e w' => e = .returned (.bool true) ∧ Below w.heap.size w w' := by
  have HT := Lib.hid hT
  have H := Lib.hid h
  clear h hT
  go_enter Tryd.func3, Tryd.ntmps3
  go_wp2_with fail
  have S0 : Hid (RfAt (w.alloc (.cells #[.slice P m c] 24)) w.heap.size P m c rs ∧ Below w.heap.size w (w.alloc (.cells #[.slice P m c] 24))) := Lib.hid ⟨rfAt_new H.out, by (repeat' (first | (with_reducible exact Below.refl _ _) | (with_reducible assumption) | (with_reducible refine below_drewN ?_ _) | (with_reducible refine below_new ?_ _) | (with_reducible refine Below.alloc ?_ ?_ _) | (with_reducible refine Below.drew ?_) | (with_reducible refine Below.setCell ?_ ?_ _) | (with_reducible apply below_at; (case k => (with_reducible assumption)); (case hB => omega)) | (with_reducible apply below_on; (with_reducible assumption)) | (go_size; done) | (with_reducible apply size_of)))⟩
  generalize hw0 : w.alloc (.cells #[.slice P m c] 24) = w0 at *
  clear hw0
  refine (Great_any P m c rs w0 S0.out.1.rows).mono ?_
  rintro e wx ⟨rfl, rfl⟩
  cases hg : greatB (numsY rs)
  case true =>
    go_wp2_with fail
    go_ret
    exact ⟨rfl, S0.out.2⟩
  have HG := Lib.hid hg
  clear hg
  have x1 := S0.out.1.cell
  go_wp2_with fail
  clear x1
  refine (twin17_any P m c rs _ S0.out.1.rows HG.out).mono ?_
  rintro e v1 ⟨A1, q1, rs1, rfl, o1, e1, b1⟩
  have E1 := Lib.hid e1
  have S1 : Hid (RfAt (v1.alloc (.cells #[.slice A1 m q1] 24)) w.heap.size P m c rs ∧ RfAt (v1.alloc (.cells #[.slice A1 m q1] 24)) v1.heap.size A1 m q1 rs1 ∧ Below w.heap.size w (v1.alloc (.cells #[.slice A1 m q1] 24))) := Lib.hid ⟨(S0.out.1.past b1).alloc _, rfAt_new o1.rows, below_al (below_bs S0.out.2 b1) _⟩
  clear o1 e1 b1 S0
  go_wp2_with fail
  generalize hw1 : (v1.alloc (.cells #[.slice A1 m q1] 24)) = w1 at *
  generalize v1.heap.size = g1 at *
  clear hw1
  refine (New_any n _ (HT.out.below S1.out.2.2)).mono ?_
  rintro e v2 ⟨A2, n2, q2, rs2, rfl, o2, e2, b2⟩
  have E2 := Lib.hid e2
  have S2 : Hid (RfAt (v2.alloc (.cells #[.slice A2 n2 q2] 24)) w.heap.size P m c rs ∧ RfAt (v2.alloc (.cells #[.slice A2 n2 q2] 24)) g1 A1 m q1 rs1 ∧ RfAt (v2.alloc (.cells #[.slice A2 n2 q2] 24)) v2.heap.size A2 n2 q2 rs2 ∧ Below w.heap.size w (v2.alloc (.cells #[.slice A2 n2 q2] 24))) := Lib.hid ⟨(S1.out.1.past b2).alloc _, (S1.out.2.1.past b2).alloc _, rfAt_new o2.rows, below_al (below_bs S1.out.2.2 b2) _⟩
  clear o2 e2 b2 S1
  go_wp2_with fail
  generalize hw2 : (v2.alloc (.cells #[.slice A2 n2 q2] 24)) = w2 at *
  generalize v2.heap.size = g2 at *
  clear hw2
  refine (rNew_any n _).mono ?_
  rintro e v3 ⟨A3, n3, q3, rs3, rfl, o3, e3, b3⟩
  have E3 := Lib.hid e3
  have S3 : Hid (RfAt (v3.alloc (.cells #[.slice A3 n3 q3] 24)) w.heap.size P m c rs ∧ RfAt (v3.alloc (.cells #[.slice A3 n3 q3] 24)) g1 A1 m q1 rs1 ∧ RfAt (v3.alloc (.cells #[.slice A3 n3 q3] 24)) g2 A2 n2 q2 rs2 ∧ RfAt (v3.alloc (.cells #[.slice A3 n3 q3] 24)) v3.heap.size A3 n3 q3 rs3 ∧ Below w.heap.size w (v3.alloc (.cells #[.slice A3 n3 q3] 24))) := Lib.hid ⟨(S2.out.1.past b3).alloc _, (S2.out.2.1.past b3).alloc _, (S2.out.2.2.1.past b3).alloc _, rfAt_new o3.rows, below_al (below_bs S2.out.2.2.2 b3) _⟩
  clear o3 e3 b3 S2
  have x1 := S3.out.2.1.cell
  go_wp2_with fail
  clear x1
  generalize hw3 : (v3.alloc (.cells #[.slice A3 n3 q3] 24)) = w3 at *
  generalize v3.heap.size = g3 at *
  clear hw3
  refine (Look_any A1 m q1 rs1 row d _ S3.out.2.1.rows).mono ?_
  rintro e w4 ⟨rfl, b4⟩
  have S4 : Hid (RfAt w4 w.heap.size P m c rs ∧ RfAt w4 g1 A1 m q1 rs1 ∧ RfAt w4 g2 A2 n2 q2 rs2 ∧ RfAt w4 g3 A3 n3 q3 rs3 ∧ Below w.heap.size w w4) := Lib.hid ⟨S3.out.1.past b4, S3.out.2.1.past b4, S3.out.2.2.1.past b4, S3.out.2.2.2.1.past b4, below_bs S3.out.2.2.2.2 b4⟩
  clear b4 S3
  rw [E1.out]
  have x0 := S4.out.1.cell
  go_wp2_with fail
  clear x0
  refine (rLook_any P m c rs row d _ S4.out.1.rows).mono ?_
  rintro e w5 ⟨rfl, b5⟩
  have S5 : Hid (RfAt w5 w.heap.size P m c rs ∧ RfAt w5 g1 A1 m q1 rs1 ∧ RfAt w5 g2 A2 n2 q2 rs2 ∧ RfAt w5 g3 A3 n3 q3 rs3 ∧ Below w.heap.size w w5) := Lib.hid ⟨S4.out.1.past b5, S4.out.2.1.past b5, S4.out.2.2.1.past b5, S4.out.2.2.2.1.past b5, below_bs S4.out.2.2.2.2 b5⟩
  clear b5 S4
  have x1 := S5.out.2.1.cell
  go_wp2_with fail
  clear x1
  refine (Learn_any A1 m q1 rs1 row near bit _ S5.out.2.1.rows).mono ?_
  rintro e v6 ⟨A6, n6, q6, rs6, rfl, o6, e6, b6⟩
  have E6 := Lib.hid e6
  have S6 : Hid (RfAt (v6.alloc (.cells #[.slice A6 n6 q6] 24)) w.heap.size P m c rs ∧ RfAt (v6.alloc (.cells #[.slice A6 n6 q6] 24)) g1 A1 m q1 rs1 ∧ RfAt (v6.alloc (.cells #[.slice A6 n6 q6] 24)) g2 A2 n2 q2 rs2 ∧ RfAt (v6.alloc (.cells #[.slice A6 n6 q6] 24)) g3 A3 n3 q3 rs3 ∧ RfAt (v6.alloc (.cells #[.slice A6 n6 q6] 24)) v6.heap.size A6 n6 q6 rs6 ∧ Below w.heap.size w (v6.alloc (.cells #[.slice A6 n6 q6] 24))) := Lib.hid ⟨(S5.out.1.past b6).alloc _, (S5.out.2.1.past b6).alloc _, (S5.out.2.2.1.past b6).alloc _, (S5.out.2.2.2.1.past b6).alloc _, rfAt_new o6.rows, below_al (below_bs S5.out.2.2.2.2 b6) _⟩
  clear o6 e6 b6 S5
  rw [E1.out] at E6 ⊢
  have x0 := S6.out.1.cell
  go_wp2_with fail
  clear x0
  generalize hw6 : (v6.alloc (.cells #[.slice A6 n6 q6] 24)) = w6 at *
  generalize v6.heap.size = g6 at *
  clear hw6
  refine (rLearn_any P m c rs row near bit _ S6.out.1.rows).mono ?_
  rintro e v7 ⟨A7, n7, q7, rs7, rfl, o7, e7, b7⟩
  have E7 := Lib.hid e7
  have S7 : Hid (RfAt (v7.alloc (.cells #[.slice A7 n7 q7] 24)) w.heap.size P m c rs ∧ RfAt (v7.alloc (.cells #[.slice A7 n7 q7] 24)) g1 A1 m q1 rs1 ∧ RfAt (v7.alloc (.cells #[.slice A7 n7 q7] 24)) g2 A2 n2 q2 rs2 ∧ RfAt (v7.alloc (.cells #[.slice A7 n7 q7] 24)) g3 A3 n3 q3 rs3 ∧ RfAt (v7.alloc (.cells #[.slice A7 n7 q7] 24)) g6 A6 n6 q6 rs6 ∧ RfAt (v7.alloc (.cells #[.slice A7 n7 q7] 24)) v7.heap.size A7 n7 q7 rs7 ∧ Below w.heap.size w (v7.alloc (.cells #[.slice A7 n7 q7] 24))) := Lib.hid ⟨(S6.out.1.past b7).alloc _, (S6.out.2.1.past b7).alloc _, (S6.out.2.2.1.past b7).alloc _, (S6.out.2.2.2.1.past b7).alloc _, (S6.out.2.2.2.2.1.past b7).alloc _, rfAt_new o7.rows, below_al (below_bs S6.out.2.2.2.2.2 b7) _⟩
  clear o7 e7 b7 S6
  go_upto_region 10 with fail
  generalize hw7 : (v7.alloc (.cells #[.slice A7 n7 q7] 24)) = w7 at *
  generalize v7.heap.size = g7 at *
  clear hw7
  generalize newE n = ne at *
  generalize lookV (numsY rs) row d = lv at *
  generalize lookJ (numsY rs) row d = lj at *
  generalize lookE (numsY rs) row d = le at *
  generalize learnE (numsY rs) row near = re at *
  have Y1 := Lib.hid (same_yes E2.out E3.out)
  have Y2 := Lib.hid (same_yes E6.out E7.out)
  have Y3 : Hid (decide (numsY rs1 = numsY rs) = true) := Lib.hid (decide_eq_true E1.out)
  (have RD := grows_roads (S := fun x' => RfAt x' w.heap.size P m c rs ∧ RfAt x' g1 A1 m q1 rs1 ∧ RfAt x' g2 A2 n2 q2 rs2 ∧ RfAt x' g3 A3 n3 q3 rs3 ∧ RfAt x' g6 A6 n6 q6 rs6 ∧ RfAt x' g7 A7 n7 q7 rs7 ∧ Below w.heap.size w x') (fun a b h1 h2 => ⟨h2.1.past h1, h2.2.1.past h1, h2.2.2.1.past h1, h2.2.2.2.1.past h1, h2.2.2.2.2.1.past h1, h2.2.2.2.2.2.1.past h1, below_bs h2.2.2.2.2.2.2 h1⟩)); refine region_ord _ Grows RD (by have d0 := Below.drew (Below.refl w7.heap.size w7); exact ⟨S7.out.1.past d0, S7.out.2.1.past d0, S7.out.2.2.1.past d0, S7.out.2.2.2.1.past d0, S7.out.2.2.2.2.1.past d0, S7.out.2.2.2.2.2.1.past d0, below_bs S7.out.2.2.2.2.2.2 d0⟩) (by kernel_rfl) ?_; intro ops Q' hops hPQ hN; (have HNS : Hid (Region.noSelect ops = true) := Lib.hid (by rw [hops]; kernel_rfl)); (have hsz : ops.size = 46 := (by rw [hops]; rfl)); have HOP := Lib.hid hops; have HPQ := Lib.hid hPQ; have HN := Lib.hid hN; rw [hsz]; clear hops hsz hPQ hN
  refine ord_take RD 0 (at_list (by rw [HOP.out]; rfl)) HNS.out HPQ.out (by rw [HOP.out]; kernel_rfl) (by rw [HOP.out]; kernel_rfl) (by rw [HOP.out]; rfl) (fun K hK => ?_); apply Exists.intro; refine ⟨fun W hSW => ?_, hK _ ?_⟩; (focus ((try dsimp only at hSW); (have z1 := hSW.2.2.1.cell); go_simp; try with_reducible rfl)); clear hK K; (try simp only [Act.put, List.setIfInBounds_toArray, List.set_cons_zero, List.set_cons_succ])
  refine ord_take RD 1 (at_list (by rw [HOP.out]; rfl)) HNS.out HPQ.out (by rw [HOP.out]; kernel_rfl) (by rw [HOP.out]; kernel_rfl) (by rw [HOP.out]; rfl) (fun K hK => ?_); apply Exists.intro; refine ⟨fun W hSW => ?_, hK _ ?_⟩; (focus ((try dsimp only at hSW); (have z1 := hSW.2.2.2.1.cell); go_simp; try with_reducible rfl)); clear hK K; (try simp only [Act.put, List.setIfInBounds_toArray, List.set_cons_zero, List.set_cons_succ])
  refine ord_take RD 2 (at_list (by rw [HOP.out]; rfl)) HNS.out HPQ.out (by rw [HOP.out]; kernel_rfl) (by rw [HOP.out]; kernel_rfl) (by rw [HOP.out]; rfl) (fun K hK => ?_); apply Exists.intro; refine ⟨fun W hSW => ?_, hK _ ?_⟩; (focus ((try dsimp only at hSW); go_simp; exact (same17_any A2 A3 n2 q2 n3 q3 rs2 rs3 W hSW.2.2.1.rows hSW.2.2.2.1.rows))); clear hK K; (try simp only [Act.put, List.setIfInBounds_toArray, List.set_cons_zero, List.set_cons_succ])
  rw [Y1.out]
  refine ord_take RD 3 (at_list (by rw [HOP.out]; rfl)) HNS.out HPQ.out (by rw [HOP.out]; kernel_rfl) (by rw [HOP.out]; kernel_rfl) (by rw [HOP.out]; rfl) (fun K hK => ?_); apply Exists.intro; refine ⟨fun W hSW => ?_, hK _ ?_⟩; (focus ((try dsimp only at hSW); go_simp; try with_reducible rfl)); clear hK K; (try simp only [Act.put, List.setIfInBounds_toArray, List.set_cons_zero, List.set_cons_succ])
  refine ord_take RD 4 (at_list (by rw [HOP.out]; rfl)) HNS.out HPQ.out (by rw [HOP.out]; kernel_rfl) (by rw [HOP.out]; kernel_rfl) (by rw [HOP.out]; rfl) (fun K hK => ?_); apply Exists.intro; refine ⟨fun W hSW => ?_, hK _ ?_⟩; (focus ((try dsimp only at hSW); go_simp; try with_reducible rfl)); clear hK K; (try simp only [Act.put, List.setIfInBounds_toArray, List.set_cons_zero, List.set_cons_succ])
  refine ord_take RD 5 (at_list (by rw [HOP.out]; rfl)) HNS.out HPQ.out (by rw [HOP.out]; kernel_rfl) (by rw [HOP.out]; kernel_rfl) (by rw [HOP.out]; rfl) (fun K hK => ?_); apply Exists.intro; refine ⟨fun W hSW => ?_, hK _ ?_⟩; (focus ((try dsimp only at hSW); go_simp; try with_reducible rfl)); clear hK K; (try simp only [Act.put, List.setIfInBounds_toArray, List.set_cons_zero, List.set_cons_succ])
  refine ord_take RD 6 (at_list (by rw [HOP.out]; rfl)) HNS.out HPQ.out (by rw [HOP.out]; kernel_rfl) (by rw [HOP.out]; kernel_rfl) (by rw [HOP.out]; rfl) (fun K hK => ?_); apply Exists.intro; refine ⟨fun W hSW => ?_, hK _ ?_⟩; (focus ((try dsimp only at hSW); go_simp; try with_reducible rfl)); clear hK K; (try simp only [Act.put, List.setIfInBounds_toArray, List.set_cons_zero, List.set_cons_succ])
  refine ord_take RD 7 (at_list (by rw [HOP.out]; rfl)) HNS.out HPQ.out (by rw [HOP.out]; kernel_rfl) (by rw [HOP.out]; kernel_rfl) (by rw [HOP.out]; rfl) (fun K hK => ?_); apply Exists.intro; refine ⟨fun W hSW => ?_, hK _ ?_⟩; (focus ((try dsimp only at hSW); go_simp; try with_reducible rfl)); clear hK K; (try simp only [Act.put, List.setIfInBounds_toArray, List.set_cons_zero, List.set_cons_succ])
  refine ord_take RD 8 (at_list (by rw [HOP.out]; rfl)) HNS.out HPQ.out (by rw [HOP.out]; kernel_rfl) (by rw [HOP.out]; kernel_rfl) (by rw [HOP.out]; rfl) (fun K hK => ?_); apply Exists.intro; refine ⟨fun W hSW => ?_, hK _ ?_⟩; (focus ((try dsimp only at hSW); go_simp; try with_reducible rfl)); clear hK K; (try simp only [Act.put, List.setIfInBounds_toArray, List.set_cons_zero, List.set_cons_succ])
  refine ord_take RD 9 (at_list (by rw [HOP.out]; rfl)) HNS.out HPQ.out (by rw [HOP.out]; kernel_rfl) (by rw [HOP.out]; kernel_rfl) (by rw [HOP.out]; rfl) (fun K hK => ?_); apply Exists.intro; refine ⟨fun W hSW => ?_, hK _ ?_⟩; (focus ((try dsimp only at hSW); (have z1 := hSW.2.1.cell); go_simp; try with_reducible rfl)); clear hK K; (try simp only [Act.put, List.setIfInBounds_toArray, List.set_cons_zero, List.set_cons_succ])
  refine ord_take RD 10 (at_list (by rw [HOP.out]; rfl)) HNS.out HPQ.out (by rw [HOP.out]; kernel_rfl) (by rw [HOP.out]; kernel_rfl) (by rw [HOP.out]; rfl) (fun K hK => ?_); apply Exists.intro; refine ⟨fun W hSW => ?_, hK _ ?_⟩; (focus ((try dsimp only at hSW); go_simp; exact (Check_any A1 m q1 rs1 W hSW.2.1.rows))); clear hK K; (try simp only [Act.put, List.setIfInBounds_toArray, List.set_cons_zero, List.set_cons_succ])
  rw [E1.out]
  refine ord_take RD 11 (at_list (by rw [HOP.out]; rfl)) HNS.out HPQ.out (by rw [HOP.out]; kernel_rfl) (by rw [HOP.out]; kernel_rfl) (by rw [HOP.out]; rfl) (fun K hK => ?_); apply Exists.intro; refine ⟨fun W hSW => ?_, hK _ ?_⟩; (focus ((try dsimp only at hSW); (have z1 := hSW.1.cell); go_simp; try with_reducible rfl)); clear hK K; (try simp only [Act.put, List.setIfInBounds_toArray, List.set_cons_zero, List.set_cons_succ])
  refine ord_take RD 12 (at_list (by rw [HOP.out]; rfl)) HNS.out HPQ.out (by rw [HOP.out]; kernel_rfl) (by rw [HOP.out]; kernel_rfl) (by rw [HOP.out]; rfl) (fun K hK => ?_); apply Exists.intro; refine ⟨fun W hSW => ?_, hK _ ?_⟩; (focus ((try dsimp only at hSW); go_simp; exact (rCheck_any P m c rs W hSW.1.rows))); clear hK K; (try simp only [Act.put, List.setIfInBounds_toArray, List.set_cons_zero, List.set_cons_succ])
  refine ord_take RD 13 (at_list (by rw [HOP.out]; rfl)) HNS.out HPQ.out (by rw [HOP.out]; kernel_rfl) (by rw [HOP.out]; kernel_rfl) (by rw [HOP.out]; rfl) (fun K hK => ?_); apply Exists.intro; refine ⟨fun W hSW => ?_, hK _ ?_⟩; (focus ((try dsimp only at hSW); go_simp; try with_reducible rfl)); clear hK K; (try simp only [Act.put, List.setIfInBounds_toArray, List.set_cons_zero, List.set_cons_succ])
  refine ord_take RD 14 (at_list (by rw [HOP.out]; rfl)) HNS.out HPQ.out (by rw [HOP.out]; kernel_rfl) (by rw [HOP.out]; kernel_rfl) (by rw [HOP.out]; rfl) (fun K hK => ?_); apply Exists.intro; refine ⟨fun W hSW => ?_, hK _ ?_⟩; (focus ((try dsimp only at hSW); go_simp; try with_reducible rfl)); clear hK K; (try simp only [Act.put, List.setIfInBounds_toArray, List.set_cons_zero, List.set_cons_succ])
  refine ord_take RD 15 (at_list (by rw [HOP.out]; rfl)) HNS.out HPQ.out (by rw [HOP.out]; kernel_rfl) (by rw [HOP.out]; kernel_rfl) (by rw [HOP.out]; rfl) (fun K hK => ?_); apply Exists.intro; refine ⟨fun W hSW => ?_, hK _ ?_⟩; (focus ((try dsimp only at hSW); go_simp; try with_reducible rfl)); clear hK K; (try simp only [Act.put, List.setIfInBounds_toArray, List.set_cons_zero, List.set_cons_succ])
  refine ord_take RD 16 (at_list (by rw [HOP.out]; rfl)) HNS.out HPQ.out (by rw [HOP.out]; kernel_rfl) (by rw [HOP.out]; kernel_rfl) (by rw [HOP.out]; rfl) (fun K hK => ?_); apply Exists.intro; refine ⟨fun W hSW => ?_, hK _ ?_⟩; (focus ((try dsimp only at hSW); go_simp; try with_reducible rfl)); clear hK K; (try simp only [Act.put, List.setIfInBounds_toArray, List.set_cons_zero, List.set_cons_succ])
  refine ord_take RD 17 (at_list (by rw [HOP.out]; rfl)) HNS.out HPQ.out (by rw [HOP.out]; kernel_rfl) (by rw [HOP.out]; kernel_rfl) (by rw [HOP.out]; rfl) (fun K hK => ?_); apply Exists.intro; refine ⟨fun W hSW => ?_, hK _ ?_⟩; (focus ((try dsimp only at hSW); go_simp; try with_reducible rfl)); clear hK K; (try simp only [Act.put, List.setIfInBounds_toArray, List.set_cons_zero, List.set_cons_succ])
  refine ord_take RD 18 (at_list (by rw [HOP.out]; rfl)) HNS.out HPQ.out (by rw [HOP.out]; kernel_rfl) (by rw [HOP.out]; kernel_rfl) (by rw [HOP.out]; rfl) (fun K hK => ?_); apply Exists.intro; refine ⟨fun W hSW => ?_, hK _ ?_⟩; (focus ((try dsimp only at hSW); go_simp; try with_reducible rfl)); clear hK K; (try simp only [Act.put, List.setIfInBounds_toArray, List.set_cons_zero, List.set_cons_succ])
  refine ord_take RD 19 (at_list (by rw [HOP.out]; rfl)) HNS.out HPQ.out (by rw [HOP.out]; kernel_rfl) (by rw [HOP.out]; kernel_rfl) (by rw [HOP.out]; rfl) (fun K hK => ?_); apply Exists.intro; refine ⟨fun W hSW => ?_, hK _ ?_⟩; (focus ((try dsimp only at hSW); go_simp; try with_reducible rfl)); clear hK K; (try simp only [Act.put, List.setIfInBounds_toArray, List.set_cons_zero, List.set_cons_succ])
  refine ord_take RD 20 (at_list (by rw [HOP.out]; rfl)) HNS.out HPQ.out (by rw [HOP.out]; kernel_rfl) (by rw [HOP.out]; kernel_rfl) (by rw [HOP.out]; rfl) (fun K hK => ?_); apply Exists.intro; refine ⟨fun W hSW => ?_, hK _ ?_⟩; (focus ((try dsimp only at hSW); go_simp; try with_reducible rfl)); clear hK K; (try simp only [Act.put, List.setIfInBounds_toArray, List.set_cons_zero, List.set_cons_succ])
  refine ord_take RD 21 (at_list (by rw [HOP.out]; rfl)) HNS.out HPQ.out (by rw [HOP.out]; kernel_rfl) (by rw [HOP.out]; kernel_rfl) (by rw [HOP.out]; rfl) (fun K hK => ?_); apply Exists.intro; refine ⟨fun W hSW => ?_, hK _ ?_⟩; (focus ((try dsimp only at hSW); go_simp; try with_reducible rfl)); clear hK K; (try simp only [Act.put, List.setIfInBounds_toArray, List.set_cons_zero, List.set_cons_succ])
  refine ord_take RD 22 (at_list (by rw [HOP.out]; rfl)) HNS.out HPQ.out (by rw [HOP.out]; kernel_rfl) (by rw [HOP.out]; kernel_rfl) (by rw [HOP.out]; rfl) (fun K hK => ?_); apply Exists.intro; refine ⟨fun W hSW => ?_, hK _ ?_⟩; (focus ((try dsimp only at hSW); go_simp; try with_reducible rfl)); clear hK K; (try simp only [Act.put, List.setIfInBounds_toArray, List.set_cons_zero, List.set_cons_succ])
  refine ord_take RD 23 (at_list (by rw [HOP.out]; rfl)) HNS.out HPQ.out (by rw [HOP.out]; kernel_rfl) (by rw [HOP.out]; kernel_rfl) (by rw [HOP.out]; rfl) (fun K hK => ?_); apply Exists.intro; refine ⟨fun W hSW => ?_, hK _ ?_⟩; (focus ((try dsimp only at hSW); go_simp; try with_reducible rfl)); clear hK K; (try simp only [Act.put, List.setIfInBounds_toArray, List.set_cons_zero, List.set_cons_succ])
  refine ord_take RD 24 (at_list (by rw [HOP.out]; rfl)) HNS.out HPQ.out (by rw [HOP.out]; kernel_rfl) (by rw [HOP.out]; kernel_rfl) (by rw [HOP.out]; rfl) (fun K hK => ?_); apply Exists.intro; refine ⟨fun W hSW => ?_, hK _ ?_⟩; (focus ((try dsimp only at hSW); go_simp; try with_reducible rfl)); clear hK K; (try simp only [Act.put, List.setIfInBounds_toArray, List.set_cons_zero, List.set_cons_succ])
  refine ord_take RD 25 (at_list (by rw [HOP.out]; rfl)) HNS.out HPQ.out (by rw [HOP.out]; kernel_rfl) (by rw [HOP.out]; kernel_rfl) (by rw [HOP.out]; rfl) (fun K hK => ?_); apply Exists.intro; refine ⟨fun W hSW => ?_, hK _ ?_⟩; (focus ((try dsimp only at hSW); go_simp; try with_reducible rfl)); clear hK K; (try simp only [Act.put, List.setIfInBounds_toArray, List.set_cons_zero, List.set_cons_succ])
  refine ord_take RD 26 (at_list (by rw [HOP.out]; rfl)) HNS.out HPQ.out (by rw [HOP.out]; kernel_rfl) (by rw [HOP.out]; kernel_rfl) (by rw [HOP.out]; rfl) (fun K hK => ?_); apply Exists.intro; refine ⟨fun W hSW => ?_, hK _ ?_⟩; (focus ((try dsimp only at hSW); go_simp; try with_reducible rfl)); clear hK K; (try simp only [Act.put, List.setIfInBounds_toArray, List.set_cons_zero, List.set_cons_succ])
  refine ord_take RD 27 (at_list (by rw [HOP.out]; rfl)) HNS.out HPQ.out (by rw [HOP.out]; kernel_rfl) (by rw [HOP.out]; kernel_rfl) (by rw [HOP.out]; rfl) (fun K hK => ?_); apply Exists.intro; refine ⟨fun W hSW => ?_, hK _ ?_⟩; (focus ((try dsimp only at hSW); go_simp; try with_reducible rfl)); clear hK K; (try simp only [Act.put, List.setIfInBounds_toArray, List.set_cons_zero, List.set_cons_succ])
  refine ord_take RD 28 (at_list (by rw [HOP.out]; rfl)) HNS.out HPQ.out (by rw [HOP.out]; kernel_rfl) (by rw [HOP.out]; kernel_rfl) (by rw [HOP.out]; rfl) (fun K hK => ?_); apply Exists.intro; refine ⟨fun W hSW => ?_, hK _ ?_⟩; (focus ((try dsimp only at hSW); go_simp; try with_reducible rfl)); clear hK K; (try simp only [Act.put, List.setIfInBounds_toArray, List.set_cons_zero, List.set_cons_succ])
  refine ord_take RD 29 (at_list (by rw [HOP.out]; rfl)) HNS.out HPQ.out (by rw [HOP.out]; kernel_rfl) (by rw [HOP.out]; kernel_rfl) (by rw [HOP.out]; rfl) (fun K hK => ?_); apply Exists.intro; refine ⟨fun W hSW => ?_, hK _ ?_⟩; (focus ((try dsimp only at hSW); go_simp; try with_reducible rfl)); clear hK K; (try simp only [Act.put, List.setIfInBounds_toArray, List.set_cons_zero, List.set_cons_succ])
  refine ord_take RD 30 (at_list (by rw [HOP.out]; rfl)) HNS.out HPQ.out (by rw [HOP.out]; kernel_rfl) (by rw [HOP.out]; kernel_rfl) (by rw [HOP.out]; rfl) (fun K hK => ?_); apply Exists.intro; refine ⟨fun W hSW => ?_, hK _ ?_⟩; (focus ((try dsimp only at hSW); go_simp; try with_reducible rfl)); clear hK K; (try simp only [Act.put, List.setIfInBounds_toArray, List.set_cons_zero, List.set_cons_succ])
  refine ord_take RD 31 (at_list (by rw [HOP.out]; rfl)) HNS.out HPQ.out (by rw [HOP.out]; kernel_rfl) (by rw [HOP.out]; kernel_rfl) (by rw [HOP.out]; rfl) (fun K hK => ?_); apply Exists.intro; refine ⟨fun W hSW => ?_, hK _ ?_⟩; (focus ((try dsimp only at hSW); (have z1 := hSW.2.2.2.2.1.cell); go_simp; try with_reducible rfl)); clear hK K; (try simp only [Act.put, List.setIfInBounds_toArray, List.set_cons_zero, List.set_cons_succ])
  refine ord_take RD 32 (at_list (by rw [HOP.out]; rfl)) HNS.out HPQ.out (by rw [HOP.out]; kernel_rfl) (by rw [HOP.out]; kernel_rfl) (by rw [HOP.out]; rfl) (fun K hK => ?_); apply Exists.intro; refine ⟨fun W hSW => ?_, hK _ ?_⟩; (focus ((try dsimp only at hSW); (have z1 := hSW.2.2.2.2.2.1.cell); go_simp; try with_reducible rfl)); clear hK K; (try simp only [Act.put, List.setIfInBounds_toArray, List.set_cons_zero, List.set_cons_succ])
  refine ord_take RD 33 (at_list (by rw [HOP.out]; rfl)) HNS.out HPQ.out (by rw [HOP.out]; kernel_rfl) (by rw [HOP.out]; kernel_rfl) (by rw [HOP.out]; rfl) (fun K hK => ?_); apply Exists.intro; refine ⟨fun W hSW => ?_, hK _ ?_⟩; (focus ((try dsimp only at hSW); go_simp; exact (same17_any A6 A7 n6 q6 n7 q7 rs6 rs7 W hSW.2.2.2.2.1.rows hSW.2.2.2.2.2.1.rows))); clear hK K; (try simp only [Act.put, List.setIfInBounds_toArray, List.set_cons_zero, List.set_cons_succ])
  rw [Y2.out]
  refine ord_take RD 34 (at_list (by rw [HOP.out]; rfl)) HNS.out HPQ.out (by rw [HOP.out]; kernel_rfl) (by rw [HOP.out]; kernel_rfl) (by rw [HOP.out]; rfl) (fun K hK => ?_); apply Exists.intro; refine ⟨fun W hSW => ?_, hK _ ?_⟩; (focus ((try dsimp only at hSW); go_simp; try with_reducible rfl)); clear hK K; (try simp only [Act.put, List.setIfInBounds_toArray, List.set_cons_zero, List.set_cons_succ])
  refine ord_take RD 35 (at_list (by rw [HOP.out]; rfl)) HNS.out HPQ.out (by rw [HOP.out]; kernel_rfl) (by rw [HOP.out]; kernel_rfl) (by rw [HOP.out]; rfl) (fun K hK => ?_); apply Exists.intro; refine ⟨fun W hSW => ?_, hK _ ?_⟩; (focus ((try dsimp only at hSW); go_simp; try with_reducible rfl)); clear hK K; (try simp only [Act.put, List.setIfInBounds_toArray, List.set_cons_zero, List.set_cons_succ])
  refine ord_take RD 36 (at_list (by rw [HOP.out]; rfl)) HNS.out HPQ.out (by rw [HOP.out]; kernel_rfl) (by rw [HOP.out]; kernel_rfl) (by rw [HOP.out]; rfl) (fun K hK => ?_); apply Exists.intro; refine ⟨fun W hSW => ?_, hK _ ?_⟩; (focus ((try dsimp only at hSW); go_simp; try with_reducible rfl)); clear hK K; (try simp only [Act.put, List.setIfInBounds_toArray, List.set_cons_zero, List.set_cons_succ])
  refine ord_take RD 37 (at_list (by rw [HOP.out]; rfl)) HNS.out HPQ.out (by rw [HOP.out]; kernel_rfl) (by rw [HOP.out]; kernel_rfl) (by rw [HOP.out]; rfl) (fun K hK => ?_); apply Exists.intro; refine ⟨fun W hSW => ?_, hK _ ?_⟩; (focus ((try dsimp only at hSW); go_simp; try with_reducible rfl)); clear hK K; (try simp only [Act.put, List.setIfInBounds_toArray, List.set_cons_zero, List.set_cons_succ])
  refine ord_take RD 38 (at_list (by rw [HOP.out]; rfl)) HNS.out HPQ.out (by rw [HOP.out]; kernel_rfl) (by rw [HOP.out]; kernel_rfl) (by rw [HOP.out]; rfl) (fun K hK => ?_); apply Exists.intro; refine ⟨fun W hSW => ?_, hK _ ?_⟩; (focus ((try dsimp only at hSW); go_simp; try with_reducible rfl)); clear hK K; (try simp only [Act.put, List.setIfInBounds_toArray, List.set_cons_zero, List.set_cons_succ])
  refine ord_take RD 39 (at_list (by rw [HOP.out]; rfl)) HNS.out HPQ.out (by rw [HOP.out]; kernel_rfl) (by rw [HOP.out]; kernel_rfl) (by rw [HOP.out]; rfl) (fun K hK => ?_); apply Exists.intro; refine ⟨fun W hSW => ?_, hK _ ?_⟩; (focus ((try dsimp only at hSW); go_simp; try with_reducible rfl)); clear hK K; (try simp only [Act.put, List.setIfInBounds_toArray, List.set_cons_zero, List.set_cons_succ])
  refine ord_take RD 40 (at_list (by rw [HOP.out]; rfl)) HNS.out HPQ.out (by rw [HOP.out]; kernel_rfl) (by rw [HOP.out]; kernel_rfl) (by rw [HOP.out]; rfl) (fun K hK => ?_); apply Exists.intro; refine ⟨fun W hSW => ?_, hK _ ?_⟩; (focus ((try dsimp only at hSW); go_simp; try with_reducible rfl)); clear hK K; (try simp only [Act.put, List.setIfInBounds_toArray, List.set_cons_zero, List.set_cons_succ])
  refine ord_take RD 41 (at_list (by rw [HOP.out]; rfl)) HNS.out HPQ.out (by rw [HOP.out]; kernel_rfl) (by rw [HOP.out]; kernel_rfl) (by rw [HOP.out]; rfl) (fun K hK => ?_); apply Exists.intro; refine ⟨fun W hSW => ?_, hK _ ?_⟩; (focus ((try dsimp only at hSW); (have z1 := hSW.2.1.cell); go_simp; try with_reducible rfl)); clear hK K; (try simp only [Act.put, List.setIfInBounds_toArray, List.set_cons_zero, List.set_cons_succ])
  refine ord_take RD 42 (at_list (by rw [HOP.out]; rfl)) HNS.out HPQ.out (by rw [HOP.out]; kernel_rfl) (by rw [HOP.out]; kernel_rfl) (by rw [HOP.out]; rfl) (fun K hK => ?_); apply Exists.intro; refine ⟨fun W hSW => ?_, hK _ ?_⟩; (focus ((try dsimp only at hSW); (have z1 := hSW.1.cell); go_simp; try with_reducible rfl)); clear hK K; (try simp only [Act.put, List.setIfInBounds_toArray, List.set_cons_zero, List.set_cons_succ])
  refine ord_take RD 43 (at_list (by rw [HOP.out]; rfl)) HNS.out HPQ.out (by rw [HOP.out]; kernel_rfl) (by rw [HOP.out]; kernel_rfl) (by rw [HOP.out]; rfl) (fun K hK => ?_); apply Exists.intro; refine ⟨fun W hSW => ?_, hK _ ?_⟩; (focus ((try dsimp only at hSW); go_simp; exact (same17_any A1 P m q1 m c rs1 rs W hSW.2.1.rows hSW.1.rows))); clear hK K; (try simp only [Act.put, List.setIfInBounds_toArray, List.set_cons_zero, List.set_cons_succ])
  rw [Y3.out]
  refine ord_take RD 44 (at_list (by rw [HOP.out]; rfl)) HNS.out HPQ.out (by rw [HOP.out]; kernel_rfl) (by rw [HOP.out]; kernel_rfl) (by rw [HOP.out]; rfl) (fun K hK => ?_); apply Exists.intro; refine ⟨fun W hSW => ?_, hK _ ?_⟩; (focus ((try dsimp only at hSW); go_simp; try with_reducible rfl)); clear hK K; (try simp only [Act.put, List.setIfInBounds_toArray, List.set_cons_zero, List.set_cons_succ])
  refine ord_take RD 45 (at_list (by rw [HOP.out]; rfl)) HNS.out HPQ.out (by rw [HOP.out]; kernel_rfl) (by rw [HOP.out]; kernel_rfl) (by rw [HOP.out]; rfl) (fun K hK => ?_); apply Exists.intro; refine ⟨fun W hSW => ?_, hK _ ?_⟩; (focus ((try dsimp only at hSW); go_simp; try with_reducible rfl)); clear hK K; (try simp only [Act.put, List.setIfInBounds_toArray, List.set_cons_zero, List.set_cons_succ])
  refine ord_done (by rw [HOP.out]; kernel_rfl) (fun W8 hWW hSW => HN.out _ _ ?_); clear HOP HNS HPQ HN RD; (try dsimp only at hSW)
  have HF := Lib.hid hSW
  clear hSW hWW
  go_wp2_with fail
  go_ret
  exact ⟨rfl, HF.out.2.2.2.2.2.2⟩
theorem does_law (n : Int) (P : Option Addr) (m c : Nat) (rs : List RY) (row d near : Int) (bit : Bool) (w : World) (_ : -9223372036854775808 ≤ n) (_ : n ≤ 9223372036854775807) (h : RowsY w P m c rs) (_ : -9223372036854775808 ≤ row) (_ : row ≤ 9223372036854775807) (_ : -2147483648 ≤ d) (_ : d ≤ 2147483647) (_ : -9223372036854775808 ≤ near) (_ : near ≤ 9223372036854775807) (hT : Tab w) :
    Calls Tryd.prog 3 #[.int .i64 n, .agg #[.slice P m c], .int .i64 row, .int .i32 d, .int .i64 near, .bool bit] w fun e w' => e = .returned (.bool true) ∧ Below w.heap.size w w' :=
  does n P m c rs row d near bit w h hT
end Go.Proofs.YteepnindbcaahaaDoor.rfL
