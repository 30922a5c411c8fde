/- MixerMixes, by a walk. -/
import Derived.Test.YtjikddndlnimoaaDoorMxW6
namespace Go.Proofs.YtjikddndlnimoaaDoor.mxL
set_option maxRecDepth 100000
open Go.RowKit Go.Proofs.YtjikddndlnimoaaDoor.base Go.Proofs.YtjikddndlnimoaaDoor.rfP Go.Proofs.YtjikddndlnimoaaDoor.mxP Go.Proofs.YtjikddndlnimoaaDoor.mxW Go.Proofs.YtjikddndlnimoaaDoor.sqP Go.Proofs.YtjikddndlnimoaaDoor.sqW
open Go.Proofs.YtjikddndlnimoaaDoor.rfW (Great_any same16_any)
set_option linter.unusedVariables false
set_option linter.unusedSimpArgs false
theorem same_yes {rs qs : List RY} {l : List (List Int)} (h : numsY rs = l) (h' : numsY qs = l) : decide (numsY rs = numsY qs) = true := by rw [h, h']; exact decide_eq_true rfl
set_option maxHeartbeats 1500000 in
theorem mixes (n x : Int) (P : Option Addr) (m c : Nat) (rs : List RY) (set : Int) (B : Option Addr) (bn bc : Nat) (ys : List Int) (p : Int) (bit : Bool) (w : World) (hx : -2147483648 ≤ x ∧ x ≤ 2147483647) (h : RowsY w P m c rs) (hb : In8 w B bn bc ys) (p0 : -2147483648 ≤ p) (p1 : p ≤ 2147483647) (hT : Tab w) :
    Calls Tryd.prog 3 #[.int .i64 n, .int .i32 x, .agg #[.slice P m c], .int .i64 set, .slice B bn bc, .int .i32 p, .bool bit] w fun e w' => e = .returned (.bool true) ∧ Below w.heap.size w w' := by
  have HT := Lib.hid hT
  have H := Lib.hid (And.intro h hb)
  have HX := Lib.hid hx
  have HP := Lib.hid (And.intro p0 p1)
  have bn9 : (bn : Int) ≤ 9223372036854775807 := by have := hb.c1; have := hb.c2; omega
  have bn0 : 0 ≤ (bn : Int) := by omega
  clear h hT hb hx p0 p1
  go_enter Tryd.func3, Tryd.ntmps3
  go_wp2_with fail
  have S0 : Hid (MxAt (w.alloc (.cells #[.slice P m c] 24)) w.heap.size P m c rs ∧ Below w.heap.size w (w.alloc (.cells #[.slice P m c] 24))) := Lib.hid ⟨mxAt_new H.out.1, by (repeat' (first | (with_reducible exact Below.refl _ _) | (with_reducible assumption) | (with_reducible refine below_drewN ?_ _) | (with_reducible refine below_new ?_ _) | (with_reducible refine Below.alloc ?_ ?_ _) | (with_reducible refine Below.drew ?_) | (with_reducible refine Below.setCell ?_ ?_ _) | (with_reducible apply below_at; (case k => (with_reducible assumption)); (case hB => omega)) | (with_reducible apply below_on; (with_reducible assumption)) | (go_size; done) | (with_reducible apply size_of)))⟩
  generalize hw0 : w.alloc (.cells #[.slice P m c] 24) = w0 at *
  clear hw0
  refine (Great_any P m c rs w0 S0.out.1.rows).mono ?_
  rintro e wx ⟨rfl, rfl⟩
  cases hg : greatB (numsY rs)
  case true =>
    go_wp2_with fail
    go_ret
    exact ⟨rfl, S0.out.2⟩
  by_cases hbn : (100 : Int) < bn
  · clear hg
    go_wp2_with fail
    go_ret
    exact ⟨rfl, S0.out.2⟩
  clear hg
  go_wp2_with fail
  refine (New_any n x _ HX.out).mono ?_
  rintro e v1 ⟨A1, n1, d1, q1, rfl, o1, e1, b1⟩
  have E1 := Lib.hid e1
  have S1 : Hid (MxAt (v1.alloc (.cells #[.slice A1 n1 d1] 24)) w.heap.size P m c rs ∧ MxAt (v1.alloc (.cells #[.slice A1 n1 d1] 24)) v1.heap.size A1 n1 d1 q1 ∧ Below w.heap.size w (v1.alloc (.cells #[.slice A1 n1 d1] 24))) := Lib.hid ⟨(S0.out.1.past b1).alloc _, mxAt_new o1.rows, below_al (below_bs S0.out.2 b1) _⟩
  clear o1 e1 b1 S0
  go_upto_region 4 with fail
  generalize hw1 : (v1.alloc (.cells #[.slice A1 n1 d1] 24)) = w1 at *
  generalize v1.heap.size = g1 at *
  clear hw1
  go_wp2_with fail
  refine (rNew_any n x _ HX.out).mono ?_
  rintro e v2 ⟨A2, n2, d2, q2, rfl, o2, e2, b2⟩
  have E2 := Lib.hid e2
  have S2 : Hid (MxAt (v2.alloc (.cells #[.slice A2 n2 d2] 24)) w.heap.size P m c rs ∧ MxAt (v2.alloc (.cells #[.slice A2 n2 d2] 24)) g1 A1 n1 d1 q1 ∧ MxAt (v2.alloc (.cells #[.slice A2 n2 d2] 24)) v2.heap.size A2 n2 d2 q2 ∧ Below w.heap.size w (v2.alloc (.cells #[.slice A2 n2 d2] 24))) := Lib.hid ⟨(S1.out.1.past b2).alloc _, (S1.out.2.1.past b2).alloc _, mxAt_new o2.rows, below_al (below_bs S1.out.2.2 b2) _⟩
  clear o2 e2 b2 S1
  go_upto_region 5 with fail
  generalize hw2 : (v2.alloc (.cells #[.slice A2 n2 d2] 24)) = w2 at *
  generalize v2.heap.size = g2 at *
  clear hw2
  have x1 := S2.out.1.cell
  go_wp2_with fail
  clear x1
  refine (Mix_any P m c rs set B bn bc ys w2 S2.out.1.rows (H.out.2.past S2.out.2.2.2) (HT.out.below S2.out.2.2.2)).mono ?_
  rintro e w3 ⟨rfl, b3⟩
  have S3 : Hid (MxAt w3 w.heap.size P m c rs ∧ MxAt w3 g1 A1 n1 d1 q1 ∧ MxAt w3 g2 A2 n2 d2 q2 ∧ Below w.heap.size w w3) := Lib.hid ⟨S2.out.1.past b3, S2.out.2.1.past b3, S2.out.2.2.1.past b3, below_bs S2.out.2.2.2 b3⟩
  clear b3 S2
  have x1 := S3.out.1.cell
  go_wp2_with fail
  clear x1
  refine (rMix_any P m c rs set B bn bc ys w3 S3.out.1.rows (H.out.2.past S3.out.2.2.2)).mono ?_
  rintro e w4 ⟨rfl, b4⟩
  have S4 : Hid (MxAt w4 w.heap.size P m c rs ∧ MxAt w4 g1 A1 n1 d1 q1 ∧ MxAt w4 g2 A2 n2 d2 q2 ∧ Below w.heap.size w w4) := Lib.hid ⟨S3.out.1.past b4, S3.out.2.1.past b4, S3.out.2.2.1.past b4, below_bs S3.out.2.2.2 b4⟩
  clear b4 S3
  go_wp2_with fail
  refine (Wrong_any p bit w4).mono ?_
  rintro e w5 ⟨rfl, rfl⟩
  go_wp2_with fail
  refine (rWrong_any p bit w5 HP.out.1 HP.out.2).mono ?_
  rintro e w6 ⟨rfl, rfl⟩
  go_upto_region 9 with fail
  generalize newME n = ne at *
  generalize mixV (numsY rs) set ys = v3 at *
  generalize mixQ (numsY rs) set ys = q3 at *
  generalize mAskE (numsY rs) set ys = e3 at *
  generalize wrongV p bit = v4 at *
  generalize wrongE p = e4 at *
  have Y1 := Lib.hid (same_yes E1.out E2.out)
  (have RD := grows_roads (S := fun x' => MxAt x' w.heap.size P m c rs ∧ MxAt x' g1 A1 n1 d1 q1 ∧ MxAt x' g2 A2 n2 d2 q2 ∧ Below w.heap.size w x') (fun a b h1 h2 => ⟨h2.1.past h1, h2.2.1.past h1, h2.2.2.1.past h1, below_bs h2.2.2.2 h1⟩)); refine region_ord _ Grows RD (by have d0 := Below.drew (Below.refl w6.heap.size w6); exact ⟨S4.out.1.past d0, S4.out.2.1.past d0, S4.out.2.2.1.past d0, below_bs S4.out.2.2.2 d0⟩) (by kernel_rfl) ?_; intro ops Q' hops hPQ hN; (have HNS : Hid (Region.noSelect ops = true) := Lib.hid (by rw [hops]; kernel_rfl)); (have hsz : ops.size = 41 := (by rw [hops]; rfl)); have HOP := Lib.hid hops; have HPQ := Lib.hid hPQ; have HN := Lib.hid hN; rw [hsz]; clear hops hsz hPQ hN
  refine ord_take RD 0 (at_list (by rw [HOP.out]; rfl)) HNS.out HPQ.out (by rw [HOP.out]; kernel_rfl) (by rw [HOP.out]; kernel_rfl) (by rw [HOP.out]; rfl) (fun K hK => ?_); apply Exists.intro; refine ⟨fun W hSW => ?_, hK _ ?_⟩; (focus ((try dsimp only at hSW); (have z1 := hSW.2.1.cell); go_simp; try with_reducible rfl)); clear hK K; (try simp only [Act.put, List.setIfInBounds_toArray, List.set_cons_zero, List.set_cons_succ])
  refine ord_take RD 1 (at_list (by rw [HOP.out]; rfl)) HNS.out HPQ.out (by rw [HOP.out]; kernel_rfl) (by rw [HOP.out]; kernel_rfl) (by rw [HOP.out]; rfl) (fun K hK => ?_); apply Exists.intro; refine ⟨fun W hSW => ?_, hK _ ?_⟩; (focus ((try dsimp only at hSW); (have z1 := hSW.2.2.1.cell); go_simp; try with_reducible rfl)); clear hK K; (try simp only [Act.put, List.setIfInBounds_toArray, List.set_cons_zero, List.set_cons_succ])
  refine ord_take RD 2 (at_list (by rw [HOP.out]; rfl)) HNS.out HPQ.out (by rw [HOP.out]; kernel_rfl) (by rw [HOP.out]; kernel_rfl) (by rw [HOP.out]; rfl) (fun K hK => ?_); apply Exists.intro; refine ⟨fun W hSW => ?_, hK _ ?_⟩; (focus ((try dsimp only at hSW); go_simp; exact (same16_any A1 A2 n1 d1 n2 d2 q1 q2 W hSW.2.1.rows hSW.2.2.1.rows))); clear hK K; (try simp only [Act.put, List.setIfInBounds_toArray, List.set_cons_zero, List.set_cons_succ])
  rw [Y1.out]
  refine ord_take RD 3 (at_list (by rw [HOP.out]; rfl)) HNS.out HPQ.out (by rw [HOP.out]; kernel_rfl) (by rw [HOP.out]; kernel_rfl) (by rw [HOP.out]; rfl) (fun K hK => ?_); apply Exists.intro; refine ⟨fun W hSW => ?_, hK _ ?_⟩; (focus ((try dsimp only at hSW); go_simp; try with_reducible rfl)); clear hK K; (try simp only [Act.put, List.setIfInBounds_toArray, List.set_cons_zero, List.set_cons_succ])
  refine ord_take RD 4 (at_list (by rw [HOP.out]; rfl)) HNS.out HPQ.out (by rw [HOP.out]; kernel_rfl) (by rw [HOP.out]; kernel_rfl) (by rw [HOP.out]; rfl) (fun K hK => ?_); apply Exists.intro; refine ⟨fun W hSW => ?_, hK _ ?_⟩; (focus ((try dsimp only at hSW); go_simp; try with_reducible rfl)); clear hK K; (try simp only [Act.put, List.setIfInBounds_toArray, List.set_cons_zero, List.set_cons_succ])
  refine ord_take RD 5 (at_list (by rw [HOP.out]; rfl)) HNS.out HPQ.out (by rw [HOP.out]; kernel_rfl) (by rw [HOP.out]; kernel_rfl) (by rw [HOP.out]; rfl) (fun K hK => ?_); apply Exists.intro; refine ⟨fun W hSW => ?_, hK _ ?_⟩; (focus ((try dsimp only at hSW); go_simp; try with_reducible rfl)); clear hK K; (try simp only [Act.put, List.setIfInBounds_toArray, List.set_cons_zero, List.set_cons_succ])
  refine ord_take RD 6 (at_list (by rw [HOP.out]; rfl)) HNS.out HPQ.out (by rw [HOP.out]; kernel_rfl) (by rw [HOP.out]; kernel_rfl) (by rw [HOP.out]; rfl) (fun K hK => ?_); apply Exists.intro; refine ⟨fun W hSW => ?_, hK _ ?_⟩; (focus ((try dsimp only at hSW); go_simp; try with_reducible rfl)); clear hK K; (try simp only [Act.put, List.setIfInBounds_toArray, List.set_cons_zero, List.set_cons_succ])
  refine ord_take RD 7 (at_list (by rw [HOP.out]; rfl)) HNS.out HPQ.out (by rw [HOP.out]; kernel_rfl) (by rw [HOP.out]; kernel_rfl) (by rw [HOP.out]; rfl) (fun K hK => ?_); apply Exists.intro; refine ⟨fun W hSW => ?_, hK _ ?_⟩; (focus ((try dsimp only at hSW); go_simp; try with_reducible rfl)); clear hK K; (try simp only [Act.put, List.setIfInBounds_toArray, List.set_cons_zero, List.set_cons_succ])
  refine ord_take RD 8 (at_list (by rw [HOP.out]; rfl)) HNS.out HPQ.out (by rw [HOP.out]; kernel_rfl) (by rw [HOP.out]; kernel_rfl) (by rw [HOP.out]; rfl) (fun K hK => ?_); apply Exists.intro; refine ⟨fun W hSW => ?_, hK _ ?_⟩; (focus ((try dsimp only at hSW); go_simp; try with_reducible rfl)); clear hK K; (try simp only [Act.put, List.setIfInBounds_toArray, List.set_cons_zero, List.set_cons_succ])
  refine ord_take RD 9 (at_list (by rw [HOP.out]; rfl)) HNS.out HPQ.out (by rw [HOP.out]; kernel_rfl) (by rw [HOP.out]; kernel_rfl) (by rw [HOP.out]; rfl) (fun K hK => ?_); apply Exists.intro; refine ⟨fun W hSW => ?_, hK _ ?_⟩; (focus ((try dsimp only at hSW); (have z1 := hSW.1.cell); go_simp; try with_reducible rfl)); clear hK K; (try simp only [Act.put, List.setIfInBounds_toArray, List.set_cons_zero, List.set_cons_succ])
  refine ord_take RD 10 (at_list (by rw [HOP.out]; rfl)) HNS.out HPQ.out (by rw [HOP.out]; kernel_rfl) (by rw [HOP.out]; kernel_rfl) (by rw [HOP.out]; rfl) (fun K hK => ?_); apply Exists.intro; refine ⟨fun W hSW => ?_, hK _ ?_⟩; (focus ((try dsimp only at hSW); go_simp; exact (Check_any P m c rs W hSW.1.rows))); clear hK K; (try simp only [Act.put, List.setIfInBounds_toArray, List.set_cons_zero, List.set_cons_succ])
  refine ord_take RD 11 (at_list (by rw [HOP.out]; rfl)) HNS.out HPQ.out (by rw [HOP.out]; kernel_rfl) (by rw [HOP.out]; kernel_rfl) (by rw [HOP.out]; rfl) (fun K hK => ?_); apply Exists.intro; refine ⟨fun W hSW => ?_, hK _ ?_⟩; (focus ((try dsimp only at hSW); (have z1 := hSW.1.cell); go_simp; try with_reducible rfl)); clear hK K; (try simp only [Act.put, List.setIfInBounds_toArray, List.set_cons_zero, List.set_cons_succ])
  refine ord_take RD 12 (at_list (by rw [HOP.out]; rfl)) HNS.out HPQ.out (by rw [HOP.out]; kernel_rfl) (by rw [HOP.out]; kernel_rfl) (by rw [HOP.out]; rfl) (fun K hK => ?_); apply Exists.intro; refine ⟨fun W hSW => ?_, hK _ ?_⟩; (focus ((try dsimp only at hSW); go_simp; exact (rCheck_any P m c rs W hSW.1.rows))); clear hK K; (try simp only [Act.put, List.setIfInBounds_toArray, List.set_cons_zero, List.set_cons_succ])
  refine ord_take RD 13 (at_list (by rw [HOP.out]; rfl)) HNS.out HPQ.out (by rw [HOP.out]; kernel_rfl) (by rw [HOP.out]; kernel_rfl) (by rw [HOP.out]; rfl) (fun K hK => ?_); apply Exists.intro; refine ⟨fun W hSW => ?_, hK _ ?_⟩; (focus ((try dsimp only at hSW); go_simp; try with_reducible rfl)); clear hK K; (try simp only [Act.put, List.setIfInBounds_toArray, List.set_cons_zero, List.set_cons_succ])
  refine ord_take RD 14 (at_list (by rw [HOP.out]; rfl)) HNS.out HPQ.out (by rw [HOP.out]; kernel_rfl) (by rw [HOP.out]; kernel_rfl) (by rw [HOP.out]; rfl) (fun K hK => ?_); apply Exists.intro; refine ⟨fun W hSW => ?_, hK _ ?_⟩; (focus ((try dsimp only at hSW); go_simp; try with_reducible rfl)); clear hK K; (try simp only [Act.put, List.setIfInBounds_toArray, List.set_cons_zero, List.set_cons_succ])
  refine ord_take RD 15 (at_list (by rw [HOP.out]; rfl)) HNS.out HPQ.out (by rw [HOP.out]; kernel_rfl) (by rw [HOP.out]; kernel_rfl) (by rw [HOP.out]; rfl) (fun K hK => ?_); apply Exists.intro; refine ⟨fun W hSW => ?_, hK _ ?_⟩; (focus ((try dsimp only at hSW); go_simp; try with_reducible rfl)); clear hK K; (try simp only [Act.put, List.setIfInBounds_toArray, List.set_cons_zero, List.set_cons_succ])
  refine ord_take RD 16 (at_list (by rw [HOP.out]; rfl)) HNS.out HPQ.out (by rw [HOP.out]; kernel_rfl) (by rw [HOP.out]; kernel_rfl) (by rw [HOP.out]; rfl) (fun K hK => ?_); apply Exists.intro; refine ⟨fun W hSW => ?_, hK _ ?_⟩; (focus ((try dsimp only at hSW); go_simp; try with_reducible rfl)); clear hK K; (try simp only [Act.put, List.setIfInBounds_toArray, List.set_cons_zero, List.set_cons_succ])
  refine ord_take RD 17 (at_list (by rw [HOP.out]; rfl)) HNS.out HPQ.out (by rw [HOP.out]; kernel_rfl) (by rw [HOP.out]; kernel_rfl) (by rw [HOP.out]; rfl) (fun K hK => ?_); apply Exists.intro; refine ⟨fun W hSW => ?_, hK _ ?_⟩; (focus ((try dsimp only at hSW); go_simp; try with_reducible rfl)); clear hK K; (try simp only [Act.put, List.setIfInBounds_toArray, List.set_cons_zero, List.set_cons_succ])
  refine ord_take RD 18 (at_list (by rw [HOP.out]; rfl)) HNS.out HPQ.out (by rw [HOP.out]; kernel_rfl) (by rw [HOP.out]; kernel_rfl) (by rw [HOP.out]; rfl) (fun K hK => ?_); apply Exists.intro; refine ⟨fun W hSW => ?_, hK _ ?_⟩; (focus ((try dsimp only at hSW); go_simp; try with_reducible rfl)); clear hK K; (try simp only [Act.put, List.setIfInBounds_toArray, List.set_cons_zero, List.set_cons_succ])
  refine ord_take RD 19 (at_list (by rw [HOP.out]; rfl)) HNS.out HPQ.out (by rw [HOP.out]; kernel_rfl) (by rw [HOP.out]; kernel_rfl) (by rw [HOP.out]; rfl) (fun K hK => ?_); apply Exists.intro; refine ⟨fun W hSW => ?_, hK _ ?_⟩; (focus ((try dsimp only at hSW); go_simp; try with_reducible rfl)); clear hK K; (try simp only [Act.put, List.setIfInBounds_toArray, List.set_cons_zero, List.set_cons_succ])
  refine ord_take RD 20 (at_list (by rw [HOP.out]; rfl)) HNS.out HPQ.out (by rw [HOP.out]; kernel_rfl) (by rw [HOP.out]; kernel_rfl) (by rw [HOP.out]; rfl) (fun K hK => ?_); apply Exists.intro; refine ⟨fun W hSW => ?_, hK _ ?_⟩; (focus ((try dsimp only at hSW); go_simp; try with_reducible rfl)); clear hK K; (try simp only [Act.put, List.setIfInBounds_toArray, List.set_cons_zero, List.set_cons_succ])
  refine ord_take RD 21 (at_list (by rw [HOP.out]; rfl)) HNS.out HPQ.out (by rw [HOP.out]; kernel_rfl) (by rw [HOP.out]; kernel_rfl) (by rw [HOP.out]; rfl) (fun K hK => ?_); apply Exists.intro; refine ⟨fun W hSW => ?_, hK _ ?_⟩; (focus ((try dsimp only at hSW); go_simp; try with_reducible rfl)); clear hK K; (try simp only [Act.put, List.setIfInBounds_toArray, List.set_cons_zero, List.set_cons_succ])
  refine ord_take RD 22 (at_list (by rw [HOP.out]; rfl)) HNS.out HPQ.out (by rw [HOP.out]; kernel_rfl) (by rw [HOP.out]; kernel_rfl) (by rw [HOP.out]; rfl) (fun K hK => ?_); apply Exists.intro; refine ⟨fun W hSW => ?_, hK _ ?_⟩; (focus ((try dsimp only at hSW); go_simp; try with_reducible rfl)); clear hK K; (try simp only [Act.put, List.setIfInBounds_toArray, List.set_cons_zero, List.set_cons_succ])
  refine ord_take RD 23 (at_list (by rw [HOP.out]; rfl)) HNS.out HPQ.out (by rw [HOP.out]; kernel_rfl) (by rw [HOP.out]; kernel_rfl) (by rw [HOP.out]; rfl) (fun K hK => ?_); apply Exists.intro; refine ⟨fun W hSW => ?_, hK _ ?_⟩; (focus ((try dsimp only at hSW); go_simp; try with_reducible rfl)); clear hK K; (try simp only [Act.put, List.setIfInBounds_toArray, List.set_cons_zero, List.set_cons_succ])
  refine ord_take RD 24 (at_list (by rw [HOP.out]; rfl)) HNS.out HPQ.out (by rw [HOP.out]; kernel_rfl) (by rw [HOP.out]; kernel_rfl) (by rw [HOP.out]; rfl) (fun K hK => ?_); apply Exists.intro; refine ⟨fun W hSW => ?_, hK _ ?_⟩; (focus ((try dsimp only at hSW); go_simp; try with_reducible rfl)); clear hK K; (try simp only [Act.put, List.setIfInBounds_toArray, List.set_cons_zero, List.set_cons_succ])
  refine ord_take RD 25 (at_list (by rw [HOP.out]; rfl)) HNS.out HPQ.out (by rw [HOP.out]; kernel_rfl) (by rw [HOP.out]; kernel_rfl) (by rw [HOP.out]; rfl) (fun K hK => ?_); apply Exists.intro; refine ⟨fun W hSW => ?_, hK _ ?_⟩; (focus ((try dsimp only at hSW); go_simp; try with_reducible rfl)); clear hK K; (try simp only [Act.put, List.setIfInBounds_toArray, List.set_cons_zero, List.set_cons_succ])
  refine ord_take RD 26 (at_list (by rw [HOP.out]; rfl)) HNS.out HPQ.out (by rw [HOP.out]; kernel_rfl) (by rw [HOP.out]; kernel_rfl) (by rw [HOP.out]; rfl) (fun K hK => ?_); apply Exists.intro; refine ⟨fun W hSW => ?_, hK _ ?_⟩; (focus ((try dsimp only at hSW); go_simp; try with_reducible rfl)); clear hK K; (try simp only [Act.put, List.setIfInBounds_toArray, List.set_cons_zero, List.set_cons_succ])
  refine ord_take RD 27 (at_list (by rw [HOP.out]; rfl)) HNS.out HPQ.out (by rw [HOP.out]; kernel_rfl) (by rw [HOP.out]; kernel_rfl) (by rw [HOP.out]; rfl) (fun K hK => ?_); apply Exists.intro; refine ⟨fun W hSW => ?_, hK _ ?_⟩; (focus ((try dsimp only at hSW); go_simp; try with_reducible rfl)); clear hK K; (try simp only [Act.put, List.setIfInBounds_toArray, List.set_cons_zero, List.set_cons_succ])
  refine ord_take RD 28 (at_list (by rw [HOP.out]; rfl)) HNS.out HPQ.out (by rw [HOP.out]; kernel_rfl) (by rw [HOP.out]; kernel_rfl) (by rw [HOP.out]; rfl) (fun K hK => ?_); apply Exists.intro; refine ⟨fun W hSW => ?_, hK _ ?_⟩; (focus ((try dsimp only at hSW); go_simp; try with_reducible rfl)); clear hK K; (try simp only [Act.put, List.setIfInBounds_toArray, List.set_cons_zero, List.set_cons_succ])
  refine ord_take RD 29 (at_list (by rw [HOP.out]; rfl)) HNS.out HPQ.out (by rw [HOP.out]; kernel_rfl) (by rw [HOP.out]; kernel_rfl) (by rw [HOP.out]; rfl) (fun K hK => ?_); apply Exists.intro; refine ⟨fun W hSW => ?_, hK _ ?_⟩; (focus ((try dsimp only at hSW); go_simp; try with_reducible rfl)); clear hK K; (try simp only [Act.put, List.setIfInBounds_toArray, List.set_cons_zero, List.set_cons_succ])
  refine ord_take RD 30 (at_list (by rw [HOP.out]; rfl)) HNS.out HPQ.out (by rw [HOP.out]; kernel_rfl) (by rw [HOP.out]; kernel_rfl) (by rw [HOP.out]; rfl) (fun K hK => ?_); apply Exists.intro; refine ⟨fun W hSW => ?_, hK _ ?_⟩; (focus ((try dsimp only at hSW); go_simp; try with_reducible rfl)); clear hK K; (try simp only [Act.put, List.setIfInBounds_toArray, List.set_cons_zero, List.set_cons_succ])
  refine ord_take RD 31 (at_list (by rw [HOP.out]; rfl)) HNS.out HPQ.out (by rw [HOP.out]; kernel_rfl) (by rw [HOP.out]; kernel_rfl) (by rw [HOP.out]; rfl) (fun K hK => ?_); apply Exists.intro; refine ⟨fun W hSW => ?_, hK _ ?_⟩; (focus ((try dsimp only at hSW); go_simp; try with_reducible rfl)); clear hK K; (try simp only [Act.put, List.setIfInBounds_toArray, List.set_cons_zero, List.set_cons_succ])
  refine ord_take RD 32 (at_list (by rw [HOP.out]; rfl)) HNS.out HPQ.out (by rw [HOP.out]; kernel_rfl) (by rw [HOP.out]; kernel_rfl) (by rw [HOP.out]; rfl) (fun K hK => ?_); apply Exists.intro; refine ⟨fun W hSW => ?_, hK _ ?_⟩; (focus ((try dsimp only at hSW); go_simp; try with_reducible rfl)); clear hK K; (try simp only [Act.put, List.setIfInBounds_toArray, List.set_cons_zero, List.set_cons_succ])
  refine ord_take RD 33 (at_list (by rw [HOP.out]; rfl)) HNS.out HPQ.out (by rw [HOP.out]; kernel_rfl) (by rw [HOP.out]; kernel_rfl) (by rw [HOP.out]; rfl) (fun K hK => ?_); apply Exists.intro; refine ⟨fun W hSW => ?_, hK _ ?_⟩; (focus ((try dsimp only at hSW); go_simp; try with_reducible rfl)); clear hK K; (try simp only [Act.put, List.setIfInBounds_toArray, List.set_cons_zero, List.set_cons_succ])
  refine ord_take RD 34 (at_list (by rw [HOP.out]; rfl)) HNS.out HPQ.out (by rw [HOP.out]; kernel_rfl) (by rw [HOP.out]; kernel_rfl) (by rw [HOP.out]; rfl) (fun K hK => ?_); apply Exists.intro; refine ⟨fun W hSW => ?_, hK _ ?_⟩; (focus ((try dsimp only at hSW); go_simp; try with_reducible rfl)); clear hK K; (try simp only [Act.put, List.setIfInBounds_toArray, List.set_cons_zero, List.set_cons_succ])
  refine ord_take RD 35 (at_list (by rw [HOP.out]; rfl)) HNS.out HPQ.out (by rw [HOP.out]; kernel_rfl) (by rw [HOP.out]; kernel_rfl) (by rw [HOP.out]; rfl) (fun K hK => ?_); apply Exists.intro; refine ⟨fun W hSW => ?_, hK _ ?_⟩; (focus ((try dsimp only at hSW); go_simp; try with_reducible rfl)); clear hK K; (try simp only [Act.put, List.setIfInBounds_toArray, List.set_cons_zero, List.set_cons_succ])
  refine ord_take RD 36 (at_list (by rw [HOP.out]; rfl)) HNS.out HPQ.out (by rw [HOP.out]; kernel_rfl) (by rw [HOP.out]; kernel_rfl) (by rw [HOP.out]; rfl) (fun K hK => ?_); apply Exists.intro; refine ⟨fun W hSW => ?_, hK _ ?_⟩; (focus ((try dsimp only at hSW); go_simp; try with_reducible rfl)); clear hK K; (try simp only [Act.put, List.setIfInBounds_toArray, List.set_cons_zero, List.set_cons_succ])
  refine ord_take RD 37 (at_list (by rw [HOP.out]; rfl)) HNS.out HPQ.out (by rw [HOP.out]; kernel_rfl) (by rw [HOP.out]; kernel_rfl) (by rw [HOP.out]; rfl) (fun K hK => ?_); apply Exists.intro; refine ⟨fun W hSW => ?_, hK _ ?_⟩; (focus ((try dsimp only at hSW); go_simp; try with_reducible rfl)); clear hK K; (try simp only [Act.put, List.setIfInBounds_toArray, List.set_cons_zero, List.set_cons_succ])
  refine ord_take RD 38 (at_list (by rw [HOP.out]; rfl)) HNS.out HPQ.out (by rw [HOP.out]; kernel_rfl) (by rw [HOP.out]; kernel_rfl) (by rw [HOP.out]; rfl) (fun K hK => ?_); apply Exists.intro; refine ⟨fun W hSW => ?_, hK _ ?_⟩; (focus ((try dsimp only at hSW); go_simp; try with_reducible rfl)); clear hK K; (try simp only [Act.put, List.setIfInBounds_toArray, List.set_cons_zero, List.set_cons_succ])
  refine ord_take RD 39 (at_list (by rw [HOP.out]; rfl)) HNS.out HPQ.out (by rw [HOP.out]; kernel_rfl) (by rw [HOP.out]; kernel_rfl) (by rw [HOP.out]; rfl) (fun K hK => ?_); apply Exists.intro; refine ⟨fun W hSW => ?_, hK _ ?_⟩; (focus ((try dsimp only at hSW); go_simp; try with_reducible rfl)); clear hK K; (try simp only [Act.put, List.setIfInBounds_toArray, List.set_cons_zero, List.set_cons_succ])
  refine ord_take RD 40 (at_list (by rw [HOP.out]; rfl)) HNS.out HPQ.out (by rw [HOP.out]; kernel_rfl) (by rw [HOP.out]; kernel_rfl) (by rw [HOP.out]; rfl) (fun K hK => ?_); apply Exists.intro; refine ⟨fun W hSW => ?_, hK _ ?_⟩; (focus ((try dsimp only at hSW); go_simp; try with_reducible rfl)); clear hK K; (try simp only [Act.put, List.setIfInBounds_toArray, List.set_cons_zero, List.set_cons_succ])
  refine ord_done (by rw [HOP.out]; kernel_rfl) (fun W8 hWW hSW => HN.out _ _ ?_); clear HOP HNS HPQ HN RD; (try dsimp only at hSW)
  have HF := Lib.hid hSW
  clear hSW hWW
  go_wp2_with fail
  go_ret
  exact ⟨rfl, HF.out.2.2.2⟩
theorem mixes_law (n x : Int) (P : Option Addr) (m c : Nat) (rs : List RY) (set : Int) (B : Option Addr) (bn bc : Nat) (zs : List Int) (p : Int) (bit : Bool) (w : World) (_ : -9223372036854775808 ≤ n) (_ : n ≤ 9223372036854775807) (x0 : -2147483648 ≤ x) (x1 : x ≤ 2147483647) (h : RowsY w P m c rs) (_ : -9223372036854775808 ≤ set) (_ : set ≤ 9223372036854775807) (hb : IsRow .i32 w B bn bc zs) (p0 : -2147483648 ≤ p) (p1 : p ≤ 2147483647) (hT : Tab w) :
    Calls Tryd.prog 3 #[.int .i64 n, .int .i32 x, .agg #[.slice P m c], .int .i64 set, .slice B bn bc, .int .i32 p, .bool bit] w fun e w' => e = .returned (.bool true) ∧ Below w.heap.size w w' :=
  mixes n x P m c rs set B bn bc _ p bit w ⟨x0, x1⟩ h (in8_of hb) p0 p1 hT
end Go.Proofs.YtjikddndlnimoaaDoor.mxL
