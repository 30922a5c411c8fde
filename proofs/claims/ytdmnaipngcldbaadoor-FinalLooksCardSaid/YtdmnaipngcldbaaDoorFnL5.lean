/- FinalLooks, by a walk. -/
import Derived.Test.YtdmnaipngcldbaaDoorFnW8
import Derived.Test.YtdmnaipngcldbaaDoorFnW6
namespace Go.Proofs.YtdmnaipngcldbaaDoor.fnL
set_option maxRecDepth 100000
open Go.RowKit Go.Proofs.YtdmnaipngcldbaaDoor.base Go.Proofs.YtdmnaipngcldbaaDoor.rfP Go.Proofs.YtdmnaipngcldbaaDoor.rfW Go.Proofs.YtdmnaipngcldbaaDoor.fnP Go.Proofs.YtdmnaipngcldbaaDoor.fnW Go.Proofs.YtdmnaipngcldbaaDoor.sqP Go.Proofs.YtdmnaipngcldbaaDoor.sqW
set_option linter.unusedVariables false
set_option linter.unusedSimpArgs false
theorem njb (t : Nat) (h : t ≤ 4095) : nearJ t < 33 := by unfold nearJ; split <;> omega
theorem ljb (x : List (List Int)) (r d : Int) (h1 : -2147483648 ≤ d) (h2 : d ≤ 2147483647) : 0 ≤ lookJ x r d ∧ lookJ x r d ≤ 32 := by
  unfold lookJ lookE
  by_cases h : askE x r = 0
  · rw [if_pos h]
    by_cases hd : d < -2047 ∨ 2047 < d
    · rw [if_pos hd, if_neg (by decide)]; decide
    · rw [if_neg hd, if_pos rfl]
      have := njb (d + 2048).toNat (by omega)
      omega
  · rw [if_neg h, if_neg h]; decide
theorem fz_bd {x y : List (List Int)} {r0 r1 d p v : Int} (h : -9223372036854775808 ≤ v ∧ v ≤ 9223372036854775807) : -9223372036854775808 ≤ fZ x y r0 r1 d p v ∧ fZ x y r0 r1 d p v ≤ 9223372036854775807 := by unfold fZ; split <;> omega
theorem row_bd (one two part : Int) : (0 ≤ rowV part ∧ rowV part ≤ 255) ∧ 0 ≤ rowW one two part ∧ rowW one two part ≤ 255 := by
  unfold rowV rowW
  split <;> (try split) <;> omega
set_option maxHeartbeats 1500000 in
theorem looks (P : Option Addr) (m c : Nat) (rs : List RY) (Q : Option Addr) (n e : Nat) (qs : List RY) (r0 r1 d p a b one two part : Int) (w : World) (h : RowsY w P m c rs) (h' : RowsY w Q n e qs) (hd : -2147483648 ≤ d ∧ d ≤ 2147483647) (hr0 : -9223372036854775808 ≤ r0 ∧ r0 ≤ 9223372036854775807) (hr1 : -9223372036854775808 ≤ r1 ∧ r1 ≤ 9223372036854775807) (ha : 0 ≤ one ∧ one ≤ 255) (hb : 0 ≤ two ∧ two ≤ 255) (hT : Tab w) :
    Calls Tryd.prog 3 #[.agg #[.slice P m c, .slice Q n e], .agg #[.int .i64 r0, .int .i64 r1], .int .i32 d, .int .i32 p, .int .i32 a, .int .i32 b, .int .u8 one, .int .u8 two, .int .i64 part] w fun v w' => v = .returned (.bool true) ∧ Below w.heap.size w w' := by
  have HT := Lib.hid hT
  have HAB := Lib.hid (And.intro ha hb)
  have HZB : Hid ((-9223372036854775808 ≤ fZ (numsY rs) (numsY qs) r0 r1 d p r0 ∧ fZ (numsY rs) (numsY qs) r0 r1 d p r0 ≤ 9223372036854775807) ∧ (-9223372036854775808 ≤ fZ (numsY rs) (numsY qs) r0 r1 d p r1 ∧ fZ (numsY rs) (numsY qs) r0 r1 d p r1 ≤ 9223372036854775807) ∧ (-9223372036854775808 ≤ fZ (numsY rs) (numsY qs) r0 r1 d p (lookJ (numsY rs) r0 d) ∧ fZ (numsY rs) (numsY qs) r0 r1 d p (lookJ (numsY rs) r0 d) ≤ 9223372036854775807) ∧ (-9223372036854775808 ≤ fZ (numsY rs) (numsY qs) r0 r1 d p (lookJ (numsY qs) r1 d) ∧ fZ (numsY rs) (numsY qs) r0 r1 d p (lookJ (numsY qs) r1 d) ≤ 9223372036854775807)) := Lib.hid ⟨fz_bd hr0, fz_bd hr1, fz_bd (by have := ljb (numsY rs) r0 d hd.1 hd.2; omega), fz_bd (by have := ljb (numsY qs) r1 d hd.1 hd.2; omega)⟩
  have S0 : Hid (FnAt ((w.alloc (.cells #[.slice P m c, .slice Q n e] 26)).alloc (.cells #[.int .i64 r0, .int .i64 r1] 27)) w.heap.size P m c rs Q n e qs ∧ Lies (((w.alloc (.cells #[.slice P m c, .slice Q n e] 26)).alloc (.cells #[.int .i64 r0, .int .i64 r1] 27))) (w.heap.size + 1) 27 [.int .i64 (r0), .int .i64 (r1)] ∧ Below w.heap.size w ((w.alloc (.cells #[.slice P m c, .slice Q n e] 26)).alloc (.cells #[.int .i64 r0, .int .i64 r1] 27))) := Lib.hid ⟨(fnAt_new h h').alloc _, Lies.fresh_at (cs := [.int .i64 r0, .int .i64 r1]) (by simp), by (repeat' (first | (with_reducible exact Below.refl _ _) | (with_reducible assumption) | (with_reducible refine below_drewN ?_ _) | (with_reducible refine below_new ?_ _) | (with_reducible refine Below.alloc ?_ ?_ _) | (with_reducible refine Below.drew ?_) | (with_reducible refine Below.setCell ?_ ?_ _) | (with_reducible apply below_at; (case k => (with_reducible assumption)); (case hB => omega)) | (with_reducible apply below_on; (with_reducible assumption)) | (go_size; done) | (with_reducible apply size_of)))⟩
  clear h h' hT hd hr0 hr1 ha hb
  go_enter Tryd.func3, Tryd.ntmps3
  go_wp2_with fail
  generalize hw0 : ((w.alloc (.cells #[.slice P m c, .slice Q n e] 26)).alloc (.cells #[.int .i64 r0, .int .i64 r1] 27)) = w0 at *
  generalize w.heap.size + 1 = g1 at *
  clear hw0
  refine (fnW.Great_any P m c rs Q n e qs w0 S0.out.1.r1 S0.out.1.r2).mono ?_
  rintro v w2 ⟨rfl, b2⟩
  have S2 : Hid (FnAt w2 w.heap.size P m c rs Q n e qs ∧ Lies (w2) (g1) 27 [.int .i64 (r0), .int .i64 (r1)] ∧ Below w.heap.size w w2) := Lib.hid ⟨S0.out.1.past b2, S0.out.2.1.past b2, below_bs S0.out.2.2 b2⟩
  clear b2 S0
  cases hg : (greatB (numsY rs) || greatB (numsY qs))
  case true =>
    clear hg
    go_wp2_with fail
    go_ret
    exact ⟨rfl, S2.out.2.2⟩
  clear hg
  go_wp2_with fail
  refine (Join_any p a b w2).mono ?_
  rintro v wa ⟨rfl, rfl⟩
  go_wp2_with fail
  refine (rJoin_any p a b wa).mono ?_
  rintro v wb ⟨rfl, rfl⟩
  generalize joinV p a b = jv at *
  generalize joinE p a b = je at *
  go_wp2_with fail
  refine (Rows_any one two part wb HAB.out.1 HAB.out.2).mono ?_
  rintro v v3 ⟨rfl, b3⟩
  have HRB := Lib.hid (row_bd one two part)
  obtain ⟨h0, hh0⟩ : ∃ v, rowV part = v := ⟨_, rfl⟩
  obtain ⟨h1, hh1⟩ : ∃ v, rowW one two part = v := ⟨_, rfl⟩
  obtain ⟨he, hhe⟩ : ∃ v, rowE part = v := ⟨_, rfl⟩
  rw [hh0, hh1] at HRB
  rw [hh0, hh1, hhe]
  have HRE := Lib.hid (And.intro hh0 (And.intro hh1 hhe))
  clear hh0 hh1 hhe
  have S3 : Hid (FnAt (v3.alloc (.cells #[.int .i64 h0, .int .i64 h1] 27)) w.heap.size P m c rs Q n e qs ∧ Lies ((v3.alloc (.cells #[.int .i64 h0, .int .i64 h1] 27))) (g1) 27 [.int .i64 (r0), .int .i64 (r1)] ∧ Lies ((v3.alloc (.cells #[.int .i64 h0, .int .i64 h1] 27))) (v3.heap.size) 27 [.int .i64 (h0), .int .i64 (h1)] ∧ Below w.heap.size w (v3.alloc (.cells #[.int .i64 h0, .int .i64 h1] 27))) := Lib.hid ⟨(S2.out.1.past b3).alloc _, (S2.out.2.1.past b3).alloc _, Lies.fresh _ _ _, below_al (below_bs S2.out.2.2 b3) _⟩
  clear b3 S2
  go_upto_region 6 with fail
  generalize hw3 : (v3.alloc (.cells #[.int .i64 h0, .int .i64 h1] 27)) = w3 at *
  generalize v3.heap.size = g3 at *
  clear hw3
  go_wp2_with fail
  refine (rRows_any one two part w3 HAB.out.1 HAB.out.2).mono ?_
  rintro v v4 ⟨rfl, b4⟩
  rw [HRE.out.1, HRE.out.2.1, HRE.out.2.2]
  have S4 : Hid (FnAt (v4.alloc (.cells #[.int .i64 h0, .int .i64 h1] 27)) w.heap.size P m c rs Q n e qs ∧ Lies ((v4.alloc (.cells #[.int .i64 h0, .int .i64 h1] 27))) (g1) 27 [.int .i64 (r0), .int .i64 (r1)] ∧ Lies ((v4.alloc (.cells #[.int .i64 h0, .int .i64 h1] 27))) (g3) 27 [.int .i64 (h0), .int .i64 (h1)] ∧ Lies ((v4.alloc (.cells #[.int .i64 h0, .int .i64 h1] 27))) (v4.heap.size) 27 [.int .i64 (h0), .int .i64 (h1)] ∧ Below w.heap.size w (v4.alloc (.cells #[.int .i64 h0, .int .i64 h1] 27))) := Lib.hid ⟨(S3.out.1.past b4).alloc _, (S3.out.2.1.past b4).alloc _, (S3.out.2.2.1.past b4).alloc _, Lies.fresh _ _ _, below_al (below_bs S3.out.2.2.2 b4) _⟩
  clear b4 S3
  go_upto_region 7 with fail
  generalize hw4 : (v4.alloc (.cells #[.int .i64 h0, .int .i64 h1] 27)) = w4 at *
  generalize v4.heap.size = g4 at *
  clear hw4
  have x0 := S4.out.1.c0
  have x1 := S4.out.1.c1
  obtain ⟨x2, x3, -, -⟩ := S4.out.2.1.two
  go_wp2_with fail
  clear x0 x1 x2 x3
  refine (fnW.Look_any P m c rs Q n e qs r0 r1 d p w4 S4.out.1.r1 S4.out.1.r2).mono ?_
  rintro v v5 ⟨rfl, b5⟩
  obtain ⟨z0, hz0⟩ : ∃ z, fZ (numsY rs) (numsY qs) r0 r1 d p r0 = z := ⟨_, rfl⟩
  obtain ⟨z1, hz1⟩ : ∃ z, fZ (numsY rs) (numsY qs) r0 r1 d p r1 = z := ⟨_, rfl⟩
  obtain ⟨z2, hz2⟩ : ∃ z, fZ (numsY rs) (numsY qs) r0 r1 d p (lookJ (numsY rs) r0 d) = z := ⟨_, rfl⟩
  obtain ⟨z3, hz3⟩ : ∃ z, fZ (numsY rs) (numsY qs) r0 r1 d p (lookJ (numsY qs) r1 d) = z := ⟨_, rfl⟩
  obtain ⟨fv, hfv⟩ : ∃ z, fV (numsY rs) (numsY qs) r0 r1 d p = z := ⟨_, rfl⟩
  obtain ⟨fe, hfe⟩ : ∃ z, fE (numsY rs) (numsY qs) r0 r1 d p = z := ⟨_, rfl⟩
  have HZ := Lib.hid (And.intro hz0 (And.intro hz1 (And.intro hz2 (And.intro hz3 (And.intro hfv hfe)))))
  rw [hz0, hz1, hz2, hz3] at HZB
  rw [hz0, hz1, hz2, hz3, hfv, hfe]
  clear hz0 hz1 hz2 hz3 hfv hfe
  have S5 : Hid (FnAt (v5.alloc (.cells #[.int .i64 z0, .int .i64 z1, .int .i64 z2, .int .i64 z3] 39)) w.heap.size P m c rs Q n e qs ∧ Lies ((v5.alloc (.cells #[.int .i64 z0, .int .i64 z1, .int .i64 z2, .int .i64 z3] 39))) (g1) 27 [.int .i64 (r0), .int .i64 (r1)] ∧ Lies ((v5.alloc (.cells #[.int .i64 z0, .int .i64 z1, .int .i64 z2, .int .i64 z3] 39))) (g3) 27 [.int .i64 (h0), .int .i64 (h1)] ∧ Lies ((v5.alloc (.cells #[.int .i64 z0, .int .i64 z1, .int .i64 z2, .int .i64 z3] 39))) (g4) 27 [.int .i64 (h0), .int .i64 (h1)] ∧ Lies ((v5.alloc (.cells #[.int .i64 z0, .int .i64 z1, .int .i64 z2, .int .i64 z3] 39))) (v5.heap.size) 39 [.int .i64 (z0), .int .i64 (z1), .int .i64 (z2), .int .i64 (z3)] ∧ Below w.heap.size w (v5.alloc (.cells #[.int .i64 z0, .int .i64 z1, .int .i64 z2, .int .i64 z3] 39))) := Lib.hid ⟨(S4.out.1.past b5).alloc _, (S4.out.2.1.past b5).alloc _, (S4.out.2.2.1.past b5).alloc _, (S4.out.2.2.2.1.past b5).alloc _, Lies.fresh _ _ _, below_al (below_bs S4.out.2.2.2.2 b5) _⟩
  clear b5 S4
  go_upto_region 8 with fail
  generalize hw5 : (v5.alloc (.cells #[.int .i64 z0, .int .i64 z1, .int .i64 z2, .int .i64 z3] 39)) = w5 at *
  generalize v5.heap.size = g5 at *
  clear hw5
  have x0 := S5.out.1.c0
  have x1 := S5.out.1.c1
  obtain ⟨x2, x3, -, -⟩ := S5.out.2.1.two
  go_wp2_with fail
  clear x0 x1 x2 x3
  refine (rLook_any P m c rs Q n e qs r0 r1 d p w5 S5.out.1.r1 S5.out.1.r2).mono ?_
  rintro v v6 ⟨rfl, b6⟩
  rw [HZ.out.1, HZ.out.2.1, HZ.out.2.2.1, HZ.out.2.2.2.1, HZ.out.2.2.2.2.1, HZ.out.2.2.2.2.2]
  have S6 : Hid (FnAt (v6.alloc (.cells #[.int .i64 z0, .int .i64 z1, .int .i64 z2, .int .i64 z3] 39)) w.heap.size P m c rs Q n e qs ∧ Lies ((v6.alloc (.cells #[.int .i64 z0, .int .i64 z1, .int .i64 z2, .int .i64 z3] 39))) (g3) 27 [.int .i64 (h0), .int .i64 (h1)] ∧ Lies ((v6.alloc (.cells #[.int .i64 z0, .int .i64 z1, .int .i64 z2, .int .i64 z3] 39))) (g4) 27 [.int .i64 (h0), .int .i64 (h1)] ∧ Lies ((v6.alloc (.cells #[.int .i64 z0, .int .i64 z1, .int .i64 z2, .int .i64 z3] 39))) (g5) 39 [.int .i64 (z0), .int .i64 (z1), .int .i64 (z2), .int .i64 (z3)] ∧ Lies ((v6.alloc (.cells #[.int .i64 z0, .int .i64 z1, .int .i64 z2, .int .i64 z3] 39))) (v6.heap.size) 39 [.int .i64 (z0), .int .i64 (z1), .int .i64 (z2), .int .i64 (z3)] ∧ Below w.heap.size w (v6.alloc (.cells #[.int .i64 z0, .int .i64 z1, .int .i64 z2, .int .i64 z3] 39))) := Lib.hid ⟨(S5.out.1.past b6).alloc _, (S5.out.2.2.1.past b6).alloc _, (S5.out.2.2.2.1.past b6).alloc _, (S5.out.2.2.2.2.1.past b6).alloc _, Lies.fresh _ _ _, below_al (below_bs S5.out.2.2.2.2.2 b6) _⟩
  clear b6 S5
  go_upto_region 9 with fail
  generalize hw6 : (v6.alloc (.cells #[.int .i64 z0, .int .i64 z1, .int .i64 z2, .int .i64 z3] 39)) = w6 at *
  generalize v6.heap.size = g6 at *
  clear hw6
  have q1 := eq2t (a := h0) (b := h1) (by have := HRB.out; omega) (by have := HRB.out; omega)
  have q2 := eq2 (a := z0) (b := z1) HZB.out.1 HZB.out.2.1
  have q3 := eq2 (a := z2) (b := z3) HZB.out.2.2.1 HZB.out.2.2.2
  obtain ⟨ce, hce⟩ : ∃ v, fnE (numsY rs) (numsY qs) = v := ⟨_, rfl⟩
  have HCE := Lib.hid hce
  clear hce
  (have RD := grows_roads (S := fun x' => Below w6.heap.size w6 x') (fun a b h1 h2 => below_bs h2 h1)); refine region_ord _ Grows RD (Below.drew (Below.refl w6.heap.size w6)) (by kernel_rfl) ?_; intro ops Q' hops hPQ hN; (have HNS : Hid (Region.noSelect ops = true) := Lib.hid (by rw [hops]; kernel_rfl)); (have hsz : ops.size = 46 := (by rw [hops]; rfl)); have HOP := Lib.hid hops; have HPQ := Lib.hid hPQ; have HN := Lib.hid hN; rw [hsz]; clear hops hsz hPQ hN
  refine ord_one RD 0 (by rw [HOP.out]; kernel_rfl) (at_list (by rw [HOP.out]; rfl)) (by rw [HOP.out]; rfl) (fun W1 hWW hSW K hK => ?_); (try dsimp only at hSW)
  go_simp
  refine (fnW.New_any W1 (HT.out.below (below_bs S6.out.2.2.2.2.2 hSW))).mono ?_
  rintro v w7 ⟨A, k, d1, us, B, l, d2, vs, rfl, o1, o2, e1, e2, b7⟩
  have E1 := Lib.hid (And.intro e1 e2)
  refine hK _ _ (RD.keep b7 hSW) ?_
  have H7 : Hid (RowsY w7 A k d1 us ∧ RowsY w7 B l d2 vs) := Lib.hid ⟨o1.rows, o2.rows⟩
  clear o1 o2 e1 e2 b7 hSW hWW
  clear hK K; (try simp only [Act.put, List.setIfInBounds_toArray, List.set_cons_zero, List.set_cons_succ])
  refine ord_one RD 1 (by rw [HOP.out]; kernel_rfl) (at_list (by rw [HOP.out]; rfl)) (by rw [HOP.out]; rfl) (fun W2 hWW hSW K hK => ?_); (try dsimp only at hSW)
  go_simp
  refine (fnW.rNew_any W2).mono ?_
  rintro v w8 ⟨A2, k2, d3, us2, B2, l2, d4, vs2, rfl, o1, o2, e1, e2, b8⟩
  have E2 := Lib.hid (And.intro e1 e2)
  refine hK _ _ (RD.keep b8 hSW) ?_
  have H8 : Hid (RowsY w8 A k d1 us ∧ RowsY w8 B l d2 vs ∧ RowsY w8 A2 k2 d3 us2 ∧ RowsY w8 B2 l2 d4 vs2) := Lib.hid ⟨(H7.out.1.past hWW).past b8, (H7.out.2.past hWW).past b8, o1, o2⟩
  clear o1 o2 e1 e2 b8 hSW hWW
  clear hK K; (try simp only [Act.put, List.setIfInBounds_toArray, List.set_cons_zero, List.set_cons_succ])
  refine ord_one RD 2 (by rw [HOP.out]; kernel_rfl) (at_list (by rw [HOP.out]; rfl)) (by rw [HOP.out]; rfl) (fun W3 hWW hSW K hK => ?_); (try dsimp only at hSW)
  go_simp
  refine (Same_yes A k d1 us B l d2 vs A2 k2 d3 us2 B2 l2 d4 vs2 W3 (H8.out.1.past hWW) (H8.out.2.1.past hWW) (H8.out.2.2.1.past hWW) (H8.out.2.2.2.past hWW) (by rw [E1.out.1, E2.out.1]) (by rw [E1.out.2, E2.out.2])).mono ?_
  rintro v w9 ⟨rfl, b9⟩
  refine hK _ _ (RD.keep b9 hSW) ?_
  clear b9 hSW hWW
  clear hK K; (try simp only [Act.put, List.setIfInBounds_toArray, List.set_cons_zero, List.set_cons_succ])
  refine ord_take RD 3 (at_list (by rw [HOP.out]; rfl)) HNS.out HPQ.out (by rw [HOP.out]; kernel_rfl) (by rw [HOP.out]; kernel_rfl) (by rw [HOP.out]; rfl) (fun K hK => ?_); apply Exists.intro; refine ⟨fun W hSW => ?_, hK _ ?_⟩; (focus ((try dsimp only at hSW); go_simp; try with_reducible rfl)); clear hK K; (try simp only [Act.put, List.setIfInBounds_toArray, List.set_cons_zero, List.set_cons_succ])
  refine ord_take RD 4 (at_list (by rw [HOP.out]; rfl)) HNS.out HPQ.out (by rw [HOP.out]; kernel_rfl) (by rw [HOP.out]; kernel_rfl) (by rw [HOP.out]; rfl) (fun K hK => ?_); apply Exists.intro; refine ⟨fun W hSW => ?_, hK _ ?_⟩; (focus ((try dsimp only at hSW); (have z5 := (S6.out.1.past hSW).c0; have z6 := (S6.out.1.past hSW).c1); go_simp; try with_reducible rfl)); clear hK K; (try simp only [Act.put, List.setIfInBounds_toArray, List.set_cons_zero, List.set_cons_succ])
  refine ord_take RD 6 (at_list (by rw [HOP.out]; rfl)) HNS.out HPQ.out (by rw [HOP.out]; kernel_rfl) (by rw [HOP.out]; kernel_rfl) (by rw [HOP.out]; rfl) (fun K hK => ?_); apply Exists.intro; refine ⟨fun W hSW => ?_, hK _ ?_⟩; (focus ((try dsimp only at hSW); (have z5 := (S6.out.1.past hSW).c0; have z6 := (S6.out.1.past hSW).c1); go_simp; try with_reducible rfl)); clear hK K; (try simp only [Act.put, List.setIfInBounds_toArray, List.set_cons_zero, List.set_cons_succ])
  refine ord_take RD 5 (at_list (by rw [HOP.out]; rfl)) HNS.out HPQ.out (by rw [HOP.out]; kernel_rfl) (by rw [HOP.out]; kernel_rfl) (by rw [HOP.out]; rfl) (fun K hK => ?_); apply Exists.intro; refine ⟨fun W hSW => ?_, hK _ ?_⟩; (focus ((try dsimp only at hSW); go_simp; exact ((fnW.Check_any P m c rs Q n e qs W (S6.out.1.past hSW).r1 (S6.out.1.past hSW).r2).mono fun v w' ⟨h1, h2⟩ => ⟨h1.trans (by rw [HCE.out]), h2⟩))); clear hK K; (try simp only [Act.put, List.setIfInBounds_toArray, List.set_cons_zero, List.set_cons_succ])
  refine ord_take RD 7 (at_list (by rw [HOP.out]; rfl)) HNS.out HPQ.out (by rw [HOP.out]; kernel_rfl) (by rw [HOP.out]; kernel_rfl) (by rw [HOP.out]; rfl) (fun K hK => ?_); apply Exists.intro; refine ⟨fun W hSW => ?_, hK _ ?_⟩; (focus ((try dsimp only at hSW); go_simp; exact ((fnW.rCheck_any P m c rs Q n e qs W (S6.out.1.past hSW).r1 (S6.out.1.past hSW).r2).mono fun v w' ⟨h1, h2⟩ => ⟨h1.trans (by rw [HCE.out]), h2⟩))); clear hK K; (try simp only [Act.put, List.setIfInBounds_toArray, List.set_cons_zero, List.set_cons_succ])
  refine ord_take RD 8 (at_list (by rw [HOP.out]; rfl)) HNS.out HPQ.out (by rw [HOP.out]; kernel_rfl) (by rw [HOP.out]; kernel_rfl) (by rw [HOP.out]; rfl) (fun K hK => ?_); apply Exists.intro; refine ⟨fun W hSW => ?_, hK _ ?_⟩; (focus ((try dsimp only at hSW); go_simp; try with_reducible rfl)); clear hK K; (try simp only [Act.put, List.setIfInBounds_toArray, List.set_cons_zero, List.set_cons_succ])
  refine ord_take RD 9 (at_list (by rw [HOP.out]; rfl)) HNS.out HPQ.out (by rw [HOP.out]; kernel_rfl) (by rw [HOP.out]; kernel_rfl) (by rw [HOP.out]; rfl) (fun K hK => ?_); apply Exists.intro; refine ⟨fun W hSW => ?_, hK _ ?_⟩; (focus ((try dsimp only at hSW); go_simp; try with_reducible rfl)); clear hK K; (try simp only [Act.put, List.setIfInBounds_toArray, List.set_cons_zero, List.set_cons_succ])
  refine ord_take RD 10 (at_list (by rw [HOP.out]; rfl)) HNS.out HPQ.out (by rw [HOP.out]; kernel_rfl) (by rw [HOP.out]; kernel_rfl) (by rw [HOP.out]; rfl) (fun K hK => ?_); apply Exists.intro; refine ⟨fun W hSW => ?_, hK _ ?_⟩; (focus ((try dsimp only at hSW); go_simp; try with_reducible rfl)); clear hK K; (try simp only [Act.put, List.setIfInBounds_toArray, List.set_cons_zero, List.set_cons_succ])
  refine ord_take RD 11 (at_list (by rw [HOP.out]; rfl)) HNS.out HPQ.out (by rw [HOP.out]; kernel_rfl) (by rw [HOP.out]; kernel_rfl) (by rw [HOP.out]; rfl) (fun K hK => ?_); apply Exists.intro; refine ⟨fun W hSW => ?_, hK _ ?_⟩; (focus ((try dsimp only at hSW); go_simp; try with_reducible rfl)); clear hK K; (try simp only [Act.put, List.setIfInBounds_toArray, List.set_cons_zero, List.set_cons_succ])
  refine ord_take RD 12 (at_list (by rw [HOP.out]; rfl)) HNS.out HPQ.out (by rw [HOP.out]; kernel_rfl) (by rw [HOP.out]; kernel_rfl) (by rw [HOP.out]; rfl) (fun K hK => ?_); apply Exists.intro; refine ⟨fun W hSW => ?_, hK _ ?_⟩; (focus ((try dsimp only at hSW); go_simp; try with_reducible rfl)); clear hK K; (try simp only [Act.put, List.setIfInBounds_toArray, List.set_cons_zero, List.set_cons_succ])
  refine ord_take RD 13 (at_list (by rw [HOP.out]; rfl)) HNS.out HPQ.out (by rw [HOP.out]; kernel_rfl) (by rw [HOP.out]; kernel_rfl) (by rw [HOP.out]; rfl) (fun K hK => ?_); apply Exists.intro; refine ⟨fun W hSW => ?_, hK _ ?_⟩; (focus ((try dsimp only at hSW); go_simp; try with_reducible rfl)); clear hK K; (try simp only [Act.put, List.setIfInBounds_toArray, List.set_cons_zero, List.set_cons_succ])
  refine ord_take RD 14 (at_list (by rw [HOP.out]; rfl)) HNS.out HPQ.out (by rw [HOP.out]; kernel_rfl) (by rw [HOP.out]; kernel_rfl) (by rw [HOP.out]; rfl) (fun K hK => ?_); apply Exists.intro; refine ⟨fun W hSW => ?_, hK _ ?_⟩; (focus ((try dsimp only at hSW); go_simp; try with_reducible rfl)); clear hK K; (try simp only [Act.put, List.setIfInBounds_toArray, List.set_cons_zero, List.set_cons_succ])
  refine ord_take RD 15 (at_list (by rw [HOP.out]; rfl)) HNS.out HPQ.out (by rw [HOP.out]; kernel_rfl) (by rw [HOP.out]; kernel_rfl) (by rw [HOP.out]; rfl) (fun K hK => ?_); apply Exists.intro; refine ⟨fun W hSW => ?_, hK _ ?_⟩; (focus ((try dsimp only at hSW); go_simp; try with_reducible rfl)); clear hK K; (try simp only [Act.put, List.setIfInBounds_toArray, List.set_cons_zero, List.set_cons_succ])
  refine ord_take RD 16 (at_list (by rw [HOP.out]; rfl)) HNS.out HPQ.out (by rw [HOP.out]; kernel_rfl) (by rw [HOP.out]; kernel_rfl) (by rw [HOP.out]; rfl) (fun K hK => ?_); apply Exists.intro; refine ⟨fun W hSW => ?_, hK _ ?_⟩; (focus ((try dsimp only at hSW); go_simp; try with_reducible rfl)); clear hK K; (try simp only [Act.put, List.setIfInBounds_toArray, List.set_cons_zero, List.set_cons_succ])
  refine ord_take RD 17 (at_list (by rw [HOP.out]; rfl)) HNS.out HPQ.out (by rw [HOP.out]; kernel_rfl) (by rw [HOP.out]; kernel_rfl) (by rw [HOP.out]; rfl) (fun K hK => ?_); apply Exists.intro; refine ⟨fun W hSW => ?_, hK _ ?_⟩; (focus ((try dsimp only at hSW); go_simp; try with_reducible rfl)); clear hK K; (try simp only [Act.put, List.setIfInBounds_toArray, List.set_cons_zero, List.set_cons_succ])
  refine ord_take RD 18 (at_list (by rw [HOP.out]; rfl)) HNS.out HPQ.out (by rw [HOP.out]; kernel_rfl) (by rw [HOP.out]; kernel_rfl) (by rw [HOP.out]; rfl) (fun K hK => ?_); apply Exists.intro; refine ⟨fun W hSW => ?_, hK _ ?_⟩; (focus ((try dsimp only at hSW); go_simp; try with_reducible rfl)); clear hK K; (try simp only [Act.put, List.setIfInBounds_toArray, List.set_cons_zero, List.set_cons_succ])
  refine ord_take RD 19 (at_list (by rw [HOP.out]; rfl)) HNS.out HPQ.out (by rw [HOP.out]; kernel_rfl) (by rw [HOP.out]; kernel_rfl) (by rw [HOP.out]; rfl) (fun K hK => ?_); apply Exists.intro; refine ⟨fun W hSW => ?_, hK _ ?_⟩; (focus ((try dsimp only at hSW); go_simp; try with_reducible rfl)); clear hK K; (try simp only [Act.put, List.setIfInBounds_toArray, List.set_cons_zero, List.set_cons_succ])
  refine ord_take RD 20 (at_list (by rw [HOP.out]; rfl)) HNS.out HPQ.out (by rw [HOP.out]; kernel_rfl) (by rw [HOP.out]; kernel_rfl) (by rw [HOP.out]; rfl) (fun K hK => ?_); apply Exists.intro; refine ⟨fun W hSW => ?_, hK _ ?_⟩; (focus ((try dsimp only at hSW); go_simp; try with_reducible rfl)); clear hK K; (try simp only [Act.put, List.setIfInBounds_toArray, List.set_cons_zero, List.set_cons_succ])
  refine ord_take RD 21 (at_list (by rw [HOP.out]; rfl)) HNS.out HPQ.out (by rw [HOP.out]; kernel_rfl) (by rw [HOP.out]; kernel_rfl) (by rw [HOP.out]; rfl) (fun K hK => ?_); apply Exists.intro; refine ⟨fun W hSW => ?_, hK _ ?_⟩; (focus ((try dsimp only at hSW); (obtain ⟨z5, z6, -, -⟩ := (S6.out.2.1.past hSW).two); go_simp; try with_reducible rfl)); clear hK K; (try simp only [Act.put, List.setIfInBounds_toArray, List.set_cons_zero, List.set_cons_succ])
  refine ord_take RD 22 (at_list (by rw [HOP.out]; rfl)) HNS.out HPQ.out (by rw [HOP.out]; kernel_rfl) (by rw [HOP.out]; kernel_rfl) (by rw [HOP.out]; rfl) (fun K hK => ?_); apply Exists.intro; refine ⟨fun W hSW => ?_, hK _ ?_⟩; (focus ((try dsimp only at hSW); (obtain ⟨z5, z6, -, -⟩ := (S6.out.2.2.1.past hSW).two); go_simp; try with_reducible rfl)); clear hK K; (try simp only [Act.put, List.setIfInBounds_toArray, List.set_cons_zero, List.set_cons_succ])
  refine ord_take RD 23 (at_list (by rw [HOP.out]; rfl)) HNS.out HPQ.out (by rw [HOP.out]; kernel_rfl) (by rw [HOP.out]; kernel_rfl) (by rw [HOP.out]; rfl) (fun K hK => ?_); apply Exists.intro; refine ⟨fun W hSW => ?_, hK _ ?_⟩; (focus ((try dsimp only at hSW); go_simp; try with_reducible rfl)); clear hK K; (try simp only [Act.put, List.setIfInBounds_toArray, List.set_cons_zero, List.set_cons_succ])
  refine ord_take RD 24 (at_list (by rw [HOP.out]; rfl)) HNS.out HPQ.out (by rw [HOP.out]; kernel_rfl) (by rw [HOP.out]; kernel_rfl) (by rw [HOP.out]; rfl) (fun K hK => ?_); apply Exists.intro; refine ⟨fun W hSW => ?_, hK _ ?_⟩; (focus ((try dsimp only at hSW); go_simp; try with_reducible rfl)); clear hK K; (try simp only [Act.put, List.setIfInBounds_toArray, List.set_cons_zero, List.set_cons_succ])
  refine ord_take RD 25 (at_list (by rw [HOP.out]; rfl)) HNS.out HPQ.out (by rw [HOP.out]; kernel_rfl) (by rw [HOP.out]; kernel_rfl) (by rw [HOP.out]; rfl) (fun K hK => ?_); apply Exists.intro; refine ⟨fun W hSW => ?_, hK _ ?_⟩; (focus ((try dsimp only at hSW); go_simp; try with_reducible rfl)); clear hK K; (try simp only [Act.put, List.setIfInBounds_toArray, List.set_cons_zero, List.set_cons_succ])
  refine ord_take RD 26 (at_list (by rw [HOP.out]; rfl)) HNS.out HPQ.out (by rw [HOP.out]; kernel_rfl) (by rw [HOP.out]; kernel_rfl) (by rw [HOP.out]; rfl) (fun K hK => ?_); apply Exists.intro; refine ⟨fun W hSW => ?_, hK _ ?_⟩; (focus ((try dsimp only at hSW); go_simp; try with_reducible rfl)); clear hK K; (try simp only [Act.put, List.setIfInBounds_toArray, List.set_cons_zero, List.set_cons_succ])
  refine ord_take RD 27 (at_list (by rw [HOP.out]; rfl)) HNS.out HPQ.out (by rw [HOP.out]; kernel_rfl) (by rw [HOP.out]; kernel_rfl) (by rw [HOP.out]; rfl) (fun K hK => ?_); apply Exists.intro; refine ⟨fun W hSW => ?_, hK _ ?_⟩; (focus ((try dsimp only at hSW); go_simp; try with_reducible rfl)); clear hK K; (try simp only [Act.put, List.setIfInBounds_toArray, List.set_cons_zero, List.set_cons_succ])
  refine ord_take RD 28 (at_list (by rw [HOP.out]; rfl)) HNS.out HPQ.out (by rw [HOP.out]; kernel_rfl) (by rw [HOP.out]; kernel_rfl) (by rw [HOP.out]; rfl) (fun K hK => ?_); apply Exists.intro; refine ⟨fun W hSW => ?_, hK _ ?_⟩; (focus ((try dsimp only at hSW); go_simp; try with_reducible rfl)); clear hK K; (try simp only [Act.put, List.setIfInBounds_toArray, List.set_cons_zero, List.set_cons_succ])
  refine ord_take RD 29 (at_list (by rw [HOP.out]; rfl)) HNS.out HPQ.out (by rw [HOP.out]; kernel_rfl) (by rw [HOP.out]; kernel_rfl) (by rw [HOP.out]; rfl) (fun K hK => ?_); apply Exists.intro; refine ⟨fun W hSW => ?_, hK _ ?_⟩; (focus ((try dsimp only at hSW); go_simp; try with_reducible rfl)); clear hK K; (try simp only [Act.put, List.setIfInBounds_toArray, List.set_cons_zero, List.set_cons_succ])
  refine ord_take RD 30 (at_list (by rw [HOP.out]; rfl)) HNS.out HPQ.out (by rw [HOP.out]; kernel_rfl) (by rw [HOP.out]; kernel_rfl) (by rw [HOP.out]; rfl) (fun K hK => ?_); apply Exists.intro; refine ⟨fun W hSW => ?_, hK _ ?_⟩; (focus ((try dsimp only at hSW); go_simp; try with_reducible rfl)); clear hK K; (try simp only [Act.put, List.setIfInBounds_toArray, List.set_cons_zero, List.set_cons_succ])
  refine ord_take RD 31 (at_list (by rw [HOP.out]; rfl)) HNS.out HPQ.out (by rw [HOP.out]; kernel_rfl) (by rw [HOP.out]; kernel_rfl) (by rw [HOP.out]; rfl) (fun K hK => ?_); apply Exists.intro; refine ⟨fun W hSW => ?_, hK _ ?_⟩; (focus ((try dsimp only at hSW); go_simp; try with_reducible rfl)); clear hK K; (try simp only [Act.put, List.setIfInBounds_toArray, List.set_cons_zero, List.set_cons_succ])
  refine ord_take RD 32 (at_list (by rw [HOP.out]; rfl)) HNS.out HPQ.out (by rw [HOP.out]; kernel_rfl) (by rw [HOP.out]; kernel_rfl) (by rw [HOP.out]; rfl) (fun K hK => ?_); apply Exists.intro; refine ⟨fun W hSW => ?_, hK _ ?_⟩; (focus ((try dsimp only at hSW); go_simp; try with_reducible rfl)); clear hK K; (try simp only [Act.put, List.setIfInBounds_toArray, List.set_cons_zero, List.set_cons_succ])
  refine ord_take RD 33 (at_list (by rw [HOP.out]; rfl)) HNS.out HPQ.out (by rw [HOP.out]; kernel_rfl) (by rw [HOP.out]; kernel_rfl) (by rw [HOP.out]; rfl) (fun K hK => ?_); apply Exists.intro; refine ⟨fun W hSW => ?_, hK _ ?_⟩; (focus ((try dsimp only at hSW); go_simp; try with_reducible rfl)); clear hK K; (try simp only [Act.put, List.setIfInBounds_toArray, List.set_cons_zero, List.set_cons_succ])
  refine ord_take RD 34 (at_list (by rw [HOP.out]; rfl)) HNS.out HPQ.out (by rw [HOP.out]; kernel_rfl) (by rw [HOP.out]; kernel_rfl) (by rw [HOP.out]; rfl) (fun K hK => ?_); apply Exists.intro; refine ⟨fun W hSW => ?_, hK _ ?_⟩; (focus ((try dsimp only at hSW); go_simp; try with_reducible rfl)); clear hK K; (try simp only [Act.put, List.setIfInBounds_toArray, List.set_cons_zero, List.set_cons_succ])
  refine ord_take RD 35 (at_list (by rw [HOP.out]; rfl)) HNS.out HPQ.out (by rw [HOP.out]; kernel_rfl) (by rw [HOP.out]; kernel_rfl) (by rw [HOP.out]; rfl) (fun K hK => ?_); apply Exists.intro; refine ⟨fun W hSW => ?_, hK _ ?_⟩; (focus ((try dsimp only at hSW); go_simp; try with_reducible rfl)); clear hK K; (try simp only [Act.put, List.setIfInBounds_toArray, List.set_cons_zero, List.set_cons_succ])
  refine ord_take RD 36 (at_list (by rw [HOP.out]; rfl)) HNS.out HPQ.out (by rw [HOP.out]; kernel_rfl) (by rw [HOP.out]; kernel_rfl) (by rw [HOP.out]; rfl) (fun K hK => ?_); apply Exists.intro; refine ⟨fun W hSW => ?_, hK _ ?_⟩; (focus ((try dsimp only at hSW); (obtain ⟨z5, z6, z7, z8⟩ := four (S6.out.2.2.2.1.past hSW)); go_simp; try with_reducible rfl)); clear hK K; (try simp only [Act.put, List.setIfInBounds_toArray, List.set_cons_zero, List.set_cons_succ])
  refine ord_take RD 37 (at_list (by rw [HOP.out]; rfl)) HNS.out HPQ.out (by rw [HOP.out]; kernel_rfl) (by rw [HOP.out]; kernel_rfl) (by rw [HOP.out]; rfl) (fun K hK => ?_); apply Exists.intro; refine ⟨fun W hSW => ?_, hK _ ?_⟩; (focus ((try dsimp only at hSW); (obtain ⟨z5, z6, z7, z8⟩ := four (S6.out.2.2.2.2.1.past hSW)); go_simp; try with_reducible rfl)); clear hK K; (try simp only [Act.put, List.setIfInBounds_toArray, List.set_cons_zero, List.set_cons_succ])
  refine ord_take RD 38 (at_list (by rw [HOP.out]; rfl)) HNS.out HPQ.out (by rw [HOP.out]; kernel_rfl) (by rw [HOP.out]; kernel_rfl) (by rw [HOP.out]; rfl) (fun K hK => ?_); apply Exists.intro; refine ⟨fun W hSW => ?_, hK _ ?_⟩; (focus ((try dsimp only at hSW); go_simp; try with_reducible rfl)); clear hK K; (try simp only [Act.put, List.setIfInBounds_toArray, List.set_cons_zero, List.set_cons_succ])
  refine ord_take RD 39 (at_list (by rw [HOP.out]; rfl)) HNS.out HPQ.out (by rw [HOP.out]; kernel_rfl) (by rw [HOP.out]; kernel_rfl) (by rw [HOP.out]; rfl) (fun K hK => ?_); apply Exists.intro; refine ⟨fun W hSW => ?_, hK _ ?_⟩; (focus ((try dsimp only at hSW); go_simp; try with_reducible rfl)); clear hK K; (try simp only [Act.put, List.setIfInBounds_toArray, List.set_cons_zero, List.set_cons_succ])
  refine ord_take RD 40 (at_list (by rw [HOP.out]; rfl)) HNS.out HPQ.out (by rw [HOP.out]; kernel_rfl) (by rw [HOP.out]; kernel_rfl) (by rw [HOP.out]; rfl) (fun K hK => ?_); apply Exists.intro; refine ⟨fun W hSW => ?_, hK _ ?_⟩; (focus ((try dsimp only at hSW); go_simp; try with_reducible rfl)); clear hK K; (try simp only [Act.put, List.setIfInBounds_toArray, List.set_cons_zero, List.set_cons_succ])
  refine ord_take RD 41 (at_list (by rw [HOP.out]; rfl)) HNS.out HPQ.out (by rw [HOP.out]; kernel_rfl) (by rw [HOP.out]; kernel_rfl) (by rw [HOP.out]; rfl) (fun K hK => ?_); apply Exists.intro; refine ⟨fun W hSW => ?_, hK _ ?_⟩; (focus ((try dsimp only at hSW); go_simp; try with_reducible rfl)); clear hK K; (try simp only [Act.put, List.setIfInBounds_toArray, List.set_cons_zero, List.set_cons_succ])
  refine ord_take RD 42 (at_list (by rw [HOP.out]; rfl)) HNS.out HPQ.out (by rw [HOP.out]; kernel_rfl) (by rw [HOP.out]; kernel_rfl) (by rw [HOP.out]; rfl) (fun K hK => ?_); apply Exists.intro; refine ⟨fun W hSW => ?_, hK _ ?_⟩; (focus ((try dsimp only at hSW); go_simp; try with_reducible rfl)); clear hK K; (try simp only [Act.put, List.setIfInBounds_toArray, List.set_cons_zero, List.set_cons_succ])
  refine ord_take RD 43 (at_list (by rw [HOP.out]; rfl)) HNS.out HPQ.out (by rw [HOP.out]; kernel_rfl) (by rw [HOP.out]; kernel_rfl) (by rw [HOP.out]; rfl) (fun K hK => ?_); apply Exists.intro; refine ⟨fun W hSW => ?_, hK _ ?_⟩; (focus ((try dsimp only at hSW); go_simp; try with_reducible rfl)); clear hK K; (try simp only [Act.put, List.setIfInBounds_toArray, List.set_cons_zero, List.set_cons_succ])
  refine ord_take RD 44 (at_list (by rw [HOP.out]; rfl)) HNS.out HPQ.out (by rw [HOP.out]; kernel_rfl) (by rw [HOP.out]; kernel_rfl) (by rw [HOP.out]; rfl) (fun K hK => ?_); apply Exists.intro; refine ⟨fun W hSW => ?_, hK _ ?_⟩; (focus ((try dsimp only at hSW); go_simp; try with_reducible rfl)); clear hK K; (try simp only [Act.put, List.setIfInBounds_toArray, List.set_cons_zero, List.set_cons_succ])
  refine ord_take RD 45 (at_list (by rw [HOP.out]; rfl)) HNS.out HPQ.out (by rw [HOP.out]; kernel_rfl) (by rw [HOP.out]; kernel_rfl) (by rw [HOP.out]; rfl) (fun K hK => ?_); apply Exists.intro; refine ⟨fun W hSW => ?_, hK _ ?_⟩; (focus ((try dsimp only at hSW); go_simp; try with_reducible rfl)); clear hK K; (try simp only [Act.put, List.setIfInBounds_toArray, List.set_cons_zero, List.set_cons_succ])
  refine ord_done (by rw [HOP.out]; kernel_rfl) (fun W9 hWW hSW => HN.out _ _ ?_); clear HOP HNS HPQ HN RD; (try dsimp only at hSW)
  have HF := Lib.hid (below_bs S6.out.2.2.2.2.2 hSW)
  clear hSW hWW
  go_wp2_with fail
  go_ret
  exact ⟨rfl, HF.out⟩
theorem looks_law (P : Option Addr) (m c : Nat) (rs : List RY) (Q : Option Addr) (n e : Nat) (qs : List RY) (r0 r1 d p a b one two part : Int) (w : World) (h : RowsY w P m c rs ∧ RowsY w Q n e qs) (hr : (-9223372036854775808 ≤ r0 ∧ r0 ≤ 9223372036854775807) ∧ -9223372036854775808 ≤ r1 ∧ r1 ≤ 9223372036854775807) (d0 : -2147483648 ≤ d) (d1 : d ≤ 2147483647) (_ : -2147483648 ≤ p) (_ : p ≤ 2147483647) (_ : -2147483648 ≤ a) (_ : a ≤ 2147483647) (_ : -2147483648 ≤ b) (_ : b ≤ 2147483647) (o0 : 0 ≤ one) (o1 : one ≤ 255) (t0 : 0 ≤ two) (t1 : two ≤ 255) (_ : -9223372036854775808 ≤ part) (_ : part ≤ 9223372036854775807) (hT : Tab w) :
    Calls Tryd.prog 3 #[.agg #[.slice P m c, .slice Q n e], .agg #[.int .i64 r0, .int .i64 r1], .int .i32 d, .int .i32 p, .int .i32 a, .int .i32 b, .int .u8 one, .int .u8 two, .int .i64 part] w fun v w' => v = .returned (.bool true) ∧ Below w.heap.size w w' :=
  looks P m c rs Q n e qs r0 r1 d p a b one two part w h.1 h.2 ⟨d0, d1⟩ hr.1 hr.2 ⟨o0, o1⟩ ⟨t0, t1⟩ hT
end Go.Proofs.YtdmnaipngcldbaaDoor.fnL
