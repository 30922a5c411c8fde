/- FinalTowards, by walks. -/
import Derived.Test.YtdmnaipngcldbaaDoorFnPl3
import Derived.Test.YtdmnaipngcldbaaDoorFnW3
import Derived.Test.YtdmnaipngcldbaaDoorFnA1
import Derived.Test.YtdmnaipngcldbaaDoorRfWE
namespace Go.Proofs.YtdmnaipngcldbaaDoor.fnL
set_option maxRecDepth 100000
open Go.RowKit Go.Proofs.YtdmnaipngcldbaaDoor.base Go.Proofs.YtdmnaipngcldbaaDoor.rfP Go.Proofs.YtdmnaipngcldbaaDoor.rfW Go.Proofs.YtdmnaipngcldbaaDoor.fnP Go.Proofs.YtdmnaipngcldbaaDoor.fnW Go.Proofs.YtdmnaipngcldbaaDoor.sqP Go.Proofs.YtdmnaipngcldbaaDoor.sqW
set_option linter.unusedVariables false
set_option linter.unusedSimpArgs false
set_option maxHeartbeats 800000 in
theorem same (P Q : Option Addr) (m c n e : Nat) (rs qs : List RY) (k : Nat) (w : World) (h : RowsY w P m c rs) (h' : RowsY w Q n e qs) (hk : k < m) (hk2 : k < n) (hs : (numsY rs).getD k [] = (numsY qs).getD k []) :
    Calls Tryd.prog 26 #[.agg #[.slice P m c], .agg #[.slice Q n e], .int .i64 k] w fun v w' => v = .returned (.bool true) ∧ Below w.heap.size w w' := by
  have hl := h.l
  have hl2 := h'.l
  obtain ⟨b1, o1, rfl, -, -⟩ := h.h.some (by omega)
  obtain ⟨b2, o2, rfl, -, -⟩ := h'.h.some (by omega)
  have HS : Hid (numsY [rs.getD k ry0] = numsY [qs.getD k ry0]) := Lib.hid (by
    rw [nums_at rs k (by omega), nums_at qs k (by omega)] at hs
    show [(rs.getD k ry0).b] = [(qs.getD k ry0).b]
    rw [hs])
  have S0 : Hid (RfAt ((w.alloc (.cells #[.slice (some ⟨b1, o1, none⟩) m c] 24)).alloc (.cells #[.slice (some ⟨b2, o2, none⟩) n e] 24)) w.heap.size (some ⟨b1, o1, none⟩) m c rs ∧ RfAt ((w.alloc (.cells #[.slice (some ⟨b1, o1, none⟩) m c] 24)).alloc (.cells #[.slice (some ⟨b2, o2, none⟩) n e] 24)) (w.heap.size + 1) (some ⟨b2, o2, none⟩) n e qs ∧ Below w.heap.size w ((w.alloc (.cells #[.slice (some ⟨b1, o1, none⟩) m c] 24)).alloc (.cells #[.slice (some ⟨b2, o2, none⟩) n e] 24))) := Lib.hid ⟨(rfAt_new h).alloc _, ⟨Lies.fresh_at (cs := [.slice (some ⟨b2, o2, none⟩) n e]) (by simp), h'.past (by (repeat' (first | (with_reducible exact Below.refl _ _) | (with_reducible assumption) | (with_reducible refine below_drewN ?_ _) | (with_reducible refine below_new ?_ _) | (with_reducible refine Below.alloc ?_ ?_ _) | (with_reducible refine Below.drew ?_) | (with_reducible refine Below.setCell ?_ ?_ _) | (with_reducible apply below_at; (case k => (with_reducible assumption)); (case hB => omega)) | (with_reducible apply below_on; (with_reducible assumption)) | (go_size; done) | (with_reducible apply size_of))))⟩, by (repeat' (first | (with_reducible exact Below.refl _ _) | (with_reducible assumption) | (with_reducible refine below_drewN ?_ _) | (with_reducible refine below_new ?_ _) | (with_reducible refine Below.alloc ?_ ?_ _) | (with_reducible refine Below.drew ?_) | (with_reducible refine Below.setCell ?_ ?_ _) | (with_reducible apply below_at; (case k => (with_reducible assumption)); (case hB => omega)) | (with_reducible apply below_on; (with_reducible assumption)) | (go_size; done) | (with_reducible apply size_of)))⟩
  have c1 := h.c1
  have c2 := h.c2
  have c3 := h'.c1
  have c4 := h'.c2
  have HK := Lib.hid (And.intro hk hk2)
  have k0 : 0 ≤ (k : Int) := by omega
  have k1 : (k : Int) < m := by omega
  have k2 : (k : Int) < n := by omega
  have m9 : (m : Int) ≤ 9223372036854775807 := by omega
  have n9 : (n : Int) ≤ 9223372036854775807 := by omega
  have e0 : IntKind.i64.wrap ((k : Int) + 1) = (k : Int) + 1 := IntWalk.i64_in _ (by omega)
  have e1 : 0 ≤ (k : Int) + 1 := by omega
  have e2 : (k : Int) + 1 ≤ c := by omega
  have e3 : (k : Int) + 1 ≤ e := by omega
  have e4 : ((k : Int) + 1).toNat = k + 1 := by omega
  have e5 : ¬ c = k := by omega
  have e6 : ¬ e = k := by omega
  have e7 : k + 1 - k = 1 := by omega
  clear h h' hk hk2 hs hl hl2
  go_enter Tryd.func26, Tryd.ntmps26
  go_wp2_with fail
  generalize hw0 : ((w.alloc (.cells #[.slice (some ⟨b1, o1, none⟩) m c] 24)).alloc (.cells #[.slice (some ⟨b2, o2, none⟩) n e] 24)) = w0 at *
  generalize w.heap.size + 1 = g2 at *
  clear hw0
  (have RD := grows_roads (S := fun x' => Below w0.heap.size w0 x') (fun a b h1 h2 => below_bs h2 h1)); refine region_ord _ Grows RD (Below.drew (Below.refl w0.heap.size w0)) (by kernel_rfl) ?_; intro ops Q' hops hPQ hN; (have HNS : Hid (Region.noSelect ops = true) := Lib.hid (by rw [hops]; kernel_rfl)); (have hsz : ops.size = 16 := (by rw [hops]; rfl)); have HOP := Lib.hid hops; have HPQ := Lib.hid hPQ; have HN := Lib.hid hN; rw [hsz]; clear hops hsz hPQ hN
  refine ord_take RD 0 (at_list (by rw [HOP.out]; rfl)) HNS.out HPQ.out (by rw [HOP.out]; kernel_rfl) (by rw [HOP.out]; kernel_rfl) (by rw [HOP.out]; rfl) (fun K hK => ?_); apply Exists.intro; refine ⟨fun W hSW => ?_, hK _ ?_⟩; (focus ((try dsimp only at hSW); go_simp; try with_reducible rfl)); clear hK K; (try simp only [Act.put, List.setIfInBounds_toArray, List.set_cons_zero, List.set_cons_succ])
  refine ord_take RD 1 (at_list (by rw [HOP.out]; rfl)) HNS.out HPQ.out (by rw [HOP.out]; kernel_rfl) (by rw [HOP.out]; kernel_rfl) (by rw [HOP.out]; rfl) (fun K hK => ?_); apply Exists.intro; refine ⟨fun W hSW => ?_, hK _ ?_⟩; (focus ((try dsimp only at hSW); (have z1 := (S0.out.1.past hSW).cell); go_simp; try with_reducible rfl)); clear hK K; (try simp only [Act.put, List.setIfInBounds_toArray, List.set_cons_zero, List.set_cons_succ])
  refine ord_take RD 2 (at_list (by rw [HOP.out]; rfl)) HNS.out HPQ.out (by rw [HOP.out]; kernel_rfl) (by rw [HOP.out]; kernel_rfl) (by rw [HOP.out]; rfl) (fun K hK => ?_); apply Exists.intro; refine ⟨fun W hSW => ?_, hK _ ?_⟩; (focus ((try dsimp only at hSW); go_simp; try with_reducible rfl)); clear hK K; (try simp only [Act.put, List.setIfInBounds_toArray, List.set_cons_zero, List.set_cons_succ])
  refine ord_take RD 3 (at_list (by rw [HOP.out]; rfl)) HNS.out HPQ.out (by rw [HOP.out]; kernel_rfl) (by rw [HOP.out]; kernel_rfl) (by rw [HOP.out]; rfl) (fun K hK => ?_); apply Exists.intro; refine ⟨fun W hSW => ?_, hK _ ?_⟩; (focus ((try dsimp only at hSW); go_simp; try with_reducible rfl)); clear hK K; (try simp only [Act.put, List.setIfInBounds_toArray, List.set_cons_zero, List.set_cons_succ])
  refine ord_take RD 4 (at_list (by rw [HOP.out]; rfl)) HNS.out HPQ.out (by rw [HOP.out]; kernel_rfl) (by rw [HOP.out]; kernel_rfl) (by rw [HOP.out]; rfl) (fun K hK => ?_); apply Exists.intro; refine ⟨fun W hSW => ?_, hK _ ?_⟩; (focus ((try dsimp only at hSW); go_simp; try with_reducible rfl)); clear hK K; (try simp only [Act.put, List.setIfInBounds_toArray, List.set_cons_zero, List.set_cons_succ])
  refine ord_take RD 5 (at_list (by rw [HOP.out]; rfl)) HNS.out HPQ.out (by rw [HOP.out]; kernel_rfl) (by rw [HOP.out]; kernel_rfl) (by rw [HOP.out]; rfl) (fun K hK => ?_); apply Exists.intro; refine ⟨fun W hSW => ?_, hK _ ?_⟩; (focus ((try dsimp only at hSW); go_simp; try with_reducible rfl)); clear hK K; (try simp only [Act.put, List.setIfInBounds_toArray, List.set_cons_zero, List.set_cons_succ])
  refine ord_take RD 6 (at_list (by rw [HOP.out]; rfl)) HNS.out HPQ.out (by rw [HOP.out]; kernel_rfl) (by rw [HOP.out]; kernel_rfl) (by rw [HOP.out]; rfl) (fun K hK => ?_); apply Exists.intro; refine ⟨fun W hSW => ?_, hK _ ?_⟩; (focus ((try dsimp only at hSW); go_simp; try with_reducible rfl)); clear hK K; (try simp only [Act.put, List.setIfInBounds_toArray, List.set_cons_zero, List.set_cons_succ])
  refine ord_take RD 7 (at_list (by rw [HOP.out]; rfl)) HNS.out HPQ.out (by rw [HOP.out]; kernel_rfl) (by rw [HOP.out]; kernel_rfl) (by rw [HOP.out]; rfl) (fun K hK => ?_); apply Exists.intro; refine ⟨fun W hSW => ?_, hK _ ?_⟩; (focus ((try dsimp only at hSW); go_simp; try with_reducible rfl)); clear hK K; (try simp only [Act.put, List.setIfInBounds_toArray, List.set_cons_zero, List.set_cons_succ])
  refine ord_take RD 8 (at_list (by rw [HOP.out]; rfl)) HNS.out HPQ.out (by rw [HOP.out]; kernel_rfl) (by rw [HOP.out]; kernel_rfl) (by rw [HOP.out]; rfl) (fun K hK => ?_); apply Exists.intro; refine ⟨fun W hSW => ?_, hK _ ?_⟩; (focus ((try dsimp only at hSW); (have z1 := (S0.out.2.1.past hSW).cell); go_simp; try with_reducible rfl)); clear hK K; (try simp only [Act.put, List.setIfInBounds_toArray, List.set_cons_zero, List.set_cons_succ])
  refine ord_take RD 9 (at_list (by rw [HOP.out]; rfl)) HNS.out HPQ.out (by rw [HOP.out]; kernel_rfl) (by rw [HOP.out]; kernel_rfl) (by rw [HOP.out]; rfl) (fun K hK => ?_); apply Exists.intro; refine ⟨fun W hSW => ?_, hK _ ?_⟩; (focus ((try dsimp only at hSW); go_simp; try with_reducible rfl)); clear hK K; (try simp only [Act.put, List.setIfInBounds_toArray, List.set_cons_zero, List.set_cons_succ])
  refine ord_take RD 10 (at_list (by rw [HOP.out]; rfl)) HNS.out HPQ.out (by rw [HOP.out]; kernel_rfl) (by rw [HOP.out]; kernel_rfl) (by rw [HOP.out]; rfl) (fun K hK => ?_); apply Exists.intro; refine ⟨fun W hSW => ?_, hK _ ?_⟩; (focus ((try dsimp only at hSW); go_simp; try with_reducible rfl)); clear hK K; (try simp only [Act.put, List.setIfInBounds_toArray, List.set_cons_zero, List.set_cons_succ])
  refine ord_take RD 11 (at_list (by rw [HOP.out]; rfl)) HNS.out HPQ.out (by rw [HOP.out]; kernel_rfl) (by rw [HOP.out]; kernel_rfl) (by rw [HOP.out]; rfl) (fun K hK => ?_); apply Exists.intro; refine ⟨fun W hSW => ?_, hK _ ?_⟩; (focus ((try dsimp only at hSW); go_simp; try with_reducible rfl)); clear hK K; (try simp only [Act.put, List.setIfInBounds_toArray, List.set_cons_zero, List.set_cons_succ])
  refine ord_take RD 12 (at_list (by rw [HOP.out]; rfl)) HNS.out HPQ.out (by rw [HOP.out]; kernel_rfl) (by rw [HOP.out]; kernel_rfl) (by rw [HOP.out]; rfl) (fun K hK => ?_); apply Exists.intro; refine ⟨fun W hSW => ?_, hK _ ?_⟩; (focus ((try dsimp only at hSW); go_simp; try with_reducible rfl)); clear hK K; (try simp only [Act.put, List.setIfInBounds_toArray, List.set_cons_zero, List.set_cons_succ])
  refine ord_take RD 13 (at_list (by rw [HOP.out]; rfl)) HNS.out HPQ.out (by rw [HOP.out]; kernel_rfl) (by rw [HOP.out]; kernel_rfl) (by rw [HOP.out]; rfl) (fun K hK => ?_); apply Exists.intro; refine ⟨fun W hSW => ?_, hK _ ?_⟩; (focus ((try dsimp only at hSW); go_simp; try with_reducible rfl)); clear hK K; (try simp only [Act.put, List.setIfInBounds_toArray, List.set_cons_zero, List.set_cons_succ])
  refine ord_take RD 14 (at_list (by rw [HOP.out]; rfl)) HNS.out HPQ.out (by rw [HOP.out]; kernel_rfl) (by rw [HOP.out]; kernel_rfl) (by rw [HOP.out]; rfl) (fun K hK => ?_); apply Exists.intro; refine ⟨fun W hSW => ?_, hK _ ?_⟩; (focus ((try dsimp only at hSW); go_simp; exact (rfW.same17_any (some ⟨b1, o1 + k, none⟩) (some ⟨b2, o2 + k, none⟩) 1 (c - k) 1 (e - k) [rs.getD k ry0] [qs.getD k ry0] W (row_sub (S0.out.1.past hSW).rows k HK.out.1) (row_sub (S0.out.2.1.past hSW).rows k HK.out.2)))); clear hK K; (try simp only [Act.put, List.setIfInBounds_toArray, List.set_cons_zero, List.set_cons_succ])
  rw [show decide (numsY [rs.getD k ry0] = numsY [qs.getD k ry0]) = true from decide_eq_true HS.out]
  refine ord_take RD 15 (at_list (by rw [HOP.out]; rfl)) HNS.out HPQ.out (by rw [HOP.out]; kernel_rfl) (by rw [HOP.out]; kernel_rfl) (by rw [HOP.out]; rfl) (fun K hK => ?_); apply Exists.intro; refine ⟨fun W hSW => ?_, hK _ ?_⟩; (focus ((try dsimp only at hSW); go_simp; try with_reducible rfl)); clear hK K; (try simp only [Act.put, List.setIfInBounds_toArray, List.set_cons_zero, List.set_cons_succ])
  refine ord_done (by rw [HOP.out]; kernel_rfl) (fun W9 hWW hSW => HN.out _ _ ?_); clear HOP HNS HPQ HN RD; (try dsimp only at hSW)
  have HF := Lib.hid (below_bs S0.out.2.2 hSW)
  clear hSW hWW
  go_wp2_with fail
  go_ret
  exact ⟨rfl, HF.out⟩
theorem nearj_bd (t : Nat) (h : t ≤ 4095) : nearJ t < 33 := by unfold nearJ; split <;> omega
theorem lookJ_bd (x : List (List Int)) (r d : Int) (h1 : -2147483648 ≤ d) (h2 : d ≤ 2147483647) : 0 ≤ lookJ x r d ∧ lookJ x r d ≤ 32 := by
  unfold lookJ lookE
  by_cases h : askE x r = 0
  · rw [if_pos h]
    by_cases hd : d < -2047 ∨ 2047 < d
    · rw [if_pos hd, if_neg (by decide)]; decide
    · rw [if_neg hd, if_pos rfl]
      have := nearj_bd (d + 2048).toNat (by omega)
      omega
  · rw [if_neg h, if_neg h]; decide
theorem lookE_bd (x : List (List Int)) (r d : Int) (h : rfB x = true) : lookE x r d = 0 ∨ lookE x r d = 2 := by
  unfold lookE
  by_cases h1 : askE x r = 0
  · rw [if_pos h1]; split <;> simp
  · rw [if_neg h1]
    right
    unfold askE at h1 ⊢
    split
    · next hh => simp_all [rfE]
    · split
      · rfl
      · simp_all
theorem fE_2 {x y : List (List Int)} {r0 r1 d p : Int} (h : fnB x y = true) (h2 : fE x y r0 r1 d p ≠ 0) : fE x y r0 r1 d p = 2 := by
  obtain ⟨a1, a2, a3, a4⟩ := (fnB_iff x y).1 h
  rcases lookE_bd x r0 d a3 with ha | ha
  · rcases lookE_bd y r1 d a4 with hb | hb
    · rw [fE_join h ha hb] at h2 ⊢
      unfold joinE at h2 ⊢
      split at h2
      · exact absurd rfl h2
      · rw [if_neg (by assumption)]
    · rw [fE_two h ha (by rw [hb]; decide), hb]
  · rw [fE_one h (by rw [ha]; decide), ha]
set_option maxHeartbeats 1500000 in
theorem towards (P : Option Addr) (m c : Nat) (rs : List RY) (Q : Option Addr) (n e : Nat) (qs : List RY) (r0 r1 d p : Int) (bit : Bool) (w : World) (h : RowsY w P m c rs) (h' : RowsY w Q n e qs) (hd : -2147483648 ≤ d ∧ d ≤ 2147483647) (hr0 : -9223372036854775808 ≤ r0 ∧ r0 ≤ 9223372036854775807) (hr1 : -9223372036854775808 ≤ r1 ∧ r1 ≤ 9223372036854775807) (hT : Tab w) :
    Calls Tryd.prog 7 #[.agg #[.slice P m c, .slice Q n e], .agg #[.int .i64 r0, .int .i64 r1], .int .i32 d, .int .i32 p, .bool bit] w fun v w' => v = .returned (.bool true) ∧ Below w.heap.size w w' := by
  have HT := Lib.hid hT
  have HD := Lib.hid (And.intro hd (And.intro hr0 hr1))
  have S0 : Hid (FnAt ((w.alloc (.cells #[.slice P m c, .slice Q n e] 26)).alloc (.cells #[.int .i64 r0, .int .i64 r1] 27)) w.heap.size P m c rs Q n e qs ∧ Lies ((w.alloc (.cells #[.slice P m c, .slice Q n e] 26)).alloc (.cells #[.int .i64 r0, .int .i64 r1] 27)) (w.heap.size + 1) 27 [.int .i64 r0, .int .i64 r1] ∧ Below w.heap.size w ((w.alloc (.cells #[.slice P m c, .slice Q n e] 26)).alloc (.cells #[.int .i64 r0, .int .i64 r1] 27))) := Lib.hid ⟨(fnAt_new h h').alloc _, Lies.fresh_at (cs := [.int .i64 r0, .int .i64 r1]) (by simp), by (repeat' (first | (with_reducible exact Below.refl _ _) | (with_reducible assumption) | (with_reducible refine below_drewN ?_ _) | (with_reducible refine below_new ?_ _) | (with_reducible refine Below.alloc ?_ ?_ _) | (with_reducible refine Below.drew ?_) | (with_reducible refine Below.setCell ?_ ?_ _) | (with_reducible apply below_at; (case k => (with_reducible assumption)); (case hB => omega)) | (with_reducible apply below_on; (with_reducible assumption)) | (go_size; done) | (with_reducible apply size_of)))⟩
  clear h h' hT hd hr0 hr1
  go_enter Tryd.func7, Tryd.ntmps7
  go_wp2_with fail
  generalize hw0 : ((w.alloc (.cells #[.slice P m c, .slice Q n e] 26)).alloc (.cells #[.int .i64 r0, .int .i64 r1] 27)) = w0 at *
  generalize w.heap.size + 1 = g1 at *
  clear hw0
  refine (alive w0 (HT.out.below S0.out.2.2)).mono ?_
  rintro v w1 ⟨rfl, b1⟩
  have S1 : Hid (FnAt w1 w.heap.size P m c rs Q n e qs ∧ Lies w1 g1 27 [.int .i64 r0, .int .i64 r1] ∧ Below w.heap.size w w1) := Lib.hid ⟨S0.out.1.past b1, S0.out.2.1.past b1, below_bs S0.out.2.2 b1⟩
  clear b1 S0
  have x0 := S1.out.1.c0
  have x1 := S1.out.1.c1
  go_wp2_with fail
  clear x0 x1
  refine (fnW.Great_any P m c rs Q n e qs w1 S1.out.1.r1 S1.out.1.r2).mono ?_
  rintro v w2 ⟨rfl, b2⟩
  have S2 : Hid (FnAt w2 w.heap.size P m c rs Q n e qs ∧ Lies w2 g1 27 [.int .i64 r0, .int .i64 r1] ∧ Below w.heap.size w w2) := Lib.hid ⟨S1.out.1.past b2, S1.out.2.1.past b2, below_bs S1.out.2.2 b2⟩
  clear b2 S1
  cases hg : (greatB (numsY rs) || greatB (numsY qs))
  case true =>
    clear hg
    go_wp2_with fail
    go_ret
    exact ⟨rfl, S2.out.2.2⟩
  clear hg
  have x0 := S2.out.1.c0
  have x1 := S2.out.1.c1
  go_wp2_with fail
  clear x0 x1
  refine (fnW.rCheck_any P m c rs Q n e qs w2 S2.out.1.r1 S2.out.1.r2).mono ?_
  rintro v w3 ⟨rfl, b3⟩
  have S3 : Hid (FnAt w3 w.heap.size P m c rs Q n e qs ∧ Lies w3 g1 27 [.int .i64 r0, .int .i64 r1] ∧ Below w.heap.size w w3) := Lib.hid ⟨S2.out.1.past b3, S2.out.2.1.past b3, below_bs S2.out.2.2 b3⟩
  clear b3 S2
  cases hf : fnB (numsY rs) (numsY qs)
  · rw [fnE_no hf]
    clear hf
    go_wp2_with fail
    go_ret
    exact ⟨rfl, S3.out.2.2⟩
  rw [fnE_yes hf]
  have HF := Lib.hid hf
  clear hf
  have x0 := S3.out.1.c0
  have x1 := S3.out.1.c1
  obtain ⟨x2, x3, -, -⟩ := S3.out.2.1.two
  go_wp2_with fail
  clear x0 x1 x2 x3
  refine (fnW.Look_any P m c rs Q n e qs r0 r1 d p w3 S3.out.1.r1 S3.out.1.r2).mono ?_
  rintro v w4 ⟨rfl, b4⟩
  obtain ⟨x, hx⟩ : ∃ x, numsY rs = x := ⟨_, rfl⟩
  obtain ⟨y, hy⟩ : ∃ y, numsY qs = y := ⟨_, rfl⟩
  have HXY := Lib.hid (And.intro hx hy)
  rw [hx, hy]
  rw [hx, hy] at HF
  clear hx hy
  by_cases hfe : fE x y r0 r1 d p = 0
  · have HL2 : Hid (m = 256 ∧ n = 256) := Lib.hid (by
      obtain ⟨a1, a2, a3, a4⟩ := (fnB_iff x y).1 HF.out
      have h1 := S3.out.1.r1.l
      have h2 := S3.out.1.r2.l
      have h3 := HXY.out.1
      have h4 := HXY.out.2
      have h5 := nums_len rs
      have h6 := nums_len qs
      rw [h3] at h5
      rw [h4] at h6
      omega)
    obtain ⟨f1, f2⟩ := f_ok hfe
    have HBO := Lib.hid (both bit hfe)
    have k0 := lookJ_bd x r0 d HD.out.1.1 HD.out.1.2
    have k1 := lookJ_bd y r1 d HD.out.1.1 HD.out.1.2
    rw [f2, f2, f2, f2, hfe]
    clear f1 f2 hfe
    obtain ⟨ja, hja⟩ : ∃ v, lookJ x r0 d = v := ⟨_, rfl⟩
    obtain ⟨jb, hjb⟩ : ∃ v, lookJ y r1 d = v := ⟨_, rfl⟩
    rw [hja, hjb] at HBO
    rw [hja] at k0
    rw [hjb] at k1
    rw [hja, hjb]
    clear hja hjb
    obtain ⟨fq, hfq⟩ : ∃ v, fV x y r0 r1 d p = v := ⟨_, rfl⟩
    rw [hfq] at HBO
    rw [hfq]
    clear hfq
    obtain ⟨X, hX⟩ : ∃ v, gX x y r0 r1 ja jb bit = v := ⟨_, rfl⟩
    obtain ⟨Y, hY⟩ : ∃ v, gY x y r0 r1 ja jb bit = v := ⟨_, rfl⟩
    rw [hX, hY] at HBO
    have q1 := eq2 (a := r0) (b := r1) HD.out.2.1 HD.out.2.2
    have q2 := eq2 (a := ja) (b := jb) (by omega) (by omega)
    clear k0 k1
    have S4 : Hid (FnAt (w4.alloc (.cells #[.int .i64 r0, .int .i64 r1, .int .i64 ja, .int .i64 jb] 39)) w.heap.size P m c rs Q n e qs ∧ Lies (w4.alloc (.cells #[.int .i64 r0, .int .i64 r1, .int .i64 ja, .int .i64 jb] 39)) g1 27 [.int .i64 r0, .int .i64 r1] ∧ Lies (w4.alloc (.cells #[.int .i64 r0, .int .i64 r1, .int .i64 ja, .int .i64 jb] 39)) w4.heap.size 39 [.int .i64 r0, .int .i64 r1, .int .i64 ja, .int .i64 jb] ∧ Below w.heap.size w (w4.alloc (.cells #[.int .i64 r0, .int .i64 r1, .int .i64 ja, .int .i64 jb] 39))) := Lib.hid ⟨(S3.out.1.past b4).alloc _, (S3.out.2.1.past b4).alloc _, Lies.fresh _ _ _, below_al (below_bs S3.out.2.2 b4) _⟩
    clear b4 S3
    go_upto_region 5 with fail
    generalize hw5 : (w4.alloc (.cells #[.int .i64 r0, .int .i64 r1, .int .i64 ja, .int .i64 jb] 39)) = w5 at *
    generalize w4.heap.size = g4 at *
    clear hw5
    obtain ⟨c0, c1, c2, c3⟩ := four S4.out.2.2.1
    have x0 := S4.out.1.c0
    have x1 := S4.out.1.c1
    go_wp2_with fail
    clear c0 c1 c2 c3 x0 x1
    refine (fnW.Learn_any P m c rs Q n e qs r0 r1 ja jb bit w5 S4.out.1.r1 S4.out.1.r2).mono ?_
    rintro v v6 ⟨A, k, f, us, B, l, g, vs, rfl, o1, o2, e1, e2, b6⟩
    rw [HXY.out.1, HXY.out.2, hX] at e1
    rw [HXY.out.1, HXY.out.2, hY] at e2
    rw [HXY.out.1, HXY.out.2, HBO.out.1]
    have EE := Lib.hid (And.intro e1 e2)
    have S6 : Hid (FnAt (v6.alloc (.cells #[.slice A k f, .slice B l g] 26)) w.heap.size P m c rs Q n e qs ∧ Lies (v6.alloc (.cells #[.slice A k f, .slice B l g] 26)) g1 27 [.int .i64 r0, .int .i64 r1] ∧ Lies (v6.alloc (.cells #[.slice A k f, .slice B l g] 26)) g4 39 [.int .i64 r0, .int .i64 r1, .int .i64 ja, .int .i64 jb] ∧ FnAt (v6.alloc (.cells #[.slice A k f, .slice B l g] 26)) v6.heap.size A k f us B l g vs ∧ Below w.heap.size w (v6.alloc (.cells #[.slice A k f, .slice B l g] 26))) := Lib.hid ⟨(S4.out.1.past b6).alloc _, (S4.out.2.1.past b6).alloc _, (S4.out.2.2.1.past b6).alloc _, fnAt_new o1.rows o2.rows, below_al (below_bs S4.out.2.2.2 b6) _⟩
    have HL3 : Hid (k = 256 ∧ l = 256) := Lib.hid (by
      obtain ⟨a1, a2, a3, a4⟩ := (fnB_iff X Y).1 HBO.out.2.1
      have h1 := o1.rows.l
      have h2 := o2.rows.l
      have h5 := nums_len us
      have h6 := nums_len vs
      rw [e1] at h5
      rw [e2] at h6
      omega)
    clear o1 o2 e1 e2 b6 S4 hX hY
    go_upto_region 8 with fail
    generalize hw7 : (v6.alloc (.cells #[.slice A k f, .slice B l g] 26)) = w7 at *
    generalize v6.heap.size = g6 at *
    clear hw7
    have x0 := S6.out.2.2.2.1.c0
    have x1 := S6.out.2.2.2.1.c1
    obtain ⟨x2, x3, -, -⟩ := S6.out.2.1.two
    go_wp2_with fail
    clear x0 x1 x2 x3
    refine (fnW.Look_any A k f us B l g vs r0 r1 d p w7 S6.out.2.2.2.1.r1 S6.out.2.2.2.1.r2).mono ?_
    rintro v v8 ⟨rfl, b8⟩
    rw [EE.out.1, EE.out.2]
    have HF2 := Lib.hid (f_ok HBO.out.2.2.1)
    rw [HF2.out.2, HF2.out.2, HF2.out.2, HF2.out.2, HBO.out.2.2.1, HBO.out.2.2.2.1, HBO.out.2.2.2.2.1]
    obtain ⟨fr, hfr⟩ : ∃ v, fV X Y r0 r1 d p = v := ⟨_, rfl⟩
    rw [hfr] at HBO
    rw [hfr]
    clear hfr HF2
    have S8 : Hid (FnAt (v8.alloc (.cells #[.int .i64 r0, .int .i64 r1, .int .i64 ja, .int .i64 jb] 39)) w.heap.size P m c rs Q n e qs ∧ Lies (v8.alloc (.cells #[.int .i64 r0, .int .i64 r1, .int .i64 ja, .int .i64 jb] 39)) g1 27 [.int .i64 r0, .int .i64 r1] ∧ Lies (v8.alloc (.cells #[.int .i64 r0, .int .i64 r1, .int .i64 ja, .int .i64 jb] 39)) g4 39 [.int .i64 r0, .int .i64 r1, .int .i64 ja, .int .i64 jb] ∧ FnAt (v8.alloc (.cells #[.int .i64 r0, .int .i64 r1, .int .i64 ja, .int .i64 jb] 39)) g6 A k f us B l g vs ∧ Lies (v8.alloc (.cells #[.int .i64 r0, .int .i64 r1, .int .i64 ja, .int .i64 jb] 39)) v8.heap.size 39 [.int .i64 r0, .int .i64 r1, .int .i64 ja, .int .i64 jb] ∧ Below w.heap.size w (v8.alloc (.cells #[.int .i64 r0, .int .i64 r1, .int .i64 ja, .int .i64 jb] 39))) := Lib.hid ⟨(S6.out.1.past b8).alloc _, (S6.out.2.1.past b8).alloc _, (S6.out.2.2.1.past b8).alloc _, (S6.out.2.2.2.1.past b8).alloc _, Lies.fresh _ _ _, below_al (below_bs S6.out.2.2.2.2 b8) _⟩
    clear b8 S6
    go_upto_region 9 with fail
    generalize hw9 : (v8.alloc (.cells #[.int .i64 r0, .int .i64 r1, .int .i64 ja, .int .i64 jb] 39)) = w9 at *
    generalize v8.heap.size = g8 at *
    clear hw9
    obtain ⟨c0, c1, c2, c3⟩ := four S8.out.2.2.1
    obtain ⟨c4, c5, c6, c7⟩ := four S8.out.2.2.2.2.1
    have x0 := S8.out.2.2.2.1.c0
    have x1 := S8.out.2.2.2.1.c1
    go_wp2_with fail
    clear c0 c1 c2 c3 c4 c5 c6 c7 x0 x1
    refine (fnW.rCheck_any A k f us B l g vs w9 S8.out.2.2.2.1.r1 S8.out.2.2.2.1.r2).mono ?_
    rintro v w10 ⟨rfl, b10⟩
    rw [EE.out.1, EE.out.2, fnE_yes HBO.out.2.1]
    have S10 : Hid (FnAt w10 w.heap.size P m c rs Q n e qs ∧ Lies w10 g1 27 [.int .i64 r0, .int .i64 r1] ∧ FnAt w10 g6 A k f us B l g vs ∧ Below w.heap.size w w10) := Lib.hid ⟨S8.out.1.past b10, S8.out.2.1.past b10, S8.out.2.2.2.1.past b10, below_bs S8.out.2.2.2.2.2 b10⟩
    clear b10 S8
    obtain ⟨st1, st2⟩ := HBO.out.2.2.2.2.2.1
    have HRW := Lib.hid HBO.out.2.2.2.2.2.2
    cases bit
    · have s1 := st2 rfl
      have s2 : ¬ fq < fr := by omega
      clear st1 st2 HBO
      go_wp2_with fail
      go_loopw [20] (fun iv wr => ∃ i : Nat, i ≤ 256 ∧ iv = .int .i64 i ∧ FnAt wr w.heap.size P m c rs Q n e qs ∧ Lies wr g1 27 [.int .i64 r0, .int .i64 r1] ∧ FnAt wr g6 A k f us B l g vs ∧ Below w.heap.size w wr) (fun iv _ => 256 - (intOf iv).toNat)
      case atStart => exact ⟨0, by omega, rfl, S10.out⟩
      case round =>
        clear S10
        obtain ⟨i, hi, rfl, s11⟩ := hrel
        have S11 := Lib.hid s11
        clear s11
        by_cases hlt : i < 256
        · have HI := Lib.hid hlt
          have i1 : (i : Int) < 256 := by omega
          have i0 : 0 ≤ (i : Int) := by omega
          have x0 := S11.out.1.c0
          have x1 := S11.out.1.c1
          have x2 := S11.out.2.2.1.c0
          have x3 := S11.out.2.2.1.c1
          obtain ⟨y0, y1, -, -⟩ := S11.out.2.1.two
          have E0 : (i : Int) ≠ r0 → Hid ((numsY rs).getD i [] = (numsY us).getD i []) := fun hne => Lib.hid (by rw [HXY.out.1, EE.out.1, HRW.out.1 i hne])
          have E1 : (i : Int) ≠ r1 → Hid ((numsY qs).getD i [] = (numsY vs).getD i []) := fun hne => Lib.hid (by rw [HXY.out.2, EE.out.2, HRW.out.2 i hne])
          clear hi hlt
          by_cases h0 : (i : Int) = r0
          · have p0 : ((i : Int) != r0) = false := by simp [h0]
            have p00 : decide ((i : Int) = r0) = true := by simp [h0]
            clear E0
            by_cases h1 : (i : Int) = r1
            · have p1 : ((i : Int) != r1) = false := by simp [h1]
              clear E1 h0 h1
              go_wp2_with fail
              exact ⟨⟨i + 1, by have := HI.out; omega, by go_num, S11.out⟩, by simp [intOf]; have := HI.out; omega⟩
            · have p1 : ((i : Int) != r1) = true := by simp [h1]
              have E1 := E1 h1
              clear h0 h1
              go_wp2_with fail
              clear x0 x1 x2 x3 y0 y1
              refine (same Q B n e l g qs vs i wr S11.out.1.r2 S11.out.2.2.1.r2 (by have := HL2.out; have := HI.out; omega) (by have := HL3.out; have := HI.out; omega) E1.out).mono ?_
              rintro v w12 ⟨rfl, b12⟩
              have S12 : Hid (FnAt w12 w.heap.size P m c rs Q n e qs ∧ Lies w12 g1 27 [.int .i64 r0, .int .i64 r1] ∧ FnAt w12 g6 A k f us B l g vs ∧ Below w.heap.size w w12) := Lib.hid ⟨S11.out.1.past b12, S11.out.2.1.past b12, S11.out.2.2.1.past b12, below_bs S11.out.2.2.2 b12⟩
              clear b12 S11
              go_wp2_with fail
              exact ⟨⟨i + 1, by have := HI.out; omega, by go_num, S12.out⟩, by simp [intOf]; have := HI.out; omega⟩
          · have p0 : ((i : Int) != r0) = true := by simp [h0]
            have E0 := E0 h0
            clear h0
            go_wp2_with fail
            clear x0 x1 x2 x3 y0 y1
            refine (same P A m c k f rs us i wr S11.out.1.r1 S11.out.2.2.1.r1 (by have := HL2.out; have := HI.out; omega) (by have := HL3.out; have := HI.out; omega) E0.out).mono ?_
            rintro v w12 ⟨rfl, b12⟩
            have S12 : Hid (FnAt w12 w.heap.size P m c rs Q n e qs ∧ Lies w12 g1 27 [.int .i64 r0, .int .i64 r1] ∧ FnAt w12 g6 A k f us B l g vs ∧ Below w.heap.size w w12) := Lib.hid ⟨S11.out.1.past b12, S11.out.2.1.past b12, S11.out.2.2.1.past b12, below_bs S11.out.2.2.2 b12⟩
            clear b12 S11
            have x1 := S12.out.1.c1
            have x3 := S12.out.2.2.1.c1
            obtain ⟨y0, y1, -, -⟩ := S12.out.2.1.two
            by_cases h1 : (i : Int) = r1
            · have p1 : ((i : Int) != r1) = false := by simp [h1]
              clear E1 h1
              go_wp2_with fail
              exact ⟨⟨i + 1, by have := HI.out; omega, by go_num, S12.out⟩, by simp [intOf]; have := HI.out; omega⟩
            · have p1 : ((i : Int) != r1) = true := by simp [h1]
              have E1 := E1 h1
              clear h1
              go_wp2_with fail
              clear x1 x3 y0 y1
              refine (same Q B n e l g qs vs i w12 S12.out.1.r2 S12.out.2.2.1.r2 (by have := HL2.out; have := HI.out; omega) (by have := HL3.out; have := HI.out; omega) E1.out).mono ?_
              rintro v w13 ⟨rfl, b13⟩
              have S13 : Hid (FnAt w13 w.heap.size P m c rs Q n e qs ∧ Lies w13 g1 27 [.int .i64 r0, .int .i64 r1] ∧ FnAt w13 g6 A k f us B l g vs ∧ Below w.heap.size w w13) := Lib.hid ⟨S12.out.1.past b13, S12.out.2.1.past b13, S12.out.2.2.1.past b13, below_bs S12.out.2.2.2 b13⟩
              clear b13 S12
              go_wp2_with fail
              exact ⟨⟨i + 1, by have := HI.out; omega, by go_num, S13.out⟩, by simp [intOf]; have := HI.out; omega⟩
        · have i1 : ¬ (i : Int) < 256 := by omega
          clear hi hlt
          go_wp2_with fail
          go_ret
          exact ⟨rfl, S11.out.2.2.2⟩
    · have s1 := st1 rfl
      have s2 : ¬ fr < fq := by omega
      clear st1 st2 HBO
      go_wp2_with fail
      go_loopw [20] (fun iv wr => ∃ i : Nat, i ≤ 256 ∧ iv = .int .i64 i ∧ FnAt wr w.heap.size P m c rs Q n e qs ∧ Lies wr g1 27 [.int .i64 r0, .int .i64 r1] ∧ FnAt wr g6 A k f us B l g vs ∧ Below w.heap.size w wr) (fun iv _ => 256 - (intOf iv).toNat)
      case atStart => exact ⟨0, by omega, rfl, S10.out⟩
      case round =>
        clear S10
        obtain ⟨i, hi, rfl, s11⟩ := hrel
        have S11 := Lib.hid s11
        clear s11
        by_cases hlt : i < 256
        · have HI := Lib.hid hlt
          have i1 : (i : Int) < 256 := by omega
          have i0 : 0 ≤ (i : Int) := by omega
          have x0 := S11.out.1.c0
          have x1 := S11.out.1.c1
          have x2 := S11.out.2.2.1.c0
          have x3 := S11.out.2.2.1.c1
          obtain ⟨y0, y1, -, -⟩ := S11.out.2.1.two
          have E0 : (i : Int) ≠ r0 → Hid ((numsY rs).getD i [] = (numsY us).getD i []) := fun hne => Lib.hid (by rw [HXY.out.1, EE.out.1, HRW.out.1 i hne])
          have E1 : (i : Int) ≠ r1 → Hid ((numsY qs).getD i [] = (numsY vs).getD i []) := fun hne => Lib.hid (by rw [HXY.out.2, EE.out.2, HRW.out.2 i hne])
          clear hi hlt
          by_cases h0 : (i : Int) = r0
          · have p0 : ((i : Int) != r0) = false := by simp [h0]
            have p00 : decide ((i : Int) = r0) = true := by simp [h0]
            clear E0
            by_cases h1 : (i : Int) = r1
            · have p1 : ((i : Int) != r1) = false := by simp [h1]
              clear E1 h0 h1
              go_wp2_with fail
              exact ⟨⟨i + 1, by have := HI.out; omega, by go_num, S11.out⟩, by simp [intOf]; have := HI.out; omega⟩
            · have p1 : ((i : Int) != r1) = true := by simp [h1]
              have E1 := E1 h1
              clear h0 h1
              go_wp2_with fail
              clear x0 x1 x2 x3 y0 y1
              refine (same Q B n e l g qs vs i wr S11.out.1.r2 S11.out.2.2.1.r2 (by have := HL2.out; have := HI.out; omega) (by have := HL3.out; have := HI.out; omega) E1.out).mono ?_
              rintro v w12 ⟨rfl, b12⟩
              have S12 : Hid (FnAt w12 w.heap.size P m c rs Q n e qs ∧ Lies w12 g1 27 [.int .i64 r0, .int .i64 r1] ∧ FnAt w12 g6 A k f us B l g vs ∧ Below w.heap.size w w12) := Lib.hid ⟨S11.out.1.past b12, S11.out.2.1.past b12, S11.out.2.2.1.past b12, below_bs S11.out.2.2.2 b12⟩
              clear b12 S11
              go_wp2_with fail
              exact ⟨⟨i + 1, by have := HI.out; omega, by go_num, S12.out⟩, by simp [intOf]; have := HI.out; omega⟩
          · have p0 : ((i : Int) != r0) = true := by simp [h0]
            have E0 := E0 h0
            clear h0
            go_wp2_with fail
            clear x0 x1 x2 x3 y0 y1
            refine (same P A m c k f rs us i wr S11.out.1.r1 S11.out.2.2.1.r1 (by have := HL2.out; have := HI.out; omega) (by have := HL3.out; have := HI.out; omega) E0.out).mono ?_
            rintro v w12 ⟨rfl, b12⟩
            have S12 : Hid (FnAt w12 w.heap.size P m c rs Q n e qs ∧ Lies w12 g1 27 [.int .i64 r0, .int .i64 r1] ∧ FnAt w12 g6 A k f us B l g vs ∧ Below w.heap.size w w12) := Lib.hid ⟨S11.out.1.past b12, S11.out.2.1.past b12, S11.out.2.2.1.past b12, below_bs S11.out.2.2.2 b12⟩
            clear b12 S11
            have x1 := S12.out.1.c1
            have x3 := S12.out.2.2.1.c1
            obtain ⟨y0, y1, -, -⟩ := S12.out.2.1.two
            by_cases h1 : (i : Int) = r1
            · have p1 : ((i : Int) != r1) = false := by simp [h1]
              clear E1 h1
              go_wp2_with fail
              exact ⟨⟨i + 1, by have := HI.out; omega, by go_num, S12.out⟩, by simp [intOf]; have := HI.out; omega⟩
            · have p1 : ((i : Int) != r1) = true := by simp [h1]
              have E1 := E1 h1
              clear h1
              go_wp2_with fail
              clear x1 x3 y0 y1
              refine (same Q B n e l g qs vs i w12 S12.out.1.r2 S12.out.2.2.1.r2 (by have := HL2.out; have := HI.out; omega) (by have := HL3.out; have := HI.out; omega) E1.out).mono ?_
              rintro v w13 ⟨rfl, b13⟩
              have S13 : Hid (FnAt w13 w.heap.size P m c rs Q n e qs ∧ Lies w13 g1 27 [.int .i64 r0, .int .i64 r1] ∧ FnAt w13 g6 A k f us B l g vs ∧ Below w.heap.size w w13) := Lib.hid ⟨S12.out.1.past b13, S12.out.2.1.past b13, S12.out.2.2.1.past b13, below_bs S12.out.2.2.2 b13⟩
              clear b13 S12
              go_wp2_with fail
              exact ⟨⟨i + 1, by have := HI.out; omega, by go_num, S13.out⟩, by simp [intOf]; have := HI.out; omega⟩
        · have i1 : ¬ (i : Int) < 256 := by omega
          clear hi hlt
          go_wp2_with fail
          go_ret
          exact ⟨rfl, S11.out.2.2.2⟩
  · have hf2 := fE_2 HF.out hfe
    rw [hf2]
    clear hf2 hfe
    have S4 := Lib.hid (below_bs S3.out.2.2 b4)
    clear b4 S3
    generalize fV x y r0 r1 d p = z0 at *
    generalize fZ x y r0 r1 d p r0 = z1 at *
    generalize fZ x y r0 r1 d p r1 = z2 at *
    generalize fZ x y r0 r1 d p (lookJ x r0 d) = z3 at *
    generalize fZ x y r0 r1 d p (lookJ y r1 d) = z4 at *
    go_wp2_with fail
    go_ret
    exact ⟨rfl, below_al S4.out _⟩
theorem towards_law (P : Option Addr) (m c : Nat) (rs : List RY) (Q : Option Addr) (n e : Nat) (qs : List RY) (r0 r1 d p : Int) (bit : Bool) (w : World) (h : RowsY w P m c rs ∧ RowsY w Q n e qs) (hr : (-9223372036854775808 ≤ r0 ∧ r0 ≤ 9223372036854775807) ∧ -9223372036854775808 ≤ r1 ∧ r1 ≤ 9223372036854775807) (d0 : -2147483648 ≤ d) (d1 : d ≤ 2147483647) (_ : -2147483648 ≤ p) (_ : p ≤ 2147483647) (hT : Tab w) :
    Calls Tryd.prog 7 #[.agg #[.slice P m c, .slice Q n e], .agg #[.int .i64 r0, .int .i64 r1], .int .i32 d, .int .i32 p, .bool bit] w fun v w' => v = .returned (.bool true) ∧ Below w.heap.size w w' :=
  towards P m c rs Q n e qs r0 r1 d p bit w h.1 h.2 ⟨d0, d1⟩ hr.1 hr.2 hT
end Go.Proofs.YtdmnaipngcldbaaDoor.fnL
