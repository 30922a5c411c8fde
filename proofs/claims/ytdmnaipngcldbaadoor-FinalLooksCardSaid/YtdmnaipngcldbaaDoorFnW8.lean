/- Learning of the reference; copies and comparisons of maps: walks. -/
import Derived.Test.YtdmnaipngcldbaaDoorFnW7
import Derived.Test.YtdmnaipngcldbaaDoorFnW2
import Derived.Test.YtdmnaipngcldbaaDoorRfWE
import Derived.Test.YtdmnaipngcldbaaDoorRfA3
namespace Go.Proofs.YtdmnaipngcldbaaDoor.fnP
set_option maxRecDepth 100000
open Go.Proofs.YtdmnaipngcldbaaDoor.base Go.Proofs.YtdmnaipngcldbaaDoor.rfP Go.Proofs.YtdmnaipngcldbaaDoor.rfW
def rowB18 (r : Int) : Bool := decide (0 ≤ r) && decide (r < 256)
def chB (r0 r1 j0 j1 : Int) : Bool := decide (0 ≤ r0 ∧ r0 < 256 ∧ 0 ≤ r1 ∧ r1 < 256 ∧ 0 ≤ j0 ∧ j0 < 33 ∧ 0 ≤ j1 ∧ j1 < 33)
theorem learn_one {x : List (List Int)} {r j : Int} (h : rfB x = true) (hl : x.length = 256) : learnE x r j = if 0 ≤ r ∧ r < 256 ∧ 0 ≤ j ∧ j < 33 then 0 else 2 := by
  unfold learnE askE
  rw [if_pos h, hl]
  by_cases h1 : r < 0 ∨ ((256 : Nat) : Int) ≤ r
  · rw [if_pos h1, if_neg (by decide), if_neg (by omega)]
  · rw [if_neg h1, if_pos rfl]
    by_cases h2 : j < 0 ∨ 33 ≤ j
    · rw [if_pos h2, if_neg (by omega)]
    · rw [if_neg h2, if_pos (by omega)]
theorem ch_yes {x y : List (List Int)} {r0 r1 j0 j1 : Int} (h : fnB x y = true) (hc : chB r0 r1 j0 j1 = true) : learnE x r0 j0 = 0 ∧ learnE y r1 j1 = 0 ∧ gE x y r0 r1 j0 j1 = 0 := by
  obtain ⟨a1, a2, a3, a4⟩ := (fnB_iff x y).1 h
  have hc := of_decide_eq_true hc
  have e1 : learnE x r0 j0 = 0 := by rw [learn_one a3 a1, if_pos (by omega)]
  have e2 : learnE y r1 j1 = 0 := by rw [learn_one a4 a2, if_pos (by omega)]
  exact ⟨e1, e2, by rw [gE_two h e1, e2]⟩
theorem ch_no {x y : List (List Int)} {r0 r1 j0 j1 : Int} (h : fnB x y = true) (hc : chB r0 r1 j0 j1 = false) : gE x y r0 r1 j0 j1 = 2 := by
  obtain ⟨a1, a2, a3, a4⟩ := (fnB_iff x y).1 h
  have hc := of_decide_eq_false hc
  by_cases h1 : learnE x r0 j0 = 0
  · rw [gE_two h h1]
    rw [learn_one a3 a1] at h1
    rw [learn_one a4 a2]
    split at h1
    · rw [if_neg (by omega)]
    · cases h1
  · rw [gE_one h h1]
    rw [learn_one a3 a1] at h1 ⊢
    split at h1
    · exact absurd rfl h1
    · rw [if_neg (by assumption)]
end Go.Proofs.YtdmnaipngcldbaaDoor.fnP
namespace Go.Proofs.YtdmnaipngcldbaaDoor.fnW
set_option maxRecDepth 100000
open Go.RowKit Go.Proofs.YtdmnaipngcldbaaDoor.base Go.Proofs.YtdmnaipngcldbaaDoor.rfP Go.Proofs.YtdmnaipngcldbaaDoor.rfW Go.Proofs.YtdmnaipngcldbaaDoor.fnP
set_option linter.unusedVariables false
set_option linter.unusedSimpArgs false
theorem row_any (r : Int) (w : World) : Calls Tryd.prog 32 #[.int .i64 r] w fun e w' => e = .returned (.bool (rowB18 r)) ∧ w' = w := by
  by_cases c1 : 0 ≤ r
  · by_cases c2 : r < 256
    · rw [show rowB18 r = true by simp [rowB18, c1, c2]]
      go_enter Tryd.func32, Tryd.ntmps32
      go_wp2_with fail
      go_ret
      exact ⟨rfl, rfl⟩
    · rw [show rowB18 r = false by simp [rowB18, c2]]
      go_enter Tryd.func32, Tryd.ntmps32
      go_wp2_with fail
      go_ret
      exact ⟨rfl, rfl⟩
  · rw [show rowB18 r = false by simp [rowB18, c1]]
    have c2 : decide (0 ≤ r) = false := decide_eq_false c1
    go_enter Tryd.func32, Tryd.ntmps32
    go_wp2_with fail
    go_ret
    exact ⟨rfl, rfl⟩
set_option maxHeartbeats 800000 in
theorem Same_yes (P : Option Addr) (m c : Nat) (rs : List RY) (Q : Option Addr) (n e : Nat) (qs : List RY) (A : Option Addr) (k d : Nat) (us : List RY) (B : Option Addr) (l f : Nat) (vs : List RY) (w : World) (h : RowsY w P m c rs) (h' : RowsY w Q n e qs) (g : RowsY w A k d us) (g' : RowsY w B l f vs) (e1 : numsY rs = numsY us) (e2 : numsY qs = numsY vs) :
    Calls Tryd.prog 16 #[.agg #[.slice P m c, .slice Q n e], .agg #[.slice A k d, .slice B l f]] w fun v w' => v = .returned (.bool true) ∧ Below w.heap.size w w' := by
  have S0 : Hid (FnAt ((w.alloc (.cells #[.slice P m c, .slice Q n e] 26)).alloc (.cells #[.slice A k d, .slice B l f] 26)) w.heap.size P m c rs Q n e qs ∧ FnAt ((w.alloc (.cells #[.slice P m c, .slice Q n e] 26)).alloc (.cells #[.slice A k d, .slice B l f] 26)) (w.heap.size + 1) A k d us B l f vs ∧ Below w.heap.size w ((w.alloc (.cells #[.slice P m c, .slice Q n e] 26)).alloc (.cells #[.slice A k d, .slice B l f] 26))) := Lib.hid ⟨(fnAt_new h h').alloc _, ⟨Lies.fresh_at (cs := [.slice A k d, .slice B l f]) (by simp), g.past (by (repeat' (first | (with_reducible exact Below.refl _ _) | (with_reducible assumption) | (with_reducible refine below_drewN ?_ _) | (with_reducible refine below_new ?_ _) | (with_reducible refine Below.alloc ?_ ?_ _) | (with_reducible refine Below.drew ?_) | (with_reducible refine Below.setCell ?_ ?_ _) | (with_reducible apply below_at; (case k => (with_reducible assumption)); (case hB => omega)) | (with_reducible apply below_on; (with_reducible assumption)) | (go_size; done) | (with_reducible apply size_of)))), g'.past (by (repeat' (first | (with_reducible exact Below.refl _ _) | (with_reducible assumption) | (with_reducible refine below_drewN ?_ _) | (with_reducible refine below_new ?_ _) | (with_reducible refine Below.alloc ?_ ?_ _) | (with_reducible refine Below.drew ?_) | (with_reducible refine Below.setCell ?_ ?_ _) | (with_reducible apply below_at; (case k => (with_reducible assumption)); (case hB => omega)) | (with_reducible apply below_on; (with_reducible assumption)) | (go_size; done) | (with_reducible apply size_of))))⟩, by (repeat' (first | (with_reducible exact Below.refl _ _) | (with_reducible assumption) | (with_reducible refine below_drewN ?_ _) | (with_reducible refine below_new ?_ _) | (with_reducible refine Below.alloc ?_ ?_ _) | (with_reducible refine Below.drew ?_) | (with_reducible refine Below.setCell ?_ ?_ _) | (with_reducible apply below_at; (case k => (with_reducible assumption)); (case hB => omega)) | (with_reducible apply below_on; (with_reducible assumption)) | (go_size; done) | (with_reducible apply size_of)))⟩
  have E := Lib.hid (And.intro e1 e2)
  clear h h' g g' e1 e2
  go_enter Tryd.func16, Tryd.ntmps16
  go_wp2_with fail
  generalize hw0 : ((w.alloc (.cells #[.slice P m c, .slice Q n e] 26)).alloc (.cells #[.slice A k d, .slice B l f] 26)) = w0 at *
  generalize w.heap.size + 1 = g2 at *
  clear hw0
  have x0 := S0.out.2.1.c0
  go_wp2_with fail
  clear x0
  refine (rfW.same17_any P A m c k d rs us w0 S0.out.1.r1 S0.out.2.1.r1).mono ?_
  rintro v w1 ⟨rfl, b1⟩
  rw [show decide (numsY rs = numsY us) = true from decide_eq_true E.out.1]
  have S1 : Hid (FnAt w1 w.heap.size P m c rs Q n e qs ∧ FnAt w1 g2 A k d us B l f vs ∧ Below w.heap.size w w1) := Lib.hid ⟨S0.out.1.past b1, S0.out.2.1.past b1, below_bs S0.out.2.2 b1⟩
  clear b1 S0
  have x0 := S1.out.2.1.c1
  have x1 := S1.out.1.c1
  go_wp2_with fail
  clear x0 x1
  refine (rfW.same17_any Q B n e l f qs vs w1 S1.out.1.r2 S1.out.2.1.r2).mono ?_
  rintro v w2 ⟨rfl, b2⟩
  rw [show decide (numsY qs = numsY vs) = true from decide_eq_true E.out.2]
  have S2 := Lib.hid (below_bs S1.out.2.2 b2)
  clear b2 S1
  go_wp2_with fail
  go_ret
  exact ⟨rfl, S2.out⟩
end Go.Proofs.YtdmnaipngcldbaaDoor.fnW
namespace Go.Proofs.YtdmnaipngcldbaaDoor.fnP
set_option maxRecDepth 100000
open Go.Proofs.YtdmnaipngcldbaaDoor.base Go.Proofs.YtdmnaipngcldbaaDoor.rfP Go.Proofs.YtdmnaipngcldbaaDoor.rfW
theorem look_one18 {x : List (List Int)} {r d : Int} (h : rfB x = true) (hl : x.length = 256) : lookE x r d = if 0 ≤ r ∧ r < 256 ∧ -2047 ≤ d ∧ d ≤ 2047 then 0 else 2 := by
  unfold lookE askE
  rw [if_pos h, hl]
  by_cases h1 : r < 0 ∨ ((256 : Nat) : Int) ≤ r
  · rw [if_pos h1, if_neg (by decide), if_neg (by omega)]
  · rw [if_neg h1, if_pos rfl]
    by_cases h2 : d < -2047 ∨ 2047 < d
    · rw [if_pos h2, if_neg (by omega)]
    · rw [if_neg h2, if_pos (by omega)]
theorem lv_bd {x : List (List Int)} {r d : Int} (hE : lookE x r d = 0) : 0 ≤ lookV x r d ∧ lookV x r d ≤ 4095 := by
  have ha : askE x r = 0 := by
    unfold lookE at hE
    split at hE
    · assumption
    · exact hE
  have hd : -2047 ≤ d ∧ d ≤ 2047 := by
    unfold lookE at hE
    rw [if_pos ha] at hE
    split at hE
    · cases hE
    · omega
  obtain ⟨h1, h2, h3⟩ := ask_zero ha
  unfold lookV
  rw [if_pos hE]
  exact (seen_between (rf_row h1 r.toNat (by omega)) (t := (d + 2048).toNat) (by omega)).2.2
/-- What the reference asks for. -/
theorem ask18 {x y : List (List Int)} {r0 r1 d p : Int} (h : fnB x y = true) : fE x y r0 r1 d p = if (0 ≤ r0 ∧ r0 < 256) ∧ (0 ≤ r1 ∧ r1 < 256) ∧ (-2047 ≤ d ∧ d ≤ 2047) ∧ 0 ≤ p ∧ p ≤ 4095 then 0 else 2 := by
  obtain ⟨a1, a2, a3, a4⟩ := (fnB_iff x y).1 h
  have e1 := look_one18 (r := r0) (d := d) a3 a1
  have e2 := look_one18 (r := r1) (d := d) a4 a2
  by_cases c1 : 0 ≤ r0 ∧ r0 < 256 ∧ -2047 ≤ d ∧ d ≤ 2047
  · rw [if_pos c1] at e1
    by_cases c2 : 0 ≤ r1 ∧ r1 < 256 ∧ -2047 ≤ d ∧ d ≤ 2047
    · rw [if_pos c2] at e2
      rw [fE_join h e1 e2]
      have v1 := lv_bd e1
      have v2 := lv_bd e2
      by_cases c3 : 0 ≤ p ∧ p ≤ 4095
      · rw [(join_yes ((joinB_iff _ _ _).2 ⟨c3, v1, v2⟩)).1, if_pos (by omega)]
      · have : joinB p (lookV x r0 d) (lookV y r1 d) = false := by
          cases hj : joinB p (lookV x r0 d) (lookV y r1 d)
          · rfl
          · exact absurd ((joinB_iff _ _ _).1 hj).1 c3
        rw [(join_no this).1, if_neg (by omega)]
    · rw [if_neg c2] at e2
      rw [fE_two h e1 (by rw [e2]; decide), e2, if_neg (by omega)]
  · rw [if_neg c1] at e1
    rw [fE_one h (by rw [e1]; decide), e1, if_neg (by omega)]
end Go.Proofs.YtdmnaipngcldbaaDoor.fnP
namespace Go.Proofs.YtdmnaipngcldbaaDoor.fnW
set_option maxRecDepth 100000
open Go.RowKit Go.Proofs.YtdmnaipngcldbaaDoor.base Go.Proofs.YtdmnaipngcldbaaDoor.rfP Go.Proofs.YtdmnaipngcldbaaDoor.rfW Go.Proofs.YtdmnaipngcldbaaDoor.fnP
set_option linter.unusedVariables false
set_option linter.unusedSimpArgs false
set_option maxHeartbeats 1500000 in
theorem Seen_any (P : Option Addr) (m c : Nat) (rs : List RY) (Q : Option Addr) (n e : Nat) (qs : List RY) (k0 k1 t : Nat) (p : Int) (w : World) (h : RowsY w P m c rs) (h' : RowsY w Q n e qs) (hf : fnB (numsY rs) (numsY qs) = true) (hk0 : k0 < 256) (hk1 : k1 < 256) (ht : t ≤ 4095) (hj : joinB p (seenP ((numsY rs).getD k0 []) t) (seenP ((numsY qs).getD k1 []) t) = true) :
    Calls Tryd.prog 33 #[.agg #[.slice P m c, .slice Q n e], .agg #[.int .i64 k0, .int .i64 k1], .int .i32 ((t : Int) - 2048), .int .i32 p] w fun v w' => v = .returned (.tuple #[.int .i32 (joinN p (seenP ((numsY rs).getD k0 []) t) (seenP ((numsY qs).getD k1 []) t)), .agg #[.int .i64 k0, .int .i64 k1, .int .i64 (nearJ t), .int .i64 (nearJ t)]]) ∧ Below w.heap.size w w' := by
  obtain ⟨a1, a2, a3, a4⟩ := (fnB_iff _ _).1 hf
  have hl := h.l
  have hl2 := h'.l
  rw [nums_len] at a1 a2
  have S0 : Hid (FnAt (((w.alloc (.cells #[.slice P m c, .slice Q n e] 26)).alloc (.cells #[.int .i64 k0, .int .i64 k1] 27)).alloc (.cells #[.int .i64 0, .int .i64 0, .int .i64 0, .int .i64 0] 39)) w.heap.size P m c rs Q n e qs ∧ Lies ((((w.alloc (.cells #[.slice P m c, .slice Q n e] 26)).alloc (.cells #[.int .i64 k0, .int .i64 k1] 27)).alloc (.cells #[.int .i64 0, .int .i64 0, .int .i64 0, .int .i64 0] 39))) (w.heap.size + 1) 27 [.int .i64 (k0), .int .i64 (k1)] ∧ Lies ((((w.alloc (.cells #[.slice P m c, .slice Q n e] 26)).alloc (.cells #[.int .i64 k0, .int .i64 k1] 27)).alloc (.cells #[.int .i64 0, .int .i64 0, .int .i64 0, .int .i64 0] 39))) (w.heap.size + 2) 39 [.int .i64 (0), .int .i64 (0), .int .i64 (0), .int .i64 (0)] ∧ Below w.heap.size w (((w.alloc (.cells #[.slice P m c, .slice Q n e] 26)).alloc (.cells #[.int .i64 k0, .int .i64 k1] 27)).alloc (.cells #[.int .i64 0, .int .i64 0, .int .i64 0, .int .i64 0] 39)) ∧ w.heap.size < w.heap.size + 1 ∧ w.heap.size + 1 < w.heap.size + 2) := Lib.hid ⟨((fnAt_new h h').alloc _).alloc _, (Lies.fresh_at (cs := [.int .i64 k0, .int .i64 k1]) (by simp)).alloc _, Lies.fresh_at (cs := [.int .i64 0, .int .i64 0, .int .i64 0, .int .i64 0]) (by simp), by (repeat' (first | (with_reducible exact Below.refl _ _) | (with_reducible assumption) | (with_reducible refine below_drewN ?_ _) | (with_reducible refine below_new ?_ _) | (with_reducible refine Below.alloc ?_ ?_ _) | (with_reducible refine Below.drew ?_) | (with_reducible refine Below.setCell ?_ ?_ _) | (with_reducible apply below_at; (case k => (with_reducible assumption)); (case hB => omega)) | (with_reducible apply below_on; (with_reducible assumption)) | (go_size; done) | (with_reducible apply size_of))), by omega, by omega⟩
  have hm : m = 256 := by omega
  have hn : n = 256 := by omega
  subst hm hn
  obtain ⟨b1, o1, rfl, hb1, hc1⟩ := h.h.some (by omega)
  obtain ⟨b2, o2, rfl, hb2, hc2⟩ := h'.h.some (by omega)
  have I1 := Lib.hid (h.h.get k0 (by omega))
  have I2 := Lib.hid (h'.h.get k1 (by omega))
  have N1 := nums_at rs k0 (by omega)
  have N2 := nums_at qs k1 (by omega)
  have R1 := rf_row a3 k0 (by rw [nums_len]; omega)
  have R2 := rf_row a4 k1 (by rw [nums_len]; omega)
  have C1 : Hid (∀ x', Below w.heap.size w x' → x'.cell? ⟨b1, o1 + k0, none⟩ = some (.slice (rs.getD k0 ry0).A (rs.getD k0 ry0).n (rs.getD k0 ry0).c)) := Lib.hid (fun x' hx => ((bcell hx).1 b1 _ hb1).trans (hc1 k0 (by omega)))
  have C2 : Hid (∀ x', Below w.heap.size w x' → x'.cell? ⟨b2, o2 + k1, none⟩ = some (.slice (qs.getD k1 ry0).A (qs.getD k1 ry0).n (qs.getD k1 ry0).c)) := Lib.hid (fun x' hx => ((bcell hx).1 b2 _ hb2).trans (hc2 k1 (by omega)))
  rw [N1] at R1 hj ⊢
  rw [N2] at R2 hj ⊢
  clear N1 N2 hc1 hc2 hb1 hb2 h h' hf a1 a2 a3 a4 hl hl2
  generalize rs.getD k0 ry0 = ra at *
  generalize qs.getD k1 ry0 = rb at *
  obtain ⟨A1, n1, d1, y1⟩ := ra
  obtain ⟨A2, n2, d2, y2⟩ := rb
  have RR : Hid (rowB y1 = true ∧ rowB y2 = true) := Lib.hid ⟨R1, R2⟩
  obtain rfl : n1 = 33 := by have e1 : y1.length = n1 := I1.out.e; have e2 := ((rowB_iff _).1 RR.out.1).1; omega
  obtain rfl : n2 = 33 := by have e1 : y2.length = n2 := I2.out.e; have e2 := ((rowB_iff _).1 RR.out.2).1; omega
  have HJ : Hid (joinB p (seenP y1 t) (seenP y2 t) = true) := Lib.hid hj
  have HT := Lib.hid ht
  have z0 : 0 ≤ (k0 : Int) := by omega
  have z1 : (k0 : Int) < 256 := by omega
  have z2 : 0 ≤ (k1 : Int) := by omega
  have z3 : (k1 : Int) < 256 := by omega
  clear R1 R2 hj hk0 hk1 ht
  go_enter Tryd.func33, Tryd.ntmps33
  go_upto_region 1 with fail
  generalize hw0 : (((w.alloc (.cells #[.slice (some ⟨b1, o1, none⟩) 256 c, .slice (some ⟨b2, o2, none⟩) 256 e] 26)).alloc (.cells #[.int .i64 k0, .int .i64 k1] 27)).alloc (.cells #[.int .i64 0, .int .i64 0, .int .i64 0, .int .i64 0] 39)) = w0 at *
  have hg2 : w.heap.size + 1 + 1 = w.heap.size + 2 := by omega
  rw [hg2]
  generalize w.heap.size + 2 = g2 at *
  generalize w.heap.size + 1 = g1 at *
  clear hw0 hg2
  have x0 := S0.out.1.c0
  obtain ⟨x2, -, -, -⟩ := S0.out.2.1.two
  have x4 := C1.out w0 S0.out.2.2.2.1
  go_wp2_with fail
  clear x0 x2 x4
  refine (rfW.Seen_any A1 d1 y1 t w0 (I1.out.below S0.out.2.2.2.1 (Nat.le_refl _)).h RR.out.1 HT.out).mono ?_
  rintro v w1 ⟨rfl, nn, rfl⟩
  have S1 : Hid (FnAt (w0.drewN nn) w.heap.size (some ⟨b1, o1, none⟩) 256 c rs (some ⟨b2, o2, none⟩) 256 e qs ∧ Lies ((w0.drewN nn)) (g1) 27 [.int .i64 (k0), .int .i64 (k1)] ∧ Lies ((w0.drewN nn)) (g2) 39 [.int .i64 (0), .int .i64 (0), .int .i64 (0), .int .i64 (0)] ∧ Below w.heap.size w (w0.drewN nn) ∧ w.heap.size < g1 ∧ g1 < g2) := Lib.hid (by have d0 := below_drewN (Below.refl w0.heap.size w0) nn; exact ⟨S0.out.1.past d0, S0.out.2.1.past d0, S0.out.2.2.1.past d0, below_bs S0.out.2.2.2.1 d0, S0.out.2.2.2.2⟩)
  clear S0
  generalize w0.drewN nn = w1 at *
  have x0 := S1.out.1.c1
  obtain ⟨-, x2, -, -⟩ := S1.out.2.1.two
  have x4 := C2.out w1 S1.out.2.2.2.1
  go_wp2_with fail
  clear x0 x2 x4
  refine (rfW.Seen_any A2 d2 y2 t w1 (I2.out.below S1.out.2.2.2.1 (Nat.le_refl _)).h RR.out.2 HT.out).mono ?_
  rintro v w2 ⟨rfl, nn, rfl⟩
  have S2 : Hid (Lies ((w1.drewN nn)) (g1) 27 [.int .i64 (k0), .int .i64 (k1)] ∧ Lies ((w1.drewN nn)) (g2) 39 [.int .i64 (0), .int .i64 (0), .int .i64 (0), .int .i64 (0)] ∧ Below w.heap.size w (w1.drewN nn) ∧ w.heap.size < g1 ∧ g1 < g2) := Lib.hid (by have d0 := below_drewN (Below.refl w1.heap.size w1) nn; exact ⟨S1.out.2.1.past d0, S1.out.2.2.1.past d0, below_bs S1.out.2.2.2.1 d0, S1.out.2.2.2.2⟩)
  clear S1
  generalize w1.drewN nn = w2 at *
  go_upto_region 3 with fail
  (have RD := grows_roads (S := fun x' => Below w2.heap.size w2 x') (fun a b h1 h2 => below_bs h2 h1)); refine region_ordT 10 _ Grows RD (Below.drew (Below.refl w2.heap.size w2)) (by kernel_rfl) (by decide) ?_; intro ops Q' hops hPQ hN; (have HNS : Hid (Region.noSelect ops = true ∧ Region.sinkB .any ops 10 = true ∧ Region.chainB .any ops 10 = true ∧ 10 < ops.size) := Lib.hid (by rw [hops]; exact ⟨by kernel_rfl, by kernel_rfl, by kernel_rfl, by decide⟩)); (have hsz : ops.size = 11 := (by rw [hops]; rfl)); have HOP := Lib.hid hops; have HPQ := Lib.hid hPQ; have HN := Lib.hid hN; rw [hsz]; clear hops hsz hPQ hN
  refine ordT_take RD 0 (at_list (by rw [HOP.out]; rfl)) HNS.out HPQ.out (by rw [HOP.out]; kernel_rfl) (by rw [HOP.out]; kernel_rfl) (by rw [HOP.out]; rfl) (fun K hK => ?_); apply Exists.intro; refine ⟨fun W hSW => ?_, hK _ ?_⟩; (focus ((try dsimp only at hSW); go_simp; try with_reducible rfl)); clear hK K; (try simp only [Act.put, List.setIfInBounds_toArray, List.set_cons_zero, List.set_cons_succ])
  refine ordT_take RD 1 (at_list (by rw [HOP.out]; rfl)) HNS.out HPQ.out (by rw [HOP.out]; kernel_rfl) (by rw [HOP.out]; kernel_rfl) (by rw [HOP.out]; rfl) (fun K hK => ?_); apply Exists.intro; refine ⟨fun W hSW => ?_, hK _ ?_⟩; (focus ((try dsimp only at hSW); go_simp; try with_reducible rfl)); clear hK K; (try simp only [Act.put, List.setIfInBounds_toArray, List.set_cons_zero, List.set_cons_succ])
  refine ordT_take RD 2 (at_list (by rw [HOP.out]; rfl)) HNS.out HPQ.out (by rw [HOP.out]; kernel_rfl) (by rw [HOP.out]; kernel_rfl) (by rw [HOP.out]; rfl) (fun K hK => ?_); apply Exists.intro; refine ⟨fun W hSW => ?_, hK _ ?_⟩; (focus ((try dsimp only at hSW); go_simp; try with_reducible rfl)); clear hK K; (try simp only [Act.put, List.setIfInBounds_toArray, List.set_cons_zero, List.set_cons_succ])
  refine ordT_take RD 3 (at_list (by rw [HOP.out]; rfl)) HNS.out HPQ.out (by rw [HOP.out]; kernel_rfl) (by rw [HOP.out]; kernel_rfl) (by rw [HOP.out]; rfl) (fun K hK => ?_); apply Exists.intro; refine ⟨fun W hSW => ?_, hK _ ?_⟩; (focus ((try dsimp only at hSW); go_simp; exact ((rJoined_any p (seenP y1 t) (seenP y2 t) W HJ.out).mono fun v w' ⟨h1, h2⟩ => ⟨h1, h2 ▸ Below.refl _ _⟩))); clear hK K; (try simp only [Act.put, List.setIfInBounds_toArray, List.set_cons_zero, List.set_cons_succ])
  refine ordT_take RD 4 (at_list (by rw [HOP.out]; rfl)) HNS.out HPQ.out (by rw [HOP.out]; kernel_rfl) (by rw [HOP.out]; kernel_rfl) (by rw [HOP.out]; rfl) (fun K hK => ?_); apply Exists.intro; refine ⟨fun W hSW => ?_, hK _ ?_⟩; (focus ((try dsimp only at hSW); (obtain ⟨z5, z6, -, -⟩ := (S2.out.1.past hSW).two); go_simp; try with_reducible rfl)); clear hK K; (try simp only [Act.put, List.setIfInBounds_toArray, List.set_cons_zero, List.set_cons_succ])
  refine ordT_take RD 5 (at_list (by rw [HOP.out]; rfl)) HNS.out HPQ.out (by rw [HOP.out]; kernel_rfl) (by rw [HOP.out]; kernel_rfl) (by rw [HOP.out]; rfl) (fun K hK => ?_); apply Exists.intro; refine ⟨fun W hSW => ?_, hK _ ?_⟩; (focus ((try dsimp only at hSW); go_simp; try with_reducible rfl)); clear hK K; (try simp only [Act.put, List.setIfInBounds_toArray, List.set_cons_zero, List.set_cons_succ])
  refine ordT_take RD 6 (at_list (by rw [HOP.out]; rfl)) HNS.out HPQ.out (by rw [HOP.out]; kernel_rfl) (by rw [HOP.out]; kernel_rfl) (by rw [HOP.out]; rfl) (fun K hK => ?_); apply Exists.intro; refine ⟨fun W hSW => ?_, hK _ ?_⟩; (focus ((try dsimp only at hSW); go_simp; try with_reducible rfl)); clear hK K; (try simp only [Act.put, List.setIfInBounds_toArray, List.set_cons_zero, List.set_cons_succ])
  refine ordT_take RD 7 (at_list (by rw [HOP.out]; rfl)) HNS.out HPQ.out (by rw [HOP.out]; kernel_rfl) (by rw [HOP.out]; kernel_rfl) (by rw [HOP.out]; rfl) (fun K hK => ?_); apply Exists.intro; refine ⟨fun W hSW => ?_, hK _ ?_⟩; (focus ((try dsimp only at hSW); go_simp; try with_reducible rfl)); clear hK K; (try simp only [Act.put, List.setIfInBounds_toArray, List.set_cons_zero, List.set_cons_succ])
  refine ordT_take RD 8 (at_list (by rw [HOP.out]; rfl)) HNS.out HPQ.out (by rw [HOP.out]; kernel_rfl) (by rw [HOP.out]; kernel_rfl) (by rw [HOP.out]; rfl) (fun K hK => ?_); apply Exists.intro; refine ⟨fun W hSW => ?_, hK _ ?_⟩; (focus ((try dsimp only at hSW); go_simp; try with_reducible rfl)); clear hK K; (try simp only [Act.put, List.setIfInBounds_toArray, List.set_cons_zero, List.set_cons_succ])
  refine ordT_take RD 9 (at_list (by rw [HOP.out]; rfl)) HNS.out HPQ.out (by rw [HOP.out]; kernel_rfl) (by rw [HOP.out]; kernel_rfl) (by rw [HOP.out]; rfl) (fun K hK => ?_); apply Exists.intro; refine ⟨fun W hSW => ?_, hK _ ?_⟩; (focus ((try dsimp only at hSW); go_simp; try with_reducible rfl)); clear hK K; (try simp only [Act.put, List.setIfInBounds_toArray, List.set_cons_zero, List.set_cons_succ])
  refine ordT_end (by rw [HOP.out]; kernel_rfl) (fun W5 hWW hSW => ?_); rw [HOP.out]; simp only [List.drop_succ_cons, List.drop_zero]; have hN := HN.out; clear HOP HNS HPQ HN RD; (try dsimp only at hSW)
  have S3 : Hid (Lies (W5) (g2) 39 [.int .i64 (0), .int .i64 (0), .int .i64 (0), .int .i64 (0)] ∧ Below w.heap.size w W5) := Lib.hid ⟨S2.out.2.1.past hSW, below_bs S2.out.2.2.1 hSW⟩
  clear hSW hWW
  obtain ⟨f0, f1, f2, f3⟩ := free4 S3.out.1
  obtain ⟨u0, u1, u2, u3⟩ := four S3.out.1
  go_wp2_with fail
  obtain ⟨t0, t1, t2, t3⟩ := four (lies_set4 S3.out.1 (.int .i64 k0) (.int .i64 k1) (.int .i64 (nearJ t)) (.int .i64 (nearJ t)))
  clear f0 f1 f2 f3 u0 u1 u2 u3
  refine bodyPost_ret (by simp [results, Tryd.results33, go_sem, t0, t1, t2, t3]; try rfl) rfl ?_
  exact ⟨rfl, below_set4 S3.out.2 (by have := S2.out.2.2.2; omega) _ _ _ _⟩
end Go.Proofs.YtdmnaipngcldbaaDoor.fnW
namespace Go.Proofs.YtdmnaipngcldbaaDoor.fnW
set_option maxRecDepth 100000
open Go.RowKit Go.Proofs.YtdmnaipngcldbaaDoor.base Go.Proofs.YtdmnaipngcldbaaDoor.rfP Go.Proofs.YtdmnaipngcldbaaDoor.rfW Go.Proofs.YtdmnaipngcldbaaDoor.fnP
set_option linter.unusedVariables false
set_option linter.unusedSimpArgs false
set_option maxHeartbeats 1500000 in
theorem rLook_any (P : Option Addr) (m c : Nat) (rs : List RY) (Q : Option Addr) (n e : Nat) (qs : List RY) (r0 r1 d p : Int) (w : World) (h : RowsY w P m c rs) (h' : RowsY w Q n e qs) :
    Calls Tryd.prog 15 #[.agg #[.slice P m c, .slice Q n e], .agg #[.int .i64 r0, .int .i64 r1], .int .i32 d, .int .i32 p] w fun v w' => v = .returned (.tuple #[.int .i32 (fV (numsY rs) (numsY qs) r0 r1 d p), .agg #[.int .i64 (fZ (numsY rs) (numsY qs) r0 r1 d p r0), .int .i64 (fZ (numsY rs) (numsY qs) r0 r1 d p r1), .int .i64 (fZ (numsY rs) (numsY qs) r0 r1 d p (lookJ (numsY rs) r0 d)), .int .i64 (fZ (numsY rs) (numsY qs) r0 r1 d p (lookJ (numsY qs) r1 d))], .int .i64 (fE (numsY rs) (numsY qs) r0 r1 d p)]) ∧ Below w.heap.size w w' := by
  have H := Lib.hid (And.intro h h')
  have S0 : Hid (FnAt (((w.alloc (.cells #[.slice P m c, .slice Q n e] 26)).alloc (.cells #[.int .i64 r0, .int .i64 r1] 27)).alloc (.cells #[.int .i64 0, .int .i64 0, .int .i64 0, .int .i64 0] 39)) w.heap.size P m c rs Q n e qs ∧ Lies ((((w.alloc (.cells #[.slice P m c, .slice Q n e] 26)).alloc (.cells #[.int .i64 r0, .int .i64 r1] 27)).alloc (.cells #[.int .i64 0, .int .i64 0, .int .i64 0, .int .i64 0] 39))) (w.heap.size + 1) 27 [.int .i64 (r0), .int .i64 (r1)] ∧ Lies ((((w.alloc (.cells #[.slice P m c, .slice Q n e] 26)).alloc (.cells #[.int .i64 r0, .int .i64 r1] 27)).alloc (.cells #[.int .i64 0, .int .i64 0, .int .i64 0, .int .i64 0] 39))) (w.heap.size + 2) 39 [.int .i64 (0), .int .i64 (0), .int .i64 (0), .int .i64 (0)] ∧ Below w.heap.size w (((w.alloc (.cells #[.slice P m c, .slice Q n e] 26)).alloc (.cells #[.int .i64 r0, .int .i64 r1] 27)).alloc (.cells #[.int .i64 0, .int .i64 0, .int .i64 0, .int .i64 0] 39)) ∧ w.heap.size < w.heap.size + 1 ∧ w.heap.size + 1 < w.heap.size + 2) := Lib.hid ⟨((fnAt_new h h').alloc _).alloc _, (Lies.fresh_at (cs := [.int .i64 r0, .int .i64 r1]) (by simp)).alloc _, Lies.fresh_at (cs := [.int .i64 0, .int .i64 0, .int .i64 0, .int .i64 0]) (by simp), by (repeat' (first | (with_reducible exact Below.refl _ _) | (with_reducible assumption) | (with_reducible refine below_drewN ?_ _) | (with_reducible refine below_new ?_ _) | (with_reducible refine Below.alloc ?_ ?_ _) | (with_reducible refine Below.drew ?_) | (with_reducible refine Below.setCell ?_ ?_ _) | (with_reducible apply below_at; (case k => (with_reducible assumption)); (case hB => omega)) | (with_reducible apply below_on; (with_reducible assumption)) | (go_size; done) | (with_reducible apply size_of))), by omega, by omega⟩
  clear h h'
  go_enter Tryd.func15, Tryd.ntmps15
  go_wp2_with fail
  generalize hw0 : (((w.alloc (.cells #[.slice P m c, .slice Q n e] 26)).alloc (.cells #[.int .i64 r0, .int .i64 r1] 27)).alloc (.cells #[.int .i64 0, .int .i64 0, .int .i64 0, .int .i64 0] 39)) = w0 at *
  generalize w.heap.size + 2 = g2 at *
  generalize w.heap.size + 1 = g1 at *
  clear hw0
  refine (rCheck_any P m c rs Q n e qs w0 S0.out.1.r1 S0.out.1.r2).mono ?_
  rintro v w1 ⟨rfl, b1⟩
  have S1 : Hid (FnAt w1 w.heap.size P m c rs Q n e qs ∧ Lies (w1) (g1) 27 [.int .i64 (r0), .int .i64 (r1)] ∧ Lies (w1) (g2) 39 [.int .i64 (0), .int .i64 (0), .int .i64 (0), .int .i64 (0)] ∧ Below w.heap.size w w1 ∧ w.heap.size < g1 ∧ g1 < g2) := Lib.hid ⟨S0.out.1.past b1, S0.out.2.1.past b1, S0.out.2.2.1.past b1, below_bs S0.out.2.2.2.1 b1, S0.out.2.2.2.2⟩
  clear b1 S0
  cases hf : fnB (numsY rs) (numsY qs)
  · have HE := Lib.hid (fE_no (r0 := r0) (r1 := r1) (d := d) (p := p) hf)
    have HZ := Lib.hid (f_bad (x := numsY rs) (y := numsY qs) (r0 := r0) (r1 := r1) (d := d) (p := p) (by rw [HE.out]; decide))
    have HF := Lib.hid (fnE_no hf)
    rw [fnE_no hf]
    clear hf
    have x0 := S1.out.1.c0
    have x1 := S1.out.1.c1
    go_wp2_with fail
    clear x0 x1
    refine (rCheck_any P m c rs Q n e qs w1 S1.out.1.r1 S1.out.1.r2).mono ?_
    rintro v w2 ⟨rfl, b2⟩
    rw [HF.out]
    have S2 : Hid (FnAt w2 w.heap.size P m c rs Q n e qs ∧ Lies (w2) (g1) 27 [.int .i64 (r0), .int .i64 (r1)] ∧ Lies (w2) (g2) 39 [.int .i64 (0), .int .i64 (0), .int .i64 (0), .int .i64 (0)] ∧ Below w.heap.size w w2 ∧ w.heap.size < g1 ∧ g1 < g2) := Lib.hid ⟨S1.out.1.past b2, S1.out.2.1.past b2, S1.out.2.2.1.past b2, below_bs S1.out.2.2.2.1 b2, S1.out.2.2.2.2⟩
    clear b2 S1
    obtain ⟨f0, f1, f2, f3⟩ := free4 S2.out.2.2.1
    obtain ⟨z0, z1, z2, z3⟩ := four S2.out.2.2.1
    go_wp2_with fail
    obtain ⟨t0, t1, t2, t3⟩ := four (lies_set4 S2.out.2.2.1 (.int .i64 0) (.int .i64 0) (.int .i64 0) (.int .i64 0))
    clear f0 f1 f2 f3 z0 z1 z2 z3
    refine bodyPost_ret (by simp [results, Tryd.results15, go_sem, t0, t1, t2, t3]; try rfl) rfl ?_
    exact ⟨by simp only [HE.out, HZ.out.1, HZ.out.2], below_set4 S2.out.2.2.2.1 (by have := S2.out.2.2.2.2; omega) _ _ _ _⟩
  have HF := Lib.hid hf
  have HA := Lib.hid (ask18 (r0 := r0) (r1 := r1) (d := d) (p := p) hf)
  rw [fnE_yes hf]
  clear hf
  obtain ⟨x0, x1, -, -⟩ := S1.out.2.1.two
  go_wp2_with fail
  refine (row_any r0 w1).mono ?_
  rintro v wa ⟨rfl, rfl⟩
  cases h0 : rowB18 r0
  · have HE : Hid (fE (numsY rs) (numsY qs) r0 r1 d p = 2) := Lib.hid (by rw [HA.out, if_neg]; intro hh; simp [rowB18] at h0; omega)
    have HZ := Lib.hid (f_bad (x := numsY rs) (y := numsY qs) (r0 := r0) (r1 := r1) (d := d) (p := p) (by rw [HE.out]; decide))
    clear h0
    obtain ⟨f0, f1, f2, f3⟩ := free4 S1.out.2.2.1
    obtain ⟨z0, z1, z2, z3⟩ := four S1.out.2.2.1
    go_wp2_with fail
    obtain ⟨t0, t1, t2, t3⟩ := four (lies_set4 S1.out.2.2.1 (.int .i64 0) (.int .i64 0) (.int .i64 0) (.int .i64 0))
    clear f0 f1 f2 f3 z0 z1 z2 z3
    refine bodyPost_ret (by simp [results, Tryd.results15, go_sem, t0, t1, t2, t3]; try rfl) rfl ?_
    exact ⟨by simp only [HE.out, HZ.out.1, HZ.out.2], below_set4 S1.out.2.2.2.1 (by have := S1.out.2.2.2.2; omega) _ _ _ _⟩
  have d0 : 0 ≤ r0 ∧ r0 < 256 := by simpa [rowB18] using h0
  have D0 := Lib.hid d0
  clear h0 d0
  go_wp2_with fail
  refine (row_any r1 wa).mono ?_
  rintro v wb ⟨rfl, rfl⟩
  cases h1 : rowB18 r1
  · have HE : Hid (fE (numsY rs) (numsY qs) r0 r1 d p = 2) := Lib.hid (by rw [HA.out, if_neg]; intro hh; simp [rowB18] at h1; omega)
    have HZ := Lib.hid (f_bad (x := numsY rs) (y := numsY qs) (r0 := r0) (r1 := r1) (d := d) (p := p) (by rw [HE.out]; decide))
    clear h1
    obtain ⟨f0, f1, f2, f3⟩ := free4 S1.out.2.2.1
    obtain ⟨z0, z1, z2, z3⟩ := four S1.out.2.2.1
    go_wp2_with fail
    obtain ⟨t0, t1, t2, t3⟩ := four (lies_set4 S1.out.2.2.1 (.int .i64 0) (.int .i64 0) (.int .i64 0) (.int .i64 0))
    clear f0 f1 f2 f3 z0 z1 z2 z3
    refine bodyPost_ret (by simp [results, Tryd.results15, go_sem, t0, t1, t2, t3]; try rfl) rfl ?_
    exact ⟨by simp only [HE.out, HZ.out.1, HZ.out.2], below_set4 S1.out.2.2.2.1 (by have := S1.out.2.2.2.2; omega) _ _ _ _⟩
  have d1 : 0 ≤ r1 ∧ r1 < 256 := by simpa [rowB18] using h1
  have D1 := Lib.hid d1
  clear h1 d1
  by_cases e1 : d < -2047
  · have HE : Hid (fE (numsY rs) (numsY qs) r0 r1 d p = 2) := Lib.hid (by rw [HA.out, if_neg]; intro hh; omega)
    have HZ := Lib.hid (f_bad (x := numsY rs) (y := numsY qs) (r0 := r0) (r1 := r1) (d := d) (p := p) (by rw [HE.out]; decide))
    obtain ⟨f0, f1, f2, f3⟩ := free4 S1.out.2.2.1
    obtain ⟨z0, z1, z2, z3⟩ := four S1.out.2.2.1
    go_wp2_with fail
    obtain ⟨t0, t1, t2, t3⟩ := four (lies_set4 S1.out.2.2.1 (.int .i64 0) (.int .i64 0) (.int .i64 0) (.int .i64 0))
    clear f0 f1 f2 f3 z0 z1 z2 z3
    refine bodyPost_ret (by simp [results, Tryd.results15, go_sem, t0, t1, t2, t3]; try rfl) rfl ?_
    exact ⟨by simp only [HE.out, HZ.out.1, HZ.out.2], below_set4 S1.out.2.2.2.1 (by have := S1.out.2.2.2.2; omega) _ _ _ _⟩
  by_cases e2 : 2047 < d
  · have HE : Hid (fE (numsY rs) (numsY qs) r0 r1 d p = 2) := Lib.hid (by rw [HA.out, if_neg]; intro hh; omega)
    have HZ := Lib.hid (f_bad (x := numsY rs) (y := numsY qs) (r0 := r0) (r1 := r1) (d := d) (p := p) (by rw [HE.out]; decide))
    have n1 : decide (d < -2047) = false := decide_eq_false e1
    obtain ⟨f0, f1, f2, f3⟩ := free4 S1.out.2.2.1
    obtain ⟨z0, z1, z2, z3⟩ := four S1.out.2.2.1
    go_wp2_with fail
    obtain ⟨t0, t1, t2, t3⟩ := four (lies_set4 S1.out.2.2.1 (.int .i64 0) (.int .i64 0) (.int .i64 0) (.int .i64 0))
    clear f0 f1 f2 f3 z0 z1 z2 z3
    refine bodyPost_ret (by simp [results, Tryd.results15, go_sem, t0, t1, t2, t3]; try rfl) rfl ?_
    exact ⟨by simp only [HE.out, HZ.out.1, HZ.out.2], below_set4 S1.out.2.2.2.1 (by have := S1.out.2.2.2.2; omega) _ _ _ _⟩
  have n1 : decide (d < -2047) = false := decide_eq_false e1
  have n2 : decide (2047 < d) = false := decide_eq_false e2
  have D2 : Hid (-2047 ≤ d ∧ d ≤ 2047) := Lib.hid (by omega)
  clear e1 e2
  go_wp2_with fail
  refine (rProb_any p wb).mono ?_
  rintro v wc ⟨rfl, rfl⟩
  cases hp : prB p
  · have HE : Hid (fE (numsY rs) (numsY qs) r0 r1 d p = 2) := Lib.hid (by rw [HA.out, if_neg]; intro hh; have := (prB_iff p).2 hh.2.2.2; rw [hp] at this; cases this)
    have HZ := Lib.hid (f_bad (x := numsY rs) (y := numsY qs) (r0 := r0) (r1 := r1) (d := d) (p := p) (by rw [HE.out]; decide))
    clear hp
    obtain ⟨f0, f1, f2, f3⟩ := free4 S1.out.2.2.1
    obtain ⟨z0, z1, z2, z3⟩ := four S1.out.2.2.1
    go_wp2_with fail
    obtain ⟨t0, t1, t2, t3⟩ := four (lies_set4 S1.out.2.2.1 (.int .i64 0) (.int .i64 0) (.int .i64 0) (.int .i64 0))
    clear f0 f1 f2 f3 z0 z1 z2 z3
    refine bodyPost_ret (by simp [results, Tryd.results15, go_sem, t0, t1, t2, t3]; try rfl) rfl ?_
    exact ⟨by simp only [HE.out, HZ.out.1, HZ.out.2], below_set4 S1.out.2.2.2.1 (by have := S1.out.2.2.2.2; omega) _ _ _ _⟩
  have D3 := Lib.hid ((prB_iff p).1 hp)
  clear hp
  have HE : Hid (fE (numsY rs) (numsY qs) r0 r1 d p = 0) := Lib.hid (by rw [HA.out, if_pos ⟨D0.out, D1.out, D2.out, D3.out⟩])
  have HZ := Lib.hid (f_ok HE.out)
  obtain ⟨k0, rfl⟩ : ∃ k : Nat, r0 = k := ⟨r0.toNat, by have := D0.out; omega⟩
  obtain ⟨k1, rfl⟩ : ∃ k : Nat, r1 = k := ⟨r1.toNat, by have := D1.out; omega⟩
  obtain ⟨t, rfl⟩ : ∃ t : Nat, d = (t : Int) - 2048 := ⟨(d + 2048).toNat, by have := D2.out; omega⟩
  have HL : Hid ((lookV (numsY rs) k0 ((t : Int) - 2048) = seenP ((numsY rs).getD k0 []) t ∧ lookJ (numsY rs) k0 ((t : Int) - 2048) = nearJ t) ∧ (lookV (numsY qs) k1 ((t : Int) - 2048) = seenP ((numsY qs).getD k1 []) t ∧ lookJ (numsY qs) k1 ((t : Int) - 2048) = nearJ t) ∧ joinB p (seenP ((numsY rs).getD k0 []) t) (seenP ((numsY qs).getD k1 []) t) = true) := Lib.hid (by
    obtain ⟨a1, a2, a3, a4⟩ := (fnB_iff _ _).1 HF.out
    have t1 : 1 ≤ t := by have := D2.out; omega
    have t2 : t ≤ 4095 := by have := D2.out; omega
    have q0 : askE (numsY rs) (k0 : Int) = 0 := by unfold askE; rw [if_pos a3, a1, if_neg (by have := D0.out; omega)]
    have q1 : askE (numsY qs) (k1 : Int) = 0 := by unfold askE; rw [if_pos a4, a2, if_neg (by have := D1.out; omega)]
    obtain ⟨l0, l1, l2⟩ := look_at q0 t1 t2
    obtain ⟨l3, l4, l5⟩ := look_at q1 t1 t2
    have v1 := lv_bd l0
    have v2 := lv_bd l3
    rw [l1] at v1
    rw [l4] at v2
    exact ⟨⟨l1, l2⟩, ⟨l4, l5⟩, (joinB_iff _ _ _).2 ⟨D3.out, v1, v2⟩⟩)
  have y0 := S1.out.1.c0
  have y1 := S1.out.1.c1
  go_wp2_with fail
  clear y0 y1 x0 x1
  refine (Seen_any P m c rs Q n e qs k0 k1 t p wc S1.out.1.r1 S1.out.1.r2 HF.out (by have := D0.out; omega) (by have := D1.out; omega) (by have := D2.out; omega) HL.out.2.2).mono ?_
  rintro v w3 ⟨rfl, b3⟩
  obtain ⟨jv, hjv⟩ : ∃ j, joinN p (seenP ((numsY rs).getD k0 []) t) (seenP ((numsY qs).getD k1 []) t) = j := ⟨_, rfl⟩
  have HJV := Lib.hid hjv
  rw [hjv]
  clear hjv
  have S3 : Hid (Lies ((w3.alloc (.cells #[.int .i64 k0, .int .i64 k1, .int .i64 (nearJ t), .int .i64 (nearJ t)] 39))) (w3.heap.size) 39 [.int .i64 (k0), .int .i64 (k1), .int .i64 (nearJ t), .int .i64 (nearJ t)] ∧ Lies ((w3.alloc (.cells #[.int .i64 k0, .int .i64 k1, .int .i64 (nearJ t), .int .i64 (nearJ t)] 39))) (g2) 39 [.int .i64 (0), .int .i64 (0), .int .i64 (0), .int .i64 (0)] ∧ Below w.heap.size w (w3.alloc (.cells #[.int .i64 k0, .int .i64 k1, .int .i64 (nearJ t), .int .i64 (nearJ t)] 39)) ∧ w.heap.size < g1 ∧ g1 < g2) := Lib.hid ⟨Lies.fresh _ _ _, (S1.out.2.2.1.past b3).alloc _, below_al (below_bs S1.out.2.2.2.1 b3) _, S1.out.2.2.2.2⟩
  clear b3 S1
  go_upto_region 6 with fail
  generalize hw4 : (w3.alloc (.cells #[.int .i64 k0, .int .i64 k1, .int .i64 (nearJ t), .int .i64 (nearJ t)] 39)) = w4 at *
  generalize w3.heap.size = g4 at *
  clear hw4
  (have RD := grows_roads (S := fun x' => Below w4.heap.size w4 x') (fun a b h1 h2 => below_bs h2 h1)); refine region_ordT 3 _ Grows RD (Below.drew (Below.refl w4.heap.size w4)) (by kernel_rfl) (by decide) ?_; intro ops Q' hops hPQ hN; (have HNS : Hid (Region.noSelect ops = true ∧ Region.sinkB .any ops 3 = true ∧ Region.chainB .any ops 3 = true ∧ 3 < ops.size) := Lib.hid (by rw [hops]; exact ⟨by kernel_rfl, by kernel_rfl, by kernel_rfl, by decide⟩)); (have hsz : ops.size = 5 := (by rw [hops]; rfl)); have HOP := Lib.hid hops; have HPQ := Lib.hid hPQ; have HN := Lib.hid hN; rw [hsz]; clear hops hsz hPQ hN
  refine ordT_take RD 0 (at_list (by rw [HOP.out]; rfl)) HNS.out HPQ.out (by rw [HOP.out]; kernel_rfl) (by rw [HOP.out]; kernel_rfl) (by rw [HOP.out]; rfl) (fun K hK => ?_); apply Exists.intro; refine ⟨fun W hSW => ?_, hK _ ?_⟩; (focus ((try dsimp only at hSW); go_simp; try with_reducible rfl)); clear hK K; (try simp only [Act.put, List.setIfInBounds_toArray, List.set_cons_zero, List.set_cons_succ])
  refine ordT_take RD 1 (at_list (by rw [HOP.out]; rfl)) HNS.out HPQ.out (by rw [HOP.out]; kernel_rfl) (by rw [HOP.out]; kernel_rfl) (by rw [HOP.out]; rfl) (fun K hK => ?_); apply Exists.intro; refine ⟨fun W hSW => ?_, hK _ ?_⟩; (focus ((try dsimp only at hSW); (obtain ⟨z0, z1, z2, z3⟩ := four (S3.out.1.past hSW)); go_simp; try with_reducible rfl)); clear hK K; (try simp only [Act.put, List.setIfInBounds_toArray, List.set_cons_zero, List.set_cons_succ])
  refine ordT_take RD 2 (at_list (by rw [HOP.out]; rfl)) HNS.out HPQ.out (by rw [HOP.out]; kernel_rfl) (by rw [HOP.out]; kernel_rfl) (by rw [HOP.out]; rfl) (fun K hK => ?_); apply Exists.intro; refine ⟨fun W hSW => ?_, hK _ ?_⟩; (focus ((try dsimp only at hSW); go_simp; try with_reducible rfl)); clear hK K; (try simp only [Act.put, List.setIfInBounds_toArray, List.set_cons_zero, List.set_cons_succ])
  refine ordT_end (by rw [HOP.out]; kernel_rfl) (fun W5 hWW hSW => ?_); rw [HOP.out]; simp only [List.drop_succ_cons, List.drop_zero]; have hN := HN.out; clear HOP HNS HPQ HN RD; (try dsimp only at hSW)
  have S9 : Hid (Lies (W5) (g2) 39 [.int .i64 (0), .int .i64 (0), .int .i64 (0), .int .i64 (0)] ∧ Below w.heap.size w W5) := Lib.hid ⟨S3.out.2.1.past hSW, below_bs S3.out.2.2.1 hSW⟩
  clear hSW hWW
  obtain ⟨f0, f1, f2, f3⟩ := free4 S9.out.1
  obtain ⟨z0, z1, z2, z3⟩ := four S9.out.1
  go_wp2_with fail
  obtain ⟨t0, t1, t2, t3⟩ := four (lies_set4 S9.out.1 (.int .i64 k0) (.int .i64 k1) (.int .i64 (nearJ t)) (.int .i64 (nearJ t)))
  clear f0 f1 f2 f3 z0 z1 z2 z3
  refine bodyPost_ret (by simp [results, Tryd.results15, go_sem, t0, t1, t2, t3]; try rfl) rfl ?_
  exact ⟨by rw [HZ.out.1, HZ.out.2, HZ.out.2, HZ.out.2, HZ.out.2, HE.out, HL.out.1.1, HL.out.1.2, HL.out.2.1.1, HL.out.2.1.2, HJV.out], below_set4 S9.out.2 (by have := S3.out.2.2.2; omega) _ _ _ _⟩
end Go.Proofs.YtdmnaipngcldbaaDoor.fnW
