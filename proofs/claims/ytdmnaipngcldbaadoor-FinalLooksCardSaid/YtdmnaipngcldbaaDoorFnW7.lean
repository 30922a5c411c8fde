/- Learning in both maps, by walks. -/
import Derived.Test.YtdmnaipngcldbaaDoorFnW4
import Derived.DeepKeys
namespace Go.Proofs.YtdmnaipngcldbaaDoor.base
set_option maxRecDepth 100000
open Go.ChangeShapes Go.WideShapes Go.ChangeAt Go.RowKit
theorem i2_cells {H : Type} {enc : TypeId × Value → H} {W : World} {fuel : Nat} {c0 c1 : Value} {y : DataW H × List MemPlace}
    (hf : DataW.trod enc Tryd.prog W 0 (fun _ => true) true fuel 27 [c0, c1] = some y) : ∃ a b : Int, c0 = .int .i64 a ∧ c1 = .int .i64 b ∧ (-9223372036854775808 ≤ a ∧ a ≤ 9223372036854775807) ∧ -9223372036854775808 ≤ b ∧ b ≤ 9223372036854775807 := by
  obtain ⟨xs, m, -, -, -, hx, hall⟩ := DataW.trod_array Tryd.underlying27 hf
  have hc1 : Tryd.prog.cellsOf 3 = 1 := by kernel_rfl
  rw [hc1] at hall
  have go : ∀ (i : Nat) (hi : i < 2) (c : Value), (List.take 1 (List.drop (i * 1) [c0, c1])) = [c] → ∃ a : Int, c = .int .i64 a ∧ -9223372036854775808 ≤ a ∧ a ≤ 9223372036854775807 := by
    intro i hi c hc
    have h1 := hall i hi
    rw [hc, List.getElem?_eq_getElem (by omega)] at h1
    obtain ⟨a, e0, -, wa⟩ := DataW.trod_int Tryd.underlying3 h1
    simp at e0
    have x := bounds_i64 wa
    exact ⟨a, e0, x.1, x.2⟩
  obtain ⟨a0, e0, k0⟩ := go 0 (by omega) c0 rfl
  obtain ⟨a1, e1, k1⟩ := go 1 (by omega) c1 rfl
  exact ⟨a0, a1, e0, e1, k0, k1⟩
theorem read_i2 {H : Type} {enc : TypeId × Value → H} {W : World} {bs : Nat} {v : Value} {d : DataW H} {p : List MemPlace}
    (hv : Value.okWide Tryd.prog W .any bs 27 v) (h : DataW.Trod enc Tryd.prog W 0 (fun _ => true) true 27 v d p) : ∃ a b : Int, v = .agg #[.int .i64 a, .int .i64 b] ∧ (-9223372036854775808 ≤ a ∧ a ≤ 9223372036854775807) ∧ -9223372036854775808 ≤ b ∧ b ≤ 9223372036854775807 := by
  simp only [Value.okWide, Tryd.underlying27] at hv
  obtain ⟨cs, rfl, hs, -⟩ := hv
  have hs : cs.size = 2 := by rw [hs]; kernel_rfl
  obtain ⟨fuel, hf⟩ := h
  rcases cs with ⟨l⟩
  simp only [List.size_toArray] at hs
  match l, hs with
  | [c0, c1], _ =>
    have h2 : (Value.agg { toList := [c0, c1] }).cells.toList = [c0, c1] := rfl
    rw [h2] at hf
    obtain ⟨a, b, rfl, rfl, k0, k1⟩ := i2_cells hf
    exact ⟨a, b, rfl, k0, k1⟩
end Go.Proofs.YtdmnaipngcldbaaDoor.base
namespace Go.Proofs.YtdmnaipngcldbaaDoor.fnW
set_option maxRecDepth 100000
open Go.RowKit Go.Proofs.YtdmnaipngcldbaaDoor.base
set_option linter.unusedVariables false
set_option linter.unusedSimpArgs false
theorem i64_wf {x : Int} (h : -9223372036854775808 ≤ x ∧ x ≤ 9223372036854775807) : (Lit.int .i64 x).wf = true := WalkArith.wf_i64 h
theorem one_lit64 {x : Int} (h : -9223372036854775808 ≤ x ∧ x ≤ 9223372036854775807) (d : Nat) : Tryd.prog.keyLits (d + 1) 3 [.int .i64 x] = some [.int .i64 x] := by
  have hw := i64_wf h
  unfold Program.keyLits
  rw [Tryd.underlying3]
  simp [hw]
theorem lits2 {a b : Int} (ha : -9223372036854775808 ≤ a ∧ a ≤ 9223372036854775807) (hb : -9223372036854775808 ≤ b ∧ b ≤ 9223372036854775807) : Tryd.prog.keyLits 5 27 [.int .i64 a, .int .i64 b] = some [.int .i64 a, .int .i64 b] := by
  unfold Program.keyLits
  rw [Tryd.underlying27]
  have c1 : Tryd.prog.cellsOf 27 = 2 := by kernel_rfl
  have c2 : Tryd.prog.cellsOf 3 = 1 := by kernel_rfl
  have e1 := one_lit64 ha 3
  have e2 := one_lit64 hb 3
  simp [c1, c2, List.range, List.range.loop, e1, e2]
theorem eq2 {a b : Int} (ha : -9223372036854775808 ≤ a ∧ a ≤ 9223372036854775807) (hb : -9223372036854775808 ≤ b ∧ b ≤ 9223372036854775807) (w : World) : (Op.equalIn 9999 27 (.agg #[.int .i64 a, .int .i64 b]) (.agg #[.int .i64 a, .int .i64 b])).run Tryd.prog w = .ok true w := by
  obtain ⟨x, h1, h2⟩ := run_equalIn_deep (P := Tryd.prog) 9997 2 27 (by kernel_rfl) w 5 5 (.agg #[.int .i64 a, .int .i64 b]) (.agg #[.int .i64 a, .int .i64 b]) _ _ (by kernel_rfl) (by kernel_rfl) (lits2 ha hb) (lits2 ha hb)
  rw [h2.2 rfl] at h1
  exact h1
theorem eq2t {a b : Int} (ha : -9223372036854775808 ≤ a ∧ a ≤ 9223372036854775807) (hb : -9223372036854775808 ≤ b ∧ b ≤ 9223372036854775807) (w : World) : (Op.equalIn 10000 27 (.agg #[.int .i64 a, .int .i64 b]) (.agg #[.int .i64 a, .int .i64 b])).run Tryd.prog w = .ok true w := by
  obtain ⟨x, h1, h2⟩ := run_equalIn_deep (P := Tryd.prog) 9998 2 27 (by kernel_rfl) w 5 5 (.agg #[.int .i64 a, .int .i64 b]) (.agg #[.int .i64 a, .int .i64 b]) _ _ (by kernel_rfl) (by kernel_rfl) (lits2 ha hb) (lits2 ha hb)
  rw [h2.2 rfl] at h1
  exact h1
end Go.Proofs.YtdmnaipngcldbaaDoor.fnW
namespace Go.Proofs.YtdmnaipngcldbaaDoor.fnP
set_option maxRecDepth 100000
open Go.Proofs.YtdmnaipngcldbaaDoor.base Go.Proofs.YtdmnaipngcldbaaDoor.rfP Go.Proofs.YtdmnaipngcldbaaDoor.rfW
def gE (x y : List (List Int)) (r0 r1 j0 j1 : Int) : Int := if fnB x y = true then (if learnE x r0 j0 = 0 then learnE y r1 j1 else learnE x r0 j0) else 8
def gX (x y : List (List Int)) (r0 r1 j0 j1 : Int) (bit : Bool) : List (List Int) := if gE x y r0 r1 j0 j1 = 0 then learnV x r0 j0 bit else []
def gY (x y : List (List Int)) (r0 r1 j0 j1 : Int) (bit : Bool) : List (List Int) := if gE x y r0 r1 j0 j1 = 0 then learnV y r1 j1 bit else []
theorem gE_no {x y : List (List Int)} {r0 r1 j0 j1 : Int} (h : fnB x y = false) : gE x y r0 r1 j0 j1 = 8 := by unfold gE; rw [h]; rfl
theorem gE_one {x y : List (List Int)} {r0 r1 j0 j1 : Int} (h : fnB x y = true) (h1 : learnE x r0 j0 ≠ 0) : gE x y r0 r1 j0 j1 = learnE x r0 j0 := by unfold gE; rw [if_pos h, if_neg h1]
theorem gE_two {x y : List (List Int)} {r0 r1 j0 j1 : Int} (h : fnB x y = true) (h1 : learnE x r0 j0 = 0) : gE x y r0 r1 j0 j1 = learnE y r1 j1 := by unfold gE; rw [if_pos h, if_pos h1]
theorem g_bad {x y : List (List Int)} {r0 r1 j0 j1 : Int} {bit : Bool} (h : gE x y r0 r1 j0 j1 ≠ 0) : gX x y r0 r1 j0 j1 bit = [] ∧ gY x y r0 r1 j0 j1 bit = [] := by unfold gX gY; rw [if_neg h, if_neg h]; exact ⟨rfl, rfl⟩
theorem g_ok {x y : List (List Int)} {r0 r1 j0 j1 : Int} {bit : Bool} (h : gE x y r0 r1 j0 j1 = 0) : gX x y r0 r1 j0 j1 bit = learnV x r0 j0 bit ∧ gY x y r0 r1 j0 j1 bit = learnV y r1 j1 bit := by unfold gX gY; rw [if_pos h, if_pos h]; exact ⟨rfl, rfl⟩
end Go.Proofs.YtdmnaipngcldbaaDoor.fnP
namespace Go.Proofs.YtdmnaipngcldbaaDoor.fnW
set_option maxRecDepth 100000
open Go.RowKit Go.Proofs.YtdmnaipngcldbaaDoor.base Go.Proofs.YtdmnaipngcldbaaDoor.rfP Go.Proofs.YtdmnaipngcldbaaDoor.rfW Go.Proofs.YtdmnaipngcldbaaDoor.fnP
set_option linter.unusedVariables false
set_option linter.unusedSimpArgs false
set_option maxHeartbeats 1500000 in
theorem Learn_any (P : Option Addr) (m c : Nat) (rs : List RY) (Q : Option Addr) (n e : Nat) (qs : List RY) (r0 r1 j0 j1 : Int) (bit : Bool) (w : World) (h : RowsY w P m c rs) (h' : RowsY w Q n e qs) :
    Calls Tryd.prog 22 #[.agg #[.slice P m c, .slice Q n e], .agg #[.int .i64 r0, .int .i64 r1, .int .i64 j0, .int .i64 j1], .bool bit] w fun v w' => ∃ A k d us B l f vs, v = .returned (.tuple #[.agg #[.slice A k d, .slice B l f], .int .i64 (gE (numsY rs) (numsY qs) r0 r1 j0 j1)]) ∧ OwnR w' w.heap.size (.slice A k d) us ∧ OwnR w' w.heap.size (.slice B l f) vs ∧ numsY us = gX (numsY rs) (numsY qs) r0 r1 j0 j1 bit ∧ numsY vs = gY (numsY rs) (numsY qs) r0 r1 j0 j1 bit ∧ Below w.heap.size w w' := by
  have S0 : Hid (FnAt (((w.alloc (.cells #[.slice P m c, .slice Q n e] 26)).alloc (.cells #[.int .i64 r0, .int .i64 r1, .int .i64 j0, .int .i64 j1] 39)).alloc (.cells #[.slice none 0 0, .slice none 0 0] 26)) w.heap.size P m c rs Q n e qs ∧ Lies ((((w.alloc (.cells #[.slice P m c, .slice Q n e] 26)).alloc (.cells #[.int .i64 r0, .int .i64 r1, .int .i64 j0, .int .i64 j1] 39)).alloc (.cells #[.slice none 0 0, .slice none 0 0] 26))) (w.heap.size + 1) 39 [.int .i64 (r0), .int .i64 (r1), .int .i64 (j0), .int .i64 (j1)] ∧ Lies ((((w.alloc (.cells #[.slice P m c, .slice Q n e] 26)).alloc (.cells #[.int .i64 r0, .int .i64 r1, .int .i64 j0, .int .i64 j1] 39)).alloc (.cells #[.slice none 0 0, .slice none 0 0] 26))) (w.heap.size + 2) 26 [.slice none 0 0, .slice none 0 0] ∧ Below w.heap.size w (((w.alloc (.cells #[.slice P m c, .slice Q n e] 26)).alloc (.cells #[.int .i64 r0, .int .i64 r1, .int .i64 j0, .int .i64 j1] 39)).alloc (.cells #[.slice none 0 0, .slice none 0 0] 26)) ∧ w.heap.size < w.heap.size + 1 ∧ w.heap.size + 1 < w.heap.size + 2) := Lib.hid ⟨((fnAt_new h h').alloc _).alloc _, (Lies.fresh_at (cs := [.int .i64 r0, .int .i64 r1, .int .i64 j0, .int .i64 j1]) (by simp)).alloc _, Lies.fresh_at (cs := [.slice none 0 0, .slice none 0 0]) (by simp), by (repeat' (first | (with_reducible exact Below.refl _ _) | (with_reducible assumption) | (with_reducible refine below_drewN ?_ _) | (with_reducible refine below_new ?_ _) | (with_reducible refine Below.alloc ?_ ?_ _) | (with_reducible refine Below.drew ?_) | (with_reducible refine Below.setCell ?_ ?_ _) | (with_reducible apply below_at; (case k => (with_reducible assumption)); (case hB => omega)) | (with_reducible apply below_on; (with_reducible assumption)) | (go_size; done) | (with_reducible apply size_of))), by omega, by omega⟩
  clear h h'
  go_enter Tryd.func22, Tryd.ntmps22
  go_wp2_with fail
  generalize hw0 : (((w.alloc (.cells #[.slice P m c, .slice Q n e] 26)).alloc (.cells #[.int .i64 r0, .int .i64 r1, .int .i64 j0, .int .i64 j1] 39)).alloc (.cells #[.slice none 0 0, .slice none 0 0] 26)) = w0 at *
  generalize w.heap.size + 2 = g2 at *
  generalize w.heap.size + 1 = g1 at *
  clear hw0
  refine (Check_any P m c rs Q n e qs w0 S0.out.1.r1 S0.out.1.r2).mono ?_
  rintro v w1 ⟨rfl, b1⟩
  have S1 : Hid (FnAt w1 w.heap.size P m c rs Q n e qs ∧ Lies (w1) (g1) 39 [.int .i64 (r0), .int .i64 (r1), .int .i64 (j0), .int .i64 (j1)] ∧ Lies (w1) (g2) 26 [.slice none 0 0, .slice none 0 0] ∧ Below w.heap.size w w1 ∧ w.heap.size < g1 ∧ g1 < g2) := Lib.hid ⟨S0.out.1.past b1, S0.out.2.1.past b1, S0.out.2.2.1.past b1, below_bs S0.out.2.2.2.1 b1, S0.out.2.2.2.2⟩
  clear b1 S0
  cases hf : fnB (numsY rs) (numsY qs)
  · have HE := Lib.hid (gE_no (r0 := r0) (r1 := r1) (j0 := j0) (j1 := j1) hf)
    have HZ := Lib.hid (g_bad (x := numsY rs) (y := numsY qs) (r0 := r0) (r1 := r1) (j0 := j0) (j1 := j1) (bit := bit) (by rw [HE.out]; decide))
    rw [fnE_no hf]
    clear hf
    obtain ⟨z0, z1, f0, f1⟩ := S1.out.2.2.1.two
    go_wp2_with fail
    obtain ⟨t0, t1, -, -⟩ := (lies_set2 S1.out.2.2.1 (.slice none 0 0) (.slice none 0 0)).two
    clear z0 z1 f0 f1
    refine bodyPost_ret (by simp [results, Tryd.results22, go_sem, t0, t1]; try rfl) rfl ?_
    exact ⟨_, _, _, [], _, _, _, [], by rw [HE.out], OwnR.nil _ _, OwnR.nil _ _, HZ.out.1.symm, HZ.out.2.symm, below_set2 S1.out.2.2.2.1 (by have := S1.out.2.2.2.2; omega) _ _⟩
  have HF := Lib.hid hf
  rw [fnE_yes hf]
  clear hf
  obtain ⟨c0, c1, c2, c3⟩ := four S1.out.2.1
  have x0 := S1.out.1.c0
  go_wp2_with fail
  clear c0 c1 c2 c3 x0
  refine (rfW.Learn_any P m c rs r0 j0 bit w1 S1.out.1.r1).mono ?_
  rintro v v2 ⟨A1, n1, d1, q1, rfl, o1, e1, b1⟩
  have E1 := Lib.hid e1
  have S2 : Hid (FnAt (v2.alloc (.cells #[.slice A1 n1 d1] 24)) w.heap.size P m c rs Q n e qs ∧ Lies ((v2.alloc (.cells #[.slice A1 n1 d1] 24))) (g1) 39 [.int .i64 (r0), .int .i64 (r1), .int .i64 (j0), .int .i64 (j1)] ∧ Lies ((v2.alloc (.cells #[.slice A1 n1 d1] 24))) (g2) 26 [.slice none 0 0, .slice none 0 0] ∧ RfAt (v2.alloc (.cells #[.slice A1 n1 d1] 24)) v2.heap.size A1 n1 d1 q1 ∧ OwnR (v2.alloc (.cells #[.slice A1 n1 d1] 24)) w.heap.size (.slice A1 n1 d1) q1 ∧ Below w.heap.size w (v2.alloc (.cells #[.slice A1 n1 d1] 24))) := Lib.hid ⟨(S1.out.1.past b1).alloc _, (S1.out.2.1.past b1).alloc _, (S1.out.2.2.1.past b1).alloc _, rfAt_new o1.rows, (o1.alloc _).mono S1.out.2.2.2.1.size, below_al (below_bs S1.out.2.2.2.1 b1) _⟩
  have HGG : Hid (w.heap.size < g1 ∧ g1 < g2) := Lib.hid S1.out.2.2.2.2
  clear o1 e1 b1 S1
  go_upto_region 5 with fail
  generalize hw1 : (v2.alloc (.cells #[.slice A1 n1 d1] 24)) = w2 at *
  generalize v2.heap.size = g3 at *
  clear hw1
  obtain ⟨le, hle⟩ : ∃ le, learnE (numsY rs) r0 j0 = le := ⟨_, rfl⟩
  have HLE := Lib.hid hle
  rw [hle]
  clear hle
  by_cases hle : le = 0
  · subst hle
    obtain ⟨c0, c1, c2, c3⟩ := four S2.out.2.1
    have x1 := S2.out.1.c1
    go_wp2_with fail
    clear c0 c1 c2 c3 x1
    refine (rfW.Learn_any Q n e qs r1 j1 bit w2 S2.out.1.r2).mono ?_
    rintro v v3 ⟨A2, n2, d2, q2, rfl, o2, e2, b2⟩
    have E2 := Lib.hid e2
    have S3 : Hid (Lies ((v3.alloc (.cells #[.slice A2 n2 d2] 24))) (g2) 26 [.slice none 0 0, .slice none 0 0] ∧ RfAt (v3.alloc (.cells #[.slice A2 n2 d2] 24)) g3 A1 n1 d1 q1 ∧ OwnR (v3.alloc (.cells #[.slice A2 n2 d2] 24)) w.heap.size (.slice A1 n1 d1) q1 ∧ RfAt (v3.alloc (.cells #[.slice A2 n2 d2] 24)) v3.heap.size A2 n2 d2 q2 ∧ OwnR (v3.alloc (.cells #[.slice A2 n2 d2] 24)) w.heap.size (.slice A2 n2 d2) q2 ∧ Below w.heap.size w (v3.alloc (.cells #[.slice A2 n2 d2] 24))) := Lib.hid ⟨(S2.out.2.2.1.past b2).alloc _, (S2.out.2.2.2.1.past b2).alloc _, (S2.out.2.2.2.2.1.past b2).alloc _, rfAt_new o2.rows, (o2.alloc _).mono S2.out.2.2.2.2.2.size, below_al (below_bs S2.out.2.2.2.2.2 b2) _⟩
    clear o2 e2 b2 S2
    go_upto_region 8 with fail
    generalize hw3 : (v3.alloc (.cells #[.slice A2 n2 d2] 24)) = w4 at *
    generalize v3.heap.size = g4 at *
    clear hw3
    have HE := Lib.hid (gE_two (r0 := r0) (r1 := r1) (j0 := j0) (j1 := j1) HF.out HLE.out)
    obtain ⟨ls, hls⟩ : ∃ le, learnE (numsY qs) r1 j1 = le := ⟨_, rfl⟩
    have HLS := Lib.hid hls
    rw [hls]
    clear hls
    obtain ⟨z0, z1, f0, f1⟩ := S3.out.1.two
    by_cases hls : ls = 0
    · subst hls
      have HZ := Lib.hid (g_ok (x := numsY rs) (y := numsY qs) (r0 := r0) (r1 := r1) (j0 := j0) (j1 := j1) (bit := bit) (by rw [HE.out, HLS.out]))
      have x0 := S3.out.2.1.cell
      have x1 := S3.out.2.2.2.1.cell
      go_wp2_with fail
      obtain ⟨t0, t1, -, -⟩ := (lies_set2 S3.out.1 (.slice A1 n1 d1) (.slice A2 n2 d2)).two
      clear z0 z1 f0 f1 x0 x1
      refine bodyPost_ret (by simp [results, Tryd.results22, go_sem, t0, t1]; try rfl) rfl ?_
      exact ⟨_, _, _, q1, _, _, _, q2, by rw [HE.out, HLS.out], (S3.out.2.2.1.other S3.out.1 (by decide) (by decide) 0 _).other (S3.out.1.set 0 _) (by decide) (by decide) 1 _, (S3.out.2.2.2.2.1.other S3.out.1 (by decide) (by decide) 0 _).other (S3.out.1.set 0 _) (by decide) (by decide) 1 _, by rw [HZ.out.1, E1.out], by rw [HZ.out.2, E2.out], below_set2 S3.out.2.2.2.2.2 (by have := HGG.out; omega) _ _⟩
    · have HZ := Lib.hid (g_bad (x := numsY rs) (y := numsY qs) (r0 := r0) (r1 := r1) (j0 := j0) (j1 := j1) (bit := bit) (by rw [HE.out, HLS.out]; exact hls))
      go_wp2_with fail
      obtain ⟨t0, t1, -, -⟩ := (lies_set2 S3.out.1 (.slice none 0 0) (.slice none 0 0)).two
      clear z0 z1 f0 f1
      refine bodyPost_ret (by simp [results, Tryd.results22, go_sem, t0, t1]; try rfl) rfl ?_
      exact ⟨_, _, _, [], _, _, _, [], by rw [HE.out, HLS.out], OwnR.nil _ _, OwnR.nil _ _, HZ.out.1.symm, HZ.out.2.symm, below_set2 S3.out.2.2.2.2.2 (by have := HGG.out; omega) _ _⟩
  · have HE := Lib.hid (gE_one (r0 := r0) (r1 := r1) (j0 := j0) (j1 := j1) HF.out (by rw [HLE.out]; exact hle))
    have HZ := Lib.hid (g_bad (x := numsY rs) (y := numsY qs) (r0 := r0) (r1 := r1) (j0 := j0) (j1 := j1) (bit := bit) (by rw [HE.out, HLE.out]; exact hle))
    obtain ⟨z0, z1, f0, f1⟩ := S2.out.2.2.1.two
    go_wp2_with fail
    obtain ⟨t0, t1, -, -⟩ := (lies_set2 S2.out.2.2.1 (.slice none 0 0) (.slice none 0 0)).two
    clear z0 z1 f0 f1
    refine bodyPost_ret (by simp [results, Tryd.results22, go_sem, t0, t1]; try rfl) rfl ?_
    exact ⟨_, _, _, [], _, _, _, [], by rw [HE.out, HLE.out], OwnR.nil _ _, OwnR.nil _ _, HZ.out.1.symm, HZ.out.2.symm, below_set2 S2.out.2.2.2.2.2 (by have := HGG.out; omega) _ _⟩
end Go.Proofs.YtdmnaipngcldbaaDoor.fnW
