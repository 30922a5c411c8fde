/- The examples of layer 17 hold, by a walk. -/
import Derived.Test.YteepnindbcaahaaDoorRfA1
namespace Go.Proofs.YteepnindbcaahaaDoor.rfL
set_option maxRecDepth 100000
open Go.RowKit Go.Proofs.YteepnindbcaahaaDoor.base Go.Proofs.YteepnindbcaahaaDoor.rfP Go.Proofs.YteepnindbcaahaaDoor.rfW Go.Proofs.YteepnindbcaahaaDoor.sqP Go.Proofs.YteepnindbcaahaaDoor.sqW
set_option linter.unusedVariables false
set_option linter.unusedSimpArgs false
theorem ex_1 : newE 1 = 0 ∧ lookV (newV 1) 0 0 = 2047 ∧ lookJ (newV 1) 0 0 = 16 ∧ lookE (newV 1) 0 0 = 0 ∧ learnE (newV 1) 0 16 = 0 := by decide +kernel
theorem ex_2 : lookV (learnV (newV 1) 0 16 true) 0 0 = 2079 ∧ lookE (learnV (newV 1) 0 16 true) 0 0 = 0 ∧ rfE (newV 1) = 0 ∧ rfE (learnV (newV 1) 0 16 true) = 0 := by decide +kernel
theorem ex_3 : (newV 1).length = 1 ∧ ((newV 1).getD 0 []).length = 33 ∧ ((newV 1).getD 0 []).getD 16 0 = 32752 ∧ (learnV (newV 1) 0 16 true).length = 1 ∧ ((learnV (newV 1) 0 16 true).getD 0 []).length = 33 ∧ ((learnV (newV 1) 0 16 true).getD 0 []).getD 16 0 = 33264 := by decide +kernel
/-- A row's number, as the walk reads it. -/
theorem row_cells {w : World} {A : Option Addr} {n d : Nat} {qs : List RY} (h : RowsY w A n d qs) (k j : Nat) (hk : k < n) (hj : j < ((numsY qs).getD k []).length) :
    ∃ b o b1 o1 c1, A = some ⟨b, o, none⟩ ∧ w.cell? ⟨b, o + k, none⟩ = some (.slice (some ⟨b1, o1, none⟩) ((numsY qs).getD k []).length c1) ∧ w.cell? ⟨b1, o1 + j, none⟩ = some (.int .i32 (((numsY qs).getD k []).getD j 0)) := by
  have hl := h.l
  obtain ⟨b, o, rfl, hb, hc⟩ := h.h.some (by omega)
  have hn := nums_at qs k (by omega)
  have hi := h.h.get k (by omega)
  have hck := hc k (by omega)
  rw [hn] at hj ⊢
  generalize qs.getD k ry0 = r at *
  obtain ⟨A1, n1, d1, y1⟩ := r
  obtain ⟨b1, o1, hA, hb1, hc1⟩ := has_some hi.h (by show 0 < y1.length; have : j < y1.length := hj; omega)
  have hA : A1 = some ⟨b1, o1, none⟩ := hA
  subst hA
  have e1 : y1.length = n1 := hi.e
  subst e1
  exact ⟨b, o, b1, o1, d1, rfl, hck, hc1 j hj⟩
theorem rows_len {w : World} {A : Option Addr} {n d : Nat} {qs : List RY} (h : RowsY w A n d qs) : (numsY qs).length = n := by rw [nums_len]; exact h.l
set_option maxHeartbeats 800000 in
theorem alive (w : World) (hT : Tab w) : Calls Tryd.prog 20 #[] w fun e w' => e = .returned (.bool true) ∧ Below w.heap.size w w' := by
  have HT := Lib.hid hT
  clear hT
  go_enter Tryd.func20, Tryd.ntmps20
  go_wp2_with fail
  refine (New_any 1 w HT.out).mono ?_
  rintro e v1 ⟨A1, n1, d1, q1, rfl, o1, e1, b1⟩
  rw [ex_1.1]
  have E1 := Lib.hid e1
  have S1 : Hid (RfAt (v1.alloc (.cells #[.slice A1 n1 d1] 24)) v1.heap.size A1 n1 d1 q1 ∧ Below w.heap.size w (v1.alloc (.cells #[.slice A1 n1 d1] 24))) := Lib.hid ⟨rfAt_new o1.rows, below_al b1 _⟩
  clear o1 e1 b1
  go_upto_region 2 with fail
  generalize hw1 : (v1.alloc (.cells #[.slice A1 n1 d1] 24)) = w1 at *
  generalize v1.heap.size = g1 at *
  clear hw1
  have x1 := S1.out.1.cell
  go_wp2_with fail
  clear x1
  refine (Look_any A1 n1 d1 q1 0 0 _ S1.out.1.rows).mono ?_
  rintro e w2 ⟨rfl, b2⟩
  rw [E1.out, ex_1.2.1, ex_1.2.2.1, ex_1.2.2.2.1]
  have S2 : Hid (RfAt w2 g1 A1 n1 d1 q1 ∧ Below w.heap.size w w2) := Lib.hid ⟨S1.out.1.past b2, below_bs S1.out.2 b2⟩
  clear b2
  have x1 := S2.out.1.cell
  go_wp2_with fail
  clear x1
  refine (Learn_any A1 n1 d1 q1 0 16 true _ S2.out.1.rows).mono ?_
  rintro e v3 ⟨A3, n3, d3, q3, rfl, o3, e3, b3⟩
  rw [E1.out] at e3 ⊢
  rw [ex_1.2.2.2.2]
  have E3 := Lib.hid e3
  have S3 : Hid (RfAt (v3.alloc (.cells #[.slice A3 n3 d3] 24)) g1 A1 n1 d1 q1 ∧ RfAt (v3.alloc (.cells #[.slice A3 n3 d3] 24)) v3.heap.size A3 n3 d3 q3 ∧ Below w.heap.size w (v3.alloc (.cells #[.slice A3 n3 d3] 24))) := Lib.hid ⟨(S2.out.1.past b3).alloc _, rfAt_new o3.rows, below_al (below_bs S2.out.2 b3) _⟩
  clear o3 e3 b3
  go_upto_region 4 with fail
  generalize hw3 : (v3.alloc (.cells #[.slice A3 n3 d3] 24)) = w3 at *
  generalize v3.heap.size = g3 at *
  clear hw3
  have x1 := S3.out.2.1.cell
  go_wp2_with fail
  clear x1
  refine (Look_any A3 n3 d3 q3 0 0 _ S3.out.2.1.rows).mono ?_
  rintro e w4 ⟨rfl, b4⟩
  rw [E3.out, ex_2.1, ex_2.2.1]
  have S4 : Hid (RfAt w4 g1 A1 n1 d1 q1 ∧ RfAt w4 g3 A3 n3 d3 q3 ∧ Below w.heap.size w w4) := Lib.hid ⟨S3.out.1.past b4, S3.out.2.1.past b4, below_bs S3.out.2.2 b4⟩
  clear b4
  generalize lookJ (learnV (newV 1) 0 16 true) 0 0 = jj at *
  have x1 := S4.out.1.cell
  go_wp2_with fail
  clear x1
  refine (rCheck_any A1 n1 d1 q1 _ S4.out.1.rows).mono ?_
  rintro e w5 ⟨rfl, b5⟩
  rw [E1.out, ex_2.2.2.1]
  have S5 : Hid (RfAt w5 g1 A1 n1 d1 q1 ∧ RfAt w5 g3 A3 n3 d3 q3 ∧ Below w.heap.size w w5) := Lib.hid ⟨S4.out.1.past b5, S4.out.2.1.past b5, below_bs S4.out.2.2 b5⟩
  clear b5
  have x1 := S5.out.2.1.cell
  go_wp2_with fail
  clear x1
  refine (rCheck_any A3 n3 d3 q3 _ S5.out.2.1.rows).mono ?_
  rintro e w6 ⟨rfl, b6⟩
  rw [E3.out, ex_2.2.2.2]
  have S6 : Hid (RfAt w6 g1 A1 n1 d1 q1 ∧ RfAt w6 g3 A3 n3 d3 q3 ∧ Below w.heap.size w w6) := Lib.hid ⟨S5.out.1.past b6, S5.out.2.1.past b6, below_bs S5.out.2.2 b6⟩
  clear b6
  have hn1 : n1 = 1 := by rw [← rows_len S6.out.1.rows, E1.out, ex_3.1]
  have hn3 : n3 = 1 := by rw [← rows_len S6.out.2.1.rows, E3.out, ex_3.2.2.2.1]
  obtain ⟨b, o, bb, oo, cc, rfl, y1, y2⟩ := row_cells S6.out.1.rows 0 16 (by omega) (by rw [E1.out, ex_3.2.1]; decide)
  obtain ⟨b', o', bb', oo', cc', rfl, y3, y4⟩ := row_cells S6.out.2.1.rows 0 16 (by omega) (by rw [E3.out, ex_3.2.2.2.2.1]; decide)
  rw [E1.out, ex_3.2.1, Nat.add_zero] at y1
  rw [E1.out, ex_3.2.2.1] at y2
  rw [E3.out, ex_3.2.2.2.2.1, Nat.add_zero] at y3
  rw [E3.out, ex_3.2.2.2.2.2] at y4
  have x1 := S6.out.1.cell
  have x2 := S6.out.2.1.cell
  subst hn1
  subst hn3
  go_wp2_with fail
  go_ret
  exact ⟨rfl, S6.out.2.2⟩
end Go.Proofs.YteepnindbcaahaaDoor.rfL
