/- FinalLearns, by a walk. -/
import Derived.Test.YtdmnaipngcldbaaFnW9
import Derived.Test.YtdmnaipngcldbaaFnRc
namespace Go.Proofs.Ytdmnaipngcldbaa.fnN
set_option maxRecDepth 100000
open Go.RowKit Go.Proofs.Ytdmnaipngcldbaa.base Go.Proofs.Ytdmnaipngcldbaa.rfP Go.Proofs.Ytdmnaipngcldbaa.rfW Go.Proofs.Ytdmnaipngcldbaa.fnP Go.Proofs.Ytdmnaipngcldbaa.fnW
set_option linter.unusedVariables false
set_option linter.unusedSimpArgs false
set_option maxHeartbeats 1500000 in
theorem learns (P : Option Addr) (m c : Nat) (rs : List RY) (Q : Option Addr) (n e : Nat) (qs : List RY) (r0 r1 j0 j1 : Int) (bit : Bool) (w : World) (h : RowsY w P m c rs) (h' : RowsY w Q n e qs) :
    Calls Try.prog 3 #[.agg #[.slice P m c, .slice Q n e], .agg #[.int .i64 r0, .int .i64 r1, .int .i64 j0, .int .i64 j1], .bool bit] w fun v w' => v = .returned (.bool true) ∧ Below w.heap.size w w' := by
  have S0 : Hid (FnAt ((w.alloc (.cells #[.slice P m c, .slice Q n e] 26)).alloc (.cells #[.int .i64 r0, .int .i64 r1, .int .i64 j0, .int .i64 j1] 29)) w.heap.size P m c rs Q n e qs ∧ Lies (((w.alloc (.cells #[.slice P m c, .slice Q n e] 26)).alloc (.cells #[.int .i64 r0, .int .i64 r1, .int .i64 j0, .int .i64 j1] 29))) (w.heap.size + 1) 29 [.int .i64 (r0), .int .i64 (r1), .int .i64 (j0), .int .i64 (j1)] ∧ Below w.heap.size w ((w.alloc (.cells #[.slice P m c, .slice Q n e] 26)).alloc (.cells #[.int .i64 r0, .int .i64 r1, .int .i64 j0, .int .i64 j1] 29))) := Lib.hid ⟨(fnAt_new h h').alloc _, Lies.fresh_at (cs := [.int .i64 r0, .int .i64 r1, .int .i64 j0, .int .i64 j1]) (by simp), by (repeat' (first | (with_reducible exact Below.refl _ _) | (with_reducible assumption) | (with_reducible refine below_drewN ?_ _) | (with_reducible refine below_new ?_ _) | (with_reducible refine Below.alloc ?_ ?_ _) | (with_reducible refine Below.drew ?_) | (with_reducible refine Below.setCell ?_ ?_ _) | (with_reducible apply below_at; (case k => (with_reducible assumption)); (case hB => omega)) | (with_reducible apply below_on; (with_reducible assumption)) | (go_size; done) | (with_reducible apply size_of)))⟩
  clear h h'
  go_enter Try.func3, Try.ntmps3
  go_wp2_with fail
  generalize hw0 : ((w.alloc (.cells #[.slice P m c, .slice Q n e] 26)).alloc (.cells #[.int .i64 r0, .int .i64 r1, .int .i64 j0, .int .i64 j1] 29)) = w0 at *
  generalize w.heap.size + 1 = g1 at *
  clear hw0
  refine (fnW.Great_any P m c rs Q n e qs w0 S0.out.1.r1 S0.out.1.r2).mono ?_
  rintro v w1 ⟨rfl, b1⟩
  have S1 : Hid (FnAt w1 w.heap.size P m c rs Q n e qs ∧ Lies (w1) (g1) 29 [.int .i64 (r0), .int .i64 (r1), .int .i64 (j0), .int .i64 (j1)] ∧ Below w.heap.size w w1) := Lib.hid ⟨S0.out.1.past b1, S0.out.2.1.past b1, below_bs S0.out.2.2 b1⟩
  clear b1 S0
  cases hg : (greatB (numsY rs) || greatB (numsY qs))
  case true =>
    clear hg
    go_wp2_with fail
    go_ret
    exact ⟨rfl, S1.out.2.2⟩
  have HG : Hid (greatB (numsY rs) = false ∧ greatB (numsY qs) = false) := Lib.hid (by simpa using hg)
  clear hg
  have x0 := S1.out.1.c0
  have x1 := S1.out.1.c1
  go_wp2_with fail
  clear x0 x1
  refine (Twin_any P m c rs Q n e qs w1 S1.out.1.r1 S1.out.1.r2 HG.out.1 HG.out.2).mono ?_
  rintro v v1 ⟨A1, d1, us, B1, f1, vs, rfl, o1, o2, e1, e2, b1⟩
  have E1 := Lib.hid (And.intro e1 e2)
  have S2 : Hid (FnAt (v1.alloc (.cells #[.slice A1 m d1, .slice B1 n f1] 26)) w.heap.size P m c rs Q n e qs ∧ Lies ((v1.alloc (.cells #[.slice A1 m d1, .slice B1 n f1] 26))) (g1) 29 [.int .i64 (r0), .int .i64 (r1), .int .i64 (j0), .int .i64 (j1)] ∧ FnAt (v1.alloc (.cells #[.slice A1 m d1, .slice B1 n f1] 26)) v1.heap.size A1 m d1 us B1 n f1 vs ∧ Below w.heap.size w (v1.alloc (.cells #[.slice A1 m d1, .slice B1 n f1] 26))) := Lib.hid ⟨(S1.out.1.past b1).alloc _, (S1.out.2.1.past b1).alloc _, fnAt_new o1.rows o2.rows, below_al (below_bs S1.out.2.2 b1) _⟩
  clear o1 o2 e1 e2 b1 S1
  go_upto_region 4 with fail
  generalize hw1 : (v1.alloc (.cells #[.slice A1 m d1, .slice B1 n f1] 26)) = w2 at *
  generalize v1.heap.size = g2 at *
  clear hw1
  have x0 := S2.out.2.2.1.c0
  have x1 := S2.out.2.2.1.c1
  obtain ⟨c0, c1, c2, c3⟩ := four S2.out.2.1
  go_wp2_with fail
  clear x0 x1 c0 c1 c2 c3
  refine (fnW.Learn_any A1 m d1 us B1 n f1 vs r0 r1 j0 j1 bit w2 S2.out.2.2.1.r1 S2.out.2.2.1.r2).mono ?_
  rintro v v2 ⟨A2, k2, d2, u2, B2, l2, f2, x2, rfl, o1, o2, e1, e2, b1⟩
  rw [E1.out.1, E1.out.2] at e1 e2 ⊢
  have E2 := Lib.hid (And.intro e1 e2)
  have S3 : Hid (FnAt (v2.alloc (.cells #[.slice A2 k2 d2, .slice B2 l2 f2] 26)) w.heap.size P m c rs Q n e qs ∧ Lies ((v2.alloc (.cells #[.slice A2 k2 d2, .slice B2 l2 f2] 26))) (g1) 29 [.int .i64 (r0), .int .i64 (r1), .int .i64 (j0), .int .i64 (j1)] ∧ FnAt (v2.alloc (.cells #[.slice A2 k2 d2, .slice B2 l2 f2] 26)) g2 A1 m d1 us B1 n f1 vs ∧ FnAt (v2.alloc (.cells #[.slice A2 k2 d2, .slice B2 l2 f2] 26)) v2.heap.size A2 k2 d2 u2 B2 l2 f2 x2 ∧ Below w.heap.size w (v2.alloc (.cells #[.slice A2 k2 d2, .slice B2 l2 f2] 26))) := Lib.hid ⟨(S2.out.1.past b1).alloc _, (S2.out.2.1.past b1).alloc _, (S2.out.2.2.1.past b1).alloc _, fnAt_new o1.rows o2.rows, below_al (below_bs S2.out.2.2.2 b1) _⟩
  clear o1 o2 e1 e2 b1 S2
  go_upto_region 5 with fail
  generalize hw2 : (v2.alloc (.cells #[.slice A2 k2 d2, .slice B2 l2 f2] 26)) = w3 at *
  generalize v2.heap.size = g3 at *
  clear hw2
  have x0 := S3.out.1.c0
  have x1 := S3.out.1.c1
  obtain ⟨c0, c1, c2, c3⟩ := four S3.out.2.1
  go_wp2_with fail
  clear x0 x1 c0 c1 c2 c3
  refine (fnW.rLearn_any P m c rs Q n e qs r0 r1 j0 j1 bit w3 S3.out.1.r1 S3.out.1.r2).mono ?_
  rintro v v3 ⟨A3, k3, d3, u3, B3, l3, f3, x3, rfl, o1, o2, e1, e2, b1⟩
  have E3 := Lib.hid (And.intro e1 e2)
  generalize gE (numsY rs) (numsY qs) r0 r1 j0 j1 = ge at *
  have S4 : Hid (FnAt (v3.alloc (.cells #[.slice A3 k3 d3, .slice B3 l3 f3] 26)) w.heap.size P m c rs Q n e qs ∧ FnAt (v3.alloc (.cells #[.slice A3 k3 d3, .slice B3 l3 f3] 26)) g2 A1 m d1 us B1 n f1 vs ∧ FnAt (v3.alloc (.cells #[.slice A3 k3 d3, .slice B3 l3 f3] 26)) g3 A2 k2 d2 u2 B2 l2 f2 x2 ∧ FnAt (v3.alloc (.cells #[.slice A3 k3 d3, .slice B3 l3 f3] 26)) v3.heap.size A3 k3 d3 u3 B3 l3 f3 x3 ∧ Below w.heap.size w (v3.alloc (.cells #[.slice A3 k3 d3, .slice B3 l3 f3] 26))) := Lib.hid ⟨(S3.out.1.past b1).alloc _, (S3.out.2.2.1.past b1).alloc _, (S3.out.2.2.2.1.past b1).alloc _, fnAt_new o1.rows o2.rows, below_al (below_bs S3.out.2.2.2.2 b1) _⟩
  clear o1 o2 e1 e2 b1 S3
  go_upto_region 6 with fail
  generalize hw3 : (v3.alloc (.cells #[.slice A3 k3 d3, .slice B3 l3 f3] 26)) = w4 at *
  generalize v3.heap.size = g4 at *
  clear hw3
  have x0 := S4.out.2.2.1.c0
  have x1 := S4.out.2.2.1.c1
  have x4 := S4.out.2.2.2.1.c0
  have x5 := S4.out.2.2.2.1.c1
  go_wp2_with fail
  clear x0 x1 x4 x5
  refine (Same_yes A2 k2 d2 u2 B2 l2 f2 x2 A3 k3 d3 u3 B3 l3 f3 x3 w4 S4.out.2.2.1.r1 S4.out.2.2.1.r2 S4.out.2.2.2.1.r1 S4.out.2.2.2.1.r2 (by rw [E2.out.1, E3.out.1]) (by rw [E2.out.2, E3.out.2])).mono ?_
  rintro v w5 ⟨rfl, b5⟩
  have S5 : Hid (FnAt w5 w.heap.size P m c rs Q n e qs ∧ FnAt w5 g2 A1 m d1 us B1 n f1 vs ∧ Below w.heap.size w w5) := Lib.hid ⟨S4.out.1.past b5, S4.out.2.1.past b5, below_bs S4.out.2.2.2.2 b5⟩
  clear b5 S4
  have x0 := S5.out.1.c0
  have x1 := S5.out.1.c1
  have x4 := S5.out.2.1.c0
  have x5 := S5.out.2.1.c1
  go_wp2_with fail
  clear x0 x1 x4 x5
  refine (Same_yes A1 m d1 us B1 n f1 vs P m c rs Q n e qs w5 S5.out.2.1.r1 S5.out.2.1.r2 S5.out.1.r1 S5.out.1.r2 E1.out.1 E1.out.2).mono ?_
  rintro v w6 ⟨rfl, b6⟩
  have S6 := Lib.hid (below_bs S5.out.2.2 b6)
  clear b6 S5
  go_wp2_with fail
  go_ret
  exact ⟨rfl, S6.out⟩
theorem learns_law (P : Option Addr) (m c : Nat) (rs : List RY) (Q : Option Addr) (n e : Nat) (qs : List RY) (r0 r1 j0 j1 : Int) (bit : Bool) (w : World) (h : RowsY w P m c rs ∧ RowsY w Q n e qs) (_ : True) :
    Calls Try.prog 3 #[.agg #[.slice P m c, .slice Q n e], .agg #[.int .i64 r0, .int .i64 r1, .int .i64 j0, .int .i64 j1], .bool bit] w fun v w' => v = .returned (.bool true) ∧ Below w.heap.size w w' :=
  learns P m c rs Q n e qs r0 r1 j0 j1 bit w h.1 h.2
end Go.Proofs.Ytdmnaipngcldbaa.fnN
