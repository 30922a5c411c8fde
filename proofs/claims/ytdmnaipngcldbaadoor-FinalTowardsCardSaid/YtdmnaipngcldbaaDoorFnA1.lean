/- The examples of layer 18 hold, by a walk. -/
import Derived.Test.YtdmnaipngcldbaaDoorFnEq
namespace Go.Proofs.YtdmnaipngcldbaaDoor.fnL
set_option maxRecDepth 100000
open Go.RowKit Go.Proofs.YtdmnaipngcldbaaDoor.base Go.Proofs.YtdmnaipngcldbaaDoor.rfP Go.Proofs.YtdmnaipngcldbaaDoor.rfW Go.Proofs.YtdmnaipngcldbaaDoor.fnP Go.Proofs.YtdmnaipngcldbaaDoor.fnW Go.Proofs.YtdmnaipngcldbaaDoor.sqP Go.Proofs.YtdmnaipngcldbaaDoor.sqW
set_option linter.unusedVariables false
set_option linter.unusedSimpArgs false
theorem ex_1 : joinE 2000 1000 3000 = 0 ∧ joinV 2000 1000 3000 = 1875 ∧ joinE 0 0 0 = 0 ∧ joinV 0 0 0 = 1 := by decide +kernel
theorem ex_2 : fE (newV 256) (newV 256) 1 1 0 2047 = 0 ∧ fV (newV 256) (newV 256) 1 1 0 2047 = 2047 ∧ lookJ (newV 256) 1 0 = 16 := by decide +kernel
set_option maxHeartbeats 800000 in
theorem alive (w : World) (hT : Tab w) : Calls Tryd.prog 23 #[] w fun e w' => e = .returned (.bool true) ∧ Below w.heap.size w w' := by
  have HT := Lib.hid hT
  clear hT
  go_enter Tryd.func23, Tryd.ntmps23
  go_wp2_with fail
  refine (Join_any 2000 1000 3000 w).mono ?_
  rintro e w1 ⟨rfl, rfl⟩
  rw [ex_1.1, ex_1.2.1]
  go_wp2_with fail
  refine (Join_any 0 0 0 w1).mono ?_
  rintro e w2 ⟨rfl, rfl⟩
  rw [ex_1.2.2.1, ex_1.2.2.2]
  go_wp2_with fail
  refine (fnW.New_any w2 HT.out).mono ?_
  rintro e w3 ⟨A, m, c, rs, B, n, d, qs, rfl, o1, o2, e1, e2, b3⟩
  have S3 : Hid (RowsY w3 A m c rs ∧ RowsY w3 B n d qs ∧ Below w2.heap.size w2 w3) := Lib.hid ⟨o1.rows, o2.rows, b3⟩
  have E := Lib.hid (And.intro e1 e2)
  clear o1 o2 e1 e2 b3
  go_wp2_with fail
  refine (fnW.Look_any A m c rs B n d qs 1 1 0 2047 w3 S3.out.1 S3.out.2.1).mono ?_
  rintro e w4 ⟨rfl, b4⟩
  rw [E.out.1, E.out.2, (f_ok ex_2.1).2, (f_ok ex_2.1).2, ex_2.1, ex_2.2.1, ex_2.2.2]
  have S4 : Hid (Lies (w4.alloc (.cells #[.int .i64 1, .int .i64 1, .int .i64 16, .int .i64 16] 39)) w4.heap.size 39 [.int .i64 1, .int .i64 1, .int .i64 16, .int .i64 16] ∧ Below w2.heap.size w2 (w4.alloc (.cells #[.int .i64 1, .int .i64 1, .int .i64 16, .int .i64 16] 39))) := Lib.hid ⟨Lies.fresh _ _ _, below_al (below_bs S3.out.2.2 b4) _⟩
  clear b4 S3
  go_upto_region 4 with fail
  generalize (w4.alloc (.cells #[.int .i64 1, .int .i64 1, .int .i64 16, .int .i64 16] 39)) = w5 at *
  obtain ⟨z0, z1, z2, z3⟩ := four S4.out.1
  have q1 := eq2 (a := 1) (b := 1) (by decide) (by decide)
  have q2 := eq2 (a := 16) (b := 16) (by decide) (by decide)
  go_wp2_with fail
  go_ret
  exact ⟨rfl, S4.out.2⟩
end Go.Proofs.YtdmnaipngcldbaaDoor.fnL
