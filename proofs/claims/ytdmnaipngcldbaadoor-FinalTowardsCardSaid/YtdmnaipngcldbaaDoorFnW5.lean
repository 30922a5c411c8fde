/- New maps of both, by walks. -/
import Derived.Test.YtdmnaipngcldbaaDoorFnW4
namespace Go.Proofs.YtdmnaipngcldbaaDoor.fnW
set_option maxRecDepth 100000
open Go.RowKit Go.Proofs.YtdmnaipngcldbaaDoor.base Go.Proofs.YtdmnaipngcldbaaDoor.rfP Go.Proofs.YtdmnaipngcldbaaDoor.rfW Go.Proofs.YtdmnaipngcldbaaDoor.fnP Go.Proofs.YtdmnaipngcldbaaDoor.sqP Go.Proofs.YtdmnaipngcldbaaDoor.sqW
set_option linter.unusedVariables false
set_option linter.unusedSimpArgs false
theorem new_256 : newE 256 = 0 := by decide
theorem lies_set2 {w : World} {g : Nat} {t : TypeId} {x0 x1 : Value} (h : Lies w g t [x0, x1]) (a b : Value) : Lies ((w.setCell ⟨g, 0, none⟩ a).setCell ⟨g, 1, none⟩ b) g t [a, b] := (h.set 0 a).set 1 b
theorem below_set2 {w w' : World} {B g : Nat} (h : Below B w w') (hg : B ≤ g) (a b : Value) : Below B w ((w'.setCell ⟨g, 0, none⟩ a).setCell ⟨g, 1, none⟩ b) := (h.setCell hg a).setCell hg b
set_option maxHeartbeats 800000 in
theorem New_any (w : World) (hT : Tab w) :
    Calls Tryd.prog 17 #[] w fun v w' => ∃ A m c rs B n e qs, v = .returned (.agg #[.slice A m c, .slice B n e]) ∧ OwnR w' w.heap.size (.slice A m c) rs ∧ OwnR w' w.heap.size (.slice B n e) qs ∧ numsY rs = newV 256 ∧ numsY qs = newV 256 ∧ Below w.heap.size w w' := by
  have HT := Lib.hid hT
  have S0 : Hid (Lies (w.alloc (.cells #[.slice none 0 0, .slice none 0 0] 26)) w.heap.size 26 [.slice none 0 0, .slice none 0 0] ∧ Below w.heap.size w (w.alloc (.cells #[.slice none 0 0, .slice none 0 0] 26))) := Lib.hid ⟨Lies.fresh _ _ _, by (repeat' (first | (with_reducible exact Below.refl _ _) | (with_reducible assumption) | (with_reducible refine below_drewN ?_ _) | (with_reducible refine below_new ?_ _) | (with_reducible refine Below.alloc ?_ ?_ _) | (with_reducible refine Below.drew ?_) | (with_reducible refine Below.setCell ?_ ?_ _) | (with_reducible apply below_at; (case k => (with_reducible assumption)); (case hB => omega)) | (with_reducible apply below_on; (with_reducible assumption)) | (go_size; done) | (with_reducible apply size_of)))⟩
  clear hT
  go_enter Tryd.func17, Tryd.ntmps17
  go_wp2_with fail
  generalize (w.alloc (.cells #[.slice none 0 0, .slice none 0 0] 26)) = w0 at *
  refine (rfW.New_any 256 w0 (HT.out.below S0.out.2)).mono ?_
  rintro v w1 ⟨A1, n1, d1, q1, rfl, o1, e1, b1⟩
  rw [new_256]
  have E1 := Lib.hid e1
  have S1 : Hid (Lies (w1.alloc (.cells #[.slice A1 n1 d1] 24)) w.heap.size 26 [.slice none 0 0, .slice none 0 0] ∧ RfAt (w1.alloc (.cells #[.slice A1 n1 d1] 24)) w1.heap.size A1 n1 d1 q1 ∧ OwnR (w1.alloc (.cells #[.slice A1 n1 d1] 24)) w.heap.size (.slice A1 n1 d1) q1 ∧ Below w.heap.size w (w1.alloc (.cells #[.slice A1 n1 d1] 24))) := Lib.hid ⟨(S0.out.1.past b1).alloc _, rfAt_new o1.rows, (o1.alloc _).mono S0.out.2.size, below_al (below_bs S0.out.2 b1) _⟩
  clear o1 e1 b1 S0
  go_wp2_with fail
  generalize hw1 : (w1.alloc (.cells #[.slice A1 n1 d1] 24)) = w2 at *
  generalize w1.heap.size = g1 at *
  clear hw1
  refine (rfW.New_any 256 w2 (HT.out.below S1.out.2.2.2)).mono ?_
  rintro v w3 ⟨A2, n2, d2, q2, rfl, o2, e2, b2⟩
  rw [new_256]
  have E2 := Lib.hid e2
  have S2 : Hid (Lies (w3.alloc (.cells #[.slice A2 n2 d2] 24)) w.heap.size 26 [.slice none 0 0, .slice none 0 0] ∧ RfAt (w3.alloc (.cells #[.slice A2 n2 d2] 24)) g1 A1 n1 d1 q1 ∧ OwnR (w3.alloc (.cells #[.slice A2 n2 d2] 24)) w.heap.size (.slice A1 n1 d1) q1 ∧ RfAt (w3.alloc (.cells #[.slice A2 n2 d2] 24)) w3.heap.size A2 n2 d2 q2 ∧ OwnR (w3.alloc (.cells #[.slice A2 n2 d2] 24)) w.heap.size (.slice A2 n2 d2) q2 ∧ Below w.heap.size w (w3.alloc (.cells #[.slice A2 n2 d2] 24))) := Lib.hid ⟨(S1.out.1.past b2).alloc _, (S1.out.2.1.past b2).alloc _, (S1.out.2.2.1.past b2).alloc _, rfAt_new o2.rows, (o2.alloc _).mono S1.out.2.2.2.size, below_al (below_bs S1.out.2.2.2 b2) _⟩
  clear o2 e2 b2 S1
  have x1 := S2.out.2.1.cell
  have x2 := S2.out.2.2.2.1.cell
  obtain ⟨z0, z1, f0, f1⟩ := S2.out.1.two
  go_wp2_with fail
  obtain ⟨t0, t1, -, -⟩ := (lies_set2 S2.out.1 (.slice A1 n1 d1) (.slice A2 n2 d2)).two
  clear x1 x2 z0 z1 f0 f1
  refine bodyPost_ret (by simp [results, Tryd.results17, go_sem, t0, t1]; try rfl) rfl ?_
  exact ⟨_, _, _, q1, _, _, _, q2, rfl, (S2.out.2.2.1.other S2.out.1 (by decide) (by decide) 0 _).other (S2.out.1.set 0 _) (by decide) (by decide) 1 _, (S2.out.2.2.2.2.1.other S2.out.1 (by decide) (by decide) 0 _).other (S2.out.1.set 0 _) (by decide) (by decide) 1 _, E1.out, E2.out, below_set2 S2.out.2.2.2.2.2 (Nat.le_refl _) _ _⟩
set_option maxHeartbeats 800000 in
theorem rNew_any (w : World) :
    Calls Tryd.prog 18 #[] w fun v w' => ∃ A m c rs B n e qs, v = .returned (.agg #[.slice A m c, .slice B n e]) ∧ RowsY w' A m c rs ∧ RowsY w' B n e qs ∧ numsY rs = newV 256 ∧ numsY qs = newV 256 ∧ Below w.heap.size w w' := by
  have S0 : Hid (Lies (w.alloc (.cells #[.slice none 0 0, .slice none 0 0] 26)) w.heap.size 26 [.slice none 0 0, .slice none 0 0] ∧ Below w.heap.size w (w.alloc (.cells #[.slice none 0 0, .slice none 0 0] 26))) := Lib.hid ⟨Lies.fresh _ _ _, by (repeat' (first | (with_reducible exact Below.refl _ _) | (with_reducible assumption) | (with_reducible refine below_drewN ?_ _) | (with_reducible refine below_new ?_ _) | (with_reducible refine Below.alloc ?_ ?_ _) | (with_reducible refine Below.drew ?_) | (with_reducible refine Below.setCell ?_ ?_ _) | (with_reducible apply below_at; (case k => (with_reducible assumption)); (case hB => omega)) | (with_reducible apply below_on; (with_reducible assumption)) | (go_size; done) | (with_reducible apply size_of)))⟩
  go_enter Tryd.func18, Tryd.ntmps18
  go_wp2_with fail
  generalize (w.alloc (.cells #[.slice none 0 0, .slice none 0 0] 26)) = w0 at *
  refine (rfW.rNew_any 256 w0).mono ?_
  rintro v w1 ⟨A1, n1, d1, q1, rfl, o1, e1, b1⟩
  rw [new_256]
  have E1 := Lib.hid e1
  have S1 : Hid (Lies (w1.alloc (.cells #[.slice A1 n1 d1] 24)) w.heap.size 26 [.slice none 0 0, .slice none 0 0] ∧ RfAt (w1.alloc (.cells #[.slice A1 n1 d1] 24)) w1.heap.size A1 n1 d1 q1 ∧ OwnR (w1.alloc (.cells #[.slice A1 n1 d1] 24)) w.heap.size (.slice A1 n1 d1) q1 ∧ Below w.heap.size w (w1.alloc (.cells #[.slice A1 n1 d1] 24))) := Lib.hid ⟨(S0.out.1.past b1).alloc _, rfAt_new o1.rows, (o1.alloc _).mono S0.out.2.size, below_al (below_bs S0.out.2 b1) _⟩
  clear o1 e1 b1 S0
  go_wp2_with fail
  generalize hw1 : (w1.alloc (.cells #[.slice A1 n1 d1] 24)) = w2 at *
  generalize w1.heap.size = g1 at *
  clear hw1
  refine (rfW.rNew_any 256 w2).mono ?_
  rintro v w3 ⟨A2, n2, d2, q2, rfl, o2, e2, b2⟩
  rw [new_256]
  have E2 := Lib.hid e2
  have S2 : Hid (Lies (w3.alloc (.cells #[.slice A2 n2 d2] 24)) w.heap.size 26 [.slice none 0 0, .slice none 0 0] ∧ RfAt (w3.alloc (.cells #[.slice A2 n2 d2] 24)) g1 A1 n1 d1 q1 ∧ OwnR (w3.alloc (.cells #[.slice A2 n2 d2] 24)) w.heap.size (.slice A1 n1 d1) q1 ∧ RfAt (w3.alloc (.cells #[.slice A2 n2 d2] 24)) w3.heap.size A2 n2 d2 q2 ∧ OwnR (w3.alloc (.cells #[.slice A2 n2 d2] 24)) w.heap.size (.slice A2 n2 d2) q2 ∧ Below w.heap.size w (w3.alloc (.cells #[.slice A2 n2 d2] 24))) := Lib.hid ⟨(S1.out.1.past b2).alloc _, (S1.out.2.1.past b2).alloc _, (S1.out.2.2.1.past b2).alloc _, rfAt_new o2.rows, (o2.alloc _).mono S1.out.2.2.2.size, below_al (below_bs S1.out.2.2.2 b2) _⟩
  clear o2 e2 b2 S1
  have x1 := S2.out.2.1.cell
  have x2 := S2.out.2.2.2.1.cell
  obtain ⟨z0, z1, f0, f1⟩ := S2.out.1.two
  go_wp2_with fail
  obtain ⟨t0, t1, -, -⟩ := (lies_set2 S2.out.1 (.slice A1 n1 d1) (.slice A2 n2 d2)).two
  clear x1 x2 z0 z1 f0 f1
  refine bodyPost_ret (by simp [results, Tryd.results18, go_sem, t0, t1]; try rfl) rfl ?_
  exact ⟨_, _, _, q1, _, _, _, q2, rfl, ((S2.out.2.2.1.other S2.out.1 (by decide) (by decide) 0 _).other (S2.out.1.set 0 _) (by decide) (by decide) 1 _).rows, ((S2.out.2.2.2.2.1.other S2.out.1 (by decide) (by decide) 0 _).other (S2.out.1.set 0 _) (by decide) (by decide) 1 _).rows, E1.out, E2.out, below_set2 S2.out.2.2.2.2.2 (Nat.le_refl _) _ _⟩
end Go.Proofs.YtdmnaipngcldbaaDoor.fnW
