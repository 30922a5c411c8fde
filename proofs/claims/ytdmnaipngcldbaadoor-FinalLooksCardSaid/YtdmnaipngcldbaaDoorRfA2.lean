/- The examples of layer 17 hold, by a walk. -/
import Derived.Test.YtdmnaipngcldbaaDoorRfA1
namespace Go.Proofs.YtdmnaipngcldbaaDoor.rfL
set_option maxRecDepth 100000
open Go.RowKit Go.Proofs.YtdmnaipngcldbaaDoor.base Go.Proofs.YtdmnaipngcldbaaDoor.rfP Go.Proofs.YtdmnaipngcldbaaDoor.rfW Go.Proofs.YtdmnaipngcldbaaDoor.sqP Go.Proofs.YtdmnaipngcldbaaDoor.sqW
set_option linter.unusedVariables false
set_option linter.unusedSimpArgs false
theorem ex_1 : newE 1 = 0 ∧ lookV (newV 1) 0 0 = 2047 ∧ lookJ (newV 1) 0 0 = 16 ∧ lookE (newV 1) 0 0 = 0 ∧ learnE (newV 1) 0 16 = 0 := by decide +kernel
theorem ex_2 : lookV (learnV (newV 1) 0 16 true) 0 0 = 2079 ∧ lookE (learnV (newV 1) 0 16 true) 0 0 = 0 ∧ rfE (newV 1) = 0 ∧ rfE (learnV (newV 1) 0 16 true) = 0 := by decide +kernel
theorem ex_3 : (newV 1).length = 1 ∧ ((newV 1).getD 0 []).length = 33 ∧ ((newV 1).getD 0 []).getD 16 0 = 32752 ∧ (learnV (newV 1) 0 16 true).length = 1 ∧ ((learnV (newV 1) 0 16 true).getD 0 []).length = 33 ∧ ((learnV (newV 1) 0 16 true).getD 0 []).getD 16 0 = 33264 := by decide +kernel
/-- A row's number, as the walk reads it. -/
theorem row_cells {w : World} {A : Option Addr} {n d : Nat} {qs : List RY} (h : RowsY w A n d qs) (k j : Nat) (hk : k < n) (hj : j < ((numsY qs).getD k []).length) :
    ∃ b o b1 o1 c1, A = some ⟨b, o, none⟩ ∧ w.cell? ⟨b, o + k, none⟩ = some (.slice (some ⟨b1, o1, none⟩) ((numsY qs).getD k []).length c1) ∧ w.cell? ⟨b1, o1 + j, none⟩ = some (.int .i32 (((numsY qs).getD k []).getD j 0)) := by
  have hl := h.l
  obtain ⟨b, o, rfl, hb, hc⟩ := h.h.some (by omega)
  have hn := nums_at qs k (by omega)
  have hi := h.h.get k (by omega)
  have hck := hc k (by omega)
  rw [hn] at hj ⊢
  generalize qs.getD k ry0 = r at *
  obtain ⟨A1, n1, d1, y1⟩ := r
  obtain ⟨b1, o1, hA, hb1, hc1⟩ := has_some hi.h (by show 0 < y1.length; have : j < y1.length := hj; omega)
  have hA : A1 = some ⟨b1, o1, none⟩ := hA
  subst hA
  have e1 : y1.length = n1 := hi.e
  subst e1
  exact ⟨b, o, b1, o1, d1, rfl, hck, hc1 j hj⟩
theorem rows_len {w : World} {A : Option Addr} {n d : Nat} {qs : List RY} (h : RowsY w A n d qs) : (numsY qs).length = n := by rw [nums_len]; exact h.l
end Go.Proofs.YtdmnaipngcldbaaDoor.rfL
