/- Learning of the reference, by walks. -/
import Derived.Test.YtdmnaipngcldbaaDoorRfWE
import Derived.Test.YtdmnaipngcldbaaDoorRfW8
namespace Go.Proofs.YtdmnaipngcldbaaDoor.rfP
set_option maxRecDepth 100000
open Go.Proofs.YtdmnaipngcldbaaDoor.base
/-- The rows after learning. -/
def learnP (l : List (List Int)) (k j : Nat) (bit : Bool) : List (List Int) := l.set k ((l.getD k []).set j (mv ((l.getD k []).getD j 0) bit))
theorem learn_len (l : List (List Int)) (k j : Nat) (bit : Bool) : (learnP l k j bit).length = l.length := by simp [learnP]
theorem rf_row {l : List (List Int)} (h : rfB l = true) (k : Nat) (hk : k < l.length) : rowB (l.getD k []) = true := by
  rw [rowB_iff, List.getD_eq_getElem?_getD, List.getElem?_eq_getElem hk]
  exact ((rfB_iff _).1 h).2.2 _ (List.getElem_mem hk)
theorem row_at {z : List Int} (h : rowB z = true) (j : Nat) (hj : j < 33) : 0 ≤ z.getD j 0 ∧ z.getD j 0 ≤ 65535 := by
  obtain ⟨h1, h2⟩ := (rowB_iff _).1 h
  rw [List.getD_eq_getElem?_getD, List.getElem?_eq_getElem (by omega)]
  exact h2 _ (List.getElem_mem _)
theorem learn_ok {l : List (List Int)} (h : rfB l = true) {k j : Nat} (hk : k < l.length) (hj : j < 33) (bit : Bool) : rfB (learnP l k j bit) = true := by
  obtain ⟨h1, h2, h3⟩ := (rfB_iff _).1 h
  rw [rfB_iff, learn_len]
  refine ⟨h1, h2, fun z hz => ?_⟩
  rcases List.mem_or_eq_of_mem_set hz with hz | rfl
  · exact h3 z hz
  · have hr := rf_row h k hk
    have ha := row_at hr j hj
    obtain ⟨h4, h5⟩ := (rowB_iff _).1 hr
    refine ⟨by rw [List.length_set]; exact h4, fun x hx => ?_⟩
    rcases List.mem_or_eq_of_mem_set hx with hx | rfl
    · exact h5 x hx
    · exact mv_in bit ha.1 ha.2
theorem ok_great {l : List (List Int)} (h : rfB l = true) : greatB l = false := by
  obtain ⟨h1, h2, h3⟩ := (rfB_iff _).1 h
  refine great_none (by omega) (fun i hi => ?_)
  have := (h3 _ (List.getElem_mem hi)).1
  rw [List.getD_eq_getElem?_getD, List.getElem?_eq_getElem hi]
  show (l[i]).length ≤ 100
  omega
theorem nums_set (rs : List RY) (k : Nat) (r : RY) : numsY (rs.set k r) = (numsY rs).set k r.b := by simp [numsY, List.map_set]
end Go.Proofs.YtdmnaipngcldbaaDoor.rfP
namespace Go.Proofs.YtdmnaipngcldbaaDoor.rfW
set_option maxRecDepth 100000
open Go.RowKit Go.Proofs.YtdmnaipngcldbaaDoor.base Go.Proofs.YtdmnaipngcldbaaDoor.rfP
set_option linter.unusedVariables false
set_option linter.unusedSimpArgs false
end Go.Proofs.YtdmnaipngcldbaaDoor.rfW
