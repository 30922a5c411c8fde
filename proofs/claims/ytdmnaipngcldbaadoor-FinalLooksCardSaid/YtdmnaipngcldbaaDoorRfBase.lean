/- A refiner that came in. -/
import Derived.Test.YtdmnaipngcldbaaDoorRows32
import Derived.Test.YtdmnaipngcldbaaDoorNibBase
import Derived.Test.YtdmnaipngcldbaaDoorRfPlain
namespace Go.Proofs.YtdmnaipngcldbaaDoor.base
set_option maxRecDepth 100000
open Go.ChangeShapes Go.WideShapes Go.ChangeAt Go.RowKit Go.Deep
set_option linter.unusedVariables false
theorem read_refiner {H : Type} {enc : TypeId × Value → H} {W : World} {bs : Nat} {v : Value} {d : DataW H} {p : List MemPlace}
    (hv : Value.okWide Tryd.prog W .any bs 24 v) (h : DataW.Trod enc Tryd.prog W 0 (fun _ => true) true 24 v d p) :
    ∃ (P : Option Addr) (m c : Nat) (rs : List RY), v = .agg #[.slice P m c] ∧ RowsY W P m c rs := by
  obtain ⟨v0, y0, k, rfl, rfl, rfl, t0⟩ := open_agg1 Tryd.underlying24 (by kernel_rfl) (by kernel_rfl) hv h
  obtain ⟨P, m, c, rs, hcs, h1, h2, h3, h4⟩ := read_rows_y t0
  simp at hcs
  subst hcs
  exact ⟨_, _, _, rs, rfl, h1, h2, h3, h4⟩
end Go.Proofs.YtdmnaipngcldbaaDoor.base
namespace Go.Proofs.YtdmnaipngcldbaaDoor.rfP
set_option maxRecDepth 100000
open Go.Proofs.YtdmnaipngcldbaaDoor.base
/-- A row is one of a refiner. -/
def rowB (z : List Int) : Bool := decide (z.length = 33) && z.all fun x => decide (0 ≤ x) && decide (x ≤ 65535)
/-- The refiner is valid. -/
def rfB (l : List (List Int)) : Bool := decide (1 ≤ l.length) && decide (l.length ≤ 256) && l.all rowB
def rfE (l : List (List Int)) : Int := if rfB l = true then 0 else 8
theorem rowB_iff (z : List Int) : rowB z = true ↔ z.length = 33 ∧ ∀ x ∈ z, 0 ≤ x ∧ x ≤ 65535 := by
  simp [rowB]
theorem rfB_iff (l : List (List Int)) : rfB l = true ↔ 1 ≤ l.length ∧ l.length ≤ 256 ∧ ∀ z ∈ l, z.length = 33 ∧ ∀ x ∈ z, 0 ≤ x ∧ x ≤ 65535 := by
  unfold rfB
  rw [Bool.and_eq_true, Bool.and_eq_true, decide_eq_true_eq, decide_eq_true_eq, List.all_eq_true, and_assoc]
  simp only [rowB_iff]
/-- The first ones are good. -/
def rowsB (l : List (List Int)) (i : Nat) : Prop := ∀ k, k < i → rowB (l.getD k []) = true
def upB (z : List Int) (i : Nat) : Prop := ∀ k, k < i → 0 ≤ z.getD k 0 ∧ z.getD k 0 ≤ 65535
theorem upB_all {z : List Int} (hl : z.length = 33) (h : upB z z.length) : rowB z = true := by
  rw [rowB_iff]
  refine ⟨hl, fun x hx => ?_⟩
  obtain ⟨i, hi, rfl⟩ := List.getElem_of_mem hx
  have := h i hi
  rw [List.getD_eq_getElem?_getD, List.getElem?_eq_getElem hi] at this
  exact this
theorem upB_not {z : List Int} {i : Nat} (hi : i < z.length) (h : ¬ (0 ≤ z.getD i 0 ∧ z.getD i 0 ≤ 65535)) : rowB z = false := by
  cases hr : rowB z
  · rfl
  · exfalso
    rw [rowB_iff] at hr
    refine h ?_
    rw [List.getD_eq_getElem?_getD, List.getElem?_eq_getElem hi]
    exact hr.2 _ (List.getElem_mem hi)
theorem rowsB_all {l : List (List Int)} (h1 : 1 ≤ l.length) (h2 : l.length ≤ 256) (h : rowsB l l.length) : rfB l = true := by
  unfold rfB
  rw [decide_eq_true h1, decide_eq_true h2, Bool.true_and, Bool.true_and, List.all_eq_true]
  intro z hz
  obtain ⟨i, hi, rfl⟩ := List.getElem_of_mem hz
  have := h i hi
  rw [List.getD_eq_getElem?_getD, List.getElem?_eq_getElem hi] at this
  exact this
theorem rowsB_not {l : List (List Int)} {i : Nat} (hi : i < l.length) (h : rowB (l.getD i []) = false) : rfB l = false := by
  cases hr : rfB l
  · rfl
  · exfalso
    unfold rfB at hr
    rw [Bool.and_eq_true, List.all_eq_true] at hr
    have := hr.2 _ (List.getElem_mem hi)
    rw [List.getD_eq_getElem?_getD, List.getElem?_eq_getElem hi] at h
    rw [show (some l[i]).getD [] = l[i] from rfl, this] at h
    cases h
theorem nums_at (rs : List RY) (i : Nat) (hi : i < rs.length) : (numsY rs).getD i [] = (rs.getD i ry0).b := by
  unfold numsY
  rw [List.getD_eq_getElem?_getD, List.getD_eq_getElem?_getD, List.getElem?_map, List.getElem?_eq_getElem hi]
  rfl
theorem nums_len (rs : List RY) : (numsY rs).length = rs.length := by simp [numsY]
end Go.Proofs.YtdmnaipngcldbaaDoor.rfP
