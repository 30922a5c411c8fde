/- A region that draws its order, by an invariant over what has come up. No program's numbers. -/
import Derived.Orders
import Derived.RegionTactic
namespace Go.Proofs.Ytbfodmckgjeoaaa.base
set_option maxRecDepth 100000
open Go

def left_ (l : Array Bool) : Nat := (l.toList.filter (fun b => !b)).length
theorem filter_set : ∀ (l : List Bool) (i : Nat), l.getD i true = false → ((l.set i true).filter (fun b => !b)).length < (l.filter (fun b => !b)).length
  | [], i, h => by simp at h
  | b :: l, 0, h => by
    have : b = false := by simpa using h
    subst this
    simp
  | b :: l, i + 1, h => by
    have ih := filter_set l i (by simpa using h)
    cases b <;> simp <;> omega
theorem left_lt {md : Region.Mode} {ops : Array Oper} {l : Array Bool} {i : Nat} (h : i ∈ Region.ready md ops l) : left_ (l.setIfInBounds i true) < left_ l := by
  have h1 : l.getD i true = false := by
    simp only [Region.ready, List.mem_filter, Bool.and_eq_true, Bool.not_eq_true'] at h
    exact h.2.1
  unfold left_
  rw [Array.toList_setIfInBounds]
  exact filter_set _ _ (by simpa [List.getD_eq_getElem?_getD, Array.getD_eq_getD_getElem?] using h1)
/-- What holds ahead of each operation that comes up, whatever the order, holds behind the region. -/
theorem wpAny_inv {P : Program} {md : Region.Mode} {ops : Array Oper} {Q : Exit → Act → World → Prop} (I : Array Bool → Act → World → Prop)
    (hstep : ∀ l a w i, I l a w → i ∈ Region.ready md ops l → wpOp P ops Q i (I (l.setIfInBounds i true)) a w)
    (hend : ∀ l a w, I l a w → Region.ready md ops l = [] → Q .normal a w) :
    ∀ (fuel : Nat) (l : Array Bool) (a : Act) (w : World), I l a w → left_ l ≤ fuel → wpAny P md ops Q fuel l a w
  | 0, l, a, w, h, hf => by
    have hr : Region.ready md ops l = [] := by
      rcases hl : Region.ready md ops l with _ | ⟨i, t⟩
      · rfl
      · have := left_lt (md := md) (ops := ops) (l := l) (i := i) (by rw [hl]; simp)
        omega
    exact ⟨hr, hend _ _ _ h hr⟩
  | fuel + 1, l, a, w, h, hf =>
    ⟨fun hr => hend _ _ _ h hr, fun i hi => wpOp_mono (fun a' w' h' => wpAny_inv I hstep hend fuel _ a' w' h' (by have := left_lt hi; omega)) (hstep l a w i h hi)⟩
end Go.Proofs.Ytbfodmckgjeoaaa.base
