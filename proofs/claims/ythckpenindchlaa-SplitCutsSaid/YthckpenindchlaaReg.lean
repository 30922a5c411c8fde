/- Regions that draw their order: small wrappers. No program's numbers. -/
import Derived.StillTailTactics
import Derived.WalkKit
import Derived.Below
namespace Go.Proofs.Ythckpenindchlaa.base
set_option maxRecDepth 100000
open Go.RowKit

theorem region_still_tail {P : Program} {id : Nat} {Q : Exit → Act → World → Prop} {a : Act} {w : World} {l : List Oper} (n : Nat) (hm : P.follows .mixedOrders = true) (hB : Region.lexTailB .any l.toArray n = true)
    (h : wpStill P l.toArray w.drew (fun a' => wpList P l.toArray Q (l.drop n) a' w.drew) (l.take n) a) : (Code.region id l.toArray true).wp P Q a w :=
  wp_region_still_tail n hm hB h
/-- Behind a callee of which only this is known: what stood before is as it was. -/
theorem below_on {a w w' : World} (k : Below w.heap.size w w') (h : Below a.heap.size a w) : Below a.heap.size a w' := h.trans (k.mono h.size)
theorem below_new {a w : World} (h : Below a.heap.size a w) (o : Obj) : Below a.heap.size a (w.alloc o) := h.alloc h.size o
theorem size_of {a w : World} (h : Below a.heap.size a w) : a.heap.size ≤ w.heap.size := h.size
theorem lay {P Q : Prop} (h : P) (k : P → Q) : Q := k h
theorem turned {P : Program} {f : FuncId} {args : Array Value} {w : World} {v : Value} (h : Calls P f args w fun e w' => e = .returned v ∧ w = w') : Calls P f args w fun e w' => e = .returned v ∧ w' = w :=
  h.mono fun _ _ ⟨he, hw⟩ => ⟨he, hw.symm⟩
/-- A row that is filled from its front. -/
def fill {α : Type} (z : α) (l : List α) (k : Nat) : List α := l.take k ++ List.replicate (l.length - k) z
theorem fill_len {α : Type} {z : α} {l : List α} {k : Nat} (h : k ≤ l.length) : (fill z l k).length = l.length := by simp [fill]; omega
theorem fill_zero {α : Type} {z : α} {l : List α} : fill z l 0 = List.replicate l.length z := by simp [fill]
theorem fill_all {α : Type} {z : α} {l : List α} {k : Nat} (h : l.length ≤ k) : fill z l k = l := by simp [fill, List.take_of_length_le h, Nat.sub_eq_zero_of_le h]
theorem fill_set {α : Type} {z : α} {l : List α} {k : Nat} (h : k < l.length) (d : α) : (fill z l k).set k (l.getD k d) = fill z l (k + 1) := by
  apply List.ext_getElem
  · rw [List.length_set, fill_len (by omega), fill_len (by omega)]
  · intro i h1 h2
    rw [List.length_set, fill_len (by omega)] at h1
    simp only [fill, List.getElem_set, List.getElem_append, List.length_take, List.getElem_take, List.getElem_replicate]
    by_cases c : k = i
    · subst c
      rw [if_pos rfl, dif_pos (by omega)]
      simp [List.getD_eq_getElem?_getD, List.getElem?_eq_getElem h]
    · rw [if_neg c]
      by_cases c2 : i < k
      · rw [dif_pos (by omega), dif_pos (by omega)]
      · rw [dif_neg (by omega), dif_neg (by omega)]
end Go.Proofs.Ythckpenindchlaa.base
