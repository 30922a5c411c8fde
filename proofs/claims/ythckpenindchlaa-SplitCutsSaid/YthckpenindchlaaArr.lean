/- A whole array stored into a variable of its own, as a rule of the walk. Over any program. -/
import Derived.Test.YthckpenindchlaaBase
import Derived.WalkKit
import Derived.ArgAppend
import Derived.Deep.Upon
namespace Go.Proofs.Ythckpenindchlaa.base
set_option maxRecDepth 100000
open Go.RowKit
set_option linter.unusedVariables false

def setMany (cur : Array Value) : Nat → List Value → Array Value
  | _, [] => cur
  | o, v :: r => setMany (cur.setIfInBounds o v) (o + 1) r

theorem setMany_size : ∀ (vs : List Value) (o : Nat) (cur : Array Value), (setMany cur o vs).size = cur.size
  | [], _, _ => rfl
  | v :: r, o, cur => by rw [setMany, setMany_size r]; simp

theorem setMany_get : ∀ (vs : List Value) (o : Nat) (cur : Array Value) (i : Nat), o + vs.length ≤ cur.size → (setMany cur o vs)[i]? = if o ≤ i ∧ i < o + vs.length then vs[i - o]? else cur[i]?
  | [], o, cur, i, _ => by rw [if_neg (by simp only [List.length_nil]; omega)]; rfl
  | v :: r, o, cur, i, h => by
    simp only [List.length_cons] at h
    rw [setMany, setMany_get r (o + 1) _ i (by simp <;> omega)]
    by_cases c : o = i
    · subst c
      rw [if_neg (by omega), if_pos (by simp only [List.length_cons]; omega), Nat.sub_self]
      rw [Array.getElem?_setIfInBounds_self_of_lt (by omega)]
      rfl
    · by_cases d : o + 1 ≤ i ∧ i < o + 1 + r.length
      · rw [if_pos d, if_pos (by simp only [List.length_cons]; omega), show i - o = (i - (o + 1)) + 1 from by omega, List.getElem?_cons_succ]
      · rw [if_neg d, if_neg (by simp only [List.length_cons]; omega), Array.getElem?_setIfInBounds_ne c]

theorem setMany_all (cur cs : Array Value) (h : cur.size = cs.size) : setMany cur 0 cs.toList = cs := by
  apply Array.ext_getElem?
  intro i
  rw [setMany_get _ _ _ _ (by simp [h])]
  by_cases c : i < cs.size
  · rw [if_pos (by simp; omega)]; simp
  · rw [if_neg (by simp; omega), Array.getElem?_eq_none (by omega), Array.getElem?_eq_none (by omega)]

theorem heap_setCells_row (g : Nat) (t : TypeId) : ∀ (vs : List Value) (o : Nat) (w : World) (cur : Array Value), w.heap[g]? = some (.cells cur t (0, 0)) → (w.setCells g o vs).heap[g]? = some (.cells (setMany cur o vs) t (0, 0))
  | [], _, _, _, h => h
  | v :: r, o, w, cur, h => by
    rw [World.setCells, setMany]
    exact heap_setCells_row g t r (o + 1) _ _ (heap_setCell_same w g o cur t v h)

theorem below_cells {B : Nat} {a : World} (g : Nat) (hg : B ≤ g) : ∀ (vs : List Value) (o : Nat) {w : World}, Below B a w → Below B a (w.setCells g o vs)
  | [], _, _, h => h
  | v :: r, o, w, h => below_cells g hg r (o + 1) (h.setCell (p := ⟨g, o, none⟩) hg v)
theorem size_cells (g : Nat) : ∀ (vs : List Value) (o : Nat) (w : World), (w.setCells g o vs).heap.size = w.heap.size
  | [], _, _ => rfl
  | v :: r, o, w => by rw [World.setCells, size_cells g r]; simp [World.setCell]

theorem run_storeVar_row {P : Program} (w : World) (g : Nat) (t ty : TypeId) (old cs : Array Value) (hg : w.heap[g]? = some (.cells old t (0, 0))) (hs : old.size = cs.size) (h1 : ∀ v ∈ cs.toList, v.oneCell' = true)
    (hi : (P.info? ty).map (·.size) = some cs.size) :
    (storeVar ty ⟨g, 0, none⟩ (.agg cs)).run P w = .ok () (w.setCells g 0 cs.toList) := by
  obtain ⟨i, hi1, hi2⟩ := Option.map_eq_some_iff.1 hi
  have hc : ∀ j, j < cs.toList.length → (w.cell? ⟨g, 0 + 0 + j, none⟩).isSome = true := by
    intro j hj
    rw [cell_of_row w g _ _ _ _ hg]
    simp at hj ⊢
    omega
  have hf : ∀ j, j < cs.toList.length → w.frozen? ⟨g, 0 + 0 + j, none⟩ = false := fun j _ => frozen_of_row w g _ _ _ hg
  have hst := run_storeCells_cells (P := P) g 0 cs.toList 0 w hc hf h1
  unfold storeVar
  simp only [Value.cells]
  simp [sizeOf, typeInfo, hi1, hi2, hst]

theorem wpList_store_arr {P : Program} {ops : Array Oper} {rest : List Oper} {o : Oper} {a : Act} {w : World} {Q : Exit → Act → World → Prop} (hgd : o.guard = none) (ty : TypeId) (p x : Operand) (ho : o.op = .store ty p x)
    (g : Nat) (hp : a.eval p = .pointer (some ⟨g, 0, none⟩)) (cs : Array Value) (hx : a.eval x = .agg cs) (t : TypeId) (old : Array Value) (hg : w.heap[g]? = some (.cells old t (0, 0))) (hs : old.size = cs.size) (h1 : ∀ v ∈ cs.toList, v.oneCell' = true)
    (hi : (P.info? ty).map (·.size) = some cs.size)
    (h : ∀ w', w'.heap[g]? = some (.cells cs t (0, 0)) → Below g w w' → w'.heap.size = w.heap.size → wpList P ops Q rest (a.put o.dst undef) w') : wpList P ops Q (o :: rest) a w := by
  refine wpList_plain hgd fun K hK => ?_
  have hr := run_storeVar_row (P := P) w g t ty old cs hg hs h1 hi
  have hh := heap_setCells_row g t cs.toList 0 w old hg
  rw [setMany_all old cs hs] at hh
  have := hK _ _ (h _ hh (below_cells g (Nat.le_refl _) cs.toList 0 (Below.refl _ _)) (size_cells g _ _ _))
  unfold Oper.wp execOp
  simp only [ho, hp, hx, Instr.storeAt, Instr.sureAddr, Sem.run_bind, Sem.run_pure, Result.andThen_ok, hr]
  exact this
end Go.Proofs.Ythckpenindchlaa.base
