/- A region that draws its order, of which the order is forced from some place on. No program's numbers. -/
import Derived.Orders
import Derived.RegionTactic
namespace Go.Proofs.YtjdgobfjpjnhgaaDoor.base
set_option maxRecDepth 100000
open Go
set_option linter.unusedVariables false

/-- What has come up where the first k have. -/
def pre (n k : Nat) : Array Bool := ((List.range n).map fun j => decide (j < k)).toArray
theorem pre_set {n k : Nat} (h : k < n) : (pre n k).setIfInBounds k true = pre n (k + 1) := by
  apply Array.ext'
  rw [Array.toList_setIfInBounds]
  refine List.ext_getElem (by simp [pre]) fun i h1 h2 => ?_
  simp only [pre, List.getElem_set, List.getElem_map, List.getElem_range]
  split
  · rename_i e
    subst e
    simp
  · rename_i e
    rw [Bool.eq_iff_iff, decide_eq_true_iff, decide_eq_true_iff]; omega
theorem any_lex {P : Program} {md : Region.Mode} {ops : Array Oper} {Q : Exit → Act → World → Prop} : ∀ (m k : Nat), k + m = ops.size → (∀ i, k ≤ i → i < ops.size → Region.ready md ops (pre ops.size i) = [i]) →
    Region.ready md ops (pre ops.size ops.size) = [] → ∀ a w, wpList P ops Q (ops.toList.drop k) a w → wpAny P md ops Q m (pre ops.size k) a w
  | 0, k, hk, h1, h2, a, w, h => by
    obtain rfl : k = ops.size := by omega
    rw [List.drop_of_length_le (by simp)] at h
    exact ⟨h2, h⟩
  | m + 1, k, hk, h1, h2, a, w, h => by
    have hlt : k < ops.size := by omega
    refine wpAny_all (h1 k (Nat.le_refl _) hlt) (by simp) (fun j hj => ?_)
    obtain rfl : j = k := by simpa using hj
    have hl : j < ops.toList.length := by simpa using hlt
    rw [List.drop_eq_getElem_cons hl] at h
    have ho : ops[j]? = some (ops.toList[j]) := by simp [hlt]
    have h3 : wpOp P ops Q j (wpList P ops Q (ops.toList.drop (j + 1))) a w := by
      unfold wpOp
      rw [ho]
      exact h
    rw [pre_set hlt]
    exact wpOp_mono (fun a' w' h' => any_lex m (j + 1) (by omega) (fun i hi hi2 => h1 i (by omega) hi2) h2 a' w' h') h3
theorem any_lex_at {P : Program} {md : Region.Mode} {ops : Array Oper} {Q : Exit → Act → World → Prop} {l : Array Bool} {a : Act} {w : World} (m k : Nat) (hl : l = pre ops.size k) (hk : k + m = ops.size)
    (h1 : ((List.range ops.size).all fun i => decide (i < k) || (Region.ready md ops (pre ops.size i) == [i])) = true) (h2 : Region.ready md ops (pre ops.size ops.size) = []) (h : wpList P ops Q (ops.toList.drop k) a w) : wpAny P md ops Q m l a w := by
  subst hl
  refine any_lex m k hk (fun i hi hi2 => ?_) h2 a w h
  have := List.all_eq_true.1 h1 i (List.mem_range.2 hi2)
  simpa [show ¬ i < k by omega] using this
theorem wpOp_of {P : Program} {ops : Array Oper} {Q : Exit → Act → World → Prop} {i : Nat} {K : Act → World → Prop} {a : Act} {w : World} {o : Oper} (ho : ops[i]? = some o)
    (h : ∀ K' : Act → World → Prop, (∀ a w, K a w → K' a w) → if Region.wanted o (yielded ops a.tmps) = true then Oper.wp P o a w K' Q else K' (a.put o.dst undef) w) : wpOp P ops Q i K a w := by
  have h' := h K (fun _ _ k => k)
  unfold wpOp
  rw [ho]
  simp only
  split
  · rename_i hw
    rw [if_pos hw] at h'
    exact .inl h'
  · rename_i hw
    rw [if_neg hw] at h'
    exact h'
theorem region_named {P : Program} {id : Nat} {ops : Array Oper} {Q : Exit → Act → World → Prop} {a : Act} {w : World} (hm : P.follows .mixedOrders = true)
    (h : ∀ ops' Q', ops' = ops → (∀ a w, Q .normal a w → Q' .normal a w) → wpAny P .any ops' Q' ops'.size (Array.replicate ops'.size false) a w.drew) : (Code.region id ops true).wp P Q a w :=
  wp_region_any hm (h ops Q rfl (fun _ _ h => h))
theorem any_at {P : Program} {md : Region.Mode} {ops : Array Oper} {Q : Exit → Act → World → Prop} {n : Nat} {l l' : Array Bool} {a : Act} {w : World} (hl : l = l') (h : wpAny P md ops Q n l' a w) : wpAny P md ops Q n l a w := hl ▸ h
/-- What several ways come to is shown once. -/
theorem mid {α β : Type} {p : α → β → Prop} {g : Prop} (F : α) (W : β) (paths : p F W → g) (main : p F W) : g := paths main
theorem mid1 {α : Type} {p : α → Prop} {g : Prop} (F : α) (paths : p F → g) (main : p F) : g := paths main
/-- One operation that alone may come up. -/
theorem any_one {P : Program} {md : Region.Mode} {ops : Array Oper} {Q : Exit → Act → World → Prop} {n : Nat} {l : Array Bool} {a : Act} {w : World} (i : Nat) {o : Oper} (hr : Region.ready md ops l = [i]) (ho : ops[i]? = some o) (hw : Region.wanted o (yielded ops a.tmps) = true)
    (h : ∀ K : Act → World → Prop, (∀ a w, wpAny P md ops Q n (l.setIfInBounds i true) a w → K a w) → Oper.wp P o a w K Q) : wpAny P md ops Q (n + 1) l a w := by
  refine wpAny_all hr (by simp) (fun j hj => ?_)
  obtain rfl : j = i := by simpa using hj
  exact wpOp_of ho (fun K' hK => by rw [if_pos hw]; exact h K' hK)
/-- Two that may come up in either order. -/
theorem any_two {P : Program} {md : Region.Mode} {ops : Array Oper} {Q : Exit → Act → World → Prop} {n : Nat} {l : Array Bool} {a : Act} {w : World} (i j : Nat) {o u : Oper} (hr : Region.ready md ops l = [i, j]) (ho : ops[i]? = some o) (hu : ops[j]? = some u) (hw : Region.wanted o (yielded ops a.tmps) = true) (hw2 : Region.wanted u (yielded ops a.tmps) = true)
    (h : ∀ K : Act → World → Prop, (∀ a w, wpAny P md ops Q n (l.setIfInBounds i true) a w → K a w) → Oper.wp P o a w K Q)
    (h2 : ∀ K : Act → World → Prop, (∀ a w, wpAny P md ops Q n (l.setIfInBounds j true) a w → K a w) → Oper.wp P u a w K Q) : wpAny P md ops Q (n + 1) l a w := by
  refine wpAny_all hr (by simp) (fun t ht => ?_)
  have ht : t = i ∨ t = j := by simpa using ht
  rcases ht with rfl | rfl
  · exact wpOp_of ho (fun K' hK => by rw [if_pos hw]; exact h K' hK)
  · exact wpOp_of hu (fun K' hK => by rw [if_pos hw2]; exact h2 K' hK)
/-- A move that may come up is taken first. -/
theorem any_move {P : Program} {md : Region.Mode} {ops : Array Oper} {Q : Exit → Act → World → Prop} {n : Nat} {l : Array Bool} {a : Act} {w : World} (i : Nat) {o : Oper} (x : Operand) (ho : ops[i]? = some o) (hx : o.op = .move x) (hs : Region.noSelect ops = true) (hf : Region.free md ops l i = true) (hr : (Region.ready md ops l).contains i = true)
    (hw : Region.wanted o (yielded ops a.tmps) = true) (hQ : ∀ c a d v w, Q (.panic c) (a.put d v) w → Q (.panic c) a w) (h : wpAny P md ops Q n (l.setIfInBounds i true) (a.put o.dst (a.eval x)) w) : wpAny P md ops Q (n + 1) l a w :=
  wpAny_take ho hs hf hr (fun c a w hh => hQ c a _ _ w hh) (.inl ⟨hw, fun w => by unfold execOp; rw [hx]; rfl⟩) h
end Go.Proofs.YtjdgobfjpjnhgaaDoor.base
