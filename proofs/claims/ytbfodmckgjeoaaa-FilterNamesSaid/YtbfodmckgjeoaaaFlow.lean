/- A region that draws its order, when what its operations make is only known by facts that last: each operation is walked once, behind whatever order. No program's numbers. -/
import Derived.Test.YtbfodmckgjeoaaaInv
import Derived.Test.YtbfodmckgjeoaaaOrd
namespace Go.Proofs.Ytbfodmckgjeoaaa.base
set_option maxRecDepth 100000
open Go Go.RowKit
set_option linter.unusedVariables false
section
variable {P : Program} {ops : Array Oper} {Q : Exit → Act → World → Prop}

/-- The act in which operation k has left the k-th value. -/
def fl (vals : Nat → Value) : List Oper → Nat → Act → Act
  | [], _, a => a
  | o :: r, k, a => fl vals r (k + 1) (a.put o.dst (vals k))
theorem fl_congr {f g : Nat → Value} : ∀ (L : List Oper) (k : Nat) (a : Act), (∀ j, k ≤ j → f j = g j) → fl f L k a = fl g L k a
  | [], _, _, _ => rfl
  | o :: r, k, a, h => by
    show fl f r (k + 1) (a.put o.dst (f k)) = fl g r (k + 1) (a.put o.dst (g k))
    rw [h k (Nat.le_refl _)]
    exact fl_congr r (k + 1) _ fun j hj => h j (by omega)
theorem put_self (a : Act) (d : Option Tmp) : ∃ v, a.put d v = a := by
  cases d with
  | none => exact ⟨undef, rfl⟩
  | some d =>
    by_cases hd : d < a.tmps.size
    · refine ⟨a.tmps[d], ?_⟩
      unfold Act.put
      simp [Array.setIfInBounds, hd]
    · refine ⟨undef, ?_⟩
      unfold Act.put
      simp [Array.setIfInBounds, hd]
theorem fl_self : ∀ (L : List Oper) (k : Nat) (a : Act), ∃ vals, fl vals L k a = a
  | [], _, _ => ⟨fun _ => undef, rfl⟩
  | o :: r, k, a => by
    obtain ⟨v, hv⟩ := put_self a o.dst
    obtain ⟨f, hf⟩ := fl_self r (k + 1) a
    refine ⟨fun j => if j = k then v else f j, ?_⟩
    show fl _ r (k + 1) (a.put o.dst (if k = k then v else f k)) = a
    rw [if_pos rfl, hv]
    refine (fl_congr r (k + 1) a fun j hj => ?_).trans hf
    rw [if_neg (by omega)]
/-- The operation's slot is no slot of these. -/
def fresh (d : Option Tmp) (L : List Oper) : Bool := L.all fun o => match d, o.dst with | some x, some y => x != y | _, _ => true
def apartAll : List Oper → Bool
  | [] => true
  | o :: r => fresh o.dst r && apartAll r
theorem fresh_spec {d : Option Tmp} {o : Oper} {r : List Oper} (h : fresh d (o :: r) = true) : (∀ x, o.dst = some x → d ≠ some x) ∧ fresh d r = true := by
  unfold fresh at h ⊢
  rw [List.all_cons, Bool.and_eq_true] at h
  refine ⟨fun x hx hd => ?_, h.2⟩
  subst hd
  rw [hx] at h
  simp at h
theorem put_past (vals : Nat → Value) (d : Option Tmp) (v : Value) : ∀ (L : List Oper) (k : Nat) (a : Act), fresh d L = true → (fl vals L k a).put d v = fl vals L k (a.put d v)
  | [], _, _, _ => rfl
  | o :: r, k, a, h => by
    obtain ⟨h1, h2⟩ := fresh_spec h
    show (fl vals r (k + 1) (a.put o.dst (vals k))).put d v = fl vals r (k + 1) ((a.put d v).put o.dst (vals k))
    rw [put_past vals d v r (k + 1) _ h2, Act.put_comm a _ _ h1]
theorem put_put (a : Act) (d : Option Tmp) (v u : Value) : (a.put d v).put d u = a.put d u := by
  cases d with
  | none => rfl
  | some d => unfold Act.put; simp
theorem put_fl (vals : Nat → Value) (v : Value) : ∀ (L : List Oper) (k i : Nat) (a : Act) (o : Oper), apartAll L = true → L[i]? = some o → (fl vals L k a).put o.dst v = fl (fun j => if j = k + i then v else vals j) L k a
  | [], _, _, _, _, _, h => by simp at h
  | o' :: r, k, 0, a, o, ha, h => by
    have e : o' = o := by simpa using h
    subst e
    unfold apartAll at ha
    rw [Bool.and_eq_true] at ha
    show (fl vals r (k + 1) (a.put o'.dst (vals k))).put o'.dst v = fl _ r (k + 1) (a.put o'.dst (if k = k + 0 then v else vals k))
    rw [put_past vals _ _ r (k + 1) _ ha.1, put_put, if_pos (by omega)]
    exact fl_congr r (k + 1) _ fun j hj => by rw [if_neg (by omega)]
  | o' :: r, k, i + 1, a, o, ha, h => by
    unfold apartAll at ha
    rw [Bool.and_eq_true] at ha
    have h' : r[i]? = some o := by simpa using h
    show (fl vals r (k + 1) (a.put o'.dst (vals k))).put o.dst v = fl _ r (k + 1) (a.put o'.dst (if k = k + (i + 1) then v else vals k))
    rw [put_fl vals v r (k + 1) i _ o ha.2 h', if_neg (by omega)]
    exact fl_congr r (k + 1) _ fun j hj => by rw [show k + 1 + i = k + (i + 1) by omega]
/-- What must have come up ahead of an operation, in whatever order. -/
def depsL (o : Oper) : List Nat := (o.after.toList.filter (Region.binds .any)).map (·.on)
/-- All of them are named earlier. -/
def early (L : List Oper) : Bool := (List.range L.length).all fun i => match L[i]? with | some o => o.guard.isNone && (depsL o).all fun d => decide (d < i) | none => true
theorem early_spec {L : List Oper} (h : early L = true) {i : Nat} {o : Oper} (ho : L[i]? = some o) : o.guard = none ∧ ∀ d ∈ depsL o, d < i := by
  have hi : i < L.length := by
    rcases Nat.lt_or_ge i L.length with h | h
    · exact h
    · rw [List.getElem?_eq_none h] at ho; cases ho
  unfold early at h
  rw [List.all_eq_true] at h
  have := h i (List.mem_range.2 hi)
  rw [ho] at this
  simp only [Bool.and_eq_true, List.all_eq_true, decide_eq_true_eq] at this
  exact ⟨by simpa using this.1, this.2⟩
theorem ready_spec {l : Array Bool} {i : Nat} (h : i ∈ Region.ready .any ops l) : i < ops.size ∧ l.getD i true = false ∧ ∃ o, ops[i]? = some o ∧ ∀ d ∈ depsL o, l.getD d false = true := by
  unfold Region.ready at h
  rw [List.mem_filter, List.mem_range, Bool.and_eq_true, Bool.not_eq_true'] at h
  obtain ⟨h1, h2, h3⟩ := h
  refine ⟨h1, h2, ?_⟩
  cases ho : ops[i]? with
  | none => rw [ho] at h3; simp at h3
  | some o =>
    rw [ho] at h3
    refine ⟨o, rfl, fun d hd => ?_⟩
    simp only [Option.map_some, Option.getD_some, Array.all_eq_true', Bool.or_eq_true, Bool.not_eq_true'] at h3
    unfold depsL at hd
    obtain ⟨e, he, rfl⟩ := List.mem_map.1 hd
    obtain ⟨he1, he2⟩ := List.mem_filter.1 he
    rcases h3 e (by simpa using he1) with h | h
    · rw [h] at he2; cases he2
    · exact h
theorem all_listed {l : Array Bool} (hL : early ops.toList = true) (hs : l.size = ops.size) (h : Region.ready .any ops l = []) : ∀ i, i < ops.size → l.getD i true = true := by
  intro i
  induction i using Nat.strongRecOn with
  | ind i ih =>
    intro hi
    cases hl : l.getD i true
    · exfalso
      obtain ⟨o, ho⟩ : ∃ o, ops[i]? = some o := ⟨ops[i], by simp [hi]⟩
      have hd := (early_spec hL (o := o) (i := i) (by rw [Array.getElem?_toList]; exact ho)).2
      have : i ∈ Region.ready .any ops l := by
        unfold Region.ready
        rw [List.mem_filter, List.mem_range, Bool.and_eq_true, Bool.not_eq_true']
        refine ⟨hi, hl, ?_⟩
        rw [ho]
        simp only [Option.map_some, Option.getD_some, Array.all_eq_true', Bool.or_eq_true, Bool.not_eq_true']
        intro e he
        cases hb : Region.binds .any e
        · exact .inl rfl
        · right
          have hm : e.on ∈ depsL o := List.mem_map.2 ⟨e, List.mem_filter.2 ⟨by simpa using he, hb⟩, rfl⟩
          have h1 := hd _ hm
          have h2 := ih e.on h1 (by omega)
          rw [Array.getD_eq_getD_getElem?] at h2 ⊢
          rw [Array.getElem?_eq_getElem (by omega)] at h2 ⊢
          exact h2
      rw [h] at this
      cases this
    · rfl
/-- Each operation, behind whatever order: facts of what it waits for give its own fact. -/
def FlowSteps (P : Program) (Q : Exit → Act → World → Prop) (L : List Oper) (a : Act) (Φ : Nat → Value → World → Prop) (w : World) : List Oper → Nat → Prop
  | [], _ => True
  | o :: r, k => (∀ (vals : Nat → Value) (W : World), Grows w W → (∀ d ∈ depsL o, Φ d (vals d) W) → ∀ K : Act → World → Prop, (∀ v W', Grows W W' → Φ k v W' → K ((fl vals L 0 a).put o.dst v) W') → o.wp P (fl vals L 0 a) W K Q) ∧ FlowSteps P Q L a Φ w r (k + 1)
theorem FlowSteps.get {L : List Oper} {a : Act} {Φ : Nat → Value → World → Prop} {w : World} : ∀ (r : List Oper) (k i : Nat) (o : Oper), FlowSteps P Q L a Φ w r k → r[i]? = some o →
    ∀ (vals : Nat → Value) (W : World), Grows w W → (∀ d ∈ depsL o, Φ d (vals d) W) → ∀ K : Act → World → Prop, (∀ v W', Grows W W' → Φ (k + i) v W' → K ((fl vals L 0 a).put o.dst v) W') → o.wp P (fl vals L 0 a) W K Q
  | [], _, _, _, _, h => by simp at h
  | o' :: r, k, 0, o, hf, h => by
    have e : o' = o := by simpa using h
    subst e
    exact hf.1
  | o' :: r, k, i + 1, o, hf, h => by
    have := FlowSteps.get r (k + 1) i o hf.2 (by simpa using h)
    rw [show k + 1 + i = k + (i + 1) by omega] at this
    exact this
theorem region_flow {id : Nat} {a : Act} {w : World} (Φ : Nat → Value → World → Prop) (keep : ∀ i v w w', Grows w w' → Φ i v w → Φ i v w') (hm : P.follows .mixedOrders = true)
    (h1 : apartAll ops.toList = true) (h2 : early ops.toList = true)
    (steps : FlowSteps P Q ops.toList a Φ w ops.toList 0)
    (fin : ∀ vals W, Grows w W → (∀ i, i < ops.size → Φ i (vals i) W) → Q .normal (fl vals ops.toList 0 a) W) : (Code.region id ops true).wp P Q a w := by
  have R : ∀ {x y z : World}, Grows x y → Grows y z → Grows x z := fun h1 h2 => Below.trans h1 (h2.mono h1.size)
  refine wp_region_any hm (wpAny_inv (fun l b W => ∃ vals, b = fl vals ops.toList 0 a ∧ Grows w W ∧ l.size = ops.size ∧ ∀ i, i < ops.size → l.getD i true = true → Φ i (vals i) W) (fun l b W i hI hi => ?_) (fun l b W hI hr => ?_) _ _ _ _ ?_ ?_)
  · obtain ⟨vals, rfl, hW, hs, hall⟩ := hI
    obtain ⟨hi1, hi2, o, ho, hd⟩ := ready_spec hi
    have hoL : ops.toList[i]? = some o := by rw [Array.getElem?_toList]; exact ho
    obtain ⟨hg, hlt⟩ := early_spec h2 hoL
    refine wpOp_wanted ho (by unfold Region.wanted; rw [hg]) ?_
    refine FlowSteps.get ops.toList 0 i o steps hoL vals W hW (fun d hd' => ?_) _ (fun v W' hWW hv => ?_)
    · have := hd d hd'
      have hdi := hlt d hd'
      refine hall d (by omega) ?_
      rw [Array.getD_eq_getD_getElem?] at this ⊢
      rw [Array.getElem?_eq_getElem (by omega)] at this ⊢
      exact this
    · refine ⟨fun j => if j = i then v else vals j, ?_, R hW hWW, by rw [Array.size_setIfInBounds]; exact hs, fun j hj hl => ?_⟩
      · rw [put_fl vals v ops.toList 0 i a o h1 hoL]
        exact fl_congr _ _ _ fun j _ => by rw [Nat.zero_add]
      · show Φ j (if j = i then v else vals j) W'
        by_cases hji : j = i
        · subst hji
          rw [if_pos rfl]
          rwa [Nat.zero_add] at hv
        · rw [if_neg hji]
          refine keep j _ W W' hWW (hall j hj ?_)
          rw [Array.getD_eq_getD_getElem?, Array.getElem?_setIfInBounds_ne (Ne.symm hji), ← Array.getD_eq_getD_getElem?] at hl
          exact hl
  · obtain ⟨vals, rfl, hW, hs, hall⟩ := hI
    exact fin vals W hW fun i hi => hall i hi (all_listed h2 hs hr i hi)
  · obtain ⟨vals, hv⟩ := fl_self ops.toList 0 a
    refine ⟨vals, hv.symm, Below.drew (Below.refl _ _), by simp, fun i hi hl => ?_⟩
    rw [Array.getD_eq_getD_getElem?] at hl
    simp [hi] at hl
  · unfold left_
    simp
end
end Go.Proofs.Ytbfodmckgjeoaaa.base
