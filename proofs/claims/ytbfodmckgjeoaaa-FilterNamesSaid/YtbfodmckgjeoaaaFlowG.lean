/- The region flow with guards that are all met. No program's numbers. -/
import Derived.Test.YtbfodmckgjeoaaaFlow
namespace Go.Proofs.Ytbfodmckgjeoaaa.base
set_option maxRecDepth 100000
open Go Go.RowKit
set_option linter.unusedVariables false
section
variable {P : Program} {ops : Array Oper} {Q : Exit → Act → World → Prop}
theorem fl_keep (vals : Nat → Value) (d : Nat) : ∀ (L : List Oper) (k : Nat) (a : Act), fresh (some d) L = true → (fl vals L k a).tmps[d]? = a.tmps[d]?
  | [], _, _, _ => rfl
  | o :: r, k, a, h => by
    obtain ⟨h1, h2⟩ := fresh_spec h
    show (fl vals r (k + 1) (a.put o.dst (vals k))).tmps[d]? = _
    rw [fl_keep vals d r (k + 1) _ h2]
    cases ho : o.dst with
    | none => rfl
    | some x =>
      have hx : x ≠ d := fun hh => h1 x ho (by rw [hh])
      unfold Act.put
      simp [Array.getElem?_setIfInBounds_ne hx]
theorem put_size (a : Act) (d : Option Tmp) (v : Value) : (a.put d v).tmps.size = a.tmps.size := by
  cases d with
  | none => rfl
  | some d => unfold Act.put; simp
theorem fl_at (vals : Nat → Value) : ∀ (L : List Oper) (k i : Nat) (a : Act) (o : Oper) (d : Nat), apartAll L = true → L[i]? = some o → o.dst = some d → d < a.tmps.size → (fl vals L k a).tmps[d]? = some (vals (k + i))
  | [], _, _, _, _, _, _, h, _, _ => by simp at h
  | o' :: r, k, 0, a, o, d, ha, h, hd, hs => by
    have e : o' = o := by simpa using h
    subst e
    unfold apartAll at ha
    rw [Bool.and_eq_true] at ha
    show (fl vals r (k + 1) (a.put o'.dst (vals k))).tmps[d]? = _
    rw [hd] at ha ⊢
    rw [fl_keep vals d r (k + 1) _ ha.1]
    unfold Act.put
    simp [hs]
  | o' :: r, k, i + 1, a, o, d, ha, h, hd, hs => by
    unfold apartAll at ha
    rw [Bool.and_eq_true] at ha
    show (fl vals r (k + 1) (a.put o'.dst (vals k))).tmps[d]? = _
    rw [fl_at vals r (k + 1) i _ o d ha.2 (by simpa using h) hd (by rw [put_size]; exact hs), show k + 1 + i = k + (i + 1) by omega]
/-- All of them are named earlier, the guard, too. -/
def earlyG (L : List Oper) (n : Nat) : Bool := (List.range L.length).all fun i => match L[i]? with
  | some o => (match o.guard with | none => true | some (g, b) => b && (depsL o).contains g && (match (L[g]?).bind (·.dst) with | some d => decide (d < n) | none => false)) && (depsL o).all fun d => decide (d < i)
  | none => true
theorem earlyG_spec {L : List Oper} {n : Nat} (h : earlyG L n = true) {i : Nat} {o : Oper} (ho : L[i]? = some o) : (o.guard = none ∨ ∃ g, o.guard = some (g, true) ∧ g ∈ depsL o ∧ ∃ u d, L[g]? = some u ∧ u.dst = some d ∧ d < n) ∧ ∀ d ∈ depsL o, d < i := by
  have hi : i < L.length := by
    rcases Nat.lt_or_ge i L.length with h | h
    · exact h
    · rw [List.getElem?_eq_none h] at ho; cases ho
  unfold earlyG at h
  rw [List.all_eq_true] at h
  have := h i (List.mem_range.2 hi)
  rw [ho] at this
  simp only [Bool.and_eq_true, List.all_eq_true, decide_eq_true_eq] at this
  refine ⟨?_, this.2⟩
  have h1 := this.1
  cases hg : o.guard with
  | none => exact .inl rfl
  | some gb =>
    obtain ⟨g, b⟩ := gb
    rw [hg] at h1
    simp only [Bool.and_eq_true] at h1
    obtain ⟨⟨hb, hm⟩, hd⟩ := h1
    right
    refine ⟨g, by rw [hb], by simpa using hm, ?_⟩
    cases hu : L[g]? with
    | none => rw [hu] at hd; simp at hd
    | some u =>
      rw [hu] at hd
      cases hx : u.dst with
      | none => simp [hx] at hd
      | some d => exact ⟨u, d, rfl, hx, by simpa [hx] using hd⟩
/-- This operation's value decides whether others are wanted. -/
def guards (L : List Oper) (g : Nat) : Bool := L.any fun o => match o.guard with | some (j, _) => j == g | none => false
theorem guards_of {L : List Oper} {i g : Nat} {o : Oper} {b : Bool} (ho : L[i]? = some o) (hg : o.guard = some (g, b)) : guards L g = true := by
  unfold guards
  rw [List.any_eq_true]
  exact ⟨o, List.mem_of_getElem? ho, by rw [hg]; simp⟩
theorem all_listedG {n : Nat} {l : Array Bool} (hL : earlyG ops.toList n = true) (hs : l.size = ops.size) (h : Region.ready .any ops l = []) : ∀ i, i < ops.size → l.getD i true = true := by
  intro i
  induction i using Nat.strongRecOn with
  | ind i ih =>
    intro hi
    cases hl : l.getD i true
    · exfalso
      obtain ⟨o, ho⟩ : ∃ o, ops[i]? = some o := ⟨ops[i], by simp [hi]⟩
      have hd := (earlyG_spec hL (o := o) (i := i) (by rw [Array.getElem?_toList]; exact ho)).2
      have : i ∈ Region.ready .any ops l := by
        unfold Region.ready
        rw [List.mem_filter, List.mem_range, Bool.and_eq_true, Bool.not_eq_true']
        refine ⟨hi, hl, ?_⟩
        rw [ho]
        simp only [Option.map_some, Option.getD_some, Array.all_eq_true', Bool.or_eq_true, Bool.not_eq_true']
        intro e he
        cases hb : Region.binds .any e
        · exact .inl rfl
        · right
          have hm : e.on ∈ depsL o := List.mem_map.2 ⟨e, List.mem_filter.2 ⟨by simpa using he, hb⟩, rfl⟩
          have h1 := hd _ hm
          have h2 := ih e.on h1 (by omega)
          rw [Array.getD_eq_getD_getElem?] at h2 ⊢
          rw [Array.getElem?_eq_getElem (by omega)] at h2 ⊢
          exact h2
      rw [h] at this
      cases this
    · rfl
/-- The region flow; an operation that guards others yields true. -/
theorem region_flowG {id : Nat} {a : Act} {w : World} (Φ : Nat → Value → World → Prop) (keep : ∀ i v w w', Grows w w' → Φ i v w → Φ i v w') (hm : P.follows .mixedOrders = true) {n : Nat} (hn : a.tmps.size = n)
    (h1 : apartAll ops.toList = true) (h2 : earlyG ops.toList n = true)
    (grd : ∀ g v w, guards ops.toList g = true → Φ g v w → v = .bool true)
    (steps : FlowSteps P Q ops.toList a Φ w ops.toList 0)
    (fin : ∀ vals W, Grows w W → (∀ i, i < ops.size → Φ i (vals i) W) → Q .normal (fl vals ops.toList 0 a) W) : (Code.region id ops true).wp P Q a w := by
  have R : ∀ {x y z : World}, Grows x y → Grows y z → Grows x z := fun h1 h2 => Below.trans h1 (h2.mono h1.size)
  refine wp_region_any hm (wpAny_inv (fun l b W => ∃ vals, b = fl vals ops.toList 0 a ∧ Grows w W ∧ l.size = ops.size ∧ ∀ i, i < ops.size → l.getD i true = true → Φ i (vals i) W) (fun l b W i hI hi => ?_) (fun l b W hI hr => ?_) _ _ _ _ ?_ ?_)
  · obtain ⟨vals, rfl, hW, hs, hall⟩ := hI
    obtain ⟨hi1, hi2, o, ho, hd⟩ := ready_spec hi
    have hoL : ops.toList[i]? = some o := by rw [Array.getElem?_toList]; exact ho
    obtain ⟨hg, hlt⟩ := earlyG_spec h2 hoL
    have hdeps : ∀ d ∈ depsL o, Φ d (vals d) W := fun d hd' => by
      have := hd d hd'
      have hdi := hlt d hd'
      refine hall d (by omega) ?_
      rw [Array.getD_eq_getD_getElem?] at this ⊢
      rw [Array.getElem?_eq_getElem (by omega)] at this ⊢
      exact this
    have hw : Region.wanted o (yielded ops (fl vals ops.toList 0 a).tmps) = true := by
      rcases hg with hg | ⟨g, hg, hmem, u, d, hu, hud, hdn⟩
      · unfold Region.wanted; rw [hg]
      · have hv := grd g _ _ (guards_of hoL hg) (hdeps g hmem)
        have hx := fl_at vals ops.toList 0 g a u d h1 hu hud (by rw [hn]; exact hdn)
        have hu' : ops[g]? = some u := by rw [← Array.getElem?_toList]; exact hu
        have hy : yielded ops (fl vals ops.toList 0 a).tmps g = some true := by
          unfold yielded
          rw [hu', Option.bind_some, hud, Option.bind_some, hx, Nat.zero_add, hv]
        unfold Region.wanted
        rw [hg]
        show (yielded ops (fl vals ops.toList 0 a).tmps g == some true) = true
        rw [hy]; rfl
    refine wpOp_wanted ho hw ?_
    refine FlowSteps.get ops.toList 0 i o steps hoL vals W hW hdeps _ (fun v W' hWW hv => ?_)
    refine ⟨fun j => if j = i then v else vals j, ?_, R hW hWW, by rw [Array.size_setIfInBounds]; exact hs, fun j hj hl => ?_⟩
    · rw [put_fl vals v ops.toList 0 i a o h1 hoL]
      exact fl_congr _ _ _ fun j _ => by rw [Nat.zero_add]
    · show Φ j (if j = i then v else vals j) W'
      by_cases hji : j = i
      · subst hji
        rw [if_pos rfl]
        rwa [Nat.zero_add] at hv
      · rw [if_neg hji]
        refine keep j _ W W' hWW (hall j hj ?_)
        rw [Array.getD_eq_getD_getElem?, Array.getElem?_setIfInBounds_ne (Ne.symm hji), ← Array.getD_eq_getD_getElem?] at hl
        exact hl
  · obtain ⟨vals, rfl, hW, hs, hall⟩ := hI
    exact fin vals W hW fun i hi => hall i hi (all_listedG h2 hs hr i hi)
  · obtain ⟨vals, hv⟩ := fl_self ops.toList 0 a
    refine ⟨vals, hv.symm, Below.drew (Below.refl _ _), by simp, fun i hi hl => ?_⟩
    rw [Array.getD_eq_getD_getElem?] at hl
    simp [hi] at hl
  · unfold left_
    simp
/-- The operations that guard others are among these. -/
def guardsIn (L : List Oper) (gs : List Nat) : Bool := L.all fun o => match o.guard with | some (j, _) => gs.contains j | none => true
theorem guardsIn_spec {L : List Oper} {gs : List Nat} (h : guardsIn L gs = true) {g : Nat} (hg : guards L g = true) : g ∈ gs := by
  unfold guards at hg
  obtain ⟨o, ho, hx⟩ := List.any_eq_true.1 hg
  have := List.all_eq_true.1 h o ho
  cases hgd : o.guard with
  | none => rw [hgd] at hx; cases hx
  | some gb =>
    obtain ⟨j, b⟩ := gb
    rw [hgd] at hx this
    obtain rfl : j = g := by simpa using hx
    simpa using this
theorem region_flowL {id : Nat} {a : Act} {w : World} (Φ : Nat → Value → World → Prop) (gs : List Nat) (n : Nat) (keep : ∀ i v w w', Grows w w' → Φ i v w → Φ i v w') (hm : P.follows .mixedOrders = true) (hn : a.tmps.size = n)
    (h1 : apartAll ops.toList = true) (h2 : earlyG ops.toList n = true) (h3 : guardsIn ops.toList gs = true)
    (grd : ∀ g ∈ gs, ∀ v w, Φ g v w → v = .bool true)
    (steps : FlowSteps P Q ops.toList a Φ w ops.toList 0)
    (fin : ∀ vals W, Grows w W → (∀ i, i < ops.size → Φ i (vals i) W) → Q .normal (fl vals ops.toList 0 a) W) : (Code.region id ops true).wp P Q a w :=
  region_flowG Φ keep hm hn h1 h2 (fun g v w hg h => grd g (guardsIn_spec h3 hg) v w h) steps fin
end
end Go.Proofs.Ytbfodmckgjeoaaa.base
