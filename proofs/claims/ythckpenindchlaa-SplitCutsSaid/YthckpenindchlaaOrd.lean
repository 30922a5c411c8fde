/- A region that draws its order: what only reads is taken first, what changes the world comes up in the orders that are left. No program's numbers. -/
import Derived.OrdersHeld
import Derived.Deep.QuietTactic
import Derived.BigQuiet
import Derived.Below
import Derived.StillTail
import Derived.Deep.RegionHeld3
namespace Go.Proofs.Ythckpenindchlaa.base
set_option maxRecDepth 100000
open Go Go.RowKit
set_option linter.unusedVariables false

section
variable {P : Program} {ops : Array Oper} {Q : Exit → Act → World → Prop} {md : Region.Mode} {S : World → Prop} {G : World → World → Prop}

/-- In state a, in every world that meets S, the operation yields v; a call leaves a world that G leads to. -/
def QuietG (P : Program) (ops : Array Oper) (S : World → Prop) (G : World → World → Prop) (o : Oper) (v : Value) (a : Act) : Prop :=
  (Region.wanted o (yielded ops a.tmps) = true ∧ ∀ w, S w → o.quietAt P a (G w) w v) ∨ (Region.wanted o (yielded ops a.tmps) = false ∧ v = undef)
/-- What is asked of S and G. -/
structure Roads (S : World → Prop) (G : World → World → Prop) : Prop where
  refl : ∀ w, G w w
  trans : ∀ {a b c}, G a b → G b c → G a c
  keep : ∀ {a b}, G a b → S a → S b

theorem QuietG.wpOp (R : Roads S G) {i : Nat} {o : Oper} {v : Value} {a : Act} (hi : ops[i]? = some o) (hy : QuietG P ops S G o v a)
    {K : Act → World → Prop} {w : World} (hS : S w) (h : ∀ W, G w W → K (a.put o.dst v) W) : wpOp P ops Q i K a w := by
  unfold Go.wpOp
  simp only [hi]
  rcases hy with ⟨hw, hv⟩ | ⟨hw, rfl⟩
  · simp only [hw, if_true]
    left
    have hv := hv w hS
    unfold Oper.quietAt at hv
    unfold Oper.wp
    generalize (execOp a.eval o).run P w = r at *
    cases r with
    | ok n w' =>
      cases n <;> simp only [Oper.quietUpon] at hv <;> simp only [Oper.upon]
      case value u => obtain ⟨rfl, rfl⟩ := hv; exact h _ (R.refl _)
      case skip => obtain ⟨rfl, rfl⟩ := hv; exact h _ (R.refl _)
      case enter f args =>
        obtain ⟨rfl, hc⟩ := hv
        exact hc.mono fun e w'' ⟨he, hg⟩ => by subst he; exact h _ hg
    | halt x w' => simp only [Oper.quietUpon] at hv
  · simp only [hw, Bool.false_eq_true, if_false]; exact h _ (R.refl _)
theorem QuietG.of_same {o : Oper} {v : Value} {a a' : Act} (hy : QuietG P ops S G o v a) (he : execOp a'.eval o = execOp a.eval o)
    (hw : Region.wanted o (yielded ops a'.tmps) = Region.wanted o (yielded ops a.tmps)) : QuietG P ops S G o v a' := by
  unfold QuietG Oper.quietAt at *
  rw [he, hw]
  exact hy
theorem wpOp_putG {j : Nat} {oi oj : Oper} {v : Value} (hj : ops[j]? = some oj) (hap : oi.apart ops oj = true)
    (hsi : ∀ cs b, oi.op ≠ .select cs b) (hsj : ∀ cs b, oj.op ≠ .select cs b)
    (hQ : ∀ c a w, Q (.panic c) (a.put oi.dst v) w → Q (.panic c) a w) {K : Act → World → Prop} {a : Act} {w : World}
    (hy : QuietG P ops S G oi v a) (h : wpOp P ops Q j K (a.put oi.dst v) w) :
    wpOp P ops Q j (fun a' w' => QuietG P ops S G oi v a' ∧ K (a'.put oi.dst v) w') a w := by
  obtain ⟨h1, h2, h3⟩ := Oper.apart_spec hap
  have keep : ∀ (a : Act), QuietG P ops S G oi v a → ∀ u, QuietG P ops S G oi v (a.put oj.dst u) := fun a hy u =>
    hy.of_same (execOp_put oi hsi a oj.dst u h3) (wanted_put oi a oj.dst u h3)
  have keepD : ∀ d, QuietG P ops S G oi v { a with defers := d :: a.defers } := fun d => hy.of_same rfl rfl
  unfold wpOp at *
  simp only [hj] at *
  rw [wanted_put oj a oi.dst v h1] at h
  split
  · rename_i hw
    simp only [hw, if_true] at h
    rcases h with h | ⟨hasks, hlets⟩
    case inr => exact .inr ⟨by unfold Oper.asks at *; rw [execOp_put oj hsj a oi.dst v h1] at hasks; exact hasks, hlets⟩
    refine .inl ?_
    unfold Oper.wp at *
    rw [execOp_put oj hsj a oi.dst v h1] at h
    generalize (execOp a.eval oj).run P w = r at *
    cases r with
    | ok n w' =>
      cases n <;> simp only [Oper.upon] at h ⊢
      case value u => exact ⟨keep a hy u, by rw [← Act.put_comm a v u h2]; exact h⟩
      case skip => exact ⟨keep a hy _, by rw [← Act.put_comm a v undef h2]; exact h⟩
      case defer d =>
        refine ⟨keep _ (keepD d) _, ?_⟩
        rw [← Act.put_comm _ v undef h2, ← Act.put_defers]
        exact h
      case enter f args =>
        refine Calls.mono h fun e w'' he => ?_
        cases e with
        | returned u => exact ⟨keep a hy u, by rw [← Act.put_comm a v u h2]; exact he⟩
        | panicked c => exact hQ _ _ _ he
        | outgrown => exact he
      case row row args => exact Rows.mono h fun u w'' he => ⟨keep a hy u, by rw [← Act.put_comm a v u h2]; exact he⟩
    | halt x w' =>
      cases x <;> simp only [Oper.upon] at h ⊢
      case panic u => exact hQ _ _ _ h
  · rename_i hw
    simp only [hw] at h
    exact ⟨keep a hy _, by rw [← Act.put_comm a v undef h2]; exact h⟩

/-- Whatever order is picked from here on; behind each operation S holds in whatever world G leads to. -/
def wpG (P : Program) (md : Region.Mode) (ops : Array Oper) (Q : Exit → Act → World → Prop) (S : World → Prop) (G : World → World → Prop) : Nat → Array Bool → Act → World → Prop
  | 0, listed, a, w => Region.ready md ops listed = [] ∧ Q .normal a w
  | fuel + 1, listed, a, w =>
    (Region.ready md ops listed = [] → Q .normal a w) ∧
    ∀ i ∈ Region.ready md ops listed, wpOp P ops Q i (fun a' w' => ∀ W, G w' W → S W ∧ wpG P md ops Q S G fuel (listed.setIfInBounds i true) a' W) a w
theorem wpAny_of_G (R : Roads S G) : ∀ (fuel : Nat) (listed : Array Bool) (a : Act) (w : World), wpG P md ops Q S G fuel listed a w → wpAny P md ops Q fuel listed a w
  | 0, _, _, _, h => h
  | fuel + 1, _, _, _, h => ⟨h.1, fun i hi => wpOp_mono (fun a' w' h' => wpAny_of_G R fuel _ a' w' (h' w' (R.refl _)).2) (h.2 i hi)⟩
theorem wpG_mono {S' : World → Prop} (hS : ∀ w, S' w → S w) : ∀ (fuel : Nat) (listed : Array Bool) (a : Act) (w : World), wpG P md ops Q S' G fuel listed a w → wpG P md ops Q S G fuel listed a w
  | 0, _, _, _, h => h
  | fuel + 1, _, _, _, h => ⟨h.1, fun i hi => wpOp_mono (fun a' w' h' W hW => ⟨hS _ (h' W hW).1, wpG_mono hS fuel _ a' W (h' W hW).2⟩) (h.2 i hi)⟩
theorem wpG_first (R : Roads S G) {i : Nat} {oi : Oper} {v : Value} (hi : ops[i]? = some oi) (hsel : ∀ (j : Nat) (o : Oper) cs b, ops[j]? = some o → o.op ≠ .select cs b)
    (hQ : ∀ c a w, Q (.panic c) (a.put oi.dst v) w → Q (.panic c) a w) :
    ∀ (fuel : Nat) (listed : Array Bool) (a : Act) (w : World),
      (∀ j oj, ops[j]? = some oj → j ≠ i → listed.getD j true = false → (∀ e ∈ oj.after, Region.binds md e = true → e.on ≠ i) → oi.apart ops oj = true) →
      i ∈ Region.ready md ops listed → QuietG P ops S G oi v a → S w →
      (∀ W, G w W → wpG P md ops Q S G fuel (listed.setIfInBounds i true) (a.put oi.dst v) W) → wpG P md ops Q S G (fuel + 1) listed a w := by
  intro fuel
  induction fuel with
  | zero =>
    intro listed a w _ hr hy hS H
    refine ⟨fun h => (by rw [h] at hr; cases hr), fun j hj => ?_⟩
    by_cases hji : j = i
    · subst hji; exact hy.wpOp R hi hS fun W hW W' hW' => ⟨R.keep hW' (R.keep hW hS), H _ (R.trans hW hW')⟩
    · have := ready_mono hj hji
      rw [(H w (R.refl _)).1] at this
      cases this
  | succ fuel ih =>
    intro listed a w hfree hr hy hS H
    refine ⟨fun h => (by rw [h] at hr; cases hr), fun j hj => ?_⟩
    by_cases hji : j = i
    · subst hji; exact hy.wpOp R hi hS fun W hW W' hW' => ⟨R.keep hW' (R.keep hW hS), H _ (R.trans hW hW')⟩
    · have h1 := (H w (R.refl _)).2 j (ready_mono hj hji)
      obtain ⟨hjun, oj, hoj, hall⟩ := mem_ready.1 hj
      have hnot : ∀ e ∈ oj.after, Region.binds md e = true → e.on ≠ i := fun e he hb heq => by
        have h1 := hall e he hb
        have h0 := (mem_ready.1 hr).1
        rw [heq] at h1
        rcases Nat.lt_or_ge i listed.size with h' | h'
        · simp [h'] at h0 h1; rw [h0] at h1; cases h1
        · simp [Array.getElem?_eq_none h'] at h1
      have h2 := wpOp_putG hoj (hfree j oj hoj hji hjun hnot) (fun cs b => hsel i oi cs b hi) (fun cs b => hsel j oj cs b hoj) hQ hy h1
      have hfree' : ∀ k ok, ops[k]? = some ok → k ≠ i → (listed.setIfInBounds j true).getD k true = false →
          (∀ e ∈ ok.after, Region.binds md e = true → e.on ≠ i) → oi.apart ops ok = true := fun k ok hk hki hun hno => by
        refine hfree k ok hk hki ?_ hno
        by_cases hjk : j = k
        · subst hjk; exact hjun
        · rw [getD_set_ne true hjk] at hun; exact hun
      refine wpOp_mono (fun a' w' h3 W hW => ⟨(h3.2 W hW).1, ih (listed.setIfInBounds j true) a' W hfree' (ready_mono hr (Ne.symm hji)) h3.1 (h3.2 W hW).1 (fun W' hW' => ?_)⟩) h2
      rw [Array.setIfInBounds_comm _ _ hji]
      exact (h3.2 W' (R.trans hW hW')).2

/-- THE GOAL OF THE WALK: from whatever world G leads to. -/
def Ord (P : Program) (ops : Array Oper) (Q : Exit → Act → World → Prop) (S : World → Prop) (G : World → World → Prop) (n : Nat) (listed : Array Bool) (a : Act) (w : World) : Prop :=
  ∀ W, G w W → S W → wpG P .any ops Q S G n listed a W
theorem region_ord {id : Nat} {a : Act} {w : World} (S : World → Prop) (G : World → World → Prop) (R : Roads S G) (hS : S w.drew) (hm : P.follows .mixedOrders = true)
    (h : ∀ ops' Q', ops' = ops → (∀ c a d v w, Q' (.panic c) (Act.put a d v) w → Q' (.panic c) a w) → (∀ a w, Q .normal a w → Q' .normal a w) → Ord P ops' Q' S G ops'.size (Array.replicate ops'.size false) a w.drew) : (Code.region id ops true).wp P Q a w :=
  wp_region_noPanic (wp_region_any hm (wpAny_of_G R _ _ _ _ (h ops (NoPanic Q) rfl (fun _ _ _ _ _ h => h) (fun _ _ h => h) _ (R.refl _) hS)))
theorem at_list {i : Nat} {o : Oper} (h : ops.toList[i]? = some o) : ops[i]? = some o := by rw [← Array.getElem?_toList]; exact h
/-- An operation that only reads is taken first. -/
theorem ord_take (R : Roads S G) {n : Nat} {l : Array Bool} {a : Act} {w : World} (i : Nat) {o : Oper} (ho : ops[i]? = some o) (hs : Region.noSelect ops = true) (hQ : ∀ c a d v w, Q (.panic c) (a.put d v) w → Q (.panic c) a w)
    (hf : Region.free .any ops l i = true) (hr : (Region.ready .any ops l).contains i = true) (hw : Region.wanted o (yielded ops a.tmps) = true)
    (h : ∀ K : Act → Prop, (∀ a', Ord P ops Q S G n (l.setIfInBounds i true) a' w → K a') → ∃ v, (∀ W, S W → o.quietAt P a (G W) W v) ∧ K (a.put o.dst v)) : Ord P ops Q S G (n + 1) l a w := by
  obtain ⟨v, hv, hK⟩ := h (fun a' => Ord P ops Q S G n (l.setIfInBounds i true) a' w) (fun _ h => h)
  exact fun W hW hS => wpG_first R ho (Region.noSelect_spec hs) (fun c a w => hQ c a _ _ w) n l a W (Region.free_spec ho hf) (by simpa using hr) (.inl ⟨hw, hv⟩) hS (fun W' hW' => hK W' (R.trans hW hW') (R.keep hW' hS))
/-- An operation whose guard is false is passed over. -/
theorem ord_skip (R : Roads S G) {n : Nat} {l : Array Bool} {a : Act} {w : World} (i : Nat) {o : Oper} (ho : ops[i]? = some o) (hs : Region.noSelect ops = true) (hQ : ∀ c a d v w, Q (.panic c) (a.put d v) w → Q (.panic c) a w)
    (hf : Region.free .any ops l i = true) (hr : (Region.ready .any ops l).contains i = true) (hw : Region.wanted o (yielded ops a.tmps) = false)
    (h : Ord P ops Q S G n (l.setIfInBounds i true) (a.put o.dst undef) w) : Ord P ops Q S G (n + 1) l a w :=
  fun W hW hS => wpG_first R ho (Region.noSelect_spec hs) (fun c a w => hQ c a _ _ w) n l a W (Region.free_spec ho hf) (by simpa using hr) (.inr ⟨hw, rfl⟩) hS (fun W' hW' => h W' (R.trans hW hW') (R.keep hW' hS))
theorem wpOp_wanted {i : Nat} {K : Act → World → Prop} {a : Act} {w : World} {o : Oper} (ho : ops[i]? = some o) (hw : Region.wanted o (yielded ops a.tmps) = true) (h : o.wp P a w K Q) : wpOp P ops Q i K a w := by
  unfold wpOp
  rw [ho]
  simp only [hw, if_true]
  exact .inl h
/-- One operation that alone may come up: it may change the world; S is shown anew. -/
theorem ord_one (R : Roads S G) {n : Nat} {l : Array Bool} {a : Act} {w : World} (i : Nat) {o : Oper} (hr : Region.ready .any ops l = [i]) (ho : ops[i]? = some o) (hw : Region.wanted o (yielded ops a.tmps) = true)
    (h : ∀ W, G w W → S W → ∀ K : Act → World → Prop, (∀ a w, S w → Ord P ops Q S G n (l.setIfInBounds i true) a w → K a w) → o.wp P a W K Q) : Ord P ops Q S G (n + 1) l a w := by
  intro W hW hS
  refine ⟨fun h0 => (by rw [hr] at h0; cases h0), fun j hj => ?_⟩
  rw [hr] at hj
  obtain rfl : j = i := by simpa using hj
  exact wpOp_wanted ho hw (h W hW hS _ fun a' w' hS' hO W' hW' => ⟨R.keep hW' hS', hO W' hW' (R.keep hW' hS')⟩)
/-- Two that may come up in either order. -/
theorem ord_two (R : Roads S G) {n : Nat} {l : Array Bool} {a : Act} {w : World} (i j : Nat) {o u : Oper} (hr : Region.ready .any ops l = [i, j]) (ho : ops[i]? = some o) (hu : ops[j]? = some u) (hw : Region.wanted o (yielded ops a.tmps) = true) (hw2 : Region.wanted u (yielded ops a.tmps) = true)
    (h : ∀ W, G w W → S W → ∀ K : Act → World → Prop, (∀ a w, S w → Ord P ops Q S G n (l.setIfInBounds i true) a w → K a w) → o.wp P a W K Q)
    (h2 : ∀ W, G w W → S W → ∀ K : Act → World → Prop, (∀ a w, S w → Ord P ops Q S G n (l.setIfInBounds j true) a w → K a w) → u.wp P a W K Q) : Ord P ops Q S G (n + 1) l a w := by
  intro W hW hS
  refine ⟨fun h0 => (by rw [hr] at h0; cases h0), fun t ht => ?_⟩
  rw [hr] at ht
  have ht : t = i ∨ t = j := by simpa using ht
  rcases ht with rfl | rfl
  · exact wpOp_wanted ho hw (h W hW hS _ fun a' w' hS' hO W' hW' => ⟨R.keep hW' hS', hO W' hW' (R.keep hW' hS')⟩)
  · exact wpOp_wanted hu hw2 (h2 W hW hS _ fun a' w' hS' hO W' hW' => ⟨R.keep hW' hS', hO W' hW' (R.keep hW' hS')⟩)
theorem ord_done {n : Nat} {l : Array Bool} {a : Act} {w : World} (hr : Region.ready .any ops l = []) (h : ∀ W, G w W → S W → Q .normal a W) : Ord P ops Q S G n l a w := by
  intro W hW hS
  cases n with
  | zero => exact ⟨hr, h W hW hS⟩
  | succ n => exact ⟨fun _ => h W hW hS, by rw [hr]; simp⟩
/-- From here on more is asked of the world. -/
theorem ord_more {S' : World → Prop} {n : Nat} {l : Array Bool} {a : Act} {w : World} (R' : Roads S' G) (hS : ∀ W, S' W → S W) (hw : ∀ W, G w W → S W → S' W) (h : Ord P ops Q S' G n l a w) : Ord P ops Q S G n l a w :=
  fun W hW hSW => wpG_mono hS _ _ _ _ (h W hW (hw W hW hSW))
theorem ord_at {n : Nat} {l l' : Array Bool} {a : Act} {w : World} (hl : l = l') (h : Ord P ops Q S G n l' a w) : Ord P ops Q S G n l a w := hl ▸ h
/-- From whatever world G leads to. -/
theorem ord_from (R : Roads S G) {n : Nat} {l : Array Bool} {a : Act} {w : World} (h : ∀ W, G w W → S W → Ord P ops Q S G n l a W) : Ord P ops Q S G n l a w := fun W hW hS => h W hW hS W (R.refl _) hS
end

/-! ### The same, as far as a tail whose order is forced: S need not hold behind it. -/
section
variable {P : Program} {ops : Array Oper} {Q : Exit → Act → World → Prop} {md : Region.Mode} {S : World → Prop} {G : World → World → Prop}
/-- The operations below n in whatever order; E where all of them have come up. -/
def wpT (P : Program) (md : Region.Mode) (ops : Array Oper) (Q : Exit → Act → World → Prop) (S : World → Prop) (G : World → World → Prop) (n : Nat) (E : Array Bool → Act → World → Prop) : Nat → Array Bool → Act → World → Prop
  | 0, listed, a, w => E listed a w
  | fuel + 1, listed, a, w => Region.ready md ops listed ≠ [] ∧
    ∀ i ∈ Region.ready md ops listed, i < n ∧ wpOp P ops Q i (fun a' w' => ∀ W, G w' W → S W ∧ wpT P md ops Q S G n E fuel (listed.setIfInBounds i true) a' W) a w
theorem wpAny_of_T (R : Roads S G) {n g : Nat} {E : Array Bool → Act → World → Prop} (hE : ∀ listed a w, E listed a w → wpAny P md ops Q g listed a w) : ∀ (f : Nat) (listed : Array Bool) (a : Act) (w : World), wpT P md ops Q S G n E f listed a w → wpAny P md ops Q (f + g) listed a w
  | 0, listed, a, w, h => by rw [Nat.zero_add]; exact hE _ _ _ h
  | f + 1, listed, a, w, h => by
    rw [show f + 1 + g = (f + g) + 1 by omega]
    exact ⟨fun h0 => absurd h0 h.1, fun i hi => wpOp_mono (fun a' w' h' => wpAny_of_T R hE f _ a' w' (h' w' (R.refl _)).2) (h.2 i hi).2⟩
theorem wpT_first (R : Roads S G) {n i : Nat} {oi : Oper} {v : Value} {E : Array Bool → Act → World → Prop} (hi : ops[i]? = some oi) (hsel : ∀ (j : Nat) (o : Oper) cs b, ops[j]? = some o → o.op ≠ .select cs b)
    (hQ : ∀ c a w, Q (.panic c) (a.put oi.dst v) w → Q (.panic c) a w) (hs : Region.sinkB md ops n = true) (hc : Region.chainB md ops n = true) (hn : n < ops.size) (hin : i < n)
    (hdone : ∀ listed a w, E listed a w → ∀ j ∈ Region.ready md ops listed, n ≤ j) :
    ∀ (fuel : Nat) (listed : Array Bool) (a : Act) (w : World), HeadInv md ops n listed →
      (∀ j oj, ops[j]? = some oj → j ≠ i → listed.getD j true = false → (∀ e ∈ oj.after, Region.binds md e = true → e.on ≠ i) → oi.apart ops oj = true) →
      i ∈ Region.ready md ops listed → QuietG P ops S G oi v a → S w →
      (∀ W, G w W → wpT P md ops Q S G n E fuel (listed.setIfInBounds i true) (a.put oi.dst v) W) → wpT P md ops Q S G n E (fuel + 1) listed a w := by
  intro fuel
  induction fuel with
  | zero =>
    intro listed a w inv _ hr hy hS H
    have hun := (mem_ready.1 hr).1
    refine ⟨fun h => (by rw [h] at hr; cases hr), fun j hj => ?_⟩
    have hjn : j < n := by
      rcases Nat.lt_or_ge j n with h | h
      · exact h
      · exact absurd hj (tail_waits hs hc hn inv _ i rfl hin hun j h)
    refine ⟨hjn, ?_⟩
    by_cases hji : j = i
    · subst hji; exact hy.wpOp R hi hS fun W hW W' hW' => ⟨R.keep hW' (R.keep hW hS), H _ (R.trans hW hW')⟩
    · have := hdone _ _ _ (H w (R.refl _)) j (ready_mono hj hji)
      omega
  | succ fuel ih =>
    intro listed a w inv hfree hr hy hS H
    have hun := (mem_ready.1 hr).1
    refine ⟨fun h => (by rw [h] at hr; cases hr), fun j hj => ?_⟩
    have hjn : j < n := by
      rcases Nat.lt_or_ge j n with h | h
      · exact h
      · exact absurd hj (tail_waits hs hc hn inv _ i rfl hin hun j h)
    refine ⟨hjn, ?_⟩
    by_cases hji : j = i
    · subst hji; exact hy.wpOp R hi hS fun W hW W' hW' => ⟨R.keep hW' (R.keep hW hS), H _ (R.trans hW hW')⟩
    · have h1 := ((H w (R.refl _)).2 j (ready_mono hj hji)).2
      obtain ⟨hjun, oj, hoj, hall⟩ := mem_ready.1 hj
      have hnot : ∀ e ∈ oj.after, Region.binds md e = true → e.on ≠ i := fun e he hb heq => by
        have h1 := hall e he hb
        rw [heq, getD_both hun] at h1
        cases h1
      have h2 := wpOp_putG hoj (hfree j oj hoj hji hjun hnot) (fun cs b => hsel i oi cs b hi) (fun cs b => hsel j oj cs b hoj) hQ hy h1
      have hfree' : ∀ k ok, ops[k]? = some ok → k ≠ i → (listed.setIfInBounds j true).getD k true = false →
          (∀ e ∈ ok.after, Region.binds md e = true → e.on ≠ i) → oi.apart ops ok = true := fun k ok hk hki hun hno => by
        refine hfree k ok hk hki ?_ hno
        by_cases hjk : j = k
        · subst hjk; exact hjun
        · rw [getD_set_ne true hjk] at hun; exact hun
      refine wpOp_mono (fun a' w' h3 W hW => ⟨(h3.2 W hW).1, ih (listed.setIfInBounds j true) a' W (inv.set hj hjn) hfree' (ready_mono hr (Ne.symm hji)) h3.1 (h3.2 W hW).1 (fun W' hW' => ?_)⟩) h2
      rw [Array.setIfInBounds_comm _ _ hji]
      exact (h3.2 W' (R.trans hW hW')).2
/-- What stands at the end of the head: the tail in its order. -/
def Tail (P : Program) (ops : Array Oper) (Q : Exit → Act → World → Prop) (n : Nat) (listed : Array Bool) (a : Act) (w : World) : Prop := Region.seqB .any ops (ops.size - n) n listed = true ∧ wpList P ops Q (ops.toList.drop n) a w
/-- THE GOAL OF THE WALK. -/
def OrdT (P : Program) (ops : Array Oper) (Q : Exit → Act → World → Prop) (S : World → Prop) (G : World → World → Prop) (n : Nat) (f : Nat) (listed : Array Bool) (a : Act) (w : World) : Prop :=
  HeadInv .any ops n listed → ∀ W, G w W → S W → wpT P .any ops Q S G n (Tail P ops Q n) f listed a W
theorem region_ordT {id : Nat} {a : Act} {w : World} (n : Nat) (S : World → Prop) (G : World → World → Prop) (R : Roads S G) (hS : S w.drew) (hm : P.follows .mixedOrders = true) (hn : n < ops.size)
    (h : ∀ ops' Q', ops' = ops → (∀ c a d v w, Q' (.panic c) (Act.put a d v) w → Q' (.panic c) a w) → (∀ a w, Q .normal a w → Q' .normal a w) → OrdT P ops' Q' S G n n (Array.replicate ops'.size false) a w.drew) : (Code.region id ops true).wp P Q a w := by
  refine wp_region_noPanic (wp_region_any hm ?_)
  have inv0 : HeadInv .any ops n (Array.replicate ops.size false) :=
    ⟨by simp, fun j oj _ hl => (by rw [getD_replicate_false] at hl; cases hl), fun t _ ht => getD_in (by simpa using ht) (getD_replicate_false _ _)⟩
  have H := h ops (NoPanic Q) rfl (fun _ _ _ _ _ h => h) (fun _ _ h => h) inv0 _ (R.refl _) hS
  have := wpAny_of_T (g := ops.size - n) R (fun listed a w (hE : Tail P ops (NoPanic Q) n listed a w) => by
    have hl : (ops.toList.drop n).length = ops.size - n := by simp
    have := wpAny_of_seq (md := .any) (Q' := NoPanic Q) (ops.toList.drop n) n listed a w (fun j => by rw [List.getElem?_drop, Array.getElem?_toList]) (by rw [hl]; exact hE.1) hE.2
    rwa [hl] at this) _ _ _ _ H
  rwa [show n + (ops.size - n) = ops.size by omega] at this
theorem ordT_take (R : Roads S G) {n f : Nat} {l : Array Bool} {a : Act} {w : World} (i : Nat) {o : Oper} (ho : ops[i]? = some o) (hs : Region.noSelect ops = true ∧ Region.sinkB .any ops n = true ∧ Region.chainB .any ops n = true ∧ n < ops.size) (hQ : ∀ c a d v w, Q (.panic c) (Act.put a d v) w → Q (.panic c) a w)
    (hf : Region.free .any ops l i = true) (hr : ((Region.ready .any ops l).contains i && decide (i < n)) = true) (hw : Region.wanted o (yielded ops a.tmps) = true)
    (h : ∀ K : Act → Prop, (∀ a', OrdT P ops Q S G n f (l.setIfInBounds i true) a' w → K a') → ∃ v, (∀ W, S W → o.quietAt P a (G W) W v) ∧ K (a.put o.dst v)) : OrdT P ops Q S G n (f + 1) l a w := by
  obtain ⟨v, hv, hK⟩ := h (fun a' => OrdT P ops Q S G n f (l.setIfInBounds i true) a' w) (fun _ h => h)
  simp only [Bool.and_eq_true, decide_eq_true_eq] at hr
  have hr' : i ∈ Region.ready .any ops l := by simpa using hr.1
  exact fun inv W hW hS => wpT_first R ho (Region.noSelect_spec hs.1) (fun c a w => hQ c a _ _ w) hs.2.1 hs.2.2.1 hs.2.2.2 hr.2 (fun listed a w hE => seqB_ready hE.1) f l a W inv (Region.free_spec ho hf) hr' (.inl ⟨hw, hv⟩) hS (fun W' hW' => hK (inv.set hr' hr.2) W' (R.trans hW hW') (R.keep hW' hS))
theorem ordT_skip (R : Roads S G) {n f : Nat} {l : Array Bool} {a : Act} {w : World} (i : Nat) {o : Oper} (ho : ops[i]? = some o) (hs : Region.noSelect ops = true ∧ Region.sinkB .any ops n = true ∧ Region.chainB .any ops n = true ∧ n < ops.size) (hQ : ∀ c a d v w, Q (.panic c) (Act.put a d v) w → Q (.panic c) a w)
    (hf : Region.free .any ops l i = true) (hr : ((Region.ready .any ops l).contains i && decide (i < n)) = true) (hw : Region.wanted o (yielded ops a.tmps) = false)
    (h : OrdT P ops Q S G n f (l.setIfInBounds i true) (a.put o.dst undef) w) : OrdT P ops Q S G n (f + 1) l a w := by
  simp only [Bool.and_eq_true, decide_eq_true_eq] at hr
  have hr' : i ∈ Region.ready .any ops l := by simpa using hr.1
  exact fun inv W hW hS => wpT_first R ho (Region.noSelect_spec hs.1) (fun c a w => hQ c a _ _ w) hs.2.1 hs.2.2.1 hs.2.2.2 hr.2 (fun listed a w hE => seqB_ready hE.1) f l a W inv (Region.free_spec ho hf) hr' (.inr ⟨hw, rfl⟩) hS (fun W' hW' => h (inv.set hr' hr.2) W' (R.trans hW hW') (R.keep hW' hS))
theorem ordT_one (R : Roads S G) {n f : Nat} {l : Array Bool} {a : Act} {w : World} (i : Nat) {o : Oper} (hr : (decide (Region.ready .any ops l = [i]) && decide (i < n)) = true) (ho : ops[i]? = some o) (hw : Region.wanted o (yielded ops a.tmps) = true)
    (h : ∀ W, G w W → S W → ∀ K : Act → World → Prop, (∀ a w, S w → OrdT P ops Q S G n f (l.setIfInBounds i true) a w → K a w) → o.wp P a W K Q) : OrdT P ops Q S G n (f + 1) l a w := by
  intro inv W hW hS
  simp only [Bool.and_eq_true, decide_eq_true_eq] at hr
  have hi : i ∈ Region.ready .any ops l := by rw [hr.1]; simp
  refine ⟨fun h0 => (by rw [hr.1] at h0; cases h0), fun j hj => ?_⟩
  rw [hr.1] at hj
  obtain rfl : j = i := by simpa using hj
  exact ⟨hr.2, wpOp_wanted ho hw (h W hW hS _ fun a' w' hS' hO W' hW' => ⟨R.keep hW' hS', hO (inv.set hi hr.2) W' hW' (R.keep hW' hS')⟩)⟩
theorem ordT_end {n : Nat} {l : Array Bool} {a : Act} {w : World} (hr : Region.seqB .any ops (ops.size - n) n l = true) (h : ∀ W, G w W → S W → wpList P ops Q (ops.toList.drop n) a W) : OrdT P ops Q S G n 0 l a w :=
  fun _ W hW hS => ⟨hr, h W hW hS⟩
end

/-! The two roads that are used: draws alone; and growth. -/
def Drawn (w w' : World) : Prop := ∃ n, w' = w.drewN n
theorem drawn_roads {S : World → Prop} (h : ∀ w n, S w → S (w.drewN n)) : Roads S Drawn :=
  ⟨fun w => ⟨0, rfl⟩, fun ⟨n, h1⟩ ⟨m, h2⟩ => ⟨n + m, by rw [h2, h1, World.drewN_drewN]⟩, fun ⟨n, h1⟩ hS => h1 ▸ h _ n hS⟩
/-- What is there stays; there may be more. -/
def Grows (w w' : World) : Prop := Below w.heap.size w w'
theorem grows_roads {S : World → Prop} (h : ∀ w w', Below w.heap.size w w' → S w → S w') : Roads S Grows :=
  ⟨fun w => Below.refl _ _, fun h1 h2 => Below.trans h1 (h2.mono h1.size), fun h1 hS => h _ _ h1 hS⟩
theorem drawn_grows {w w' : World} (h : Drawn w w') : Grows w w' := by
  obtain ⟨n, rfl⟩ := h
  exact ⟨rfl, rfl, rfl, Nat.le_refl _, fun _ _ => rfl⟩
section
variable {P : Program} {ops : Array Oper} {Q : Exit → Act → World → Prop} {S : World → Prop}
theorem grows_alloc (w : World) (o : Obj) : Grows w (w.alloc o) := (Below.refl _ _).alloc (Nat.le_refl _) o
theorem block_past {w w' : World} {x : Nat} {o : Obj} (h : w.heap[x]? = some o) (hg : Grows w w') : w'.heap[x]? = some o := by
  rw [hg.block x (by rcases Nat.lt_or_ge x w.heap.size with h' | h'; exact h'; rw [Array.getElem?_eq_none h'] at h; cases h)]
  exact h
/-- Two operations that each make a block, in either order. -/
theorem ord_new2 (R : Roads S Grows) {n : Nat} {l : Array Bool} {a : Act} {w : World} (i j : Nat) {o u : Oper} (vo vu : Nat → Value) (xo xu : Obj)
    (hr : Region.ready .any ops l = [i, j]) (hri : Region.ready .any ops (l.setIfInBounds i true) = [j]) (hrj : Region.ready .any ops (l.setIfInBounds j true) = [i]) (ho : ops[i]? = some o) (hu : ops[j]? = some u)
    (hap : (o.apart ops u && u.apart ops o) = true) (hs : Region.noSelect ops = true) (hw : Region.wanted o (yielded ops a.tmps) = true) (hw2 : Region.wanted u (yielded ops a.tmps) = true)
    (eo : ∀ W, (execOp a.eval o).run P W = .ok (.value (vo W.heap.size)) (W.alloc xo)) (eu : ∀ W, (execOp a.eval u).run P W = .ok (.value (vu W.heap.size)) (W.alloc xu))
    (h : ∀ x y W, Grows w W → S W → W.heap[x]? = some xo → W.heap[y]? = some xu → Ord P ops Q S Grows n ((l.setIfInBounds i true).setIfInBounds j true) ((a.put o.dst (vo x)).put u.dst (vu y)) W) : Ord P ops Q S Grows (n + 2) l a w := by
  simp only [Bool.and_eq_true] at hap
  obtain ⟨p1, p2, p3⟩ := Oper.apart_spec hap.1
  have so := Region.noSelect_spec hs i o
  have su := Region.noSelect_spec hs j u
  refine ord_two R i j hr ho hu hw hw2 (fun W hW hS K hK => ?_) (fun W hW hS K hK => ?_)
  · unfold Oper.wp
    rw [eo W]
    refine hK _ _ (R.keep (grows_alloc W xo) hS) ?_
    refine ord_one R j hri hu (by rw [wanted_put u a o.dst _ p1]; exact hw2) (fun W1 hW1 hS1 K1 hK1 => ?_)
    unfold Oper.wp
    rw [execOp_put u (fun cs b => su cs b hu) a o.dst _ p1, eu W1]
    refine hK1 _ _ (R.keep (grows_alloc W1 xu) hS1) ?_
    have g1 : Grows w (W1.alloc xu) := R.trans (R.trans hW (grows_alloc W xo)) (R.trans hW1 (grows_alloc W1 xu))
    exact h _ _ _ g1 (R.keep (grows_alloc W1 xu) hS1) (block_past (block_past (heap_alloc_new W xo) hW1) (grows_alloc W1 xu)) (heap_alloc_new W1 xu)
  · unfold Oper.wp
    rw [eu W]
    refine hK _ _ (R.keep (grows_alloc W xu) hS) ?_
    refine ord_one R i hrj ho (by rw [wanted_put o a u.dst _ p3]; exact hw) (fun W1 hW1 hS1 K1 hK1 => ?_)
    unfold Oper.wp
    rw [execOp_put o (fun cs b => so cs b ho) a u.dst _ p3, eo W1]
    refine hK1 _ _ (R.keep (grows_alloc W1 xo) hS1) ?_
    have g1 : Grows w (W1.alloc xo) := R.trans (R.trans hW (grows_alloc W xu)) (R.trans hW1 (grows_alloc W1 xo))
    have := h _ _ _ g1 (R.keep (grows_alloc W1 xo) hS1) (heap_alloc_new W1 xo) (block_past (block_past (heap_alloc_new W xu) hW1) (grows_alloc W1 xo))
    rw [← Act.put_comm a _ _ p2] 
    by_cases hij : i = j
    · subst hij; exact this
    · rw [Array.setIfInBounds_comm _ _ (Ne.symm hij)]; exact this
end
end Go.Proofs.Ythckpenindchlaa.base
