/- Slices whose elements take a fixed number of cells (structs, arrays): in memory, as rows of the call's own; loaded, stored, appended, made. For any element type. -/
import Derived.Test.YthckpenindchlaaMem
import Derived.Test.YthckpenindchlaaBlock
import Derived.Test.YthckpenindchlaaReg
import Derived.Test.YthckpenindchlaaArr
import Derived.Test.YthckpenindchlaaFar
import Derived.Deep.MidRow
import Derived.Deep.Quiet
import Derived.Laws.MakeOwn
namespace Go.Proofs.Ythckpenindchlaa.base
set_option maxRecDepth 100000
open Go.RowKit
set_option linter.unusedVariables false
set_option linter.unusedSimpArgs false
structure Enc (α : Type) where
  enc : α → List Value
  n : Nat
  T : TypeId
  d : α
  len : ∀ x, (enc x).length = n
  one : ∀ x v, v ∈ enc x → v.oneCell' = true
  pos : 0 < n
theorem e_cells {B g : Nat} (hg : B ≤ g) {w : World} : ∀ (vs : List Value) (o : Nat) {w' : World}, Below B w w' → Below B w (w'.setCells g o vs)
  | [], o, w', k => k
  | v :: r, o, w', k => by rw [World.setCells]; exact e_cells hg r (o + 1) (Below.setCell k (p := ⟨g, o, none⟩) hg v)
theorem e_far {g : Nat} {w : World} : ∀ (vs : List Value) (o : Nat) {w' : World}, w.grownBy w' (some g) → w.grownBy (w'.setCells g o vs) (some g)
  | [], o, w', k => k
  | v :: r, o, w', k => by rw [World.setCells]; exact e_far r (o + 1) (far_set k v)
def eSet (fl : List Value) : Nat → List Value → List Value
  | _, [] => fl
  | o, x :: r => eSet (fl.set o x) (o + 1) r
theorem eSet_eq : ∀ (xs : List Value) (o : Nat) (fl : List Value), o + xs.length ≤ fl.length → eSet fl o xs = fl.take o ++ xs ++ fl.drop (o + xs.length)
  | [], o, fl, h => by simp [eSet]
  | x :: r, o, fl, h => by
    have h' : o < fl.length := by simp at h; omega
    rw [eSet, eSet_eq r (o + 1) _ (by rw [List.length_set]; simp at h; omega), List.set_eq_take_append_cons_drop, if_pos h']
    have l1 : (fl.take o).length = o := by rw [List.length_take]; omega
    rw [List.take_append, l1, List.take_of_length_le (by rw [l1]; omega), show o + 1 - o = 1 by omega, List.take_succ_cons, List.take_zero,
      List.drop_append, l1, List.drop_eq_nil_of_le (by rw [l1]; omega), show o + 1 + r.length - o = r.length + 1 by omega, List.drop_succ_cons, List.drop_drop, List.length_cons]
    simp only [List.append_assoc, List.cons_append, List.nil_append]
    rw [show o + 1 + r.length = o + (r.length + 1) by omega]
namespace Enc
set_option maxRecDepth 100000
section
variable {α : Type} (E : Enc α)
def row (xs : List α) : List Value := (xs.map E.enc).flatten
theorem row_nil : E.row [] = [] := rfl
theorem row_cons (x : α) (r : List α) : E.row (x :: r) = E.enc x ++ E.row r := rfl
theorem row_app (a b : List α) : E.row (a ++ b) = E.row a ++ E.row b := by simp [row]
theorem row_one (x : α) : E.row [x] = E.enc x := by simp [row]
theorem row_len : ∀ xs : List α, (E.row xs).length = xs.length * E.n
  | [] => by simp [row]
  | x :: r => by rw [row_cons, List.length_append, E.len, row_len r, List.length_cons, Nat.add_mul]; omega
theorem row_take : ∀ (xs : List α) (k : Nat), (E.row xs).take (k * E.n) = E.row (xs.take k)
  | [], k => by simp [row]
  | x :: r, 0 => by simp [row]
  | x :: r, k + 1 => by
    rw [row_cons, List.take_append, E.len, List.take_succ_cons, row_cons, ← row_take r k, List.take_of_length_le (by rw [E.len, Nat.add_mul]; omega), show (k + 1) * E.n - E.n = k * E.n by rw [Nat.add_mul]; omega]
theorem row_drop : ∀ (xs : List α) (k : Nat), (E.row xs).drop (k * E.n) = E.row (xs.drop k)
  | [], k => by simp [row]
  | x :: r, 0 => by simp [row]
  | x :: r, k + 1 => by
    rw [row_cons, List.drop_append, E.len, List.drop_succ_cons, ← row_drop r k, List.drop_eq_nil_of_le (by rw [E.len, Nat.add_mul]; omega), List.nil_append, show (k + 1) * E.n - E.n = k * E.n by rw [Nat.add_mul]; omega]
theorem row_at {xs : List α} {i : Nat} (hi : i < xs.length) : ((E.row xs).drop (i * E.n)).take E.n = E.enc (xs.getD i E.d) := by
  rw [row_drop, List.drop_eq_getElem_cons hi, row_cons, List.take_append, E.len, Nat.sub_self, List.take_zero, List.append_nil, List.take_of_length_le (by rw [E.len]; exact Nat.le_refl _), List.getD_eq_getElem?_getD, List.getElem?_eq_getElem hi]; rfl
theorem row_ones (xs : List α) : ∀ u ∈ E.row xs, u.oneCell' = true := by
  intro u hu
  unfold row at hu
  rw [List.mem_flatten] at hu
  obtain ⟨l, hl, hu⟩ := hu
  obtain ⟨x, _, rfl⟩ := List.mem_map.1 hl
  exact E.one x u hu
theorem row_set {xs : List α} {i : Nat} (hi : i < xs.length) (x : α) : eSet (E.row xs) (i * E.n) (E.enc x) = E.row (xs.set i x) := by
  have hl := E.row_len xs
  have h1 : (i + 1) * E.n ≤ xs.length * E.n := Nat.mul_le_mul_right _ hi
  rw [Nat.add_mul, Nat.one_mul] at h1
  rw [eSet_eq _ _ _ (by rw [E.len, hl]; omega), List.set_eq_take_append_cons_drop, if_pos hi, row_app, row_cons, row_take, E.len, ← row_drop, Nat.add_mul, Nat.one_mul, List.append_assoc]
/-- A slice has these elements. -/
def Has (w : World) (A : Option Addr) (xs : List α) : Prop := xs = [] ∨ ∃ b off, A = some ⟨b, off, none⟩ ∧ b < w.heap.size ∧ ∀ i v, (E.row xs)[i]? = some v → w.cell? ⟨b, off + i, none⟩ = some v
variable {E}
theorem Has.below {w w' : World} {B : Nat} {A : Option Addr} {xs : List α} (h : E.Has w A xs) (hb : Below B w w') (hB : w.heap.size ≤ B) : E.Has w' A xs := by
  rcases h with h | ⟨b, off, rfl, hlt, hc⟩
  · exact .inl h
  · exact .inr ⟨b, off, rfl, Nat.lt_of_lt_of_le hlt hb.size, fun i v hv => by rw [hb.cell (p := ⟨b, off + i, none⟩) (Nat.lt_of_lt_of_le hlt hB)]; exact hc i v hv⟩
theorem Has.past {w w' : World} {A : Option Addr} {xs : List α} (h : E.Has w A xs) (hb : Below w.heap.size w w') : E.Has w' A xs := h.below hb (Nat.le_refl _)
theorem Has.some {w : World} {A : Option Addr} {xs : List α} (h : E.Has w A xs) (hp : 0 < xs.length) : ∃ b off, A = Option.some ⟨b, off, none⟩ ∧ b < w.heap.size := by
  rcases h with h | ⟨b, off, h1, h2, _⟩
  · subst h; simp at hp
  · exact ⟨b, off, h1, h2⟩
theorem Has.rng {w : World} {b off : Nat} {xs : List α} (h : E.Has w (Option.some ⟨b, off, none⟩) xs) {i : Nat} (hi : i < xs.length) : w.rangeAt b (off + i * E.n) (E.enc (xs.getD i E.d)) := by
  rcases h with h | ⟨b', off', e, _, hc⟩
  · subst h; simp at hi
  · injection e with e
    injection e with e1 e2
    subst e1 e2
    intro j v hv
    rw [← E.row_at hi, List.getElem?_take] at hv
    by_cases hj : j < E.n
    · rw [if_pos hj, List.getElem?_drop] at hv
      rw [Nat.add_assoc]; exact hc _ _ hv
    · rw [if_neg hj] at hv; cases hv
theorem Has.cells {w : World} {ad : Addr} {xs : List α} (h : E.Has w (Option.some ad) xs) : ∀ j u, (E.row xs)[j]? = Option.some u → w.cell? (ad.add j) = Option.some u := by
  intro j u hu
  rcases h with h | ⟨b, off, e, _, hc⟩
  · subst h; simp [row] at hu
  · injection e with e
    subst e
    rw [addr_add]; exact hc j u hu
theorem Has.take {w : World} {A : Option Addr} {xs : List α} (h : E.Has w A xs) (k : Nat) : E.Has w A (xs.take k) := by
  rcases h with h | ⟨b, off, e, hb, hc⟩
  · left; rw [h]; simp
  · right
    refine ⟨b, off, e, hb, fun i v hv => hc i v ?_⟩
    rw [← E.row_take, List.getElem?_take] at hv
    split at hv
    · exact hv
    · cases hv
theorem Has.drop {w : World} {b off : Nat} {xs : List α} (h : E.Has w (Option.some ⟨b, off, none⟩) xs) (k : Nat) : E.Has w (Option.some ⟨b, off + k * E.n, none⟩) (xs.drop k) := by
  rcases h with h | ⟨b', off', e, hb, hc⟩
  · left; rw [h]; simp
  · injection e with e
    injection e with e1 e2
    subst e1 e2
    right
    refine ⟨b, off + k * E.n, rfl, hb, fun i v hv => ?_⟩
    rw [← E.row_drop, List.getElem?_drop] at hv
    rw [Nat.add_assoc]; exact hc _ v hv
variable (E)
/-- A row of the call's own. -/
def Own (w : World) (B : Nat) (v : Value) (xs : List α) : Prop := w.ownsRow B E.T E.n v xs.length (E.row xs)
variable {E}
theorem Own.nil (w : World) (B : Nat) : E.Own w B (.slice none 0 0) [] := World.ownsRow_nil w B _ E.n
theorem Own.below {w w' : World} {B C : Nat} {v : Value} {xs : List α} (h : E.Own w B v xs) (hb : Below C w w') (hC : w.heap.size ≤ C) : E.Own w' B v xs := by
  refine ⟨h.1, ?_⟩
  rcases h.2 with h2 | ⟨g, cap, cur, hv, hB, hg, r⟩
  · exact .inl h2
  · exact .inr ⟨g, cap, cur, hv, hB, by rw [hb.block g (Nat.lt_of_lt_of_le (lt_of_block hg) hC)]; exact hg, r⟩
theorem Own.past {w w' : World} {B : Nat} {v : Value} {xs : List α} (h : E.Own w B v xs) (hb : Below w.heap.size w w') : E.Own w' B v xs := h.below hb (Nat.le_refl _)
theorem Own.mono {w : World} {B B' : Nat} {v : Value} {xs : List α} (h : E.Own w B v xs) (hB : B' ≤ B) : E.Own w B' v xs := by
  refine ⟨h.1, ?_⟩
  rcases h.2 with h2 | ⟨g, cap, cur, hv, hg, r⟩
  · exact .inl h2
  · exact .inr ⟨g, cap, cur, hv, Nat.le_trans hB hg, r⟩
theorem Own.kept {w w' : World} {B g : Nat} {v : Value} {xs : List α} (h : E.Own w B v xs) (hg : w.grownBy w' (some g)) (hne : v.ownBlock ≠ some g) : E.Own w' B v xs := World.ownsRow.kept h hg (.inr hne)
theorem Own.apart {w : World} {B g : Nat} {v : Value} {xs : List α} (h : E.Own w B v xs) (hg : w.heap.size ≤ g) : v.ownBlock ≠ some g := fun e => by
  have := (World.ownsRow.lt h g e).2
  omega
theorem Own.val {w : World} {B : Nat} {v : Value} {xs : List α} (h : E.Own w B v xs) : ∃ A cap, v = .slice A xs.length cap ∧ E.Has w A xs ∧ xs.length ≤ cap ∧ cap ≤ maxLen ∧ (xs ≠ [] → ∃ g, A = some ⟨g, 0, none⟩ ∧ B ≤ g ∧ g < w.heap.size) := by
  obtain ⟨hl, h2⟩ := h
  rcases h2 with ⟨rfl, h0⟩ | ⟨g, cap, cur, rfl, hB, hh, hnc, hcm, hcs, ht⟩
  · have : xs = [] := List.eq_nil_of_length_eq_zero h0
    subst this
    exact ⟨none, 0, rfl, .inl rfl, by simp, Nat.zero_le _, by simp⟩
  · refine ⟨_, cap, rfl, .inr ⟨g, 0, rfl, lt_of_block hh, fun i v hv => ?_⟩, hnc, hcm, fun _ => ⟨g, rfl, hB, lt_of_block hh⟩⟩
    have hi : i < xs.length * E.n := by
      rcases Nat.lt_or_ge i (xs.length * E.n) with h | h
      · exact h
      · rw [List.getElem?_eq_none (by rw [E.row_len]; exact h)] at hv; cases hv
    have : w.cell? ⟨g, 0 + i, none⟩ = cur[0 + i]? := by simp [World.cell?, hh]
    rw [this, Nat.zero_add, ← Array.getElem?_toList]
    have e1 : (cur.toList.take (xs.length * E.n))[i]? = cur.toList[i]? := by rw [List.getElem?_take, if_pos hi]
    rw [← e1, ht, hv]
theorem Own.has {w : World} {B n c : Nat} {A : Option Addr} {xs : List α} (h : E.Own w B (.slice A n c) xs) : E.Has w A xs := by
  obtain ⟨A', cap', e1, h1, _⟩ := h.val
  injection e1 with e1 _ _
  rw [e1]; exact h1
theorem Own.len {w : World} {B n c : Nat} {A : Option Addr} {xs : List α} (h : E.Own w B (.slice A n c) xs) : n = xs.length ∧ n ≤ c ∧ c ≤ maxLen := by
  obtain ⟨A', cap', e1, h1, h2, h3, _⟩ := h.val
  injection e1 with e1 e2 e3
  subst e2 e3
  exact ⟨rfl, h2, h3⟩
theorem Own.spot {w : World} {B n c : Nat} {A : Option Addr} {xs : List α} (h : E.Own w B (.slice A n c) xs) (hp : 0 < n) : ∃ g, A = some ⟨g, 0, none⟩ ∧ B ≤ g ∧ g < w.heap.size := by
  obtain ⟨A', cap', e1, h1, h2, h3, h4⟩ := h.val
  injection e1 with e1 e2 e3
  subst e1 e2 e3
  exact h4 (by intro e; rw [e] at hp; simp at hp)
theorem Own.there {w : World} {B g n c : Nat} {xs : List α} (h : E.Own w B (.slice (some ⟨g, 0, none⟩) n c) xs) {i : Nat} (hi : i < n) : w.there g (i * E.n) E.n := by
  have hn := h.len.1
  subst hn
  have h1 : (i + 1) * E.n ≤ xs.length * E.n := Nat.mul_le_mul_right _ hi
  rw [Nat.add_mul, Nat.one_mul] at h1
  refine fun j hj => ⟨?_, World.ownsRow.frozenAt h (i * E.n + j)⟩
  rw [World.ownsRow.cellAt h (i * E.n + j) (by omega), List.getElem?_eq_getElem (by rw [E.row_len]; omega)]
  rfl
theorem own_many {B g n cap : Nat} : ∀ (xs : List Value) (o : Nat) (fl : List Value) (w : World), w.ownsRow B E.T E.n (.slice (some ⟨g, 0, none⟩) n cap) n fl → (w.setCells g o xs).ownsRow B E.T E.n (.slice (some ⟨g, 0, none⟩) n cap) n (eSet fl o xs)
  | [], o, fl, w, h => h
  | x :: r, o, fl, w, h => own_many r (o + 1) _ _ (World.ownsRow.stored h o x).1
/-- A whole element loaded, stored. -/
theorem wp_ld (E : Enc α) {ops : Array Oper} {rest : List Oper} {o : Oper} {a : Act} {w : World} {Q : Exit → Act → World → Prop} {g off : Nat} {P : Program} {d : TypeDesc} (hu : P.underlying E.T = some d) (hd : d.isRow = true) (hi : (P.info? E.T).map (·.size) = some E.n) {x : α} (hw : Region.wanted o (yielded ops a.tmps) = true) (p : Operand) (ho : o.op = .load E.T p) (k : w.rangeAt g off (E.enc x))
    (hx : a.eval p = .pointer (some ⟨g, off, none⟩)) (H : wpList P ops Q rest (a.put o.dst (.agg (E.enc x).toArray)) w) : wpList P ops Q (o :: rest) a w :=
  wpList_step fun K hK => by rw [if_pos hw]; exact wp_load_mid E.T p ho g off hx (E.enc x) d k hu hd (by rw [E.len]; exact hi) (hK _ _ H)
theorem quiet_ld (E : Enc α) {o : Oper} {a : Act} {w : World} {C : World → Prop} {g off : Nat} {P : Program} {d : TypeDesc} (hu : P.underlying E.T = some d) (hd : d.isRow = true) (hi : (P.info? E.T).map (·.size) = some E.n) {x : α} (p : Operand) (ho : o.op = .load E.T p) (k : w.rangeAt g off (E.enc x))
    (hx : a.eval p = .pointer (some ⟨g, off, none⟩)) : Oper.quietAt P o a C w (.agg (E.enc x).toArray) := by
  unfold Oper.quietAt execOp
  simp only [ho, hx, Instr.loadAt, Instr.sureAddr, Sem.run_bind, Sem.run_pure, Result.andThen_ok, run_loadVar_mid w g off E.T (E.enc x) d k hu hd (by rw [E.len]; exact hi)]
  exact ⟨rfl, rfl⟩
theorem enc_all (E : Enc α) (x : α) : (E.enc x).toArray.all (·.oneCell') = true := by
  rw [Array.all_eq_true_iff_forall_mem]; intro v hv; exact E.one x v (by simpa using hv)
theorem wp_st (E : Enc α) {ops : Array Oper} {rest : List Oper} {o : Oper} {a : Act} {w : World} {Q : Exit → Act → World → Prop} {g : Nat} {P : Program} (hi : (P.info? E.T).map (·.size) = some E.n) {x0 x : α} (hw : Region.wanted o (yielded ops a.tmps) = true) (p y : Operand) (ho : o.op = .store E.T p y) (k : Lies w g E.T (E.enc x0))
    (hp : a.eval p = .pointer (some ⟨g, 0, none⟩)) (hy : a.eval y = .agg (E.enc x).toArray) (H : ∀ w', Lies w' g E.T (E.enc x) → w.grownBy w' (some g) → Below g w w' → w'.heap.size = w.heap.size → wpList P ops Q rest (a.put o.dst undef) w') : wpList P ops Q (o :: rest) a w := by
  refine wpList_step fun K hK => ?_
  rw [if_pos hw]
  refine wp_store_mid (P := P) E.T p y ho g 0 _ hp hy (fun j hj => ⟨?_, k.free _⟩) (by rw [List.size_toArray, E.len]; exact hi) (enc_all E x) (hK _ _ (H _ ?_ (e_far _ _ (World.grownBy.refl _ _)) (e_cells (Nat.le_refl _) _ _ (Below.refl _ _)) (size_cells _ _ _ _)))
  · rw [k.cell, List.getElem?_eq_getElem (by rw [List.size_toArray, E.len] at hj; rw [E.len]; omega)]; rfl
  · have := heap_setCells_row g E.T (E.enc x).toArray.toList 0 w _ k
    unfold Lies
    rw [this, setMany_all _ _ (by rw [List.size_toArray, List.size_toArray, E.len, E.len])]
theorem wp_se (E : Enc α) {ops : Array Oper} {rest : List Oper} {o : Oper} {a : Act} {w : World} {Q : Exit → Act → World → Prop} {B g n c i : Nat} {P : Program} {xs : List α} {x : α} (hi : (P.info? E.T).map (·.size) = some E.n) (hw : Region.wanted o (yielded ops a.tmps) = true) (p y : Operand) (ho : o.op = .store E.T p y)
    (k : E.Own w B (.slice (some ⟨g, 0, none⟩) n c) xs) (hin : i < n) (hp : a.eval p = .pointer (some ⟨g, i * E.n, none⟩)) (hy : a.eval y = .agg (E.enc x).toArray)
    (H : ∀ w', E.Own w' B (.slice (some ⟨g, 0, none⟩) n c) (xs.set i x) → w.grownBy w' (some g) → Below g w w' → w'.heap.size = w.heap.size → wpList P ops Q rest (a.put o.dst undef) w') : wpList P ops Q (o :: rest) a w := by
  have hn := k.len.1
  refine wpList_step fun K hK => ?_
  rw [if_pos hw]
  refine wp_store_mid (P := P) E.T p y ho g (i * E.n) _ hp hy (by rw [List.size_toArray, E.len]; exact k.there hin) (by rw [List.size_toArray, E.len]; exact hi) (enc_all E x) (hK _ _ (H _ ?_ (e_far _ _ (World.grownBy.refl _ _)) (e_cells (Nat.le_refl _) _ _ (Below.refl _ _)) (size_cells _ _ _ _)))
  have h1 : w.ownsRow B E.T E.n (.slice (some ⟨g, 0, none⟩) n c) n (E.row xs) := by
    have := k; unfold Own at this; rwa [← hn] at this
  have := own_many (E := E) (E.enc x) (i * E.n) (E.row xs) w h1
  rw [E.row_set (by omega) x] at this
  unfold Own
  rw [List.length_set, ← hn]
  exact this
/-- append onto a row of the call's own. -/
structure Info (E : Enc α) (P : Program) (TS : TypeId) (by_ : Nat) : Prop where
  u : P.underlying TS = some (.slice E.T)
  i : ∃ i z, P.info? E.T = some i ∧ i.zero = some z ∧ i.size = E.n ∧ i.bytes = by_ ∧ z.cells.size = E.n
theorem run_app (E : Enc α) {P : Program} {TS : TypeId} {by_ : Nat} (I : Info E P TS by_) (hby : by_ ≤ 1000) {w : World} (ty : TypeId) (B : Nat) (v : Value) (xs : List α) (hown : E.Own w B v xs) (ad : Addr) (c : Nat) (ys : List α) (hA : E.Has w (some ad) ys) (hs : xs.length + ys.length ≤ 1000000) (hB : B ≤ w.heap.size) :
    ∃ A' c' w', (Builtin.append_ #[TS, TS] ty #[v, .slice (some ad) ys.length c]).run P w = .ok (.slice A' (xs.length + ys.length) c') w' ∧ E.Own w' B (.slice A' (xs.length + ys.length) c') (xs ++ ys) ∧ w.grownBy w' v.ownBlock ∧ Below B w w' := by
  obtain ⟨i, z, hi, hz, hsize, hby', hzs⟩ := I.i
  obtain ⟨v', w', hrun, h2, h3, h4, _⟩ := run_append_own_at (P := P) w B TS ty E.T i z E.n by_ I.u hi hz hsize hby' hzs E.pos v xs.length (E.row xs) hown ad ys.length c (E.row ys) (E.row_len ys) hA.cells (E.row_ones ys) (by simp only [maxLen]; omega) (by
    have : (xs.length + ys.length) * by_ ≤ 1000000 * 1000 := Nat.mul_le_mul hs hby
    omega) hB
  have ho : E.Own w' B v' (xs ++ ys) := by unfold Own; rw [row_app, List.length_append]; exact h2
  obtain ⟨A', c', e1, _⟩ := ho.val
  rw [List.length_append] at e1
  subst e1
  exact ⟨A', c', w', hrun, ho, h3, (Below.refl B w).grown h3 hB (fun k e => (World.ownsRow.lt hown k e).1)⟩
theorem app (E : Enc α) {P : Program} {TS : TypeId} {by_ : Nat} (I : Info E P TS by_) (hby : by_ ≤ 1000) {w : World} {ops : Array Oper} {rest : List Oper} {o : Oper} {a : Act} {Q : Exit → Act → World → Prop} (hw : Region.wanted o (yielded ops a.tmps) = true) (s x : Operand)
    (ho : o.op = .call { callee := .builtin .append, args := #[s, x], argTypes := #[TS, TS] })
    (B : Nat) (v : Value) (xs : List α) (hs : a.eval s = v) (hown : E.Own w B v xs) (ad : Addr) (m c : Nat) (ys : List α) (hx : a.eval x = .slice (some ad) m c) (hm : ys.length = m) (hA : E.Has w (some ad) ys) (hl : xs.length + m ≤ 1000000) (hB : B ≤ w.heap.size) (tot : Nat) (htot : xs.length + m = tot)
    (h : ∀ A' c' w', E.Own w' B (.slice A' tot c') (xs ++ ys) → w.grownBy w' v.ownBlock → Below B w w' → wpList P ops Q rest (a.put o.dst (.slice A' tot c')) w') : wpList P ops Q (o :: rest) a w := by
  subst hm
  subst htot
  refine wpList_step fun K hK => ?_
  rw [if_pos hw]
  obtain ⟨A', c', w', hrun, h2, h3, h4⟩ := run_app E I hby o.type B v xs hown ad c ys hA hl hB
  unfold Oper.wp execOp
  simp only [ho, resolve, invoke, builtin, Sem.run_bind, Sem.run_pure, Result.andThen_ok, List.map_toArray, List.map_cons, List.map_nil, hs, hx, hrun]
  exact hK _ _ (h A' c' w' h2 h3 h4)
theorem op_app (E : Enc α) {P : Program} {TS : TypeId} {by_ : Nat} (I : Info E P TS by_) (hby : by_ ≤ 1000) {w : World} {o : Oper} {a : Act} {K : Act → World → Prop} {Q : Exit → Act → World → Prop} (s x : Operand)
    (ho : o.op = .call { callee := .builtin .append, args := #[s, x], argTypes := #[TS, TS] })
    (B : Nat) (v : Value) (xs : List α) (hs : a.eval s = v) (hown : E.Own w B v xs) (ad : Addr) (m c : Nat) (ys : List α) (hx : a.eval x = .slice (some ad) m c) (hm : ys.length = m) (hA : E.Has w (some ad) ys) (hl : xs.length + m ≤ 1000000) (hB : B ≤ w.heap.size) (tot : Nat) (htot : xs.length + m = tot)
    (h : ∀ A' c' w', E.Own w' B (.slice A' tot c') (xs ++ ys) → w.grownBy w' v.ownBlock → Below B w w' → K (a.put o.dst (.slice A' tot c')) w') : Oper.wp P o a w K Q := by
  subst hm
  subst htot
  obtain ⟨A', c', w', hrun, h2, h3, h4⟩ := run_app E I hby o.type B v xs hown ad c ys hA hl hB
  unfold Oper.wp execOp
  simp only [ho, resolve, invoke, builtin, Sem.run_bind, Sem.run_pure, Result.andThen_ok, List.map_toArray, List.map_cons, List.map_nil, hs, hx, hrun]
  exact h A' c' w' h2 h3 h4
/-- A literal of elements. -/
theorem lit (E : Enc α) (w : World) (xs : List α) {g : Nat} (hg : w.heap.size = g) : E.Has (w.alloc (.cells (E.row xs).toArray E.T)) (some ⟨g, 0, none⟩) xs := by
  subst hg
  refine .inr ⟨w.heap.size, 0, rfl, by simp, fun i v hv => ?_⟩
  have hh := heap_alloc_new w (.cells (E.row xs).toArray E.T)
  simp only [World.cell?, hh, Nat.zero_add]
  simpa using hv
end
end Enc
end Go.Proofs.Ythckpenindchlaa.base
