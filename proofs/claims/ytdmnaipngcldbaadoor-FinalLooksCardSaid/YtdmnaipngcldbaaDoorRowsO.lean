/- A row of rows of words ([][]int32) of the call's own: its rows are of the call's own, and no two of them share a block. -/
import Derived.Test.YtdmnaipngcldbaaDoorRows32
import Derived.Test.YtdmnaipngcldbaaDoorOwnY
import Derived.Test.YtdmnaipngcldbaaDoorBlock
namespace Go.Proofs.YtdmnaipngcldbaaDoor.base
set_option maxRecDepth 100000
open Go.RowKit
set_option linter.unusedVariables false
def RY.val (r : RY) : Value := .slice r.A r.n r.c
theorem ownY_cap {w : World} {B : Nat} {e : TypeId} {k : IntKind} {A : Option Addr} {n c : Nat} {zs : List Int} (h : OwnI w B e k (.slice A n c) zs) : zs.length = n ∧ n ≤ c ∧ c ≤ 9223372036854775807 := by
  rcases h.2 with ⟨h', h0⟩ | ⟨g, cap, cur, h', hB, hg, hnc, hcm, _⟩
  · injection h' with _ h2 h3
    omega
  · injection h' with _ h2 h3
    unfold maxLen at hcm
    omega
/-- What one row is. -/
structure OneR (w : World) (B : Nat) (r : RY) : Prop where
  len : r.b.length = r.n
  c1 : r.n ≤ r.c
  c2 : r.c ≤ 9223372036854775807
  own : r.n ≠ 0 → OwnI w B 21 .i32 r.val r.b
  bd : ∀ z ∈ r.b, -2147483648 ≤ z ∧ z ≤ 2147483647
theorem OneR.below {w w' : World} {B C : Nat} {r : RY} (h : OneR w B r) (hb : Below C w w') (hC : w.heap.size ≤ C) : OneR w' B r := ⟨h.len, h.c1, h.c2, fun hn => (h.own hn).below hb hC, h.bd⟩
theorem OneR.mono {w : World} {B B' : Nat} {r : RY} (h : OneR w B r) (hB : B' ≤ B) : OneR w B' r := ⟨h.len, h.c1, h.c2, fun hn => (h.own hn).mono hB, h.bd⟩
theorem oneR_nil (w : World) (B : Nat) : OneR w B ry0 := ⟨rfl, Nat.le_refl _, by decide, fun h => absurd rfl h, by simp [ry0]⟩
theorem OneR.in_ {w : World} {B : Nat} {r : RY} (h : OneR w B r) : InY w r := by
  refine ⟨?_, h.len, h.c1, h.c2, h.bd⟩
  by_cases hn : r.n = 0
  · exact .inl (List.eq_nil_of_length_eq_zero (by rw [h.len, hn]))
  · exact (h.own hn).has
theorem OneR.blk {w : World} {B : Nat} {r : RY} (h : OneR w B r) (hn : r.n ≠ 0) : ∃ g, r.A = some ⟨g, 0, none⟩ ∧ r.val.ownBlock = some g ∧ B ≤ g ∧ g < w.heap.size := by
  obtain ⟨g, h1, h2, h3, _⟩ := (h.own hn).form (by intro e; rw [← h.len, e] at hn; exact hn rfl)
  exact ⟨g, h1, by unfold RY.val; rw [h1]; rfl, h2, h3⟩
def RApart (r s : RY) : Prop := r.n ≠ 0 → s.n ≠ 0 → r.val.ownBlock ≠ s.val.ownBlock
structure OwnR (w : World) (B : Nat) (v : Value) (rs : List RY) : Prop where
  row : w.ownsRow B 50 1 v rs.length (rs.map RY.val)
  one : ∀ i, i < rs.length → OneR w B (rs.getD i ry0)
  ap : ∀ i j, i < rs.length → j < rs.length → i ≠ j → RApart (rs.getD i ry0) (rs.getD j ry0)
theorem OwnR.nil (w : World) (B : Nat) : OwnR w B (.slice none 0 0) [] := ⟨⟨rfl, .inl ⟨rfl, rfl⟩⟩, fun i hi => absurd hi (Nat.not_lt_zero _), fun i _ hi => absurd hi (Nat.not_lt_zero _)⟩
theorem OwnR.below {w w' : World} {B C : Nat} {v : Value} {rs : List RY} (h : OwnR w B v rs) (hb : Below C w w') (hC : w.heap.size ≤ C) : OwnR w' B v rs := by
  refine ⟨⟨h.row.1, ?_⟩, fun i hi => (h.one i hi).below hb hC, h.ap⟩
  rcases h.row.2 with h2 | ⟨g, cap, cur, hv, hB, hg, r⟩
  · exact .inl h2
  · exact .inr ⟨g, cap, cur, hv, hB, by rw [hb.block g (Nat.lt_of_lt_of_le (lt_of_block hg) hC)]; exact hg, r⟩
theorem OwnR.past {w w' : World} {B : Nat} {v : Value} {rs : List RY} (h : OwnR w B v rs) (hb : Below w.heap.size w w') : OwnR w' B v rs := h.below hb (Nat.le_refl _)
theorem OwnR.drewN {w : World} {B : Nat} {v : Value} {rs : List RY} (h : OwnR w B v rs) (n : Nat) : OwnR (w.drewN n) B v rs := h.past ⟨rfl, rfl, rfl, Nat.le_refl _, fun _ _ => rfl⟩
theorem OwnR.alloc {w : World} {B : Nat} {v : Value} {rs : List RY} (h : OwnR w B v rs) (o : Obj) : OwnR (w.alloc o) B v rs := h.past ((Below.refl _ _).alloc (Nat.le_refl _) _)
theorem OwnR.mono {w : World} {B B' : Nat} {v : Value} {rs : List RY} (h : OwnR w B v rs) (hB : B' ≤ B) : OwnR w B' v rs := by
  refine ⟨⟨h.row.1, ?_⟩, fun i hi => (h.one i hi).mono hB, h.ap⟩
  rcases h.row.2 with h2 | ⟨g, cap, cur, hv, hg, r⟩
  · exact .inl h2
  · exact .inr ⟨g, cap, cur, hv, Nat.le_trans hB hg, r⟩
theorem infoSY : ∃ i, Tryd.prog.info? 50 = some i ∧ i.zero = some (.slice none 0 0) ∧ i.size = 1 ∧ i.bytes = 24 := info_parts (by kernel_rfl)
theorem ownr_set {w : World} {B : Nat} {v : Value} {n : Nat} {xs : List Value} {p : Addr} (h : w.ownsRow B 50 1 v n xs) (hne : v.ownBlock ≠ some p.block) (x : Value) : (w.setCell p x).ownsRow B 50 1 v n xs := by
  refine ⟨h.1, ?_⟩
  rcases h.2 with h2 | ⟨g, cap, cur, hv, hB, hg, r⟩
  · exact .inl h2
  · exact .inr ⟨g, cap, cur, hv, hB, by rw [Below.heap_setCell w p x g (fun e => hne (by rw [hv, e]; rfl))]; exact hg, r⟩
theorem owni_set {w : World} {B : Nat} {e : TypeId} {k : IntKind} {v : Value} {zs : List Int} {p : Addr} (h : OwnI w B e k v zs) (hne : v.ownBlock ≠ some p.block) (x : Value) : OwnI (w.setCell p x) B e k v zs := by
  refine ⟨h.1, ?_⟩
  rcases h.2 with h2 | ⟨g, cap, cur, hv, hB, hg, r⟩
  · exact .inl h2
  · exact .inr ⟨g, cap, cur, hv, hB, by rw [Below.heap_setCell w p x g (fun e => hne (by rw [hv, e]; rfl))]; exact hg, r⟩
theorem OneR.set {w : World} {B : Nat} {r : RY} {p : Addr} (h : OneR w B r) (hne : r.n ≠ 0 → r.val.ownBlock ≠ some p.block) (x : Value) : OneR (w.setCell p x) B r := ⟨h.len, h.c1, h.c2, fun hn => owni_set (h.own hn) (hne hn) x, h.bd⟩
/-- The outer row's block is none of a row's. -/
theorem outer_ne {w : World} {B B' : Nat} {v : Value} {n : Nat} {xs : List Value} (h : w.ownsRow B 50 1 v n xs) {u : Value} {zs : List Int} (o : OwnI w B' 21 .i32 u zs) {g : Nat} (hg : v.ownBlock = some g) : u.ownBlock ≠ some g := by
  rcases o.2 with ⟨rfl, _⟩ | ⟨g', cap, cur, rfl, hB, hh, r⟩
  · simp [Value.ownBlock]
  · rcases h.2 with ⟨rfl, _⟩ | ⟨g2, cap2, cur2, rfl, hB2, hh2, r2⟩
    · simp [Value.ownBlock] at hg
    · intro e
      have e : g' = g := by simpa [Value.ownBlock] using e
      have e2 : g2 = g := by simpa [Value.ownBlock] using hg
      subst e; subst e2
      rw [hh] at hh2
      injection hh2 with hh2
      injection hh2 with _ h3
      exact absurd h3 (by decide)
theorem gd_snoc_lt {α : Type} {l : List α} {x d : α} {i : Nat} (h : i < l.length) : (l ++ [x]).getD i d = l.getD i d := by
  simp only [List.getD_eq_getElem?_getD, List.getElem?_append_left h]
theorem gd_snoc_eq {α : Type} {l : List α} {x d : α} : (l ++ [x]).getD l.length d = x := by simp [List.getD_eq_getElem?_getD]
theorem gd_set_eq {α : Type} {l : List α} {x d : α} {i : Nat} (h : i < l.length) : (l.set i x).getD i d = x := by simp [List.getD_eq_getElem?_getD, h]
theorem gd_set_ne {α : Type} {l : List α} {x d : α} {i j : Nat} (h : i ≠ j) : (l.set i x).getD j d = l.getD j d := by simp [List.getD_eq_getElem?_getD, h]
/-- Rows that are below a number do not share a block with one from that number on. -/
theorem apart_new {w w' : World} {B C : Nat} {r s : RY} (h : OneR w B r) (h' : OneR w' C s) (hC : w.heap.size ≤ C) : RApart r s ∧ RApart s r := by
  constructor
  · intro h1 h2
    obtain ⟨g, _, e1, _, l1⟩ := h.blk h1
    obtain ⟨g', _, e2, l2, _⟩ := h'.blk h2
    rw [e1, e2]
    intro e; injection e with e; omega
  · intro h2 h1
    obtain ⟨g, _, e1, _, l1⟩ := h.blk h1
    obtain ⟨g', _, e2, l2, _⟩ := h'.blk h2
    rw [e1, e2]
    intro e; injection e with e; omega
theorem OwnR.append {w : World} (ty : TypeId) {B : Nat} {v : Value} {rs : List RY} (h : OwnR w B v rs) (hB : B ≤ w.heap.size) (r : RY) (hr : OneR w B r)
    (hap : ∀ i, i < rs.length → RApart (rs.getD i ry0) r ∧ RApart r (rs.getD i ry0)) (hl : rs.length + 1 ≤ 1000000)
    (g c : Nat) (hg : w.cell? ⟨g, 0, none⟩ = some r.val) :
    ∃ A' c' w', (Builtin.append_ #[22, 22] ty #[v, .slice (some ⟨g, 0, none⟩) 1 c]).run Tryd.prog w = .ok (.slice A' (rs.length + 1) c') w' ∧ OwnR w' B (.slice A' (rs.length + 1) c') (rs ++ [r]) ∧ w.grownBy w' v.ownBlock ∧ Below B w w' := by
  obtain ⟨i, hi, hz, h1, h2⟩ := infoSY
  obtain ⟨v', w', hrun, k2, k3, _, k5⟩ := run_append_own_at (P := Tryd.prog) w B 22 ty 50 i (.slice none 0 0) 1 24 Tryd.underlying22 hi hz h1 h2 rfl (by omega) v rs.length _ h.row ⟨g, 0, none⟩ 1 c [r.val] rfl (fun j u hu => by
    have hj : j = 0 := by
      rcases j with _ | j
      · rfl
      · simp at hu
    subst hj
    simp at hu
    subst hu
    rw [addr_add]; exact hg) (by intro u hu; simp at hu; subst hu; rfl) (by unfold maxLen; omega) (by omega) hB
  have k2' : w'.ownsRow B 50 1 v' (rs ++ [r]).length ((rs ++ [r]).map RY.val) := by
    rw [List.map_append, List.length_append]; exact k2
  have hbl : ∀ gg, v.ownBlock = some gg → B ≤ gg := fun gg hgg => (World.ownsRow.lt h.row gg hgg).1
  obtain ⟨A', c', e1⟩ : ∃ A' c', v' = .slice A' (rs.length + 1) c' := by
    rcases k2.2 with ⟨rfl, h0⟩ | ⟨g', cap, cur, hv, _⟩
    · omega
    · exact ⟨_, _, hv⟩
  subst e1
  have keep : ∀ s, OneR w B s → OneR w' B s := fun s hs => ⟨hs.len, hs.c1, hs.c2, fun hn => (hs.own hn).kept k3 (by
    cases hv : v.ownBlock with
    | none => exact .inr (by obtain ⟨g', _, e1, _⟩ := hs.blk hn; rw [e1]; simp)
    | some gg => exact .inr (outer_ne h.row (hs.own hn) hv)), hs.bd⟩
  refine ⟨A', c', w', hrun, ⟨k2', ?_, ?_⟩, k3, (Below.refl _ _).grown k3 hB hbl⟩
  · intro j hj
    rw [List.length_append, List.length_singleton] at hj
    by_cases c : j < rs.length
    · rw [gd_snoc_lt c]; exact keep _ (h.one j c)
    · obtain rfl : j = rs.length := by omega
      rw [gd_snoc_eq]; exact keep _ hr
  · intro x y hx hy hxy
    rw [List.length_append, List.length_singleton] at hx hy
    by_cases c : x < rs.length
    · by_cases d : y < rs.length
      · rw [gd_snoc_lt c, gd_snoc_lt d]; exact h.ap x y c d hxy
      · obtain rfl : y = rs.length := by omega
        rw [gd_snoc_lt c, gd_snoc_eq]; exact (hap x c).1
    · obtain rfl : x = rs.length := by omega
      have d : y < rs.length := by omega
      rw [gd_snoc_lt d, gd_snoc_eq]; exact (hap y d).2
theorem appRY {w : World} {ops : Array Oper} {rest : List Oper} {o : Oper} {a : Act} {Q : Exit → Act → World → Prop} (hgd : o.guard = none) (s x : Operand)
    (ho : o.op = .call { callee := .builtin .append, args := #[s, x], argTypes := #[22, 22] })
    (B : Nat) (v : Value) (rs : List RY) (hs : a.eval s = v) (h : OwnR w B v rs) (hB : B ≤ w.heap.size) (g c : Nat) (hx : a.eval x = .slice (some ⟨g, 0, none⟩) 1 c) (r : RY) (hg : w.cell? ⟨g, 0, none⟩ = some r.val)
    (hr : OneR w B r) (hap : ∀ i, i < rs.length → RApart (rs.getD i ry0) r ∧ RApart r (rs.getD i ry0)) (tot : Nat) (ht : rs.length + 1 = tot) (hl : tot ≤ 1000000)
    (k : ∀ A' c' w', OwnR w' B (.slice A' tot c') (rs ++ [r]) → w.grownBy w' v.ownBlock → Below B w w' → wpList Tryd.prog ops Q rest (a.put o.dst (.slice A' tot c')) w') : wpList Tryd.prog ops Q (o :: rest) a w := by
  subst ht
  refine wpList_plain hgd fun K hK => ?_
  obtain ⟨A', c', w', hrun, h2, h4, h3⟩ := h.append o.type hB r hr hap hl g c hg
  unfold Oper.wp execOp
  simp only [ho, resolve, invoke, builtin, Sem.run_bind, Sem.run_pure, Result.andThen_ok, List.map_toArray, List.map_cons, List.map_nil, hs, hx, hrun]
  exact hK _ _ (k A' c' w' h2 h4 h3)
/-- A row of rows reads as an argument does. -/
theorem OwnR.rows {w : World} {B : Nat} {A : Option Addr} {n c : Nat} {rs : List RY} (h : OwnR w B (.slice A n c) rs) : RowsY w A n c rs := by
  have hall : ∀ r ∈ rs, InY w r := fun r hr => by
    obtain ⟨i, hi, rfl⟩ := List.getElem_of_mem hr
    have := (h.one i hi).in_
    rwa [List.getD_eq_getElem?_getD, List.getElem?_eq_getElem hi] at this
  rcases h.row.2 with ⟨e, h0⟩ | ⟨g, cap, cur, e, hB, hh, hnc, hcm, hcs, ht⟩
  · injection e with e1 e2 e3
    subst e1; subst e2; subst e3
    exact ⟨h0, Nat.le_refl _, by decide, ⟨.inl (List.eq_nil_of_length_eq_zero h0), hall⟩⟩
  · injection e with e1 e2 e3
    subst e1; subst e2; subst e3
    refine ⟨rfl, hnc, by unfold maxLen at hcm; exact hcm, ⟨.inr ⟨g, 0, rfl, lt_of_block hh, fun i hi => ?_⟩, hall⟩⟩
    have : w.cell? ⟨g, 0 + i, none⟩ = cur[0 + i]? := by simp [World.cell?, hh]
    rw [this, Nat.zero_add, ← Array.getElem?_toList]
    have e1 : (cur.toList.take (rs.length * 1))[i]? = cur.toList[i]? := by rw [List.getElem?_take, if_pos (by omega)]
    rw [← e1, ht, List.getElem?_map, List.getElem?_eq_getElem hi]
    simp [List.getD_eq_getElem?_getD, List.getElem?_eq_getElem hi, RY.val]
/-- A row of rows that has an element stands at the head of a block. -/
theorem OwnR.form {w : World} {B : Nat} {A : Option Addr} {n c : Nat} {rs : List RY} (h : OwnR w B (.slice A n c) rs) (hp : 0 < rs.length) : ∃ g, A = some ⟨g, 0, none⟩ ∧ B ≤ g ∧ g < w.heap.size ∧ n = rs.length := by
  rcases h.row.2 with ⟨e, h0⟩ | ⟨g, cap, cur, e, hB, hh, hnc, hcm, hcs, ht⟩
  · omega
  · injection e with e1 e2 e3
    exact ⟨g, e1, hB, lt_of_block hh, e2⟩
theorem OwnR.cell {w : World} {B g n c : Nat} {rs : List RY} (h : OwnR w B (.slice (some ⟨g, 0, none⟩) n c) rs) (i : Nat) (hi : i < rs.length) : w.cell? ⟨g, i, none⟩ = some (.slice (rs.getD i ry0).A (rs.getD i ry0).n (rs.getD i ry0).c) := by
  rcases h.rows.h.at_ with h0 | ⟨b, off, e, _, hc⟩
  · subst h0; exact absurd hi (Nat.not_lt_zero _)
  · injection e with e
    injection e with e1 e2 _
    subst e1; subst e2
    have := hc i hi
    rwa [Nat.zero_add] at this
theorem OwnR.frozen {w : World} {B g n c : Nat} {rs : List RY} (h : OwnR w B (.slice (some ⟨g, 0, none⟩) n c) rs) (i : Nat) : w.frozen? ⟨g, i, none⟩ = false := by
  rcases h.row.2 with ⟨h', _⟩ | ⟨g', cap', cur, h', hb, hg, _⟩
  · cases h'
  · injection h' with h1 _ _
    injection h1 with h1
    injection h1 with h1
    subst h1
    exact frozen_of_row w g i cur _ hg
/-- A row is stored into it. -/
theorem OwnR.put {w : World} {B g n c : Nat} {rs : List RY} (h : OwnR w B (.slice (some ⟨g, 0, none⟩) n c) rs) (i : Nat) (r : RY) (hr : OneR w B r)
    (hap : ∀ j, j < rs.length → j ≠ i → RApart (rs.getD j ry0) r ∧ RApart r (rs.getD j ry0)) : OwnR (w.setCell ⟨g, i, none⟩ (.slice r.A r.n r.c)) B (.slice (some ⟨g, 0, none⟩) n c) (rs.set i r) := by
  have hn : n = rs.length := by
    rcases h.row.2 with ⟨h', _⟩ | ⟨g', cap', cur, h', _⟩
    · cases h'
    · injection h' with _ h2 _
  subst hn
  have keep : ∀ s, OneR w B s → OneR (w.setCell ⟨g, i, none⟩ (.slice r.A r.n r.c)) B s := fun s hs => hs.set (p := ⟨g, i, none⟩) (fun hn => outer_ne h.row (hs.own hn) rfl) _
  refine ⟨?_, ?_, ?_⟩
  · rw [List.length_set, List.map_set]
    exact (World.ownsRow.stored h.row i (.slice r.A r.n r.c)).1
  · intro j hj
    rw [List.length_set] at hj
    by_cases e : i = j
    · subst e; rw [gd_set_eq hj]; exact keep _ hr
    · rw [gd_set_ne e]; exact keep _ (h.one j hj)
  · intro x y hx hy hxy
    rw [List.length_set] at hx hy
    by_cases ex : i = x
    · subst ex
      rw [gd_set_eq hx, gd_set_ne hxy]
      exact (hap y hy (Ne.symm hxy)).2
    · by_cases ey : i = y
      · subst ey
        rw [gd_set_ne ex, gd_set_eq hy]
        exact (hap x hx (Ne.symm ex)).1
      · rw [gd_set_ne ex, gd_set_ne ey]; exact h.ap x y hx hy hxy
/-- A number is stored into one of its rows. -/
theorem OwnR.putAt {w : World} {B : Nat} {v : Value} {rs : List RY} (h : OwnR w B v rs) (i j : Nat) (hi : i < rs.length) (g n c : Nat) (zs : List Int) (hr : rs.getD i ry0 = ⟨some ⟨g, 0, none⟩, n, c, zs⟩) (hn : n ≠ 0) (x : Int) (hx : -2147483648 ≤ x ∧ x ≤ 2147483647) :
    OwnR (w.setCell ⟨g, j, none⟩ (.int .i32 x)) B v (rs.set i ⟨some ⟨g, 0, none⟩, n, c, zs.set j x⟩) := by
  have ho := h.one i hi
  rw [hr] at ho
  have hown := ho.own hn
  have hg : ∀ gg, v.ownBlock = some gg → gg ≠ g := fun gg e e2 => outer_ne h.row hown e (by rw [e2]; rfl)
  have hval : (⟨some ⟨g, 0, none⟩, n, c, zs.set j x⟩ : RY).val = (rs.getD i ry0).val := by rw [hr]; rfl
  refine ⟨?_, ?_, ?_⟩
  · have e1 : (rs.set i ⟨some ⟨g, 0, none⟩, n, c, zs.set j x⟩).map RY.val = rs.map RY.val := by
      rw [List.map_set]
      apply List.ext_getElem?
      intro k
      by_cases e : i = k
      · subst e
        rw [List.getElem?_set_self (by simpa using hi), List.getElem?_map, List.getElem?_eq_getElem hi, hval, List.getD_eq_getElem?_getD, List.getElem?_eq_getElem hi]
        rfl
      · rw [List.getElem?_set_ne e]
    rw [List.length_set, e1]
    exact ownr_set h.row (fun e => hg g e rfl) _
  · intro k hk
    rw [List.length_set] at hk
    by_cases e : i = k
    · subst e
      rw [gd_set_eq hk]
      refine ⟨by rw [List.length_set]; exact ho.len, ho.c1, ho.c2, fun _ => OwnI.store hown j x, ?_⟩
      intro z hz
      rcases List.mem_or_eq_of_mem_set hz with hz | rfl
      · exact ho.bd z hz
      · exact hx
    · rw [gd_set_ne e]
      refine (h.one k hk).set (fun hk0 => ?_) _
      have := h.ap i k hi hk e
      rw [hr] at this
      exact fun e2 => this hn hk0 (by rw [e2]; rfl)
  · intro a b ha hb hab
    rw [List.length_set] at ha hb
    have hh := h.ap a b ha hb hab
    by_cases ea : i = a
    · subst ea
      rw [gd_set_eq ha, gd_set_ne hab]
      rw [hr] at hh
      exact hh
    · by_cases eb : i = b
      · subst eb
        rw [gd_set_ne ea, gd_set_eq hb]
        rw [hr] at hh
        exact hh
      · rw [gd_set_ne ea, gd_set_ne eb]; exact hh
/-- make([][]int32, n). -/
theorem makeRY {w : World} {ops : Array Oper} {rest : List Oper} {o : Oper} {a : Act} {Q : Exit → Act → World → Prop} (hg : o.guard = none) (l c : Operand) (hop : o.op = Op.makeSlice 22 l c)
    (kl kc : IntKind) (n : Nat) (hl : a.eval l = .int kl (n : Int)) (hc : a.eval c = .int kc (n : Int)) (hn : n ≤ 1000000) (base : Nat) (hbase : base ≤ w.heap.size)
    (h : ∀ w', OwnR w' base (.slice (some ⟨w.heap.size, 0, none⟩) n n) (List.replicate n ry0) → Below w.heap.size w w' → wpList Tryd.prog ops Q rest (a.put o.dst (.slice (some ⟨w.heap.size, 0, none⟩) n n)) w') : wpList Tryd.prog ops Q (o :: rest) a w := by
  obtain ⟨i, hi, hz, h1, h2⟩ := infoSY
  refine wpList_make_full w hg l c _ hop base 50 i (.slice none 0 0) 1 Tryd.underlying22 hi hz h1 kl kc n n n hl hc rfl rfl (by rw [h2]; omega) (by simp only [maxLen]; omega) hbase fun w' hown hgr => h w' ?_ ?_
  · have hg0 : ∀ i, (List.replicate n ry0).getD i ry0 = ry0 := fun i => by
      rw [List.getD_eq_getElem?_getD, List.getElem?_replicate]
      split <;> rfl
    refine ⟨?_, fun i _ => by rw [hg0]; exact oneR_nil _ _, fun i j _ _ _ => by rw [hg0, hg0]; exact fun h => absurd rfl h⟩
    have e : (Value.slice none 0 0).cells = #[.slice none 0 0] := rfl
    rw [e, toList_madeCells_one] at hown
    rw [List.length_replicate, List.map_replicate, show ry0.val = Value.slice none 0 0 from rfl]
    simpa using hown
  · exact (Below.refl _ _).grown hgr (Nat.le_refl _) (by simp)
/-- A store elsewhere. -/
theorem OwnR.other {w : World} {B g : Nat} {v : Value} {rs : List RY} {t : TypeId} {cs : List Value} (h : OwnR w B v rs) (K : Lies w g t cs) (ht : t ≠ 50) (ht2 : t ≠ 21) (i : Nat) (x : Value) : OwnR (w.setCell ⟨g, i, none⟩ x) B v rs := by
  refine ⟨ownr_set h.row (fun e => ?_) _, fun j hj => (h.one j hj).set (fun hn e => ?_) _, h.ap⟩
  · rcases h.row.2 with ⟨rfl, _⟩ | ⟨g', cap, cur, rfl, hB, hg, r⟩
    · simp [Value.ownBlock] at e
    · have : g' = g := by simpa [Value.ownBlock] using e
      subst this
      unfold Lies at K
      rw [hg] at K
      injection K with K
      injection K with _ K2
      exact ht K2.symm
  · rcases ((h.one j hj).own hn).2 with ⟨h1, _⟩ | ⟨g', cap, cur, h1, hB, hg, r⟩
    · rw [h1] at e; simp [Value.ownBlock] at e
    · rw [h1] at e
      have : g' = g := by simpa [Value.ownBlock] using e
      subst this
      unfold Lies at K
      rw [hg] at K
      injection K with K
      injection K with _ K2
      exact ht2 K2.symm
theorem OwnR.base {w : World} {B g n c : Nat} {rs : List RY} (h : OwnR w B (.slice (some ⟨g, 0, none⟩) n c) rs) : B ≤ g ∧ g < w.heap.size := World.ownsRow.lt h.row g rfl
theorem OwnR.ne {w : World} {B g n c g' : Nat} {rs : List RY} {t : TypeId} {cs : List Value} (h : OwnR w B (.slice (some ⟨g, 0, none⟩) n c) rs) (K : Lies w g' t cs) (ht : t ≠ 50) : g ≠ g' := by
  rintro rfl
  rcases h.row.2 with ⟨h', _⟩ | ⟨g', cap, cur, e, hB, hg, r⟩
  · cases h'
  · injection e with e _ _
    injection e with e
    injection e with e _ _
    subst e
    unfold Lies at K
    rw [hg] at K
    injection K with K
    injection K with _ K2
    exact ht K2.symm
theorem OwnR.ne_own {w : World} {B B' g n c : Nat} {rs : List RY} (h : OwnR w B (.slice (some ⟨g, 0, none⟩) n c) rs) {u : Value} {zs : List Int} (o : OwnI w B' 21 .i32 u zs) : u.ownBlock ≠ some g := outer_ne h.row o rfl
end Go.Proofs.YtdmnaipngcldbaaDoor.base
