/- A row of the call's own of slices of bytes that came in: append of one. -/
import Derived.Test.YtjdgobfjpjnhgaaDoorRowsP
namespace Go.Proofs.YtjdgobfjpjnhgaaDoor.base
set_option maxRecDepth 100000
open Go.RowKit
set_option linter.unusedVariables false
/-- The row alone is of the call's own. -/
def OwnV (w : World) (B : Nat) (v : Value) (rs : List R8) : Prop := w.ownsRow B 23 1 v rs.length (rs.map R8.val)
theorem OwnV.nil (w : World) (B : Nat) : OwnV w B (.slice none 0 0) [] := ⟨rfl, .inl ⟨rfl, rfl⟩⟩
theorem OwnV.below {w w' : World} {B C : Nat} {v : Value} {rs : List R8} (h : OwnV w B v rs) (hb : Below C w w') (hC : w.heap.size ≤ C) : OwnV w' B v rs := by
  refine ⟨h.1, ?_⟩
  rcases h.2 with h2 | ⟨g, cap, cur, hv, hB, hg, r⟩
  · exact .inl h2
  · exact .inr ⟨g, cap, cur, hv, hB, by rw [hb.block g (Nat.lt_of_lt_of_le (lt_of_block hg) hC)]; exact hg, r⟩
theorem OwnV.past {w w' : World} {B : Nat} {v : Value} {rs : List R8} (h : OwnV w B v rs) (hb : Below w.heap.size w w') : OwnV w' B v rs := h.below hb (Nat.le_refl _)
theorem OwnV.mono {w : World} {B B' : Nat} {v : Value} {rs : List R8} (h : OwnV w B v rs) (hB : B' ≤ B) : OwnV w B' v rs := by
  refine ⟨h.1, ?_⟩
  rcases h.2 with h2 | ⟨g, cap, cur, hv, hg, r⟩
  · exact .inl h2
  · exact .inr ⟨g, cap, cur, hv, Nat.le_trans hB hg, r⟩
theorem OwnV.drewN {w : World} {B : Nat} {v : Value} {rs : List R8} (h : OwnV w B v rs) (n : Nat) : OwnV (w.drewN n) B v rs := h
theorem OwnV.append {w : World} (ty : TypeId) {B : Nat} {v : Value} {rs : List R8} (h : OwnV w B v rs) (hB : B ≤ w.heap.size) (r : R8) (hl : rs.length + 1 ≤ 1000000)
    (g c : Nat) (hg : w.cell? ⟨g, 0, none⟩ = some r.val) :
    ∃ A' c' w', (Builtin.append_ #[22, 22] ty #[v, .slice (some ⟨g, 0, none⟩) 1 c]).run Tryd.prog w = .ok (.slice A' (rs.length + 1) c') w' ∧ OwnV w' B (.slice A' (rs.length + 1) c') (rs ++ [r]) ∧ Below B w w' ∧ w.grownBy w' v.ownBlock := by
  obtain ⟨i, hi, hz, h1, h2⟩ := infoS
  obtain ⟨v', w', hrun, k2, k3, _, k5⟩ := run_append_own_at (P := Tryd.prog) w B 22 ty 23 i (.slice none 0 0) 1 24 Tryd.underlying22 hi hz h1 h2 rfl (by omega) v rs.length _ h ⟨g, 0, none⟩ 1 c [r.val] rfl (fun j u hu => by
    have hj : j = 0 := by
      rcases j with _ | j
      · rfl
      · simp at hu
    subst hj
    simp at hu
    subst hu
    rw [addr_add]; exact hg) (by intro u hu; simp at hu; subst hu; rfl) (by unfold maxLen; omega) (by omega) hB
  have k2' : OwnV w' B v' (rs ++ [r]) := by
    unfold OwnV
    rw [List.map_append, List.length_append]; exact k2
  have hbl : ∀ gg, v.ownBlock = some gg → B ≤ gg := fun gg hgg => (World.ownsRow.lt h gg hgg).1
  obtain ⟨A', c', e1⟩ : ∃ A' c', v' = .slice A' (rs.length + 1) c' := by
    rcases k2.2 with ⟨rfl, h0⟩ | ⟨g', cap, cur, hv, _⟩
    · omega
    · exact ⟨_, _, hv⟩
  subst e1
  exact ⟨A', c', w', hrun, k2', (Below.refl _ _).grown k3 hB hbl, k3⟩
theorem appV {w : World} {ops : Array Oper} {rest : List Oper} {o : Oper} {a : Act} {Q : Exit → Act → World → Prop} (hgd : o.guard = none) (s x : Operand)
    (ho : o.op = .call { callee := .builtin .append, args := #[s, x], argTypes := #[22, 22] })
    (B : Nat) (v : Value) (rs : List R8) (hs : a.eval s = v) (h : OwnV w B v rs) (hB : B ≤ w.heap.size) (g c : Nat) (hx : a.eval x = .slice (some ⟨g, 0, none⟩) 1 c) (r : R8) (hg : w.cell? ⟨g, 0, none⟩ = some r.val)
    (tot : Nat) (ht : rs.length + 1 = tot) (hl : tot ≤ 1000000)
    (k : ∀ A' c' w', OwnV w' B (.slice A' tot c') (rs ++ [r]) → Below B w w' → w.grownBy w' v.ownBlock → wpList Tryd.prog ops Q rest (a.put o.dst (.slice A' tot c')) w') : wpList Tryd.prog ops Q (o :: rest) a w := by
  subst ht
  refine wpList_plain hgd fun K hK => ?_
  obtain ⟨A', c', w', hrun, h2, h3, h4⟩ := h.append o.type hB r hl g c hg
  unfold Oper.wp execOp
  simp only [ho, resolve, invoke, builtin, Sem.run_bind, Sem.run_pure, Result.andThen_ok, List.map_toArray, List.map_cons, List.map_nil, hs, hx, hrun]
  exact hK _ _ (k A' c' w' h2 h3 h4)
theorem OwnV.val {w : World} {B : Nat} {v : Value} {rs : List R8} (h : OwnV w B v rs) (hin : ∀ r ∈ rs, InR w r) : ∃ A cap, v = .slice A rs.length cap ∧ HasL w A rs ∧ rs.length ≤ cap ∧ cap ≤ 9223372036854775807 := by
  rcases h.2 with ⟨rfl, h0⟩ | ⟨g, cap, cur, rfl, hB, hh, hnc, hcm, hcs, ht⟩
  · rw [h0]; exact ⟨none, 0, rfl, ⟨.inl (List.eq_nil_of_length_eq_zero h0), hin⟩, by omega, by omega⟩
  · refine ⟨_, cap, rfl, ⟨.inr ⟨g, 0, rfl, lt_of_block hh, fun i hi => ?_⟩, hin⟩, hnc, by unfold maxLen at hcm; omega⟩
    have : w.cell? ⟨g, 0 + i, none⟩ = cur[0 + i]? := by simp [World.cell?, hh]
    rw [this, Nat.zero_add, ← Array.getElem?_toList]
    have e1 : (cur.toList.take (rs.length * 1))[i]? = cur.toList[i]? := by rw [List.getElem?_take, if_pos (by omega)]
    rw [← e1, ht, List.getElem?_map, List.getElem?_eq_getElem hi]
    simp [List.getD_eq_getElem?_getD, List.getElem?_eq_getElem hi, R8.val]
theorem OwnV.rows {w : World} {B : Nat} {A : Option Addr} {n c : Nat} {rs : List R8} (h : OwnV w B (.slice A n c) rs) (hin : ∀ r ∈ rs, InR w r) : RowsB w A n c rs := by
  obtain ⟨A', c', e, h1, h2, h3⟩ := h.val hin
  injection e with e1 e2 e3
  subst e1 e2 e3
  exact ⟨rfl, h2, h3, h1⟩
end Go.Proofs.YtjdgobfjpjnhgaaDoor.base
