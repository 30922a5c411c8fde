/- A row of slices of bytes of the call's own: its pieces are of the call's own, too. -/
import Derived.Test.YtjdgobfjpjnhgaaDoorRows8
import Derived.Test.YtjdgobfjpjnhgaaDoorFar
namespace Go.Proofs.YtjdgobfjpjnhgaaDoor.base
set_option maxRecDepth 100000
open Go.RowKit
set_option linter.unusedVariables false
def R8.val (r : R8) : Value := .slice r.A r.n r.c
structure OwnP (w : World) (B : Nat) (v : Value) (rs : List R8) : Prop where
  row : w.ownsRow B 23 1 v rs.length (rs.map R8.val)
  own : ∀ r ∈ rs, OwnZ w B r.val r.b
  bd : ∀ r ∈ rs, ∀ z ∈ r.b, 0 ≤ z ∧ z ≤ 255
theorem OwnP.nil (w : World) (B : Nat) : OwnP w B (.slice none 0 0) [] := ⟨⟨rfl, .inl ⟨rfl, rfl⟩⟩, by simp, by simp⟩
theorem OwnP.below {w w' : World} {B C : Nat} {v : Value} {rs : List R8} (h : OwnP w B v rs) (hb : Below C w w') (hC : w.heap.size ≤ C) : OwnP w' B v rs := by
  refine ⟨⟨h.row.1, ?_⟩, fun r hr => (h.own r hr).below hb hC, h.bd⟩
  rcases h.row.2 with h2 | ⟨g, cap, cur, hv, hB, hg, r⟩
  · exact .inl h2
  · exact .inr ⟨g, cap, cur, hv, hB, by rw [hb.block g (Nat.lt_of_lt_of_le (lt_of_block hg) hC)]; exact hg, r⟩
theorem OwnP.past {w w' : World} {B : Nat} {v : Value} {rs : List R8} (h : OwnP w B v rs) (hb : Below w.heap.size w w') : OwnP w' B v rs := h.below hb (Nat.le_refl _)
theorem OwnP.mono {w : World} {B B' : Nat} {v : Value} {rs : List R8} (h : OwnP w B v rs) (hB : B' ≤ B) : OwnP w B' v rs := by
  refine ⟨⟨h.row.1, ?_⟩, fun r hr => (h.own r hr).mono hB, h.bd⟩
  rcases h.row.2 with h2 | ⟨g, cap, cur, hv, hg, r⟩
  · exact .inl h2
  · exact .inr ⟨g, cap, cur, hv, Nat.le_trans hB hg, r⟩
theorem one_slices {rs : List R8} : ∀ u ∈ rs.map R8.val, u.oneCell' = true := by
  intro u hu
  obtain ⟨r, _, rfl⟩ := List.mem_map.1 hu
  rfl
theorem infoS : ∃ i, Tryd.prog.info? 23 = some i ∧ i.zero = some (.slice none 0 0) ∧ i.size = 1 ∧ i.bytes = 24 := info_parts (by kernel_rfl)
/-- The row's block is none of a piece's. -/
theorem ne_blocks {w : World} {B : Nat} {v : Value} {rs : List R8} (h : w.ownsRow B 23 1 v rs.length (rs.map R8.val)) {u : Value} {zs : List Int} (o : OwnI w B 5 .u8 u zs) : u.ownBlock = none ∨ u.ownBlock ≠ v.ownBlock := by
  rcases o.2 with ⟨rfl, _⟩ | ⟨g, cap, cur, rfl, hB, hg, r⟩
  · exact .inl rfl
  · refine .inr ?_
    rcases h.2 with ⟨rfl, _⟩ | ⟨g', cap', cur', rfl, hB', hg', r'⟩
    · simp [Value.ownBlock]
    · intro e
      have e : g = g' := by simpa [Value.ownBlock] using e
      subst e
      rw [hg] at hg'
      injection hg' with hg'
      injection hg' with _ h2
      exact absurd h2 (by decide)
theorem OwnP.append {w : World} (ty : TypeId) {B : Nat} {v : Value} {rs : List R8} (h : OwnP w B v rs) (hB : B ≤ w.heap.size) (r : R8) (hr : OwnZ w B r.val r.b) (hb : ∀ z ∈ r.b, 0 ≤ z ∧ z ≤ 255) (hl : rs.length + 1 ≤ 1000000)
    (g c : Nat) (hg : w.cell? ⟨g, 0, none⟩ = some r.val) :
    ∃ A' c' w', (Builtin.append_ #[22, 22] ty #[v, .slice (some ⟨g, 0, none⟩) 1 c]).run Tryd.prog w = .ok (.slice A' (rs.length + 1) c') w' ∧ OwnP w' B (.slice A' (rs.length + 1) c') (rs ++ [r]) ∧ Below B w w' := by
  obtain ⟨i, hi, hz, h1, h2⟩ := infoS
  obtain ⟨v', w', hrun, k2, k3, _, k5⟩ := run_append_own_at (P := Tryd.prog) w B 22 ty 23 i (.slice none 0 0) 1 24 Tryd.underlying22 hi hz h1 h2 rfl (by omega) v rs.length _ h.row ⟨g, 0, none⟩ 1 c [r.val] rfl (fun j u hu => by
    have hj : j = 0 := by
      rcases j with _ | j
      · rfl
      · simp at hu
    subst hj
    simp at hu
    subst hu
    rw [addr_add]; exact hg) (by intro u hu; simp at hu; subst hu; rfl) (by unfold maxLen; omega) (by omega) hB
  have k2' : w'.ownsRow B 23 1 v' (rs ++ [r]).length ((rs ++ [r]).map R8.val) := by
    rw [List.map_append, List.length_append]; exact k2
  have hbl : ∀ gg, v.ownBlock = some gg → B ≤ gg := fun gg hgg => (World.ownsRow.lt h.row gg hgg).1
  obtain ⟨A', c', e1⟩ : ∃ A' c', v' = .slice A' (rs.length + 1) c' := by
    rcases k2.2 with ⟨rfl, h0⟩ | ⟨g', cap, cur, hv, _⟩
    · omega
    · exact ⟨_, _, hv⟩
  subst e1
  refine ⟨A', c', w', hrun, ⟨k2', ?_, ?_⟩, (Below.refl _ _).grown k3 hB hbl⟩
  · intro s hs
    have hz : OwnZ w B s.val s.b := by
      rcases List.mem_append.1 hs with hs | hs
      · exact h.own s hs
      · rw [List.mem_singleton.1 hs]; exact hr
    rcases hz with o | o
    · exact .inl (o.kept k3 (ne_blocks h.row o))
    · exact .inr o
  · intro s hs
    rcases List.mem_append.1 hs with hs | hs
    · exact h.bd s hs
    · rw [List.mem_singleton.1 hs]; exact hb
theorem appP {w : World} {ops : Array Oper} {rest : List Oper} {o : Oper} {a : Act} {Q : Exit → Act → World → Prop} (hgd : o.guard = none) (s x : Operand)
    (ho : o.op = .call { callee := .builtin .append, args := #[s, x], argTypes := #[22, 22] })
    (B : Nat) (v : Value) (rs : List R8) (hs : a.eval s = v) (h : OwnP w B v rs) (hB : B ≤ w.heap.size) (g c : Nat) (hx : a.eval x = .slice (some ⟨g, 0, none⟩) 1 c) (r : R8) (hg : w.cell? ⟨g, 0, none⟩ = some r.val)
    (hr : OwnZ w B r.val r.b) (hb : ∀ z ∈ r.b, 0 ≤ z ∧ z ≤ 255) (tot : Nat) (ht : rs.length + 1 = tot) (hl : tot ≤ 1000000)
    (k : ∀ A' c' w', OwnP w' B (.slice A' tot c') (rs ++ [r]) → Below B w w' → wpList Tryd.prog ops Q rest (a.put o.dst (.slice A' tot c')) w') : wpList Tryd.prog ops Q (o :: rest) a w := by
  subst ht
  refine wpList_plain hgd fun K hK => ?_
  obtain ⟨A', c', w', hrun, h2, h3⟩ := h.append o.type hB r hr hb hl g c hg
  unfold Oper.wp execOp
  simp only [ho, resolve, invoke, builtin, Sem.run_bind, Sem.run_pure, Result.andThen_ok, List.map_toArray, List.map_cons, List.map_nil, hs, hx, hrun]
  exact hK _ _ (k A' c' w' h2 h3)
theorem OwnP.val {w : World} {B : Nat} {v : Value} {rs : List R8} (h : OwnP w B v rs) : ∃ A cap, v = .slice A rs.length cap ∧ HasL w A rs ∧ rs.length ≤ cap ∧ (∀ a, A = some a → B ≤ a.block) := by
  have hin : ∀ r ∈ rs, InR w r := fun r hr => by
    have o := h.own r hr
    have ob := OwnZ.bounds o
    exact ⟨o.has, ob.1.symm, ob.2.1, ob.2.2, h.bd r hr⟩
  rcases h.row.2 with ⟨rfl, h0⟩ | ⟨g, cap, cur, rfl, hB, hh, hnc, hcm, hcs, ht⟩
  · rw [h0]; exact ⟨none, 0, rfl, ⟨.inl (List.eq_nil_of_length_eq_zero h0), hin⟩, by omega, by simp⟩
  · refine ⟨_, cap, rfl, ⟨.inr ⟨g, 0, rfl, lt_of_block hh, fun i hi => ?_⟩, hin⟩, hnc, ?_⟩
    · have : w.cell? ⟨g, 0 + i, none⟩ = cur[0 + i]? := by simp [World.cell?, hh]
      rw [this, Nat.zero_add, ← Array.getElem?_toList]
      have e1 : (cur.toList.take (rs.length * 1))[i]? = cur.toList[i]? := by rw [List.getElem?_take, if_pos (by omega)]
      rw [← e1, ht, List.getElem?_map, List.getElem?_eq_getElem hi]
      simp [List.getD_eq_getElem?_getD, List.getElem?_eq_getElem hi, R8.val]
    · intro a ha; injection ha with ha; subst ha; exact hB
end Go.Proofs.YtjdgobfjpjnhgaaDoor.base
