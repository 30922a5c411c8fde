/- A row of slices of the call's own whose pieces came in or are of the call's own. -/
import Derived.Test.YtacllaeccdgnmaaRowsP2
import Derived.Test.YtacllaeccdgnmaaMemI
namespace Go.Proofs.Ytacllaeccdgnmaa.base
set_option maxRecDepth 100000
open Go.RowKit
set_option linter.unusedVariables false
/-- A piece: of the call's own, or older than it. -/
def Pc (w : World) (B : Nat) (r : R8) : Prop := (OwnZ w B r.val r.b ∧ ∀ z ∈ r.b, 0 ≤ z ∧ z ≤ 255) ∨ ∃ w0 : World, w0.heap.size ≤ B ∧ Below B w0 w ∧ InR w0 r
theorem Pc.in_ {w : World} {B : Nat} {r : R8} (h : Pc w B r) : InR w r := by
  rcases h with ⟨o, hb⟩ | ⟨w0, h1, h2, h3⟩
  · have ob := OwnZ.bounds o
    exact ⟨o.has, ob.1.symm, ob.2.1, ob.2.2, hb⟩
  · exact h3.below h2 h1
theorem Pc.past {w w' : World} {B : Nat} {r : R8} (h : Pc w B r) (hb : Below w.heap.size w w') (hB : B ≤ w.heap.size) : Pc w' B r := by
  rcases h with ⟨o, hz⟩ | ⟨w0, h1, h2, h3⟩
  · exact .inl ⟨o.past hb, hz⟩
  · exact .inr ⟨w0, h1, h2.trans (hb.mono hB), h3⟩
structure OwnM (w : World) (B : Nat) (v : Value) (rs : List R8) : Prop where
  row : w.ownsRow B 36 1 v rs.length (rs.map R8.val)
  own : ∀ r ∈ rs, Pc w B r
theorem OwnM.nil (w : World) (B : Nat) : OwnM w B (.slice none 0 0) [] := ⟨⟨rfl, .inl ⟨rfl, rfl⟩⟩, by simp⟩
theorem OwnM.past {w w' : World} {B : Nat} {v : Value} {rs : List R8} (h : OwnM w B v rs) (hb : Below w.heap.size w w') (hB : B ≤ w.heap.size) : OwnM w' B v rs := by
  refine ⟨⟨h.row.1, ?_⟩, fun r hr => (h.own r hr).past hb hB⟩
  rcases h.row.2 with h2 | ⟨g, cap, cur, hv, hB2, hg, r⟩
  · exact .inl h2
  · exact .inr ⟨g, cap, cur, hv, hB2, by rw [hb.block g (lt_of_block hg)]; exact hg, r⟩
theorem ne_rowI {w : World} {B : Nat} {v : Value} {n : Nat} {cs : List Value} (h : w.ownsRow B 36 1 v n cs) {u : Value} {zs : List Int} {B' : Nat} {e : TypeId} {k : IntKind} (he : e ≠ 36) (o : OwnI w B' e k u zs) : u.ownBlock = none ∨ u.ownBlock ≠ v.ownBlock := by
  rcases o.2 with ⟨rfl, _⟩ | ⟨g, cap, cur, rfl, hB, hg, r⟩
  · exact .inl rfl
  · refine .inr ?_
    rcases h.2 with ⟨rfl, _⟩ | ⟨g', cap', cur', rfl, hB', hg', r'⟩
    · simp [Value.ownBlock]
    · intro e0
      have e0 : g = g' := by simpa [Value.ownBlock] using e0
      subst e0
      rw [hg] at hg'
      injection hg' with hg'
      injection hg' with _ h2
      exact he h2
theorem OwnM.rows {w : World} {B : Nat} {A : Option Addr} {n c : Nat} {rs : List R8} (h : OwnM w B (.slice A n c) rs) : RowsB w A n c rs := by
  have hin : ∀ r ∈ rs, InR w r := fun r hr => (h.own r hr).in_
  rcases h.row.2 with ⟨e, h0⟩ | ⟨g, cap, cur, e, hB, hh, hnc, hcm, hcs, ht⟩
  · injection e with e1 e2 e3
    subst e1 e2 e3
    exact ⟨h0, Nat.le_refl _, by omega, ⟨.inl (List.eq_nil_of_length_eq_zero h0), hin⟩⟩
  · injection e with e1 e2 e3
    subst e1 e2 e3
    refine ⟨rfl, hnc, by unfold maxLen at hcm; omega, ⟨.inr ⟨g, 0, rfl, lt_of_block hh, fun i hi => ?_⟩, hin⟩⟩
    have : w.cell? ⟨g, 0 + i, none⟩ = cur[0 + i]? := by simp [World.cell?, hh]
    rw [this, Nat.zero_add, ← Array.getElem?_toList]
    have e1 : (cur.toList.take (rs.length * 1))[i]? = cur.toList[i]? := by rw [List.getElem?_take, if_pos (by omega)]
    rw [← e1, ht, List.getElem?_map, List.getElem?_eq_getElem hi]
    simp [List.getD_eq_getElem?_getD, List.getElem?_eq_getElem hi, R8.val]
/-- append of one piece; a row of ints stays. -/
theorem appM {w : World} {ops : Array Oper} {rest : List Oper} {o : Oper} {a : Act} {Q : Exit → Act → World → Prop} (hgd : o.guard = none) (s x : Operand)
    (ho : o.op = .call { callee := .builtin .append, args := #[s, x], argTypes := #[22, 22] })
    (B : Nat) (v : Value) (rs : List R8) (hs : a.eval s = v) (h : OwnM w B v rs) (hB : B ≤ w.heap.size) (g c : Nat) (hx : a.eval x = .slice (some ⟨g, 0, none⟩) 1 c) (r : R8) (hg : w.cell? ⟨g, 0, none⟩ = some r.val)
    (hr : Pc w B r) (tot : Nat) (ht : rs.length + 1 = tot) (hl : tot ≤ 1000000) (B' : Nat) (u : Value) (zs : List Int) (hu : OwnI w B' 3 .i64 u zs)
    (k : ∀ A' c' w', OwnM w' B (.slice A' tot c') (rs ++ [r]) → Below B w w' → OwnI w' B' 3 .i64 u zs → wpList Try.prog ops Q rest (a.put o.dst (.slice A' tot c')) w') : wpList Try.prog ops Q (o :: rest) a w := by
  subst ht
  refine wpList_plain hgd fun K hK => ?_
  obtain ⟨i, hi, hz, h1, h2⟩ := infoS
  obtain ⟨v', w', hrun, k2, k3, _, _⟩ := run_append_own_at (P := Try.prog) w B 22 o.type 36 i (.slice none 0 0) 1 24 Try.underlying22 hi hz h1 h2 rfl (by omega) v rs.length _ h.row ⟨g, 0, none⟩ 1 c [r.val] rfl (fun j u hu => by
    have hj : j = 0 := by
      rcases j with _ | j
      · rfl
      · simp at hu
    subst hj
    simp at hu
    subst hu
    rw [addr_add]; exact hg) (by intro u hu; simp at hu; subst hu; rfl) (by unfold maxLen; omega) (by omega) hB
  have k2' : w'.ownsRow B 36 1 v' (rs ++ [r]).length ((rs ++ [r]).map R8.val) := by
    rw [List.map_append, List.length_append]; exact k2
  have hbl : ∀ gg, v.ownBlock = some gg → B ≤ gg := fun gg hgg => (World.ownsRow.lt h.row gg hgg).1
  have hbel : Below B w w' := (Below.refl _ _).grown k3 hB hbl
  obtain ⟨A', c', e1⟩ : ∃ A' c', v' = .slice A' (rs.length + 1) c' := by
    rcases k2.2 with ⟨rfl, h0⟩ | ⟨g', cap, cur, hv, _⟩
    · omega
    · exact ⟨_, _, hv⟩
  subst e1
  have keep : ∀ s : R8, Pc w B s → Pc w' B s := fun s hz => by
    rcases hz with ⟨o | o, hb⟩ | ⟨w0, h1, h2, h3⟩
    · exact .inl ⟨.inl (o.kept k3 (ne_rowI h.row (by decide) o)), hb⟩
    · exact .inl ⟨.inr o, hb⟩
    · exact .inr ⟨w0, h1, h2.trans hbel, h3⟩
  have hm : OwnM w' B (.slice A' (rs.length + 1) c') (rs ++ [r]) := ⟨k2', fun s hs => by
    rcases List.mem_append.1 hs with hs | hs
    · exact keep s (h.own s hs)
    · rw [List.mem_singleton.1 hs]; exact keep r hr⟩
  have hu' := hu.kept k3 (ne_rowI h.row (by decide) hu)
  unfold Oper.wp execOp
  simp only [ho, resolve, invoke, builtin, Sem.run_bind, Sem.run_pure, Result.andThen_ok, List.map_toArray, List.map_cons, List.map_nil, hs, hx, hrun]
  exact hK _ _ (k A' c' w' hm hbel hu')
/-- A number stored into a row of ints of the call's own leaves it. -/
theorem OwnM.setI {w : World} {B B' g n c : Nat} {v : Value} {rs : List R8} {zs : List Int} (h : OwnM w B v rs) (hB : B ≤ g) (o : OwnI w B' 3 .i64 (.slice (some ⟨g, 0, none⟩) n c) zs) (i : Nat) (x : Value) : OwnM (w.setCell ⟨g, i, none⟩ x) B v rs := by
  obtain ⟨cur, hcur⟩ : ∃ cur, w.heap[g]? = some (.cells cur 3 (0, 0)) := by
    rcases o.2 with ⟨e, _⟩ | ⟨g', cap, cur, e, hB2, hg, r⟩
    · cases e
    · injection e with e1
      injection e1 with e1
      injection e1 with e1
      subst e1
      exact ⟨_, hg⟩
  refine ⟨⟨h.row.1, ?_⟩, fun r hr => ?_⟩
  · rcases h.row.2 with h2 | ⟨g', cap, cur', hv, hB2, hg, r⟩
    · exact .inl h2
    · refine .inr ⟨g', cap, cur', hv, hB2, ?_, r⟩
      rw [Below.heap_setCell w _ x g' (fun e => by
        have e : g' = g := e
        subst e
        rw [hcur] at hg
        injection hg with hg
        injection hg with _ h2
        exact absurd h2 (by decide))]
      exact hg
  · rcases h.own r hr with ⟨o2 | o2, hb⟩ | ⟨w0, h1, h2, h3⟩
    · refine .inl ⟨.inl (own_set o2 (fun e => ?_) x), hb⟩
      rcases o2.2 with ⟨e0, _⟩ | ⟨g', cap, cur', e0, hB2, hg, _⟩
      · rw [e0] at e; simp [Value.ownBlock] at e
      · rw [e0] at e
        have e1 : g' = g := by simpa [Value.ownBlock] using e
        subst e1
        rw [hcur] at hg
        injection hg with hg
        injection hg with _ h2
        exact absurd h2 (by decide)
    · exact .inl ⟨.inr o2, hb⟩
    · exact .inr ⟨w0, h1, Below.setCell h2 hB _, h3⟩
end Go.Proofs.Ytacllaeccdgnmaa.base
