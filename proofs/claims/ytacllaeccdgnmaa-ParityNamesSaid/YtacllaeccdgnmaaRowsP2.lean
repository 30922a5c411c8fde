/- A row of slices of the call's own: made, one replaced. -/
import Derived.Test.YtacllaeccdgnmaaRowsP
namespace Go.Proofs.Ytacllaeccdgnmaa.base
set_option maxRecDepth 100000
open Go.RowKit
set_option linter.unusedVariables false
/-- make([][]byte, n). -/
theorem makeP {w : World} {ops : Array Oper} {rest : List Oper} {o : Oper} {a : Act} {Q : Exit → Act → World → Prop} (hg : o.guard = none) (l c : Operand) (hop : o.op = Op.makeSlice 22 l c)
    (kl kc : IntKind) (n : Nat) (hl : a.eval l = .int kl (n : Int)) (hc : a.eval c = .int kc (n : Int)) (hn : n ≤ 1000000) (base : Nat) (hbase : base ≤ w.heap.size)
    (h : ∀ w', OwnP w' base (.slice (some ⟨w.heap.size, 0, none⟩) n n) (List.replicate n r80) → Below w.heap.size w w' → wpList Try.prog ops Q rest (a.put o.dst (.slice (some ⟨w.heap.size, 0, none⟩) n n)) w') : wpList Try.prog ops Q (o :: rest) a w := by
  obtain ⟨i, hi, hz, h1, h2⟩ := infoS
  refine wpList_make_full w hg l c _ hop base 36 i (.slice none 0 0) 1 Try.underlying22 hi hz h1 kl kc n n n hl hc rfl rfl (by rw [h2]; omega) (by simp only [maxLen]; omega) hbase fun w' hown hgr => h w' ?_ ?_
  · have e : (Value.slice none 0 0).cells = #[.slice none 0 0] := rfl
    rw [e, toList_madeCells_one] at hown
    refine ⟨by simpa [r80, R8.val] using hown, fun r hr => ?_, fun r hr => ?_⟩
    · rw [(List.mem_replicate.1 hr).2]; exact .inr ⟨rfl, none, rfl⟩
    · rw [(List.mem_replicate.1 hr).2]; simp [r80]
  · exact (Below.refl _ _).grown hgr (Nat.le_refl _) (by simp)
theorem OwnP.form {w : World} {B : Nat} {A : Option Addr} {n c : Nat} {rs : List R8} (h : OwnP w B (.slice A n c) rs) (hp : 0 < rs.length) : ∃ g, A = some ⟨g, 0, none⟩ ∧ B ≤ g ∧ g < w.heap.size := by
  rcases h.row.2 with ⟨h', h0⟩ | ⟨g, cap', cur, h', hb, hg, hnc, hcm, hcs, ht⟩
  · omega
  · injection h' with e1 e2 e3
    exact ⟨g, e1, hb, lt_of_block hg⟩
theorem OwnP.cell {w : World} {B g n c : Nat} {rs : List R8} (h : OwnP w B (.slice (some ⟨g, 0, none⟩) n c) rs) (i : Nat) (hi : i < rs.length) : w.cell? ⟨g, i, none⟩ = some (rs.getD i r80).val ∧ w.frozen? ⟨g, i, none⟩ = false := by
  rcases h.row.2 with ⟨h', h0⟩ | ⟨g', cap', cur, h', hb, hg, hnc, hcm, hcs, ht⟩
  · omega
  · injection h' with e1 e2 e3
    injection e1 with e1
    injection e1 with e1
    subst e1
    refine ⟨?_, frozen_of_row w g i cur _ hg⟩
    have : w.cell? ⟨g, i, none⟩ = cur[i]? := by simp [World.cell?, hg]
    rw [this, ← Array.getElem?_toList]
    have e1 : (cur.toList.take (rs.length * 1))[i]? = cur.toList[i]? := by rw [List.getElem?_take, if_pos (by omega)]
    rw [← e1, ht, List.getElem?_map, List.getElem?_eq_getElem hi]
    simp [List.getD_eq_getElem?_getD, List.getElem?_eq_getElem hi]
/-- A piece replaced. -/
theorem OwnP.put {w : World} {B g n c : Nat} {rs : List R8} (h : OwnP w B (.slice (some ⟨g, 0, none⟩) n c) rs) (i : Nat) (r : R8) (hr : OwnZ w B r.val r.b) (hb : ∀ z ∈ r.b, 0 ≤ z ∧ z ≤ 255) : OwnP (w.setCell ⟨g, i, none⟩ r.val) B (.slice (some ⟨g, 0, none⟩) n c) (rs.set i r) := by
  have hn : n = rs.length := by
    rcases h.row.2 with ⟨h', _⟩ | ⟨g', cap', cur, h', _⟩
    · cases h'
    · injection h' with _ h2 _
  subst hn
  have hs := (World.ownsRow.stored h.row i r.val).1
  have keep : ∀ s : R8, OwnZ w B s.val s.b → OwnZ (w.setCell ⟨g, i, none⟩ r.val) B s.val s.b := fun s hz => by
    rcases hz with o | o
    · refine .inl (own_set o ?_ r.val)
      rcases ne_blocks h.row o with e | e
      · rw [e]; simp
      · simpa [Value.ownBlock] using e
    · exact .inr o
  refine ⟨?_, fun s hs => ?_, fun s hs => ?_⟩
  · rw [List.length_set, List.map_set]; exact hs
  · rcases List.mem_or_eq_of_mem_set hs with hs | rfl
    · exact keep s (h.own s hs)
    · exact keep _ hr
  · rcases List.mem_or_eq_of_mem_set hs with hs | rfl
    · exact h.bd s hs
    · exact hb
/-- A row of ints is none of a row of slices. -/
theorem ne_blocksI {w : World} {B : Nat} {v : Value} {rs : List R8} (h : OwnP w B v rs) {u : Value} {zs : List Int} {B' : Nat} (o : OwnI w B' 3 .i64 u zs) : u.ownBlock = none ∨ u.ownBlock ≠ v.ownBlock := by
  rcases o.2 with ⟨rfl, _⟩ | ⟨g, cap, cur, rfl, hB, hg, r⟩
  · exact .inl rfl
  · refine .inr ?_
    rcases h.row.2 with ⟨rfl, _⟩ | ⟨g', cap', cur', rfl, hB', hg', r'⟩
    · simp [Value.ownBlock]
    · intro e
      have e : g = g' := by simpa [Value.ownBlock] using e
      subst e
      rw [hg] at hg'
      injection hg' with hg'
      injection hg' with _ h2
      exact absurd h2 (by decide)
/-- append of one piece, with what stays besides. -/
theorem appPI {w : World} {ops : Array Oper} {rest : List Oper} {o : Oper} {a : Act} {Q : Exit → Act → World → Prop} (hgd : o.guard = none) (s x : Operand)
    (ho : o.op = .call { callee := .builtin .append, args := #[s, x], argTypes := #[22, 22] })
    (B : Nat) (v : Value) (rs : List R8) (hs : a.eval s = v) (h : OwnP w B v rs) (hB : B ≤ w.heap.size) (g c : Nat) (hx : a.eval x = .slice (some ⟨g, 0, none⟩) 1 c) (r : R8) (hg : w.cell? ⟨g, 0, none⟩ = some r.val)
    (hr : OwnZ w B r.val r.b) (hb : ∀ z ∈ r.b, 0 ≤ z ∧ z ≤ 255) (tot : Nat) (ht : rs.length + 1 = tot) (hl : tot ≤ 1000000) (B' : Nat) (u : Value) (zs : List Int) (hu : OwnI w B' 3 .i64 u zs)
    (k : ∀ A' c' w', OwnP w' B (.slice A' tot c') (rs ++ [r]) → Below B w w' → OwnI w' B' 3 .i64 u zs → wpList Try.prog ops Q rest (a.put o.dst (.slice A' tot c')) w') : wpList Try.prog ops Q (o :: rest) a w := by
  subst ht
  refine wpList_plain hgd fun K hK => ?_
  obtain ⟨i, hi, hz, h1, h2⟩ := infoS
  obtain ⟨A', c', w', hrun, h3, h4⟩ := h.append o.type hB r hr hb hl g c hg
  obtain ⟨v', w'', hrun', _, k3, _, _⟩ := run_append_own_at (P := Try.prog) w B 22 o.type 36 i (.slice none 0 0) 1 24 Try.underlying22 hi hz h1 h2 rfl (by omega) v rs.length _ h.row ⟨g, 0, none⟩ 1 c [r.val] rfl (fun j u hu => by
    have hj : j = 0 := by
      rcases j with _ | j
      · rfl
      · simp at hu
    subst hj
    simp at hu
    subst hu
    rw [addr_add]; exact hg) (by intro u hu; simp at hu; subst hu; rfl) (by unfold maxLen; omega) (by omega) hB
  rw [hrun] at hrun'
  injection hrun' with e1 e2
  subst e2
  have hu' := hu.kept k3 (ne_blocksI h hu)
  unfold Oper.wp execOp
  simp only [ho, resolve, invoke, builtin, Sem.run_bind, Sem.run_pure, Result.andThen_ok, List.map_toArray, List.map_cons, List.map_nil, hs, hx, hrun]
  exact hK _ _ (k A' c' w' h3 h4 hu')
end Go.Proofs.Ytacllaeccdgnmaa.base
