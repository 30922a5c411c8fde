/- A list of slices of bytes copied onto an empty slice, one of them replaced; a literal list. -/
import Derived.Test.YtjdgobfjpjnhgaaDoorRowsV
namespace Go.Proofs.YtjdgobfjpjnhgaaDoor.base
set_option maxRecDepth 100000
open Go.RowKit
set_option linter.unusedVariables false
/-- A list that was just written out. -/
theorem rows_lit (w : World) (rs : List R8) (h : ∀ r ∈ rs, InR w r) (hl : rs.length ≤ 1000000) {g n : Nat} (hg : w.heap.size = g) (hn : rs.length = n) : RowsB (w.alloc (.cells (rs.map R8.val).toArray 23)) (some ⟨g, 0, none⟩) n n rs := by
  subst hg
  subst hn
  have hb : Below w.heap.size w (w.alloc (.cells (rs.map R8.val).toArray 23)) := (Below.refl _ _).alloc (Nat.le_refl _) _
  refine ⟨rfl, Nat.le_refl _, by omega, ⟨.inr ⟨w.heap.size, 0, rfl, by simp, fun i hi => ?_⟩, fun r hr => (h r hr).below hb (Nat.le_refl _)⟩⟩
  have hh := heap_alloc_new w (.cells (rs.map R8.val).toArray 23)
  simp only [World.cell?, hh, Nat.zero_add]
  simp [List.getElem?_map, List.getElem?_eq_getElem hi, List.getD_eq_getElem?_getD, R8.val]
theorem hasL_cells {w : World} {ad : Addr} {rs : List R8} (h : HasL w (some ad) rs) : ∀ j u, (rs.map R8.val)[j]? = some u → w.cell? (ad.add j) = some u := by
  intro j u hu
  have hj : j < rs.length := by
    rcases Nat.lt_or_ge j rs.length with h | h
    · exact h
    · rw [List.getElem?_eq_none (by simpa using h)] at hu; cases hu
  obtain ⟨b, off, ha, _, hc⟩ := h.some (by omega)
  injection ha with ha; subst ha
  rw [addr_add, hc j hj]
  rw [List.getElem?_map, List.getElem?_eq_getElem hj] at hu
  simp only [List.getD_eq_getElem?_getD, List.getElem?_eq_getElem hj]
  simpa [R8.val] using hu
/-- append(a slice without room, l...). -/
theorem appZV {w : World} {ops : Array Oper} {rest : List Oper} {o : Oper} {a : Act} {Q : Exit → Act → World → Prop} (hgd : o.guard = none) (s x : Operand)
    (ho : o.op = .call { callee := .builtin .append, args := #[s, x], argTypes := #[22, 22] })
    (D : Option Addr) (hs : a.eval s = .slice D 0 0) (A : Option Addr) (m c : Nat) (rs : List R8) (hx : a.eval x = .slice A m c) (hr : RowsB w A m c rs) (hp : 0 < m) (hl : m ≤ 1000000)
    (k : ∀ A' c' w', OwnV w' w.heap.size (.slice A' m c') rs → Below w.heap.size w w' → wpList Tryd.prog ops Q rest (a.put o.dst (.slice A' m c')) w') : wpList Tryd.prog ops Q (o :: rest) a w := by
  obtain ⟨i, hi, hz, h1, h2⟩ := infoS
  have hlen := hr.l
  subst hlen
  obtain ⟨b, off, rfl, _, _⟩ := hr.h.some hp
  have hcells := hasL_cells hr.h
  refine wpList_plain hgd fun K hK => ?_
  obtain ⟨v', w', hrun, k2, k3, _, k5⟩ := run_append_own_at (P := Tryd.prog) w w.heap.size 22 o.type 23 i (.slice none 0 0) 1 24 Tryd.underlying22 hi hz h1 h2 rfl (by omega) (.slice none 0 0) 0 [] (World.ownsRow_nil w _ 23 1) ⟨b, off, none⟩ rs.length c (rs.map R8.val) (by simp) hcells one_slices (by unfold maxLen; omega) (by omega) (Nat.le_refl _)
  have k2' : OwnV w' w.heap.size v' rs := by
    unfold OwnV; simpa using k2
  obtain ⟨A', c', e1⟩ : ∃ A' c', v' = .slice A' rs.length c' := by
    rcases k2.2 with ⟨rfl, h0⟩ | ⟨g', cap, cur, hv, _⟩
    · omega
    · exact ⟨_, _, by simpa using hv⟩
  subst e1
  have hrun' : (Builtin.append_ #[22, 22] o.type #[.slice D 0 0, .slice (some ⟨b, off, none⟩) rs.length c]).run Tryd.prog w = .ok (.slice A' rs.length c') w' := by
    rw [← hrun]
    rcases D with _ | d
    · rfl
    · have hsrc : Src Tryd.prog i.size 22 (.slice (some ⟨b, off, none⟩) rs.length c) rs.length (rs.map R8.val) w := Src.ofSlice (w := w) (size := i.size) Tryd.underlying22 ⟨b, off, none⟩ rs.length c _ (by rw [h1]; simp) hcells one_slices
      have h63' : ((0 + rs.length : Nat) : Int) ≤ 9223372036854775807 := by omega
      have hfit : Builtin.nextslicecap (0 + rs.length) 0 * i.bytes ≤ 281474976710656 := by
        have e0 : Builtin.nextslicecap (0 + rs.length) 0 = rs.length := by simp [Builtin.nextslicecap, hp]
        rw [e0, h2]; omega
      have r1 := run_append_grow_src (P := Tryd.prog) w 22 22 o.type 23 i (.slice none 0 0) Tryd.underlying22 hi hz (some d) 0 0 [] (by simp [Builtin.firstCells, loadCells, loadCellsFrom]) (.slice (some ⟨b, off, none⟩) rs.length c) rs.length _ hsrc (by omega) h63' hfit
      have r2 := run_append_grow_src (P := Tryd.prog) w 22 22 o.type 23 i (.slice none 0 0) Tryd.underlying22 hi hz none 0 0 [] (by simp [Builtin.firstCells]) (.slice (some ⟨b, off, none⟩) rs.length c) rs.length _ hsrc (by omega) h63' hfit
      exact r1.trans r2.symm
  unfold Oper.wp execOp
  simp only [ho, resolve, invoke, builtin, Sem.run_bind, Sem.run_pure, Result.andThen_ok, List.map_toArray, List.map_cons, List.map_nil, hs, hx, hrun']
  exact hK _ _ (k A' c' w' k2' ((Below.refl _ _).grown k3 (Nat.le_refl _) (by simp [Value.ownBlock])))
theorem OwnV.form {w : World} {B : Nat} {A : Option Addr} {n c : Nat} {rs : List R8} (h : OwnV w B (.slice A n c) rs) (hp : 0 < rs.length) : ∃ g, A = some ⟨g, 0, none⟩ ∧ B ≤ g ∧ g < w.heap.size ∧ n = rs.length ∧ (∀ i, w.frozen? ⟨g, i, none⟩ = false) ∧ (∀ i, i < rs.length → w.cell? ⟨g, i, none⟩ = some (rs.getD i r80).val) := by
  rcases h.2 with ⟨h', h0⟩ | ⟨g, cap', cur, h', hb, hg, hnc, hcm, hcs, ht⟩
  · omega
  · injection h' with e1 e2 e3
    refine ⟨g, e1, hb, lt_of_block hg, e2, fun i => frozen_of_row w g i cur _ hg, fun i hi => ?_⟩
    have : w.cell? ⟨g, i, none⟩ = cur[i]? := by simp [World.cell?, hg]
    rw [this, ← Array.getElem?_toList]
    have e1 : (cur.toList.take (rs.length * 1))[i]? = cur.toList[i]? := by rw [List.getElem?_take, if_pos (by omega)]
    rw [← e1, ht, List.getElem?_map, List.getElem?_eq_getElem hi]
    simp [List.getD_eq_getElem?_getD, List.getElem?_eq_getElem hi]
theorem OwnV.store {w : World} {B g n c : Nat} {rs : List R8} (h : OwnV w B (.slice (some ⟨g, 0, none⟩) n c) rs) (i : Nat) (r : R8) : OwnV (w.setCell ⟨g, i, none⟩ r.val) B (.slice (some ⟨g, 0, none⟩) n c) (rs.set i r) := by
  have hn : n = rs.length := by
    rcases h.2 with ⟨h', _⟩ | ⟨g', cap', cur, h', _⟩
    · cases h'
    · injection h' with _ h2 _
  subst hn
  have := (World.ownsRow.stored h i r.val).1
  unfold OwnV
  rw [List.length_set, List.map_set]
  exact this
end Go.Proofs.YtjdgobfjpjnhgaaDoor.base
