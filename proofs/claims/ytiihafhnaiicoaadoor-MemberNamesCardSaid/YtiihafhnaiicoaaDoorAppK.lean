/- append of bytes, with the word on whose block the answer is; what stays beside it. -/
import Derived.Test.YtiihafhnaiicoaaDoorMem8
import Derived.Test.YtiihafhnaiicoaaDoorBlock
import Derived.Maps.AppendAt
namespace Go.Proofs.YtiihafhnaiicoaaDoor.base
set_option maxRecDepth 100000
open Go.RowKit
set_option linter.unusedVariables false
set_option linter.unusedSimpArgs false
set_option maxRecDepth 100000
theorem app8k {w : World} {ops : Array Oper} {rest : List Oper} {o : Oper} {a : Act} {Q : Exit → Act → World → Prop} (hw : Region.wanted o (yielded ops a.tmps) = true) (s x : Operand)
    (ho : o.op = .call { callee := .builtin .append, args := #[s, x], argTypes := #[35, 35] })
    (B : Nat) (v : Value) (zs : List Int) (hs : a.eval s = v) (hown : OwnI w B 5 .u8 v zs) (g off m c : Nat) (ys : List Int) (hx : a.eval x = .slice (some ⟨g, off, none⟩) m c) (hm : ys.length = m) (hr : ∀ i, i < m → w.cell? ⟨g, off + i, none⟩ = some (.int .u8 (ys.getD i 0)))
    (tot : Nat) (htot : zs.length + m = tot) (h63 : tot ≤ 1000000) (hB : B ≤ w.heap.size)
    (h : ∀ A' c' w', OwnI w' B 5 .u8 (.slice A' tot c') (zs ++ ys) → w.grownBy w' v.ownBlock → Below B w w' → ((Value.slice A' tot c').ownBlock = v.ownBlock ∨ (Value.slice A' tot c').ownBlock = some w.heap.size) → wpList Tryd.prog ops Q rest (a.put o.dst (.slice A' tot c')) w') : wpList Tryd.prog ops Q (o :: rest) a w := by
  subst hm
  subst htot
  refine wpList_step fun K hK => ?_
  rw [if_pos hw]
  obtain ⟨i, hi, hz, h1, h2⟩ := info8
  obtain ⟨v', w', hrun, k2, k3, _, k6⟩ := run_append_own_at (P := Tryd.prog) w B 35 o.type 5 i (.int .u8 0) 1 1 Tryd.underlying35 hi hz h1 h2 rfl (by omega) v zs.length _ hown ⟨g, off, none⟩ ys.length c (ys.map (Value.int .u8)) (by simp) (fun j u hu => by
    rw [List.getElem?_map] at hu
    rcases Nat.lt_or_ge j ys.length with hj | hj
    · rw [List.getElem?_eq_getElem hj] at hu
      injection hu with hu
      subst hu
      rw [addr_add, hr j hj, List.getD_eq_getElem?_getD, List.getElem?_eq_getElem hj]; rfl
    · rw [List.getElem?_eq_none hj] at hu; cases hu) (fun u hu => by
    obtain ⟨z, _, rfl⟩ := List.mem_map.1 hu; rfl) (by simp only [maxLen]; omega) (by omega) hB
  have hO : OwnI w' B 5 .u8 v' (zs ++ ys) := by
    unfold OwnI
    rw [List.length_append, List.map_append]; exact k2
  obtain ⟨A', c', e1, _⟩ := hO.val
  rw [List.length_append] at e1
  subst e1
  unfold Oper.wp execOp
  simp only [ho, resolve, invoke, builtin, Sem.run_bind, Sem.run_pure, Result.andThen_ok, List.map_toArray, List.map_cons, List.map_nil, hs, hx, hrun]
  refine hK _ _ (h A' c' w' hO k3 ((Below.refl B w).grown k3 hB (fun k e => (World.ownsRow.lt hown k e).1)) k6)
theorem has_g {w w' : World} {k : IntKind} {A : Option Addr} {ys : List Int} {row : Option Nat} (h : Has k w A ys) (hg : w.grownBy w' row) (hne : ∀ b off, A = some ⟨b, off, none⟩ → some b ≠ row) : Has k w' A ys := by
  rcases h with h | ⟨b, off, e, hb, hc⟩
  · exact .inl h
  · exact .inr ⟨b, off, e, Nat.lt_of_lt_of_le hb hg.size, fun i hi => hg.cell (hc i hi) (hne b off e)⟩
end Go.Proofs.YtiihafhnaiicoaaDoor.base
