/- Rows of bools: stores beside them, append at a step of a region that draws its order. -/
import Derived.Test.YtckbiielahgliaaOwnZ
import Derived.Test.YtckbiielahgliaaBool
import Derived.Test.YtckbiielahgliaaMake
namespace Go.Proofs.Ytckbiielahgliaa.base
open Go.RowKit
set_option linter.unusedVariables false

theorem own_setB {w : World} {B : Nat} {e : TypeId} {v : Value} {zs : List Bool} {p : Addr} (h : OwnB w B e v zs) (hne : v.ownBlock ≠ some p.block) (x : Value) : OwnB (w.setCell p x) B e v zs := by
  refine ⟨h.1, ?_⟩
  rcases h.2 with h2 | ⟨g, cap, cur, hv, hB, hg, r⟩
  · exact .inl h2
  · exact .inr ⟨g, cap, cur, hv, hB, by rw [Below.heap_setCell w p x g (fun e => hne (by rw [hv, e]; rfl))]; exact hg, r⟩
theorem own_neB {w : World} {B g : Nat} {e t : TypeId} {v : Value} {zs : List Bool} {cs : List Value} (h : OwnB w B e v zs) (K : Lies w g t cs) (ht : t ≠ e) : v.ownBlock ≠ some g := by
  rcases h.2 with ⟨rfl, _⟩ | ⟨g', cap, cur, rfl, hB, hg, r⟩
  · simp [Value.ownBlock]
  · intro hh
    have : g' = g := by simpa [Value.ownBlock] using hh
    subst this
    unfold Lies at K
    rw [hg] at K
    injection K with K
    injection K with _ K2
    exact ht K2.symm
def KeepsB (w w' : World) : Prop := ∀ g t cs, Lies w g t cs → t ≠ 4 → Lies w' g t cs
theorem step_appB {w : World} {ops : Array Oper} {o : Oper} {a : Act} {K : Act → World → Prop} {Q : Exit → Act → World → Prop} {E : Prop} (hgd : o.guard = none) (s x : Operand)
    (ho : o.op = .call { callee := .builtin .append, args := #[s, x], argTypes := #[44, 44] })
    (base : Nat) (v : Value) (zs : List Bool) (hs : a.eval s = v) (hown : OwnB w base 4 v zs) (A : Option Addr) (m c : Nat) (ys : List Bool) (hx : a.eval x = .slice A m c) (hm : ys.length = m) (hr : HasB w A ys)
    (tot : Nat) (htot : zs.length + m = tot) (h63 : tot ≤ 140737488355328) (hbase : base ≤ w.heap.size)
    (h : ∀ A' c' w', OwnB w' base 4 (.slice A' tot c') (zs ++ ys) → KeepsB w w' → Below base w w' → K (a.put o.dst (.slice A' tot c')) w') :
    if Region.wanted o (yielded ops a.tmps) = true then Oper.wp Try.prog o a w K Q else E := by
  have hw : Region.wanted o (yielded ops a.tmps) = true := by simp [Region.wanted, hgd]
  rw [if_pos hw]
  subst hm
  subst htot
  obtain ⟨i, hi, hz, h1, h2⟩ := infoB
  obtain ⟨A', c', w', hrun, k2, k3, k4⟩ := run_append_B (P := Try.prog) w _ o.type 4 i (.bool false) 1 Try.underlying44 hi hz h1 h2 rfl base v zs hown A c ys hr (by simp only [maxLen]; omega) (by omega) hbase
  unfold Oper.wp execOp
  simp only [ho, resolve, invoke, builtin, Sem.run_bind, Sem.run_pure, Result.andThen_ok, List.map_toArray, List.map_cons, List.map_nil, hs, hx, hrun]
  exact h A' c' w' k2 (fun g t cs K ht => K.grown k3 (fun e => own_neB hown K ht e.symm)) k4
theorem own_b (w : World) (e : TypeId) (n B : Nat) (hn : n ≤ maxLen) (hB : B ≤ w.heap.size) {g : Nat} (hg : w.heap.size = g) : OwnB (w.alloc (.cells (bCells n) e)) B e (.slice (some ⟨g, 0, none⟩) n n) (List.replicate n false) := by
  subst hg
  have := OwnB.lit w e (List.replicate n false) B hB (by simpa using hn)
  rw [bCells_map]
  simpa using this
theorem own_setBg {w : World} {B g h : Nat} {e : TypeId} {n c : Nat} {zs : List Bool} (k : OwnB w B e (.slice (some ⟨h, 0, none⟩) n c) zs) (hne : h ≠ g) (i : Nat) (x : Value) : OwnB (w.setCell ⟨g, i, none⟩ x) B e (.slice (some ⟨h, 0, none⟩) n c) zs :=
  own_setB k (by simp [Value.ownBlock]; exact hne) x
theorem row_next {l : List Bool} {k m : Nat} (h : l.length = k) (hm : k < m) (b : Bool) : (l ++ List.replicate (m - k) false).set k b = (l ++ [b]) ++ List.replicate (m - (k + 1)) false := by
  subst h
  rw [show m - l.length = (m - (l.length + 1)) + 1 by omega, List.replicate_succ, List.set_append_right _ _ (Nat.le_refl _)]
  simp
end Go.Proofs.Ytckbiielahgliaa.base
