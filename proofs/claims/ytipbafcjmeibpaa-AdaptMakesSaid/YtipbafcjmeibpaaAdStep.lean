/- append of one number onto a row of int32 of the call's own, at a step of a region that draws its order; which block it may have written. -/
import Derived.Test.YtipbafcjmeibpaaAdMem
namespace Go.Proofs.Ytipbafcjmeibpaa.base
open Go.RowKit
set_option linter.unusedVariables false
theorem step_app32o {w : World} {ops : Array Oper} {o : Oper} {a : Act} {K : Act → World → Prop} {Q : Exit → Act → World → Prop} {E : Prop} (hgd : o.guard = none) (s x : Operand)
    (ho : o.op = .call { callee := .builtin .append, args := #[s, x], argTypes := #[22, 22] })
    (base : Nat) (v : Value) (zs : List Int) (hs : a.eval s = v) (hown : OwnI w base 21 .i32 v zs) (ad : Addr) (c : Nat) (y : Int) (hx : a.eval x = .slice (some ad) 1 c) (hr : Has .i32 w (some ad) [y])
    (tot : Nat) (htot : zs.length + 1 = tot) (h63 : tot ≤ 1073741824) (hbase : base ≤ w.heap.size)
    (h : ∀ A' c' w', OwnI w' base 21 .i32 (.slice A' tot c') (zs ++ [y]) → w.grownBy w' v.ownBlock → ((Value.slice A' tot c').ownBlock = v.ownBlock ∨ (Value.slice A' tot c').ownBlock = some w.heap.size) → Below base w w' → K (a.put o.dst (.slice A' tot c')) w') :
    if Region.wanted o (yielded ops a.tmps) = true then Oper.wp Try.prog o a w K Q else E := by
  have hw : Region.wanted o (yielded ops a.tmps) = true := by simp [Region.wanted, hgd]
  rw [if_pos hw]
  subst htot
  obtain ⟨i, hi, hz, h1, h2⟩ := info32
  have hB : ∀ g, v.ownBlock = some g → base ≤ g := fun g hg => (World.ownsRow.lt hown g hg).1
  obtain ⟨v', w', hrun, k2, k3, _, k5⟩ := run_append_own_at (P := Try.prog) w base 22 o.type 21 i (.int .i32 0) 1 4 Try.underlying22 hi hz h1 h2 rfl (by omega) v zs.length _ hown ad 1 c [Value.int .i32 y] rfl (by have := hr.cells; simpa using this) (by intro u hu; simp at hu; subst hu; rfl) (by simp only [maxLen]; omega) (by omega) hbase
  have k2' : OwnI w' base 21 .i32 v' (zs ++ [y]) := by
    unfold OwnI; rw [List.map_append, List.length_append]; exact k2
  obtain ⟨A', c', e1, _⟩ := k2'.val
  rw [List.length_append] at e1
  subst e1
  unfold Oper.wp execOp
  simp only [ho, resolve, invoke, builtin, Sem.run_bind, Sem.run_pure, Result.andThen_ok, List.map_toArray, List.map_cons, List.map_nil, hs, hx, hrun]
  exact h A' c' w' k2' k3 k5 ((Below.refl _ _).grown k3 hbase hB)
/-- Two rows of the call's own in different blocks. -/
def Apart2 (u v : Value) : Prop := u.ownBlock = none ∨ u.ownBlock ≠ v.ownBlock
theorem OwnI.blk {w : World} {B : Nat} {e : TypeId} {k : IntKind} {v : Value} {zs : List Int} (h : OwnI w B e k v zs) (g : Nat) (hg : v.ownBlock = some g) : B ≤ g ∧ g < w.heap.size := World.ownsRow.lt h g hg
end Go.Proofs.Ytipbafcjmeibpaa.base
