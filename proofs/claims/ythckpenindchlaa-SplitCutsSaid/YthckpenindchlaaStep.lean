/- append of bytes onto a row of the call's own, at a step of a region that draws its order. -/
import Derived.Test.YthckpenindchlaaMem8
import Derived.RegionTactic
import Derived.Deep.RegionHeld3
import Derived.Deep.AppendLies
namespace Go.Proofs.Ythckpenindchlaa.base
set_option maxRecDepth 100000
open Go.RowKit

theorem step_app8 {w : World} {ops : Array Oper} {o : Oper} {a : Act} {K : Act → World → Prop} {Q : Exit → Act → World → Prop} {E : Prop} (hgd : o.guard = none) (s x : Operand)
    (ho : o.op = .call { callee := .builtin .append, args := #[s, x], argTypes := #[51, 51] })
    (base : Nat) (v : Value) (zs : List Int) (hs : a.eval s = v) (hown : OwnI w base 5 .u8 v zs) (A : Option Addr) (m c : Nat) (ys : List Int) (hx : a.eval x = .slice A m c) (hm : ys.length = m) (hr : Has .u8 w A ys)
    (tot : Nat) (htot : zs.length + m = tot) (h63 : tot ≤ 140737488355328) (hbase : base ≤ w.heap.size)
    (h : ∀ A' c' w', OwnI w' base 5 .u8 (.slice A' tot c') (zs ++ ys) → w.grownBy w' v.ownBlock → Below base w w' → K (a.put o.dst (.slice A' tot c')) w') :
    if Region.wanted o (yielded ops a.tmps) = true then Oper.wp Try.prog o a w K Q else E := by
  have hw : Region.wanted o (yielded ops a.tmps) = true := by simp [Region.wanted, hgd]
  rw [if_pos hw]
  subst hm
  subst htot
  obtain ⟨i, hi, hz, h1, h2⟩ := info8
  obtain ⟨A', c', w', hrun, k2, k3, k4⟩ := run_append_I (P := Try.prog) w _ o.type 5 i (.int .u8 0) 1 Try.underlying51 hi hz h1 h2 rfl base .u8 v zs hown A c ys hr (by simp only [maxLen]; omega) (by omega) hbase
  unfold Oper.wp execOp
  simp only [ho, resolve, invoke, builtin, Sem.run_bind, Sem.run_pure, Result.andThen_ok, List.map_toArray, List.map_cons, List.map_nil, hs, hx, hrun]
  exact h A' c' w' k2 k3 k4
/-- The same, where the operation alone may come up (base/XOrd). -/
theorem wp_app8 {w : World} {o : Oper} {a : Act} {K : Act → World → Prop} {Q : Exit → Act → World → Prop} (hgd : o.guard = none) (s x : Operand)
    (ho : o.op = .call { callee := .builtin .append, args := #[s, x], argTypes := #[51, 51] })
    (base : Nat) (v : Value) (zs : List Int) (hs : a.eval s = v) (hown : OwnI w base 5 .u8 v zs) (A : Option Addr) (m c : Nat) (ys : List Int) (hx : a.eval x = .slice A m c) (hm : ys.length = m) (hr : Has .u8 w A ys)
    (tot : Nat) (htot : zs.length + m = tot) (h63 : tot ≤ 140737488355328) (hbase : base ≤ w.heap.size)
    (h : ∀ A' c' w', OwnI w' base 5 .u8 (.slice A' tot c') (zs ++ ys) → w.grownBy w' v.ownBlock → Below base w w' → K (a.put o.dst (.slice A' tot c')) w') : Oper.wp Try.prog o a w K Q := by
  have := step_app8 (E := True) (ops := #[]) (K := K) (Q := Q) hgd s x ho base v zs hs hown A m c ys hx hm hr tot htot h63 hbase h
  rwa [if_pos (by simp [Region.wanted, hgd])] at this
end Go.Proofs.Ythckpenindchlaa.base
