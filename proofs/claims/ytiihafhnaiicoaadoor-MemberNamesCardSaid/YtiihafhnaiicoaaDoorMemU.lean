/- Rows of words (uint32) in memory that a call makes: the laws of Mem at their type. -/
import Derived.Test.YtiihafhnaiicoaaDoorMem
import Derived.RegionTactic
import Derived.Deep.RegionHeld3
import Derived.Deep.AppendLies
namespace Go.Proofs.YtiihafhnaiicoaaDoor.base
set_option maxRecDepth 100000
open Go.RowKit
/-! The same for bytes in this program. -/
theorem infoU : ∃ i, Tryd.prog.info? 97 = some i ∧ i.zero = some (.int .u32 0) ∧ i.size = 1 ∧ i.bytes = 4 := info_parts (by kernel_rfl)

theorem appU {w : World} {ops : Array Oper} {rest : List Oper} {o : Oper} {a : Act} {Q : Exit → Act → World → Prop} (hgd : o.guard = none) (s x : Operand)
    (ho : o.op = .call { callee := .builtin .append, args := #[s, x], argTypes := #[118, 118] })
    (base : Nat) (v : Value) (zs : List Int) (hs : a.eval s = v) (hown : OwnI w base 97 .u32 v zs) (A : Option Addr) (m c : Nat) (ys : List Int) (hx : a.eval x = .slice A m c) (hm : ys.length = m) (hr : Has .u32 w A ys)
    (tot : Nat) (htot : zs.length + m = tot) (h63 : tot ≤ 35184372088832) (hbase : base ≤ w.heap.size)
    (h : ∀ A' c' w', OwnI w' base 97 .u32 (.slice A' tot c') (zs ++ ys) → w.grownBy w' v.ownBlock → Below base w w' → wpList Tryd.prog ops Q rest (a.put o.dst (.slice A' tot c')) w') : wpList Tryd.prog ops Q (o :: rest) a w := by
  obtain ⟨i, hi, hz, h1, h2⟩ := infoU
  exact wpList_append_I w hgd s x _ ho 97 i (.int .u32 0) 4 Tryd.underlying118 hi hz h1 h2 rfl base .u32 v zs hs hown A m c ys hx hm hr tot htot (by simp only [maxLen]; omega) (by omega) hbase h

theorem cloneU {w : World} {ops : Array Oper} {rest : List Oper} {o : Oper} {a : Act} {Q : Exit → Act → World → Prop} (hgd : o.guard = none) (s x : Operand)
    (ho : o.op = .call { callee := .builtin .append, args := #[s, x], argTypes := #[118, 118] })
    (D : Option Addr) (hs : a.eval s = .slice D 0 0) (A : Option Addr) (m c : Nat) (ys : List Int) (hx : a.eval x = .slice A m c) (hm : ys.length = m) (hr : Has .u32 w A ys)
    (h63 : m ≤ 35184372088832)
    (h : ∀ A' c' w', Has .u32 w' A' ys → Below w.heap.size w w' → (ys = [] ∧ A' = D ∧ c' = 0 ∧ w' = w ∨ OwnI w' w.heap.size 97 .u32 (.slice A' m c') ys) → wpList Tryd.prog ops Q rest (a.put o.dst (.slice A' m c')) w') : wpList Tryd.prog ops Q (o :: rest) a w := by
  obtain ⟨i, hi, hz, h1, h2⟩ := infoU
  exact wpList_append_zero w hgd s x _ ho 97 i (.int .u32 0) 4 Tryd.underlying118 hi hz h1 h2 rfl .u32 D hs A m c ys hx hm hr (by simp only [maxLen]; omega) (by omega) h

theorem step_appU {w : World} {ops : Array Oper} {o : Oper} {a : Act} {K : Act → World → Prop} {Q : Exit → Act → World → Prop} {E : Prop} (hgd : o.guard = none) (s x : Operand)
    (ho : o.op = .call { callee := .builtin .append, args := #[s, x], argTypes := #[118, 118] })
    (base : Nat) (v : Value) (zs : List Int) (hs : a.eval s = v) (hown : OwnI w base 97 .u32 v zs) (A : Option Addr) (m c : Nat) (ys : List Int) (hx : a.eval x = .slice A m c) (hm : ys.length = m) (hr : Has .u32 w A ys)
    (tot : Nat) (htot : zs.length + m = tot) (h63 : tot ≤ 35184372088832) (hbase : base ≤ w.heap.size)
    (h : ∀ A' c' w', OwnI w' base 97 .u32 (.slice A' tot c') (zs ++ ys) → w.grownBy w' v.ownBlock → Below base w w' → K (a.put o.dst (.slice A' tot c')) w') :
    if Region.wanted o (yielded ops a.tmps) = true then Oper.wp Tryd.prog o a w K Q else E := by
  have hw : Region.wanted o (yielded ops a.tmps) = true := by simp [Region.wanted, hgd]
  rw [if_pos hw]
  subst hm
  subst htot
  obtain ⟨i, hi, hz, h1, h2⟩ := infoU
  obtain ⟨A', c', w', hrun, k2, k3, k4⟩ := run_append_I (P := Tryd.prog) w _ o.type 97 i (.int .u32 0) 4 Tryd.underlying118 hi hz h1 h2 rfl base .u32 v zs hown A c ys hr (by simp only [maxLen]; omega) (by omega) hbase
  unfold Oper.wp execOp
  simp only [ho, resolve, invoke, builtin, Sem.run_bind, Sem.run_pure, Result.andThen_ok, List.map_toArray, List.map_cons, List.map_nil, hs, hx, hrun]
  exact h A' c' w' k2 k3 k4
end Go.Proofs.YtiihafhnaiicoaaDoor.base
