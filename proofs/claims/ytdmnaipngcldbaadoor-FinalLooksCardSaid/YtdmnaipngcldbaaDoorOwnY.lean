/- A row of int32 of the call's own, or a slice without room; append onto it, in a list of operations and at a step of a region that draws its order. -/
import Derived.Test.YtdmnaipngcldbaaDoorMem32
import Derived.Test.YtdmnaipngcldbaaDoorReg
import Derived.RegionTactic
import Derived.Deep.RegionLaw
namespace Go.Proofs.YtdmnaipngcldbaaDoor.base
set_option maxRecDepth 100000
open Go.RowKit
set_option linter.unusedVariables false

theorem below_at {a w w' : World} {B : Nat} (k : Below B w w') (h : Below a.heap.size a w) (hB : a.heap.size ≤ B) : Below a.heap.size a w' := h.trans (k.mono hB)
def OwnY (w : World) (B : Nat) (v : Value) (zs : List Int) : Prop := OwnI w B 21 .i32 v zs ∨ (zs = [] ∧ ∃ D, v = .slice D 0 0)
theorem OwnY.has {w : World} {B : Nat} {A : Option Addr} {n c : Nat} {zs : List Int} (h : OwnY w B (.slice A n c) zs) : Has .i32 w A zs := by
  rcases h with h | ⟨rfl, D, h⟩
  · exact h.has
  · exact .inl rfl
theorem OwnY.below {w w' : World} {B C : Nat} {v : Value} {zs : List Int} (h : OwnY w B v zs) (hb : Below C w w') (hC : w.heap.size ≤ C) : OwnY w' B v zs := by
  rcases h with h | h
  · exact .inl (h.below hb hC)
  · exact .inr h
theorem run_app32y {w : World} (ty : TypeId) (base : Nat) (v : Value) (zs : List Int) (hown : OwnY w base v zs) (A : Option Addr) (c : Nat) (ys : List Int) (hr : Has .i32 w A ys)
    (h63 : zs.length + ys.length ≤ 1073741824) (hbase : base ≤ w.heap.size) :
    ∃ A' c' w', (Builtin.append_ #[50, 50] ty #[v, .slice A ys.length c]).run Tryd.prog w = .ok (.slice A' (zs.length + ys.length) c') w' ∧ OwnY w' base (.slice A' (zs.length + ys.length) c') (zs ++ ys) ∧ Below base w w' := by
  obtain ⟨i, hi, hz, h1, h2⟩ := info32
  rcases hown with hown | ⟨rfl, D, rfl⟩
  · obtain ⟨A', c', w', hrun, k2, k3, k4⟩ := run_append_I (P := Tryd.prog) w _ ty 21 i (.int .i32 0) 4 Tryd.underlying50 hi hz h1 h2 rfl base .i32 v zs hown A c ys hr (by simp only [maxLen]; omega) (by omega) hbase
    exact ⟨A', c', w', hrun, .inl k2, k4⟩
  · rw [List.length_nil, Nat.zero_add] at *
    obtain ⟨A', c', w', hrun, k2, k3, k4⟩ := run_append_zero (P := Tryd.prog) w _ ty 21 i (.int .i32 0) 4 Tryd.underlying50 hi hz h1 h2 rfl .i32 D A c ys hr (by simp only [maxLen]; omega) (by omega)
    refine ⟨A', c', w', hrun, ?_, k3.mono hbase⟩
    rcases k4 with ⟨rfl, rfl, rfl, rfl⟩ | k4
    · exact .inr ⟨rfl, _, rfl⟩
    · exact .inl (k4.mono hbase)
theorem step_app32y {w : World} {ops : Array Oper} {o : Oper} {a : Act} {K : Act → World → Prop} {Q : Exit → Act → World → Prop} {E : Prop} (hgd : o.guard = none) (s x : Operand)
    (ho : o.op = .call { callee := .builtin .append, args := #[s, x], argTypes := #[50, 50] })
    (base : Nat) (v : Value) (zs : List Int) (hs : a.eval s = v) (hown : OwnY w base v zs) (A : Option Addr) (m c : Nat) (ys : List Int) (hx : a.eval x = .slice A m c) (hm : ys.length = m) (hr : Has .i32 w A ys)
    (tot : Nat) (htot : zs.length + m = tot) (h63 : tot ≤ 1073741824) (hbase : base ≤ w.heap.size)
    (h : ∀ A' c' w', OwnY w' base (.slice A' tot c') (zs ++ ys) → Below base w w' → K (a.put o.dst (.slice A' tot c')) w') :
    if Region.wanted o (yielded ops a.tmps) = true then Oper.wp Tryd.prog o a w K Q else E := by
  have hw : Region.wanted o (yielded ops a.tmps) = true := by simp [Region.wanted, hgd]
  rw [if_pos hw]
  subst hm
  subst htot
  obtain ⟨A', c', w', hrun, k2, k4⟩ := run_app32y o.type base v zs hown A c ys hr h63 hbase
  unfold Oper.wp execOp
  simp only [ho, resolve, invoke, builtin, Sem.run_bind, Sem.run_pure, Result.andThen_ok, List.map_toArray, List.map_cons, List.map_nil, hs, hx, hrun]
  exact h A' c' w' k2 k4
theorem app32y {w : World} {ops : Array Oper} {rest : List Oper} {o : Oper} {a : Act} {Q : Exit → Act → World → Prop} (hgd : o.guard = none) (s x : Operand)
    (ho : o.op = .call { callee := .builtin .append, args := #[s, x], argTypes := #[50, 50] })
    (base : Nat) (v : Value) (zs : List Int) (hs : a.eval s = v) (hown : OwnY w base v zs) (A : Option Addr) (m c : Nat) (ys : List Int) (hx : a.eval x = .slice A m c) (hm : ys.length = m) (hr : Has .i32 w A ys)
    (tot : Nat) (htot : zs.length + m = tot) (h63 : tot ≤ 1073741824) (hbase : base ≤ w.heap.size)
    (h : ∀ A' c' w', OwnY w' base (.slice A' tot c') (zs ++ ys) → Below base w w' → wpList Tryd.prog ops Q rest (a.put o.dst (.slice A' tot c')) w') : wpList Tryd.prog ops Q (o :: rest) a w := by
  rcases hown with hown | ⟨rfl, D, rfl⟩
  · exact app32 hgd s x ho base v zs hs hown A m c ys hx hm hr tot htot h63 hbase fun A' c' w' k1 k2 k3 => h A' c' w' (.inl k1) k3
  · subst hm
    have ht : tot = ys.length := by rw [← htot]; simp
    subst ht
    refine clone32 hgd s x ho D hs A _ c ys hx rfl hr h63 fun A' c' w' k1 k2 k3 => h A' c' w' ?_ (k2.mono hbase)
    rcases k3 with ⟨rfl, rfl, rfl, rfl⟩ | k3
    · exact .inr ⟨rfl, _, rfl⟩
    · exact .inl (k3.mono hbase)
end Go.Proofs.YtdmnaipngcldbaaDoor.base
