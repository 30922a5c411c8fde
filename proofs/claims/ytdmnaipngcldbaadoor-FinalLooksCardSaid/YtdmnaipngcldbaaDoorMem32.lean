/- Rows of numbers of 32 bits in memory that a call makes: the laws of Mem at int32. -/
import Derived.Test.YtdmnaipngcldbaaDoorMem
namespace Go.Proofs.YtdmnaipngcldbaaDoor.base
set_option maxRecDepth 100000
open Go.RowKit

/-! The same for int32 in this program. -/
theorem info32 : ∃ i, Tryd.prog.info? 21 = some i ∧ i.zero = some (.int .i32 0) ∧ i.size = 1 ∧ i.bytes = 4 := info_parts (by kernel_rfl)

theorem app32 {w : World} {ops : Array Oper} {rest : List Oper} {o : Oper} {a : Act} {Q : Exit → Act → World → Prop} (hgd : o.guard = none) (s x : Operand)
    (ho : o.op = .call { callee := .builtin .append, args := #[s, x], argTypes := #[50, 50] })
    (base : Nat) (v : Value) (zs : List Int) (hs : a.eval s = v) (hown : OwnI w base 21 .i32 v zs) (A : Option Addr) (m c : Nat) (ys : List Int) (hx : a.eval x = .slice A m c) (hm : ys.length = m) (hr : Has .i32 w A ys)
    (tot : Nat) (htot : zs.length + m = tot) (h63 : tot ≤ 1073741824) (hbase : base ≤ w.heap.size)
    (h : ∀ A' c' w', OwnI w' base 21 .i32 (.slice A' tot c') (zs ++ ys) → w.grownBy w' v.ownBlock → Below base w w' → wpList Tryd.prog ops Q rest (a.put o.dst (.slice A' tot c')) w') : wpList Tryd.prog ops Q (o :: rest) a w := by
  obtain ⟨i, hi, hz, h1, h2⟩ := info32
  exact wpList_append_I w hgd s x _ ho 21 i (.int .i32 0) 4 Tryd.underlying50 hi hz h1 h2 rfl base .i32 v zs hs hown A m c ys hx hm hr tot htot (by simp only [maxLen]; omega) (by omega) hbase h

theorem clone32 {w : World} {ops : Array Oper} {rest : List Oper} {o : Oper} {a : Act} {Q : Exit → Act → World → Prop} (hgd : o.guard = none) (s x : Operand)
    (ho : o.op = .call { callee := .builtin .append, args := #[s, x], argTypes := #[50, 50] })
    (D : Option Addr) (hs : a.eval s = .slice D 0 0) (A : Option Addr) (m c : Nat) (ys : List Int) (hx : a.eval x = .slice A m c) (hm : ys.length = m) (hr : Has .i32 w A ys)
    (h63 : m ≤ 1073741824)
    (h : ∀ A' c' w', Has .i32 w' A' ys → Below w.heap.size w w' → (ys = [] ∧ A' = D ∧ c' = 0 ∧ w' = w ∨ OwnI w' w.heap.size 21 .i32 (.slice A' m c') ys) → wpList Tryd.prog ops Q rest (a.put o.dst (.slice A' m c')) w') : wpList Tryd.prog ops Q (o :: rest) a w := by
  obtain ⟨i, hi, hz, h1, h2⟩ := info32
  exact wpList_append_zero w hgd s x _ ho 21 i (.int .i32 0) 4 Tryd.underlying50 hi hz h1 h2 rfl .i32 D hs A m c ys hx hm hr (by simp only [maxLen]; omega) (by omega) h

/-- make([]int32, n). -/
theorem make32 {w : World} {ops : Array Oper} {rest : List Oper} {o : Oper} {a : Act} {Q : Exit → Act → World → Prop} (hg : o.guard = none) (l c : Operand) (hop : o.op = Op.makeSlice 50 l c)
    (kl kc : IntKind) (n : Nat) (hl : a.eval l = .int kl (n : Int)) (hc : a.eval c = .int kc (n : Int)) (hn : n ≤ 1073741824) (base : Nat) (hbase : base ≤ w.heap.size)
    (h : ∀ w', OwnI w' base 21 .i32 (.slice (some ⟨w.heap.size, 0, none⟩) n n) (List.replicate n 0) → Below w.heap.size w w' → wpList Tryd.prog ops Q rest (a.put o.dst (.slice (some ⟨w.heap.size, 0, none⟩) n n)) w') : wpList Tryd.prog ops Q (o :: rest) a w := by
  obtain ⟨i, hi, hz, h1, h2⟩ := info32
  refine wpList_make_full w hg l c _ hop base 21 i (.int .i32 0) 1 Tryd.underlying50 hi hz h1 kl kc n n n hl hc rfl rfl (by rw [h2]; omega) (by simp only [maxLen]; omega) hbase fun w' hown hgr => h w' ?_ ?_
  · unfold OwnI
    have e : (Value.int .i32 0).cells = #[.int .i32 0] := rfl
    rw [e, toList_madeCells_one] at hown
    simpa using hown
  · exact (Below.refl _ _).grown hgr (Nat.le_refl _) (by simp)

end Go.Proofs.YtdmnaipngcldbaaDoor.base
