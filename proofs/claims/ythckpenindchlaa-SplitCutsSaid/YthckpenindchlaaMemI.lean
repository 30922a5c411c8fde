/- Rows of ints in memory that a call makes: the laws of Mem at the type of int. -/
import Derived.Test.YthckpenindchlaaMem
namespace Go.Proofs.Ythckpenindchlaa.base
set_option maxRecDepth 100000
open Go.RowKit

/-! The same for ints in this program. -/
theorem infoI : ∃ i, Try.prog.info? 3 = some i ∧ i.zero = some (.int .i64 0) ∧ i.size = 1 ∧ i.bytes = 8 := info_parts (by kernel_rfl)

theorem appI {w : World} {ops : Array Oper} {rest : List Oper} {o : Oper} {a : Act} {Q : Exit → Act → World → Prop} (hgd : o.guard = none) (s x : Operand)
    (ho : o.op = .call { callee := .builtin .append, args := #[s, x], argTypes := #[22, 22] })
    (base : Nat) (v : Value) (zs : List Int) (hs : a.eval s = v) (hown : OwnI w base 3 .i64 v zs) (A : Option Addr) (m c : Nat) (ys : List Int) (hx : a.eval x = .slice A m c) (hm : ys.length = m) (hr : Has .i64 w A ys)
    (tot : Nat) (htot : zs.length + m = tot) (h63 : tot ≤ 17592186044416) (hbase : base ≤ w.heap.size)
    (h : ∀ A' c' w', OwnI w' base 3 .i64 (.slice A' tot c') (zs ++ ys) → w.grownBy w' v.ownBlock → Below base w w' → wpList Try.prog ops Q rest (a.put o.dst (.slice A' tot c')) w') : wpList Try.prog ops Q (o :: rest) a w := by
  obtain ⟨i, hi, hz, h1, h2⟩ := infoI
  exact wpList_append_I w hgd s x _ ho 3 i (.int .i64 0) 8 Try.underlying22 hi hz h1 h2 rfl base .i64 v zs hs hown A m c ys hx hm hr tot htot (by simp only [maxLen]; omega) (by omega) hbase h

theorem cloneI {w : World} {ops : Array Oper} {rest : List Oper} {o : Oper} {a : Act} {Q : Exit → Act → World → Prop} (hgd : o.guard = none) (s x : Operand)
    (ho : o.op = .call { callee := .builtin .append, args := #[s, x], argTypes := #[22, 22] })
    (D : Option Addr) (hs : a.eval s = .slice D 0 0) (A : Option Addr) (m c : Nat) (ys : List Int) (hx : a.eval x = .slice A m c) (hm : ys.length = m) (hr : Has .i64 w A ys)
    (h63 : m ≤ 17592186044416)
    (h : ∀ A' c' w', Has .i64 w' A' ys → Below w.heap.size w w' → (ys = [] ∧ A' = D ∧ c' = 0 ∧ w' = w ∨ OwnI w' w.heap.size 3 .i64 (.slice A' m c') ys) → wpList Try.prog ops Q rest (a.put o.dst (.slice A' m c')) w') : wpList Try.prog ops Q (o :: rest) a w := by
  obtain ⟨i, hi, hz, h1, h2⟩ := infoI
  exact wpList_append_zero w hgd s x _ ho 3 i (.int .i64 0) 8 Try.underlying22 hi hz h1 h2 rfl .i64 D hs A m c ys hx hm hr (by simp only [maxLen]; omega) (by omega) h

/-- make([]int, n). -/
theorem makeI {w : World} {ops : Array Oper} {rest : List Oper} {o : Oper} {a : Act} {Q : Exit → Act → World → Prop} (hg : o.guard = none) (l c : Operand) (hop : o.op = Op.makeSlice 22 l c)
    (kl kc : IntKind) (n : Nat) (hl : a.eval l = .int kl (n : Int)) (hc : a.eval c = .int kc (n : Int)) (hn : n ≤ 17592186044416) (base : Nat) (hbase : base ≤ w.heap.size)
    (h : ∀ w', OwnI w' base 3 .i64 (.slice (some ⟨w.heap.size, 0, none⟩) n n) (List.replicate n 0) → Below w.heap.size w w' → wpList Try.prog ops Q rest (a.put o.dst (.slice (some ⟨w.heap.size, 0, none⟩) n n)) w') : wpList Try.prog ops Q (o :: rest) a w := by
  obtain ⟨i, hi, hz, h1, h2⟩ := infoI
  refine wpList_make_full w hg l c _ hop base 3 i (.int .i64 0) 1 Try.underlying22 hi hz h1 kl kc n n n hl hc rfl rfl (by rw [h2]; omega) (by simp only [maxLen]; omega) hbase fun w' hown hgr => h w' ?_ ?_
  · unfold OwnI
    have e : (Value.int .i64 0).cells = #[.int .i64 0] := rfl
    rw [e, toList_madeCells_one] at hown
    simpa using hown
  · exact (Below.refl _ _).grown hgr (Nat.le_refl _) (by simp)

end Go.Proofs.Ythckpenindchlaa.base
