/- Rows of bytes in memory that a call makes: the laws of Mem at the type of bytes. -/
import Derived.Test.YthckpenindchlaaMem
namespace Go.Proofs.Ythckpenindchlaa.base
set_option maxRecDepth 100000
open Go.RowKit

/-! The same for bytes in this program. -/
theorem info8 : ∃ i, Try.prog.info? 5 = some i ∧ i.zero = some (.int .u8 0) ∧ i.size = 1 ∧ i.bytes = 1 := info_parts (by kernel_rfl)

theorem app8 {w : World} {ops : Array Oper} {rest : List Oper} {o : Oper} {a : Act} {Q : Exit → Act → World → Prop} (hgd : o.guard = none) (s x : Operand)
    (ho : o.op = .call { callee := .builtin .append, args := #[s, x], argTypes := #[51, 51] })
    (base : Nat) (v : Value) (zs : List Int) (hs : a.eval s = v) (hown : OwnI w base 5 .u8 v zs) (A : Option Addr) (m c : Nat) (ys : List Int) (hx : a.eval x = .slice A m c) (hm : ys.length = m) (hr : Has .u8 w A ys)
    (tot : Nat) (htot : zs.length + m = tot) (h63 : tot ≤ 140737488355328) (hbase : base ≤ w.heap.size)
    (h : ∀ A' c' w', OwnI w' base 5 .u8 (.slice A' tot c') (zs ++ ys) → w.grownBy w' v.ownBlock → Below base w w' → wpList Try.prog ops Q rest (a.put o.dst (.slice A' tot c')) w') : wpList Try.prog ops Q (o :: rest) a w := by
  obtain ⟨i, hi, hz, h1, h2⟩ := info8
  exact wpList_append_I w hgd s x _ ho 5 i (.int .u8 0) 1 Try.underlying51 hi hz h1 h2 rfl base .u8 v zs hs hown A m c ys hx hm hr tot htot (by simp only [maxLen]; omega) (by omega) hbase h

theorem clone8 {w : World} {ops : Array Oper} {rest : List Oper} {o : Oper} {a : Act} {Q : Exit → Act → World → Prop} (hgd : o.guard = none) (s x : Operand)
    (ho : o.op = .call { callee := .builtin .append, args := #[s, x], argTypes := #[51, 51] })
    (D : Option Addr) (hs : a.eval s = .slice D 0 0) (A : Option Addr) (m c : Nat) (ys : List Int) (hx : a.eval x = .slice A m c) (hm : ys.length = m) (hr : Has .u8 w A ys)
    (h63 : m ≤ 140737488355328)
    (h : ∀ A' c' w', Has .u8 w' A' ys → Below w.heap.size w w' → (ys = [] ∧ A' = D ∧ c' = 0 ∧ w' = w ∨ OwnI w' w.heap.size 5 .u8 (.slice A' m c') ys) → wpList Try.prog ops Q rest (a.put o.dst (.slice A' m c')) w') : wpList Try.prog ops Q (o :: rest) a w := by
  obtain ⟨i, hi, hz, h1, h2⟩ := info8
  exact wpList_append_zero w hgd s x _ ho 5 i (.int .u8 0) 1 Try.underlying51 hi hz h1 h2 rfl .u8 D hs A m c ys hx hm hr (by simp only [maxLen]; omega) (by omega) h

/-- make([]byte, n). -/
theorem make8 {w : World} {ops : Array Oper} {rest : List Oper} {o : Oper} {a : Act} {Q : Exit → Act → World → Prop} (hg : o.guard = none) (l c : Operand) (hop : o.op = Op.makeSlice 51 l c)
    (kl kc : IntKind) (n : Nat) (hl : a.eval l = .int kl (n : Int)) (hc : a.eval c = .int kc (n : Int)) (hn : n ≤ 140737488355328) (base : Nat) (hbase : base ≤ w.heap.size)
    (h : ∀ w', OwnI w' base 5 .u8 (.slice (some ⟨w.heap.size, 0, none⟩) n n) (List.replicate n 0) → Below w.heap.size w w' → wpList Try.prog ops Q rest (a.put o.dst (.slice (some ⟨w.heap.size, 0, none⟩) n n)) w') : wpList Try.prog ops Q (o :: rest) a w := by
  obtain ⟨i, hi, hz, h1, h2⟩ := info8
  refine wpList_make_full w hg l c _ hop base 5 i (.int .u8 0) 1 Try.underlying51 hi hz h1 kl kc n n n hl hc rfl rfl (by rw [h2]; omega) (by simp only [maxLen]; omega) hbase fun w' hown hgr => h w' ?_ ?_
  · unfold OwnI
    have e : (Value.int .u8 0).cells = #[.int .u8 0] := rfl
    rw [e, toList_madeCells_one] at hown
    simpa using hown
  · exact (Below.refl _ _).grown hgr (Nat.le_refl _) (by simp)

/-- The string of some bytes. -/
def bstr (zs : List Int) : ByteArray := zs.foldl (fun r n => r.push (UInt8.ofNat n.toNat)) ByteArray.empty

/-- string(b). -/
theorem conv8 {w : World} {A : Option Addr} {zs : List Int} {n c : Nat} (h : Has .u8 w A zs) (hn : zs.length = n) : (convert 51 9 (.slice A n c)).run Try.prog w = .ok (.string (bstr zs)) w := by
  subst hn
  rw [run_convert_bytes_string w 51 9 5 A zs.length c Try.underlying51 Try.underlying5 Try.underlying9]
  rcases A with _ | ad
  · have hz : zs = [] := by
      rcases h with h | ⟨b, off, ha, _⟩
      · exact h
      · cases ha
    subst hz
    simp [Conv.bytesToString, bstr]
  · refine run_bytesToString w ad zs.length c zs ?_
    have := run_loadCells_list (P := Try.prog) w ad (zs.map (Value.int .u8)) h.cells
    simpa using this
end Go.Proofs.Ythckpenindchlaa.base
