/- What the bound of a second form gives: how long the strings of a list are together. -/
import Derived.Test.YtjdgobfjpjnhgaaDoorRows
import Derived.Test.YtjdgobfjpjnhgaaDoorRows8
namespace Go.Proofs.YtjdgobfjpjnhgaaDoor.base
set_option maxRecDepth 100000
open Go.ChangeShapes Go.WideShapes Go.ChangeAt Go.RowKit Go.Deep
set_option linter.unusedVariables false
theorem bulk_one {H : Type} (d : DataW H) : 1 ≤ Rows.uptoBulk d := by
  cases d with
  | lit l => cases l <;> simp [Rows.uptoBulk]
  | nil => simp [Rows.uptoBulk]
  | ptr d => simp [Rows.uptoBulk]
  | slice elems spare => simp [Rows.uptoBulk]
  | agg parts => simp [Rows.uptoBulk]
  | iface t d => simp [Rows.uptoBulk]
  | map entries => simp [Rows.uptoBulk]
  | held h => simp [Rows.uptoBulk]
theorem bulk_len {H : Type} (l : List (DataW H)) : l.length ≤ Rows.uptoBulkAll l := by
  induction l with
  | nil => simp [Rows.uptoBulkAll]
  | cons x r ih => have := bulk_one x; simp only [Rows.uptoBulkAll, List.length_cons]; omega
theorem bulk_mem {H : Type} {d : DataW H} {l : List (DataW H)} (h : d ∈ l) : Rows.uptoBulk d ≤ Rows.uptoBulkAll l := by
  induction l with
  | nil => cases h
  | cons x r ih =>
    simp only [Rows.uptoBulkAll]
    cases List.mem_cons.1 h with
    | inl e => subst e; omega
    | inr e => have := ih e; omega
theorem bulk_bound {H : Type} {l : List (DataW H)} (hk : Rows.uptoSmall H l = true) : Rows.uptoBulkAll l ≤ 1048576 := of_decide_eq_true hk
/-- How long the strings of a list are together. -/
def sumN : List R8 → Nat
  | [] => 0
  | r :: l => r.n + sumN l
theorem sumN_take (rs : List R8) : ∀ k, sumN (rs.take k) ≤ sumN rs := by
  induction rs with
  | nil => intro k; simp [sumN]
  | cons r l ih =>
    intro k
    cases k with
    | zero => simp [sumN]
    | succ k => have := ih k; simp only [List.take_succ_cons, sumN]; omega
theorem bulk_sum {H : Type} : ∀ (l : List (DataW H)) (rs : List R8), l.length = rs.length → (∀ i, i < rs.length → ∀ x, l[i]? = some x → (rs.getD i r80).n ≤ Rows.uptoBulk x) → sumN rs ≤ Rows.uptoBulkAll l
  | [], [], _, _ => Nat.le_refl _
  | x :: l, [], h, _ => by simp at h
  | [], r :: rs, h, _ => by simp at h
  | x :: l, r :: rs, h, hx => by
    have h0 := hx 0 (by simp) x rfl
    have h1 := bulk_sum l rs (by simpa using h) (fun i hi y hy => by
      have := hx (i + 1) (by simp; omega) y (by simpa using hy)
      simpa using this)
    have h0' : r.n ≤ Rows.uptoBulk x := by simpa using h0
    simp only [sumN, Rows.uptoBulkAll]
    omega
theorem bulk_rows {H : Type} {enc : TypeId × Value → H} {W : World} {P : Option Addr} {m c : Nat} {rs : List R8} {d : DataW H} {p : List MemPlace}
    (h : DataW.Trod enc Tryd.prog W 0 (fun _ => true) true 22 (.slice P m c) d p) (hr : RowsB W P m c rs) : sumN rs ≤ Rows.uptoBulk d := by
  obtain ⟨fuel, hf⟩ := h
  have hl := hr.l
  have hc1 : Tryd.prog.cellsOf 23 = 1 := by kernel_rfl
  rcases DataW.trod_slice Tryd.underlying22 hf with ⟨e, -⟩ | ⟨ad, len, cap, elems, rest, n, -, e, ex, -, -, -, hlen, hel, -, -⟩
  · simp [Value.cells] at e
    obtain ⟨rfl, rfl, rfl⟩ := e
    have : rs = [] := List.eq_nil_of_length_eq_zero hl
    subst this
    simp [sumN]
  · simp [Value.cells] at e
    obtain ⟨rfl, rfl, rfl⟩ := e
    injection ex with ex1 ex2
    subst ex1
    have hs := bulk_sum (elems.map (·.1)) rs (by simp; omega) (fun i hi x hx => by
      have hi2 : i < m := by omega
      have h1 := hel i hi2
      rw [hc1, List.getElem?_eq_getElem (by omega)] at h1
      obtain ⟨cs, h2, h3⟩ := Option.bind_eq_some_iff.1 h1
      rw [List.getElem?_map, List.getElem?_eq_getElem (by omega)] at hx
      injection hx with hx
      obtain ⟨b, off, ea, hb, hc⟩ := hr.h.some (by omega)
      injection ea with ea
      subst ea
      have hcell := hc i hi
      clear hc
      generalize rs.getD i r80 = r at hcell ⊢
      obtain ⟨q1, q2, q3⟩ := World.cells?_some h2
      have h4 := q3 0 (by omega)
      rw [Nat.mul_one, addr_add, addr_add, Nat.add_zero] at h4
      rw [hcell] at h4
      have hcs : cs = [.slice r.A r.n r.c] := by
        match cs, q2 with
        | [c], _ => simp at h4; rw [h4]
        | [], hq => simp at hq
        | a :: b :: r, hq => simp at hq
      rw [hcs] at h3
      rcases DataW.trod_slice Tryd.underlying23 h3 with ⟨e, -⟩ | ⟨ad2, len2, cap2, elems2, rest2, n2, -, e, ex, -, -, -, hlen2, -⟩
      · simp at e
        rw [e.2.1]; exact Nat.zero_le _
      · simp at e
        rw [← hx, ex]
        have := bulk_len (elems2.map (·.1))
        simp only [Rows.uptoBulk]
        simp at this
        omega)
    simp only [Rows.uptoBulk]
    omega
end Go.Proofs.YtjdgobfjpjnhgaaDoor.base
