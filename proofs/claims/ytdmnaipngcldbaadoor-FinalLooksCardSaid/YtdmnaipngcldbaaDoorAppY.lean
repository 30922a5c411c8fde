/- A copy of a row of words by append onto an empty slice, and append of a row, each at one operation. -/
import Derived.Test.YtdmnaipngcldbaaDoorClone32
namespace Go.Proofs.YtdmnaipngcldbaaDoor.base
set_option maxRecDepth 100000
open Go.RowKit
set_option linter.unusedVariables false
theorem wp_cloneY {w : World} {o : Oper} {a : Act} {K : Act → World → Prop} {Q : Exit → Act → World → Prop} (s x : Operand)
    (ho : o.op = .call { callee := .builtin .append, args := #[s, x], argTypes := #[50, 50] })
    (D : Option Addr) (hs : a.eval s = .slice D 0 0) (A : Option Addr) (m c : Nat) (ys : List Int) (hx : a.eval x = .slice A m c) (hm : ys.length = m) (hr : Has .i32 w A ys)
    (hb : ∀ z ∈ ys, -2147483648 ≤ z ∧ z ≤ 2147483647) (h63 : m ≤ 1073741824)
    (h : ∀ A' c' w', OneR w' w.heap.size ⟨A', m, c', ys⟩ → Below w.heap.size w w' → K (a.put o.dst (.slice A' m c')) w') : Oper.wp Tryd.prog o a w K Q := by
  subst hm
  obtain ⟨i, hi, hz, h1, h2⟩ := info32
  obtain ⟨A', c', w', hrun, k2, k3, k4⟩ := run_append_zero (P := Tryd.prog) w 50 o.type 21 i (.int .i32 0) 4 Tryd.underlying50 hi hz h1 h2 rfl .i32 D A c ys hr (by simp only [maxLen]; omega) (by omega)
  unfold Oper.wp execOp
  simp only [ho, resolve, invoke, builtin, Sem.run_bind, Sem.run_pure, Result.andThen_ok, List.map_toArray, List.map_cons, List.map_nil, hs, hx, hrun]
  refine h A' c' w' ?_ k3
  rcases k4 with ⟨rfl, rfl, rfl, rfl⟩ | k4
  · exact ⟨rfl, Nat.le_refl _, (by decide : 0 ≤ 9223372036854775807), fun hn => absurd rfl hn, hb⟩
  · exact oneR_of k4 hb
theorem wp_appRY {w : World} {o : Oper} {a : Act} {K : Act → World → Prop} {Q : Exit → Act → World → Prop} (s x : Operand)
    (ho : o.op = .call { callee := .builtin .append, args := #[s, x], argTypes := #[22, 22] })
    (B : Nat) (v : Value) (rs : List RY) (hs : a.eval s = v) (h : OwnR w B v rs) (hB : B ≤ w.heap.size) (g c : Nat) (hx : a.eval x = .slice (some ⟨g, 0, none⟩) 1 c) (r : RY) (hg : w.cell? ⟨g, 0, none⟩ = some r.val)
    (hr : OneR w B r) (hap : ∀ i, i < rs.length → RApart (rs.getD i ry0) r ∧ RApart r (rs.getD i ry0)) (tot : Nat) (ht : rs.length + 1 = tot) (hl : tot ≤ 1000000)
    (k : ∀ A' c' w', OwnR w' B (.slice A' tot c') (rs ++ [r]) → w.grownBy w' v.ownBlock → Below B w w' → K (a.put o.dst (.slice A' tot c')) w') : Oper.wp Tryd.prog o a w K Q := by
  subst ht
  obtain ⟨A', c', w', hrun, h2, h4, h3⟩ := h.append o.type hB r hr hap hl g c hg
  unfold Oper.wp execOp
  simp only [ho, resolve, invoke, builtin, Sem.run_bind, Sem.run_pure, Result.andThen_ok, List.map_toArray, List.map_cons, List.map_nil, hs, hx, hrun]
  exact k A' c' w' h2 h4 h3
/-- A block of another type, behind such an append. -/
theorem OwnR.keeps {w w' : World} {B g : Nat} {v : Value} {rs : List RY} {t : TypeId} {cs : List Value} (h : OwnR w B v rs) (K : Lies w g t cs) (ht : t ≠ 50) (hg : w.grownBy w' v.ownBlock) : Lies w' g t cs := by
  refine K.grown hg ?_
  intro e
  rcases h.row.2 with ⟨rfl, _⟩ | ⟨g', cap, cur, rfl, hB, hh, r⟩
  · simp [Value.ownBlock] at e
  · have e : g = g' := by simpa [Value.ownBlock] using e
    subst e
    unfold Lies at K
    rw [hh] at K
    injection K with K
    injection K with _ K2
    exact ht K2.symm
/-- Another row of words, behind such an append. -/
theorem OwnR.keeps_own {w w' : World} {B B' : Nat} {v u : Value} {rs : List RY} {zs : List Int} (h : OwnR w B v rs) (o : OwnI w B' 21 .i32 u zs) (hg : w.grownBy w' v.ownBlock) : OwnI w' B' 21 .i32 u zs := by
  refine o.kept hg ?_
  cases hv : v.ownBlock with
  | none =>
    cases hu : u.ownBlock with
    | none => exact .inl rfl
    | some g => exact .inr (by simp)
  | some g => exact .inr (outer_ne h.row o hv)
theorem own_ne32 {w : World} {B g : Nat} {v : Value} {zs : List Int} {t : TypeId} {cs : List Value} (h : OwnI w B 21 .i32 v zs) (K : Lies w g t cs) (ht : t ≠ 21) : v.ownBlock ≠ some g := by
  intro e
  rcases h.2 with ⟨h1, _⟩ | ⟨g', cap, cur, h1, hB, hg, r⟩
  · rw [h1] at e; simp [Value.ownBlock] at e
  · rw [h1] at e
    have : g' = g := by simpa [Value.ownBlock] using e
    subst this
    unfold Lies at K
    rw [hg] at K
    injection K with K
    injection K with _ K2
    exact ht K2.symm
theorem owni_other {w : World} {B g : Nat} {v : Value} {zs : List Int} {t : TypeId} {cs : List Value} (h : OwnI w B 21 .i32 v zs) (K : Lies w g t cs) (ht : t ≠ 21) (i : Nat) (x : Value) : OwnI (w.setCell ⟨g, i, none⟩ x) B 21 .i32 v zs := by
  refine owni_set h (fun e => ?_) x
  rcases h.2 with ⟨h1, _⟩ | ⟨g', cap, cur, h1, hB, hg, r⟩
  · rw [h1] at e; simp [Value.ownBlock] at e
  · rw [h1] at e
    have : g' = g := by simpa [Value.ownBlock] using e
    subst this
    unfold Lies at K
    rw [hg] at K
    injection K with K
    injection K with _ K2
    exact ht K2.symm
end Go.Proofs.YtdmnaipngcldbaaDoor.base
