/- Behind a loop that writes one row of the call's own alone: what lies elsewhere. -/
import Derived.Test.YthckpenindchlaaOwnZ
import Derived.Lib.BufferOwn
namespace Go.Proofs.Ythckpenindchlaa.base
set_option maxRecDepth 100000
open Go.RowKit
set_option linter.unusedVariables false

theorem OwnZ.bounds {w : World} {B : Nat} {A : Option Addr} {n c : Nat} {zs : List Int} (h : OwnZ w B (.slice A n c) zs) : n = zs.length ∧ n ≤ c ∧ c ≤ 9223372036854775807 := by
  rcases h with h | ⟨h0, D, e⟩
  · obtain ⟨hl, h2⟩ := h
    rcases h2 with ⟨h', h0⟩ | ⟨g', cap, cur, hv, hB, hg, hnc, hcm, hcs, ht⟩
    · injection h' with _ v2 v3
      subst v2 v3
      exact ⟨h0.symm, Nat.le_refl _, by omega⟩
    · injection hv with v1 v2 v3
      subst v2 v3
      exact ⟨rfl, hnc, by simpa [maxLen] using hcm⟩
  · injection e with _ v2 v3
    subst v2 v3 h0
    exact ⟨rfl, Nat.le_refl _, by omega⟩
theorem OwnZ.at_head {w : World} {B : Nat} {A : Option Addr} {n c : Nat} {zs : List Int} (h : OwnZ w B (.slice A n c) zs) (hp : 0 < n) : ∃ g, A = some ⟨g, 0, none⟩ ∧ B ≤ g ∧ g < w.heap.size ∧ OwnI w B 5 .u8 (.slice (some ⟨g, 0, none⟩) n c) zs := by
  have hb := h.bounds.1
  rcases h with h | ⟨h, _⟩
  · obtain ⟨g, rfl, h1, h2, _⟩ := h.form (by intro e; rw [e] at hb; simp at hb; omega)
    exact ⟨g, rfl, h1, h2, h⟩
  · rw [h] at hb; simp at hb; omega
/-- A row of the call's own from B on, where one block below B alone was written. -/
theorem OwnZ.far {wa wr : World} {B g : Nat} {v : Value} {zs : List Int} (h : OwnZ wa B v zs) (hg : wa.grownBy wr (some g)) (hB : g < B) : OwnZ wr B v zs := by
  rcases h with h | h
  · refine .inl (h.kept hg ?_)
    rcases h.2 with ⟨rfl, _⟩ | ⟨g', cap, cur, rfl, hb, _⟩
    · exact .inl rfl
    · refine .inr (fun e => ?_)
      have : g' = g := by simpa [Value.ownBlock] using e
      omega
  · exact .inr h
theorem far_set {wa wr : World} {g i : Nat} (h : wa.grownBy wr (some g)) (v : Value) : wa.grownBy (wr.setCell ⟨g, i, none⟩ v) (some g) := Lib.grownBy_setB h i v
theorem Lies.far {wa wr : World} {g b : Nat} {t : TypeId} {cs : List Value} (h : Lies wa b t cs) (hg : wa.grownBy wr (some g)) (hne : b ≠ g) : Lies wr b t cs := h.grown hg (fun e => hne (by injection e))
theorem Below.far {w wa wr : World} {g : Nat} (h : Below w.heap.size w wa) (hg : wa.grownBy wr (some g)) (hle : w.heap.size ≤ g) : Below w.heap.size w wr := h.grown hg h.size (fun k e => by injection e with e; omega)
theorem Has.far {wa wr : World} {g : Nat} {k : IntKind} {A : Option Addr} {zs : List Int} (h : Has k wa A zs) (hg : wa.grownBy wr (some g)) (hne : ∀ a, A = some a → a.block ≠ g) : Has k wr A zs := by
  rcases h with h | ⟨b, off, rfl, hb, hc⟩
  · exact .inl h
  · exact .inr ⟨b, off, rfl, Nat.lt_of_lt_of_le hb hg.size, fun i hi => hg.cell (hc i hi) (fun e => hne _ rfl (by injection e))⟩
/-- Where the head of a slice of the call's own lies, or that it has nothing. -/
theorem OwnZ.spot {w w0 : World} {B : Nat} {A : Option Addr} {n c : Nat} {zs : List Int} (h : OwnZ w B (.slice A n c) zs) (hB : w0.heap.size ≤ B) (hlt : w0.heap.size < w.heap.size) : ∃ g, w0.heap.size ≤ g ∧ g < w.heap.size ∧ (n = 0 ∨ A = some ⟨g, 0, none⟩ ∧ OwnI w B 5 .u8 (.slice (some ⟨g, 0, none⟩) n c) zs) := by
  rcases Nat.eq_zero_or_pos n with h0 | h0
  · exact ⟨w0.heap.size, Nat.le_refl _, hlt, .inl h0⟩
  · obtain ⟨g, rfl, g1, g2, o⟩ := h.at_head h0
    exact ⟨g, Nat.le_trans hB g1, g2, .inr ⟨rfl, o⟩⟩
end Go.Proofs.Ythckpenindchlaa.base
