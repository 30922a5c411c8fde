/- The reference's copy of a ring, by a walk. -/
import Derived.Test.YtbdipdnnjbpibaaRgW13
import Derived.Deep.RegionLaw
import Derived.Deep.RegionHeld3
namespace Go.Proofs.Ytbdipdnnjbpibaa.rgW
open Go.RowKit Go.Proofs.Ytbdipdnnjbpibaa.base Go.Proofs.Ytbdipdnnjbpibaa.rgP
set_option linter.unusedVariables false
set_option linter.unusedSimpArgs false

theorem OwnZ.head {w : World} {B : Nat} {A : Option Addr} {n c : Nat} {zs : List Int} (h : OwnZ w B (.slice A n c) zs) (hp : zs ≠ []) : ∃ g, A = some ⟨g, 0, none⟩ ∧ B ≤ g ∧ g < w.heap.size ∧ OwnI w B 5 .u8 (.slice (some ⟨g, 0, none⟩) n c) zs := by
  rcases h with h | ⟨h, _⟩
  · obtain ⟨g, rfl, h1, h2, _⟩ := h.form hp
    exact ⟨g, rfl, h1, h2, h⟩
  · exact absurd h hp
def cellOr (w : World) (g i : Nat) : Value := (w.cell? ⟨g, i, none⟩).getD undef
theorem cellOr_of {w : World} {g i : Nat} {v : Value} (h : w.cell? ⟨g, i, none⟩ = some v) : w.cell? ⟨g, i, none⟩ = some (cellOr w g i) := by unfold cellOr; rw [h]; rfl
attribute [irreducible] cellOr
theorem three_of {w : World} {g g' : Nat} {t : TypeId} {a b c a' b' c' : Value} (h : Lies w g t [a, b, c]) (k : Lies w g' t [a', b', c']) : w.cell? ⟨g, 0, none⟩ = some a ∧ w.cell? ⟨g, 1, none⟩ = some b ∧ w.cell? ⟨g, 2, none⟩ = some c ∧ w.cell? ⟨g', 0, none⟩ = some (cellOr w g' 0) ∧ w.cell? ⟨g', 1, none⟩ = some (cellOr w g' 1) ∧ w.cell? ⟨g', 2, none⟩ = some (cellOr w g' 2) ∧ w.frozen? ⟨g', 0, none⟩ = false ∧ w.frozen? ⟨g', 1, none⟩ = false ∧ w.frozen? ⟨g', 2, none⟩ = false := ⟨h.three.1, h.three.2.1, h.three.2.2.1, cellOr_of k.three.1, cellOr_of k.three.2.1, cellOr_of k.three.2.2.1, k.three.2.2.2⟩
end Go.Proofs.Ytbdipdnnjbpibaa.rgW
