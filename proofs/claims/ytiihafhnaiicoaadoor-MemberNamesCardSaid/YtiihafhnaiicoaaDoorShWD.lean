/- Pieces, by walks. -/
import Derived.Test.YtiihafhnaiicoaaDoorPk1
import Derived.Test.YtiihafhnaiicoaaDoorRows8
import Derived.Test.YtiihafhnaiicoaaDoorFar
namespace Go.Proofs.YtiihafhnaiicoaaDoor.shW
set_option maxRecDepth 100000
open Go.RowKit Go.Proofs.YtiihafhnaiicoaaDoor.base Go.Proofs.YtiihafhnaiicoaaDoor.shP
set_option linter.unusedVariables false
set_option linter.unusedSimpArgs false
/-- The first k strings, one behind the other. -/
def wholeK (rs : List R8) (k : Nat) : List Int := ((rs.take k).map R8.b).flatten
def wholeL (rs : List R8) : List Int := (rs.map R8.b).flatten
theorem wholeK_0 (rs : List R8) : wholeK rs 0 = [] := rfl
theorem wholeK_all (rs : List R8) (k : Nat) (h : rs.length ≤ k) : wholeK rs k = wholeL rs := by rw [wholeK, List.take_of_length_le h]; rfl
theorem wholeK_snoc (rs : List R8) (k : Nat) (h : k < rs.length) : wholeK rs (k + 1) = wholeK rs k ++ (rs.getD k r80).b := by
  rw [wholeK, take_snoc r80 rs k h, List.map_append, List.flatten_append]; simp [wholeK]
theorem wholeK_le (rs : List R8) (k : Nat) : (wholeK rs k).length ≤ (wholeL rs).length := by
  have : wholeL rs = wholeK rs k ++ ((rs.drop k).map R8.b).flatten := by
    rw [wholeK, wholeL, ← List.flatten_append, ← List.map_append, List.take_append_drop]
  rw [this, List.length_append]; omega
theorem whole_bd {w : World} {P : Option Addr} {rs : List R8} (h : HasL w P rs) (k : Nat) : ∀ z ∈ wholeK rs k, 0 ≤ z ∧ z ≤ 255 := by
  intro z hz
  rw [wholeK, List.mem_flatten] at hz
  obtain ⟨l, hl, hz⟩ := hz
  obtain ⟨r, hr, rfl⟩ := List.mem_map.1 hl
  exact (h.all r (List.mem_of_mem_take hr)).b z hz
end Go.Proofs.YtiihafhnaiicoaaDoor.shW
