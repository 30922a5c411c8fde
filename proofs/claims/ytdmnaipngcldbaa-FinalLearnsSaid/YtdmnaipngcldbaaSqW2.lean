/- What squash.Row, and the reference's Row and Squash, return, by walks. -/
import Derived.Test.YtdmnaipngcldbaaSqW
import Derived.Test.YtdmnaipngcldbaaArr
import Derived.Deep.DeepMust
namespace Go.Proofs.Ytdmnaipngcldbaa.sqW
set_option maxRecDepth 100000
open Go.RowKit Go.Proofs.Ytdmnaipngcldbaa.base Go.Proofs.Ytdmnaipngcldbaa.sqP
set_option linter.unusedVariables false

/-- The row, as cells. -/
def rowsA : Array Value := (rows.map (Value.int .i32)).toArray
theorem rowsA_size : rowsA.size = 33 := rfl
theorem rowsA_one : ∀ v ∈ rowsA.toList, v.oneCell' = true := one_ints
  where one_ints : ∀ u ∈ (rows.map (Value.int .i32)).toArray.toList, u.oneCell' = true := by
          intro u hu
          obtain ⟨z, _, rfl⟩ := List.mem_map.1 (by simpa using hu)
          rfl
theorem rowsA_get (i : Nat) (h : i < 33) : rowsA[i]? = some (.int .i32 (rows.getD i 0)) := by
  have h' : i < rows.length := h
  simp [rowsA, List.getD_eq_getElem?_getD, List.getElem?_eq_getElem h']
/-- The table's block. -/
def TabF (w : World) : Prop := Tab w ∧ ∃ t fr, w.heap[0]? = some (.cells rowsA t fr)
theorem TabF.below {w w' : World} (h : TabF w) (hb : Below w.heap.size w w') : TabF w' := by
  obtain ⟨h1, t, fr, h2⟩ := h
  exact ⟨h1.below hb, t, fr, by rw [hb.block 0 h1.1]; exact h2⟩

end Go.Proofs.Ytdmnaipngcldbaa.sqW
