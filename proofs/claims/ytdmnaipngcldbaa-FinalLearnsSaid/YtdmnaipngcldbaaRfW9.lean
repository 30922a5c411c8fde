/- New rows of refiners, by walks. -/
import Derived.Test.YtdmnaipngcldbaaRfW8
import Derived.Test.YtdmnaipngcldbaaSqW2
import Derived.Test.YtdmnaipngcldbaaRowsO
import Derived.Deep.RegionLaw
namespace Go.Proofs.Ytdmnaipngcldbaa.rfP
set_option maxRecDepth 100000
open Go.Proofs.Ytdmnaipngcldbaa.base Go.Proofs.Ytdmnaipngcldbaa.sqP
def sqRow : List Int := (List.range 33).map fun j : Nat => 16 * sq (128 * (j : Int) - 2048)
theorem sqRow_len : sqRow.length = 33 := by simp [sqRow]
theorem sqRow_at (j : Nat) (h : j < 33) : sqRow.getD j 0 = 16 * sq (128 * (j : Int) - 2048) := by
  unfold sqRow
  rw [List.getD_eq_getElem?_getD, List.getElem?_map, List.getElem?_range h]
  rfl
theorem sqRow_ok : rowB sqRow = true := by decide +kernel
theorem sqRow_bd : ∀ z ∈ sqRow, -2147483648 ≤ z ∧ z ≤ 2147483647 := fun z hz => by
  have := ((rowB_iff _).1 sqRow_ok).2 z hz
  omega
/-- The first places. -/
def sqF (k : Nat) : List Int := fill 0 sqRow k
theorem sqF_0 : sqF 0 = List.replicate 33 0 := by unfold sqF; rw [fill_zero, sqRow_len]
theorem sqF_33 : sqF 33 = sqRow := by unfold sqF; rw [fill_all (by rw [sqRow_len]; exact Nat.le_refl _)]
theorem sqF_set (k : Nat) (h : k < 33) : (sqF k).set k (16 * sq (128 * (k : Int) - 2048)) = sqF (k + 1) := by
  unfold sqF
  rw [← fill_set (by rw [sqRow_len]; exact h) 0, sqRow_at k h]
theorem sqF_len (k : Nat) (h : k ≤ 33) : (sqF k).length = 33 := by unfold sqF; rw [fill_len (by rw [sqRow_len]; exact h), sqRow_len]
def sqT (k : Nat) : List Int := sqRow.take k
theorem sqT_0 : sqT 0 = [] := rfl
theorem sqT_33 : sqT 33 = sqRow := by unfold sqT; rw [List.take_of_length_le (by rw [sqRow_len]; exact Nat.le_refl _)]
theorem sqT_len (k : Nat) (h : k ≤ 33) : (sqT k).length = k := by unfold sqT; rw [List.length_take, sqRow_len]; omega
theorem sqT_snoc (k : Nat) (h : k < 33) : sqT k ++ [16 * sq (128 * (k : Int) - 2048)] = sqT (k + 1) := by
  unfold sqT
  rw [take_snoc 0 sqRow k (by rw [sqRow_len]; exact h), sqRow_at k h]
attribute [irreducible] sqRow sqF sqT
end Go.Proofs.Ytdmnaipngcldbaa.rfP
namespace Go.Proofs.Ytdmnaipngcldbaa.rfW
set_option maxRecDepth 100000
open Go.RowKit Go.Proofs.Ytdmnaipngcldbaa.base Go.Proofs.Ytdmnaipngcldbaa.rfP Go.Proofs.Ytdmnaipngcldbaa.sqP Go.Proofs.Ytdmnaipngcldbaa.sqW
set_option linter.unusedVariables false
set_option linter.unusedSimpArgs false
theorem own_lt {w : World} {B : Nat} {e : TypeId} {k : IntKind} {g n c : Nat} {zs : List Int} (h : OwnI w B e k (.slice (some ⟨g, 0, none⟩) n c) zs) : g < w.heap.size := (h.base_le).2
end Go.Proofs.Ytdmnaipngcldbaa.rfW
