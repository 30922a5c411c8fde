/- New refiners, by walks. -/
import Derived.Test.YtdmnaipngcldbaaRfW9
import Derived.Test.YtdmnaipngcldbaaClone32
import Derived.Test.YtdmnaipngcldbaaOrd
namespace Go.Proofs.Ytdmnaipngcldbaa.rfP
set_option maxRecDepth 100000
open Go.Proofs.Ytdmnaipngcldbaa.base
/-- The first rows are new ones. -/
def FullTo (rs : List RY) (k : Nat) : Prop := ∀ i, i < k → (rs.getD i ry0).b = sqRow
theorem full_zero (rs : List RY) : FullTo rs 0 := fun _ h => absurd h (Nat.not_lt_zero _)
theorem full_set {rs : List RY} {k : Nat} (h : FullTo rs k) (hk : k < rs.length) (A : Option Addr) (n c : Nat) : FullTo (rs.set k ⟨A, n, c, sqRow⟩) (k + 1) := fun i hi => by
  by_cases e : k = i
  · subst e; rw [gd_set_eq hk]
  · rw [gd_set_ne e]; exact h i (by omega)
theorem full_snoc {rs : List RY} (h : FullTo rs rs.length) (A : Option Addr) (n c : Nat) : FullTo (rs ++ [⟨A, n, c, sqRow⟩]) (rs.length + 1) := fun i hi => by
  by_cases e : i < rs.length
  · rw [gd_snoc_lt e]; exact h i e
  · obtain rfl : i = rs.length := by omega
    rw [gd_snoc_eq]
theorem full_all {rs : List RY} {m : Nat} (hl : rs.length = m) (h : FullTo rs m) : numsY rs = List.replicate m sqRow := by
  subst hl
  apply List.ext_getElem
  · simp [numsY]
  · intro i h1 h2
    have hi : i < rs.length := by simpa [numsY] using h1
    have := h i hi
    rw [List.getD_eq_getElem?_getD, List.getElem?_eq_getElem hi] at this
    simp [numsY]
    exact this
theorem new_ok {m : Nat} (h1 : 1 ≤ m) (h2 : m ≤ 256) : rfB (List.replicate m sqRow) = true := by
  rw [rfB_iff]
  refine ⟨by simpa using h1, by simpa using h2, fun z hz => ?_⟩
  rw [(List.mem_replicate.1 hz).2]
  exact (rowB_iff _).1 sqRow_ok
end Go.Proofs.Ytdmnaipngcldbaa.rfP
namespace Go.Proofs.Ytdmnaipngcldbaa.rfW
set_option maxRecDepth 100000
open Go.RowKit Go.Proofs.Ytdmnaipngcldbaa.base Go.Proofs.Ytdmnaipngcldbaa.rfP Go.Proofs.Ytdmnaipngcldbaa.sqP Go.Proofs.Ytdmnaipngcldbaa.sqW
set_option linter.unusedVariables false
set_option linter.unusedSimpArgs false
end Go.Proofs.Ytdmnaipngcldbaa.rfW
