/- ShaDone as its frame asks for it. -/
import Derived.Test.YtmlfajmkgkgegaaDoorShN3
namespace Go.Proofs.YtmlfajmkgkgegaaDoor.shL
open Go.RowKit Go.Proofs.YtmlfajmkgkgegaaDoor.base Go.Proofs.YtmlfajmkgkgegaaDoor.shP Go.Proofs.YtmlfajmkgkgegaaDoor.shW
theorem done_law (A : Option Addr) (n c : Nat) (z : List Int) (w : World) (hr : IsRow .u8 w A n c z) (hT : Tab w) :
    Calls Tryd.prog 6 #[.slice A n c] w fun e w' => e = .returned (.bool true) ∧ Below w.heap.size w w' := by
  obtain ⟨h1, h2, h3, h4⟩ := has_of_row hr
  have hc : n ≤ c ∧ c ≤ 9223372036854775807 := by
    rcases hr with ⟨rfl, rfl, rfl, rfl⟩ | ⟨x, rfl, a1, a2, a3, a4, a5⟩
    · exact ⟨Nat.le_refl _, by decide⟩
    · exact ⟨a1, by unfold maxLen at a2; omega⟩
  exact done (z.take n) A n c w hT h1 h2 hc.1 hc.2 (fun x hx => bounds_u8 (h4 x hx))
end Go.Proofs.YtmlfajmkgkgegaaDoor.shL
