/- Statements of layer 6 (hashes), by walks. -/
import Derived.Test.YtdmnaipngcldbaaDoorHashW
namespace Go.Proofs.YtdmnaipngcldbaaDoor.hashL
set_option maxRecDepth 100000
open Go.RowKit Go.Proofs.YtdmnaipngcldbaaDoor.base Go.Proofs.YtdmnaipngcldbaaDoor.hashP Go.Proofs.YtdmnaipngcldbaaDoor.hashW
set_option linter.unusedVariables false

theorem placeE_bd (s : Int) : 0 ≤ placeE s ∧ placeE s ≤ 2 := by unfold placeE; split <;> omega

theorem emod_pow {h : Int} {j k : Nat} (hjk : j ≤ k) : h % 2 ^ k % 2 ^ j = h % 2 ^ j := by
  apply Int.emod_emod_of_dvd
  exact ⟨2 ^ (k - j), by rw [← Int.pow_add, Nat.add_sub_cancel' hjk]⟩
theorem add_size {h : Int} {k : Nat} (hk : k ≤ 20) : (h + 2 ^ k) % 4294967296 % 2 ^ k = h % 2 ^ k := by
  have : (4294967296 : Int) = 2 ^ 32 := rfl
  rw [this, emod_pow (by omega), Int.add_emod_right]

end Go.Proofs.YtdmnaipngcldbaaDoor.hashL
