/- What the functions of package squash and of its reference return, by walks. -/
import Derived.Test.YtdmnaipngcldbaaDoorBase
import Derived.Test.YtdmnaipngcldbaaDoorBits
import Derived.Test.YtdmnaipngcldbaaDoorSqPlain
import Derived.Lib.Hide
import Derived.Deep.QuietTactic
import Derived.BigQuiet
import Derived.WalkSpells
import Derived.WalkLawsBesides
import Derived.OneCell
namespace Go.Proofs.YtdmnaipngcldbaaDoor.sqW
set_option maxRecDepth 100000
open Go.RowKit Go.Proofs.YtdmnaipngcldbaaDoor.base Go.Proofs.YtdmnaipngcldbaaDoor.sqP
set_option linter.unusedVariables false

/-- The table's cells hold the row. -/
def Tab (w : World) : Prop := 0 < w.heap.size ∧ ∀ i, i < 33 → w.cell? ⟨0, i, none⟩ = some (.int .i32 (rows.getD i 0))

theorem Tab.below {w w' : World} (h : Tab w) (hb : Below w.heap.size w w') : Tab w' :=
  ⟨Nat.lt_of_lt_of_le h.1 hb.size, fun i hi => by rw [hb.cell (p := ⟨0, i, none⟩) h.1]; exact h.2 i hi⟩

theorem Tab.drewN {w : World} (h : Tab w) (n : Nat) : Tab (w.drewN n) := h.below (below_drewN (Below.refl _ _) n)

set_option maxHeartbeats 400000 in
theorem sq_mid (d : Int) (w : World) (hT : Tab w) (h1 : -2047 ≤ d) (h2 : d ≤ 2047) :
    Calls Tryd.prog 54 #[.int .i32 d] w fun e w' => e = .returned (.int .i32 (mid d)) ∧ ∃ n, w' = w.drewN n := by
  have b1 := row_bd (d / 128 + 16).toNat (by omega)
  have b2 := row_bd (d / 128 + 17).toNat (by omega)
  have k1 := hT.2 (d / 128 + 16).toNat (by omega)
  have k2 := hT.2 (d / 128 + 17).toNat (by omega)
  have e3 : (d / 128 + 16 + 1).toNat = (d / 128 + 17).toNat := by omega
  have k3 : w.cell? ⟨0, (d / 128 + 16 + 1).toNat, none⟩ = some (.int .i32 (rows.getD (d / 128 + 17).toNat 0)) := by rw [e3]; exact hT.2 _ (by omega)
  have HM : Hid (mid d = (rows.getD (d / 128 + 16).toNat 0 * (128 - d % 128) + rows.getD (d / 128 + 17).toNat 0 * (d % 128) + 64) / 128) := Lib.hid rfl
  have EM : bits .and .i32 d 127 = d % 128 := by
    have := and_mask32 d 7 (by omega) 127 (by decide)
    have e : (2 : Int) ^ 7 = 128 := by decide
    rw [this, e]
  generalize rows.getD (d / 128 + 16).toNat 0 = x at *
  generalize rows.getD (d / 128 + 17).toNat 0 = y at *
  have b11 := b1.1
  have b12 := b1.2
  have b21 := b2.1
  have b22 := b2.2
  have m1 : 0 ≤ x * (128 - d % 128) := Int.mul_nonneg (by omega) (by omega)
  have m2 : x * (128 - d % 128) ≤ 4094 * 128 := Int.mul_le_mul b12 (by omega) (by omega) (by omega)
  have m3 : 0 ≤ y * (d % 128) := Int.mul_nonneg (by omega) (by omega)
  have m4 : y * (d % 128) ≤ 4094 * 128 := Int.mul_le_mul b22 (by omega) (by omega) (by omega)
  have i1 : 0 ≤ d / 128 + 16 := by omega
  have i2 : d / 128 + 16 < 33 := by omega
  have i3 : 0 ≤ d / 128 + 16 + 1 := by omega
  have i4 : d / 128 + 16 + 1 < 33 := by omega
  have i5 : IntKind.i32.wrap (d / 128 + 16 + 1) = d / 128 + 16 + 1 := by rw [IntKind.wrap_i32]; omega
  have i6 : IntKind.i32.wrap (128 - d % 128) = 128 - d % 128 := by rw [IntKind.wrap_i32]; omega
  have i7 : IntKind.i32.wrap (x * (128 - d % 128)) = x * (128 - d % 128) := by rw [IntKind.wrap_i32]; omega
  have i8 : IntKind.i32.wrap (y * (d % 128)) = y * (d % 128) := by rw [IntKind.wrap_i32]; omega
  clear b1 b2 e3 hT
  go_enter Tryd.func54, Tryd.ntmps54
  go_wp2
  go_quiet (fail)
  go_wp2
  go_ret
  exact ⟨ret1 (by rw [HM.out]), _, rfl⟩

set_option maxHeartbeats 400000 in
theorem sq_any (d : Int) (w : World) (hT : Tab w) :
    Calls Tryd.prog 54 #[.int .i32 d] w fun e w' => e = .returned (.int .i32 (sq d)) ∧ ∃ n, w' = w.drewN n := by
  by_cases c1 : 2047 < d
  · have hs : sq d = 4095 := by unfold sq; rw [if_pos (by omega)]
    rw [hs]
    clear hs hT
    go_enter Tryd.func54, Tryd.ntmps54
    go_wp2
    go_ret
    exact ⟨rfl, 0, rfl⟩
  · by_cases c2 : d < -2047
    · have hs : sq d = 0 := by unfold sq; rw [if_neg (by omega), if_pos c2]
      rw [hs]
      clear hs hT
      go_enter Tryd.func54, Tryd.ntmps54
      go_wp2
      go_ret
      exact ⟨rfl, 0, rfl⟩
    · rw [sq_in (by omega) (by omega)]
      exact sq_mid d w hT (by omega) (by omega)

theorem decide_yes {p : Prop} [Decidable p] (h : p) : decide p = true := by simp [h]
theorem decide_no {p : Prop} [Decidable p] (h : ¬ p) : decide p = false := by simp [h]

end Go.Proofs.YtdmnaipngcldbaaDoor.sqW
