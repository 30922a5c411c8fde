/- slices.Clone of words. -/
import Derived.Test.YtdmnaipngcldbaaDoorRowsO
import Derived.Lib.Hide
import Derived.Outline
import Derived.WalkSpells
namespace Go.Proofs.YtdmnaipngcldbaaDoor.base
set_option maxRecDepth 100000
open Go.RowKit
set_option linter.unusedVariables false
theorem oneR_of {w : World} {B : Nat} {A : Option Addr} {n c : Nat} {zs : List Int} (h : OwnI w B 21 .i32 (.slice A n c) zs) (hb : ∀ z ∈ zs, -2147483648 ≤ z ∧ z ≤ 2147483647) : OneR w B ⟨A, n, c, zs⟩ := by
  obtain ⟨h1, h2, h3⟩ := ownY_cap h
  exact ⟨h1, h2, h3, fun _ => h, hb⟩
set_option maxHeartbeats 400000 in
theorem Clone32 {A : Option Addr} {n c : Nat} {zs : List Int} {w : World} (hA : Has .i32 w A zs) (hn : zs.length = n) (hc : n ≤ c) (hm : n ≤ 1073741824) (hp : 0 < n) :
    Calls Tryd.prog 49 #[.slice A n c] w fun e w' => ∃ g c', e = .returned (.slice (some ⟨g, 0, none⟩) n c') ∧ OwnI w' w.heap.size 21 .i32 (.slice (some ⟨g, 0, none⟩) n c') zs ∧ Below w.heap.size w w' := by
  subst hn
  have HA := Lib.hid hA
  have HP := Lib.hid (List.length_pos_iff.1 hp)
  obtain ⟨b, off, rfl, _, _⟩ := has_some hA hp
  clear hA
  have he : ∀ w : World, (binOp .eql 50 (.slice (some ⟨b, off, none⟩) zs.length c) (.slice none 0 0)).run Tryd.prog w = .ok (.bool false) w := fun w => Lib.run_eql_slice_nil w 50 21 (some ⟨b, off, none⟩) zs.length c 0 0 Tryd.underlying50
  go_enter Tryd.func49, Tryd.ntmps49
  go_wp2_with (at_builtin; refine clone32 rfl _ _ rfl (some ⟨w.heap.size, 0, none⟩) rfl (some ⟨b, off, none⟩) _ _ zs rfl rfl (HA.out.below ((Below.refl _ _).alloc (Nat.le_refl _) _) (Nat.le_refl _)) hm ?_; intro A1 c1 w1 hh1 hb1 ho1)
  go_ret
  rcases ho1 with ⟨h0, _⟩ | ho1
  · exact absurd h0 HP.out
  · obtain ⟨g, e1, _, _, _⟩ := ho1.form HP.out
    subst e1
    exact ⟨g, c1, rfl, ho1.mono (by simp), ((Below.refl _ _).alloc (Nat.le_refl _) _).trans (hb1.mono (by simp))⟩
end Go.Proofs.YtdmnaipngcldbaaDoor.base
