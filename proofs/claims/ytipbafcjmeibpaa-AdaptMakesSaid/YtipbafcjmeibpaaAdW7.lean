/- The reference's step of an adaptive map in place, by walks. -/
import Derived.Test.YtipbafcjmeibpaaAdW6
import Derived.Deep.RegionLaw
import Derived.Deep.RegionHeld3
namespace Go.Proofs.Ytipbafcjmeibpaa.adW
open Go.RowKit Go.Proofs.Ytipbafcjmeibpaa.base Go.Proofs.Ytipbafcjmeibpaa.adP Go.Proofs.Ytipbafcjmeibpaa.recipP
open Go.Proofs.Ytipbafcjmeibpaa.recipW (step_any quotient_any)
set_option linter.unusedVariables false
set_option linter.unusedSimpArgs false

set_option maxHeartbeats 1000000 in
theorem rMove_any (m : Ad) (B gp gn cp cn : Nat) (s b : Int) (w : World) (F : Fits m s b) (O : AdOwn w B gp gn cp cn m) (hB : B ≤ w.heap.size) :
    Calls Try.prog 37 #[.agg #[.int .i32 (m).l, .slice (some ⟨gp, 0, none⟩) 193 cp, .slice (some ⟨gn, 0, none⟩) 193 cn], .int .u8 s, .int .u8 b] w fun e w' => e = .returned (.tuple #[]) ∧ Keeps w w' ∧ AdOwn w' B gp gn cp cn (mv m s b) ∧ Below B w w' := by
  obtain ⟨⟨a1, a2⟩, ⟨n1, n2⟩, ⟨l1, l2⟩, ⟨x1, x2⟩, ⟨y1, y2⟩, -, -⟩ := place_bd F
  obtain ⟨ha, s0, s1, hb⟩ := F
  have HP := Lib.hid (O.p.cell s.toNat (by have := O.lp; omega))
  have HN := Lib.hid (O.n.cell s.toNat (by have := O.ln; omega))
  have fp := O.p.frozen s.toNat
  have fn := O.n.frozen s.toNat
  have ne1 : gp ≠ gn := O.ne
  have ne2 : gn ≠ gp := fun e => O.ne e.symm
  have ne3 : gp < w.heap.size := O.p.base_le.2
  have ne4 : gn < w.heap.size := O.n.base_le.2
  have hp := HP.out
  have hn := HN.out
  have HO := Lib.hid O
  have HX : Hid (nNext m s = if m.n.getD s.toNat 0 + 1 ≤ m.l then m.n.getD s.toNat 0 + 1 else m.l) := Lib.hid rfl
  have HY : Hid (pNext m s b = m.p.getD s.toNat 0 + quo (tgt b - m.p.getD s.toNat 0) (nNext m s + 1)) := Lib.hid rfl
  have HM : Hid (mv m s b = ⟨m.l, m.p.set s.toNat (pNext m s b), m.n.set s.toNat (nNext m s)⟩) := Lib.hid rfl
  clear O HP HN ha
  generalize m.p.getD s.toNat 0 = p at *
  generalize m.n.getD s.toNat 0 = n at *
  generalize nNext m s = nn at *
  generalize pNext m s b = pp at *
  generalize hl : m.l = l at *
  have EN : Hid ((if l < n + 1 then l else n + 1) = nn) := Lib.hid (by rw [HX.out]; split <;> split <;> omega)
  have t1 : nn + 1 ≤ 1001 := by omega
  rcases hb with rfl | rfl
  · have HPP : Hid (wrap32 (p + quo (-p) (nn + 1)) = pp) := Lib.hid (by have e := HY.out; rw [show tgt 0 - p = -p by simp [tgt]] at e; rw [← e]; unfold wrap32; omega)
    clear HY HX
    go_enter Try.func37, Try.ntmps37
    go_wp2_with fail
    go_quiet (fail)
    rw [EN.out]
    have w1 : IntKind.i32.wrap (-p) = -p := by rw [IntKind.wrap_i32]; omega
    have w2 : IntKind.i32.wrap (nn + 1) = nn + 1 := by rw [IntKind.wrap_i32]; omega
    go_wp2_with fail
    go_region_law (first | (go_simp; go_at_call 46; refine (quotient_any (-p) (nn + 1) _ (by omega) (by omega) (by omega) (by omega)).mono ?_; rintro e w1 ⟨rfl, rfl⟩))
    all_goals
      go_wp2_with fail
      go_end0
      rw [HPP.out]
      refine ⟨rfl, Keeps.set (Keeps.set ((Keeps.past ((Below.refl _ _).alloc (Nat.le_refl _) _)).drewN _) ((HO.out.alloc _).drewN _).p _ _) (((HO.out.alloc _).drewN _).setP _ pp).n _ _, ?_, ?_⟩
      · rw [HM.out, ← hl]
        exact (((HO.out.alloc _).drewN _).setP _ pp).setN _ nn
      · refine Below.setCell (Below.setCell (below_drewN (Below.alloc (Below.refl B w) hB _) _) ?_ _) ?_ _
        · exact HO.out.p.base_le.1
        · exact HO.out.n.base_le.1
  · have HPP : Hid (wrap32 (p + quo (65535 - p) (nn + 1)) = pp) := Lib.hid (by have e := HY.out; rw [show tgt 1 - p = 65535 - p by simp [tgt]] at e; rw [← e]; unfold wrap32; omega)
    clear HY HX
    go_enter Try.func37, Try.ntmps37
    go_wp2_with fail
    go_quiet (fail)
    rw [EN.out]
    have w1 : IntKind.i32.wrap (65535 - p) = 65535 - p := by rw [IntKind.wrap_i32]; omega
    have w2 : IntKind.i32.wrap (nn + 1) = nn + 1 := by rw [IntKind.wrap_i32]; omega
    go_wp2_with fail
    go_region_law (first | (go_simp; go_at_call 46; refine (quotient_any (65535 - p) (nn + 1) _ (by omega) (by omega) (by omega) (by omega)).mono ?_; rintro e w1 ⟨rfl, rfl⟩))
    all_goals
      go_wp2_with fail
      go_end0
      rw [HPP.out]
      refine ⟨rfl, Keeps.set (Keeps.set ((Keeps.past ((Below.refl _ _).alloc (Nat.le_refl _) _)).drewN _) ((HO.out.alloc _).drewN _).p _ _) (((HO.out.alloc _).drewN _).setP _ pp).n _ _, ?_, ?_⟩
      · rw [HM.out, ← hl]
        exact (((HO.out.alloc _).drewN _).setP _ pp).setN _ nn
      · refine Below.setCell (Below.setCell (below_drewN (Below.alloc (Below.refl B w) hB _) _) ?_ _) ?_ _
        · exact HO.out.p.base_le.1
        · exact HO.out.n.base_le.1
end Go.Proofs.Ytipbafcjmeibpaa.adW
