/- A step of an adaptive map in place, by walks. -/
import Derived.Test.YtipbafcjmeibpaaAdW4
import Derived.Deep.RegionLaw
import Derived.Deep.RegionHeld3
namespace Go.Proofs.Ytipbafcjmeibpaa.adW
open Go.RowKit Go.Proofs.Ytipbafcjmeibpaa.base Go.Proofs.Ytipbafcjmeibpaa.adP Go.Proofs.Ytipbafcjmeibpaa.recipP
open Go.Proofs.Ytipbafcjmeibpaa.recipW (step_any quotient_any)
set_option linter.unusedVariables false
set_option linter.unusedSimpArgs false

set_option maxHeartbeats 1000000 in
theorem change_any (m : Ad) (B g gp gn cp cn : Nat) (s b : Int) (w : World) (F : Fits m s b) (K : Lies (w) (g) 24 [.int .i32 (m.l), .slice (some ⟨gp, 0, none⟩) 193 (cp), .slice (some ⟨gn, 0, none⟩) 193 (cn)]) (O : AdOwn w B gp gn cp cn m) (hB : B ≤ w.heap.size) :
    Calls Try.prog 30 #[.pointer (some ⟨g, 0, none⟩), .int .u8 s, .int .u8 b] w fun e w' => e = .returned (.int .i64 0) ∧ Keeps w w' ∧ AdOwn w' B gp gn cp cn (mv m s b) ∧ Below B w w' := by
  obtain ⟨⟨a1, a2⟩, ⟨n1, n2⟩, ⟨l1, l2⟩, ⟨x1, x2⟩, ⟨y1, y2⟩, -, -⟩ := place_bd F
  obtain ⟨ha, s0, s1, hb⟩ := F
  have HP := Lib.hid (O.p.cell s.toNat (by have := O.lp; omega))
  have HN := Lib.hid (O.n.cell s.toNat (by have := O.ln; omega))
  have fp := O.p.frozen s.toNat
  have fn := O.n.frozen s.toNat
  have ne1 : gp ≠ gn := O.ne
  have ne2 : gn ≠ gp := fun e => O.ne e.symm
  have ne3 : gp ≠ g := fun e => own_ne O.p K (by decide) (by rw [← e]; rfl)
  have ne4 : gn ≠ g := fun e => own_ne O.n K (by decide) (by rw [← e]; rfl)
  have hp := HP.out
  have hn := HN.out
  obtain ⟨p0, p1, p2, f0, f1, f2⟩ := K.three
  have HK := Lib.hid K
  have HO := Lib.hid O
  have HX : Hid (nNext m s = if m.n.getD s.toNat 0 + 1 ≤ m.l then m.n.getD s.toNat 0 + 1 else m.l) := Lib.hid rfl
  have HY : Hid (pNext m s b = m.p.getD s.toNat 0 + quo (tgt b - m.p.getD s.toNat 0) (nNext m s + 1)) := Lib.hid rfl
  have HM : Hid (mv m s b = ⟨m.l, m.p.set s.toNat (pNext m s b), m.n.set s.toNat (nNext m s)⟩) := Lib.hid rfl
  clear K O HP HN ha
  generalize m.p.getD s.toNat 0 = p at *
  generalize m.n.getD s.toNat 0 = n at *
  generalize nNext m s = nn at *
  generalize pNext m s b = pp at *
  generalize hl : m.l = l at *
  have EN : Hid ((if l < n + 1 then l else n + 1) = nn) := Lib.hid (by rw [HX.out]; split <;> split <;> omega)
  have hst : stepOk p (tgt b) (nn + 1) = true := by
    simp only [stepOk, Bool.and_eq_true, okN_iff, prob_iff]
    rcases hb with rfl | rfl <;> simp [tgt] <;> omega
  have HS : Hid (stepV p (tgt b) (nn + 1) = pp ∧ stepE p (tgt b) (nn + 1) = 0) := Lib.hid ⟨by rw [stepV, if_pos hst, HY.out], by rw [stepE, if_pos hst]⟩
  clear hst
  have t1 : nn + 1 ≤ 1001 := by omega
  rcases hb with rfl | rfl
  · have hb0 : tgt 0 = 0 := rfl
    rw [hb0] at HS
    clear hb0 HY HX
    go_enter Try.func30, Try.ntmps30
    go_wp2_with fail
    go_quiet (fail)
    rw [EN.out]
    go_wp2_with (first | (go_at_call 45; refine (step_any p 0 (nn + 1) _ (by omega) (by omega) (by omega) (by omega)).mono ?_; rintro e w1 ⟨rfl, rfl⟩; rw [HS.out.1, HS.out.2]))
    go_region
    all_goals
      go_wp2_with fail
      go_ret
      refine ⟨rfl, (((Keeps.refl w).drewN _).set (HO.out.drewN _).n _ _).set ((HO.out.drewN _).setN _ nn).p _ _, ?_, ?_⟩
      · have hh := ((HO.out.drewN (nq + 1)).setN s.toNat nn).setP s.toNat pp
        rw [HM.out, ← hl]
        exact hh
      · have hgp := HO.out.p.base_le
        have hgn := HO.out.n.base_le
        refine Below.setCell (Below.setCell (below_drewN (Below.refl B w) _) ?_ _) ?_ _
        · exact hgn.1
        · exact hgp.1
  · have hb0 : tgt 1 = 65535 := rfl
    rw [hb0] at HS
    clear hb0 HY HX
    go_enter Try.func30, Try.ntmps30
    go_wp2_with fail
    go_quiet (fail)
    rw [EN.out]
    go_wp2_with (first | (go_at_call 45; refine (step_any p 65535 (nn + 1) _ (by omega) (by omega) (by omega) (by omega)).mono ?_; rintro e w1 ⟨rfl, rfl⟩; rw [HS.out.1, HS.out.2]))
    go_region
    all_goals
      go_wp2_with fail
      go_ret
      refine ⟨rfl, (((Keeps.refl w).drewN _).set (HO.out.drewN _).n _ _).set ((HO.out.drewN _).setN _ nn).p _ _, ?_, ?_⟩
      · have hh := ((HO.out.drewN (nq + 1)).setN s.toNat nn).setP s.toNat pp
        rw [HM.out, ← hl]
        exact hh
      · have hgp := HO.out.p.base_le
        have hgn := HO.out.n.base_le
        refine Below.setCell (Below.setCell (below_drewN (Below.refl B w) _) ?_ _) ?_ _
        · exact hgn.1
        · exact hgp.1
end Go.Proofs.Ytipbafcjmeibpaa.adW
