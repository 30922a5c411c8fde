/- The reference's Put of rings, by a walk. -/
import Derived.Test.YtpggdijhfdddpaaDoorRgW15
namespace Go.Proofs.YtpggdijhfdddpaaDoor.rgW
open Go.RowKit Go.Proofs.YtpggdijhfdddpaaDoor.base Go.Proofs.YtpggdijhfdddpaaDoor.rgP
set_option linter.unusedVariables false
set_option linter.unusedSimpArgs false

theorem put_parts {r : Rg} {l : List Int} {m : Nat} (hm : l.length = m) (h : putE r l = 0) : rgOk r = true ∧ ¬ (20000 : Int) < m ∧ ¬ 1073741824 - r.n < (m : Int) := by
  unfold putE at h
  rw [hm] at h
  cases hok : rgOk r
  · rw [hok] at h; simp at h
  · rw [hok] at h
    simp only [if_true] at h
    by_cases c1 : 20000 < m
    · rw [if_pos c1] at h; simp at h
    · rw [if_neg c1] at h
      by_cases c2 : 1073741824 - r.n < (m : Int)
      · rw [if_pos c2] at h; simp at h
      · exact ⟨by trivial, by omega, c2⟩
theorem put_step (r : Rg) (l : List Int) (q : Nat) (hq : q < l.length) : putR r (l.take (q + 1)) = put1 (putR r (l.take q)) (l.getD q 0) := by
  rw [take_snoc 0 l q hq, putR_snoc]
theorem five_cells {w : World} {G g j b o : Nat} {a0 a1 a2 v x : Value} {t : TypeId} (h : Lies w G t [a0, a1, a2]) (hx : w.cell? ⟨b, o, none⟩ = some x) (hc : w.cell? ⟨g, j, none⟩ = some v) (hf : w.frozen? ⟨g, j, none⟩ = false) : w.cell? ⟨G, 1, none⟩ = some a1 ∧ w.cell? ⟨G, 2, none⟩ = some a2 ∧ w.cell? ⟨b, o, none⟩ = some x ∧ w.cell? ⟨g, j, none⟩ = some (cellOr w g j) ∧ w.frozen? ⟨g, j, none⟩ = false := ⟨h.three.2.1, h.three.2.2.1, hx, cellOr_of hc, hf⟩
end Go.Proofs.YtpggdijhfdddpaaDoor.rgW
