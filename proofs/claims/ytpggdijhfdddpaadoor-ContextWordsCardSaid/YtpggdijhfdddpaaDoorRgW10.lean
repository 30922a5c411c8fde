/- The last bytes of rings, the reference's, by walks; rings compared. -/
import Derived.Test.YtpggdijhfdddpaaDoorRgW9
namespace Go.Proofs.YtpggdijhfdddpaaDoor.rgW
open Go.RowKit Go.Proofs.YtpggdijhfdddpaaDoor.base Go.Proofs.YtpggdijhfdddpaaDoor.rgP
set_option linter.unusedVariables false
set_option linter.unusedSimpArgs false

theorem last_parts {r : Rg} {A : Option Addr} {n c k : Nat} {w : World} (h : RgIn w A n c r) (hk : lastE r k = 0) : rgOk r = true ∧ 64 ≤ n ∧ n ≤ 8192 ∧ 0 ≤ r.n ∧ r.n ≤ 1073741824 ∧ (k : Int) ≤ n ∧ (k : Int) ≤ r.n := by
  have hok : rgOk r = true := by
    cases x : rgOk r
    · rw [lastE, x] at hk; simp at hk
    · rfl
  obtain ⟨a1, a2, a3, a4⟩ := ok_parts h hok
  have he := h.e
  have c1 : (k : Int) ≤ n := by
    rw [lastE, if_pos hok, he] at hk
    by_cases c : 0 ≤ (k : Int) ∧ (k : Int) ≤ (n : Int)
    · exact c.2
    · rw [if_neg c] at hk; simp at hk
  have c2 : (k : Int) ≤ r.n := by
    rw [lastE, if_pos hok, he, if_pos ⟨by omega, c1⟩] at hk
    by_cases c : r.n < k
    · rw [if_pos c] at hk; simp at hk
    · omega
  exact ⟨hok, a1, a2, a3, a4, c1, c2⟩
theorem lastL_at (r : Rg) (k j : Nat) (hj : j < k) : ago r ((k : Int) - (j : Int)) = (lastL r k).getD j 0 := by
  unfold lastL
  simp [List.getD_eq_getElem?_getD, List.getElem?_range hj]
end Go.Proofs.YtpggdijhfdddpaaDoor.rgW
