/- Plain facts on rings into which bytes were put. -/
import Derived.Test.YtpggdijhfdddpaaDoorCxPlain
import Derived.Test.YtpggdijhfdddpaaDoorRgW19
namespace Go.Proofs.YtpggdijhfdddpaaDoor.cxP
open Go.RowKit Go.Proofs.YtpggdijhfdddpaaDoor.base Go.Proofs.YtpggdijhfdddpaaDoor.rgP Go.Proofs.YtpggdijhfdddpaaDoor.rgW
set_option linter.unusedVariables false
theorem put_new {l : Int} (hl : lvB l = true) (bs : List Int) (hm : bs.length ≤ 700) : newE l = 0 ∧ putE (newR l) bs = 0 ∧ rgOk (putR (newR l) bs) = true ∧ (putR (newR l) bs).n = bs.length ∧ (putR (newR l) bs).b.length = szOf l := by
  have h := newR_ok hl
  have en : (newR l).n = 0 := by unfold newR; rw [if_pos hl]
  have eb : (newR l).b.length = szOf l := by unfold newR; rw [if_pos hl]; simp
  have e1 : putE (newR l) bs = 0 := by rw [putE, if_pos h, if_neg (by omega), en, if_neg (by omega)]
  exact ⟨by unfold newE; rw [if_pos hl], e1, putR_ok bs h (by rw [en]; omega), by rw [putR_n, en]; omega, by rw [putR_len, eb]⟩
theorem ago_put {l : Int} (hl : lvB l = true) (bs : List Int) (k : Nat) (h1 : 1 ≤ k) (h2 : k ≤ szOf l) (h3 : k ≤ bs.length) : ago (putR (newR l) bs) k = bs.getD (bs.length - k) 0 := by
  have en : (newR l).n = 0 := by unfold newR; rw [if_pos hl]
  have eb : (newR l).b.length = szOf l := by unfold newR; rw [if_pos hl]; simp
  have hs := sz_bd hl
  have e := putR_get bs (newR l) (bs.length - k) (by rw [en]; omega) (by rw [eb]; omega) (by omega) (by rw [eb]; omega)
  rw [ago, putR_n, putR_len, en, if_neg (by omega), ← e, en]
  congr 1
  congr 1
  omega
theorem lastL_put {l : Int} (hl : lvB l = true) (bs : List Int) (k : Nat) (h2 : k ≤ szOf l) (h3 : k ≤ bs.length) : lastL (putR (newR l) bs) k = bs.drop (bs.length - k) := by
  apply List.ext_getElem
  · rw [lastL_len]; simp; omega
  · intro i i1 i2
    rw [lastL_len] at i1
    have h := lastL_at (putR (newR l) bs) k i i1
    rw [show (k : Int) - (i : Int) = ((k - i : Nat) : Int) by omega, ago_put hl bs (k - i) (by omega) (by omega) (by omega)] at h
    have e : (lastL (putR (newR l) bs) k).getD i 0 = (lastL (putR (newR l) bs) k)[i]'(by rw [lastL_len]; exact i1) := by rw [List.getD_eq_getElem?_getD, List.getElem?_eq_getElem (by rw [lastL_len]; exact i1)]; rfl
    rw [← e, ← h, List.getElem_drop, List.getD_eq_getElem?_getD, List.getElem?_eq_getElem (by omega)]
    simp only [Option.getD_some]
    congr 1
    omega
end Go.Proofs.YtpggdijhfdddpaaDoor.cxP
