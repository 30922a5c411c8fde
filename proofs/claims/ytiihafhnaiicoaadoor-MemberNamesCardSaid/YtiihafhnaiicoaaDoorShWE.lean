/- Long, Pieces, by walks. -/
import Derived.Test.YtiihafhnaiicoaaDoorShWD
namespace Go.Proofs.YtiihafhnaiicoaaDoor.shW
set_option maxRecDepth 100000
open Go.RowKit Go.Proofs.YtiihafhnaiicoaaDoor.base Go.Proofs.YtiihafhnaiicoaaDoor.shP
set_option linter.unusedVariables false
set_option linter.unusedSimpArgs false
def badN (n : Nat) : Bool := (decide (700 < n) && decide (n ≤ 20000)) || decide (40000 < n)
def longB (rs : List R8) : Bool := ((rs.take 31).any fun r => badN r.n) || decide (30 < rs.length)
theorem longB_no {rs : List R8} (h : longB rs = false) : rs.length ≤ 30 ∧ ∀ r ∈ rs, r.n ≤ 700 ∨ (20000 < r.n ∧ r.n ≤ 40000) := by
  simp only [longB, Bool.or_eq_false_iff, decide_eq_false_iff_not, List.any_eq_false] at h
  refine ⟨by omega, fun r hr => ?_⟩
  have := h.1 r (by rw [List.take_of_length_le (by omega)]; exact hr)
  simp [badN] at this
  omega
theorem long_step (rs : List R8) (k : Nat) (hk : k < rs.length) (h : ((rs.take k).any fun r => badN r.n) = false) (hb : badN (rs.getD k r80).n = false) : ((rs.take (k + 1)).any fun r => badN r.n) = false := by
  rw [take_snoc r80 rs k hk, List.any_append, h, Bool.false_or, List.any_cons, hb]; rfl
theorem long_yes (rs : List R8) (k : Nat) (hk : k < rs.length) (h30 : k ≤ 30) (hb : badN (rs.getD k r80).n = true) : longB rs = true := by
  have : ((rs.take 31).any fun r => badN r.n) = true := by
    rw [List.any_eq_true]
    refine ⟨rs.getD k r80, ?_, hb⟩
    rw [List.getD_eq_getElem?_getD, List.getElem?_eq_getElem hk]
    exact List.mem_take_iff_getElem.2 ⟨k, by omega, rfl⟩
  simp [longB, this]
def piB (rs : List R8) : Bool := decide (rs.length ≤ 20) && decide ((wholeL rs).length ≤ 20000)
def piE (rs : List R8) : Int := if piB rs then 0 else 4
def piV (rs : List R8) : List Int := if piB rs then digest (wholeL rs) else zd
theorem pi_yes {rs : List R8} (h1 : rs.length ≤ 20) (h2 : (wholeL rs).length ≤ 20000) : piE rs = 0 ∧ piV rs = digest (wholeL rs) := by
  have : piB rs = true := by simp [piB, h1, h2]
  exact ⟨by rw [piE, if_pos this], by rw [piV, if_pos this]⟩
theorem pi_no {rs : List R8} (h : ¬ (rs.length ≤ 20 ∧ (wholeL rs).length ≤ 20000)) : piE rs = 4 ∧ piV rs = zd := by
  have : ¬ piB rs = true := by simp [piB]; intro h1; have := fun h2 => h ⟨h1, h2⟩; omega
  exact ⟨by rw [piE, if_neg this], by rw [piV, if_neg this]⟩
end Go.Proofs.YtiihafhnaiicoaaDoor.shW
