/- Plain facts on learning at the near place. -/
import Derived.Test.YtdmnaipngcldbaaDoorRfA3
namespace Go.Proofs.YtdmnaipngcldbaaDoor.rfP
set_option maxRecDepth 100000
open Go.Proofs.YtdmnaipngcldbaaDoor.base Go.Proofs.YtdmnaipngcldbaaDoor.sqP
theorem learn_at {l : List (List Int)} {k j : Nat} (h : askE l (k : Int) = 0) (hj : j < 33) (bit : Bool) :
    learnE l k j = 0 ∧ learnV l k j bit = learnP l k j bit := by
  have e : learnE l k j = 0 := by unfold learnE; rw [if_pos h, if_neg (by omega)]
  refine ⟨e, ?_⟩
  unfold learnV
  rw [e, if_pos rfl, Int.toNat_natCast, Int.toNat_natCast]
theorem learn_ask {l : List (List Int)} {k j : Nat} (h : askE l (k : Int) = 0) (hj : j < 33) (bit : Bool) : askE (learnP l k j bit) (k : Int) = 0 := by
  obtain ⟨a, b, c⟩ := ask_zero h
  unfold askE
  rw [if_pos (learn_ok a (by omega) hj bit), learn_len, if_neg (by omega)]
theorem near_bd {t : Nat} (h : t ≤ 4095) : nearJ t < 33 := by unfold nearJ; split <;> omega
/-- Places before and after. -/
def Stp (x y : Int) (bit : Bool) : Prop := (bit = true → x ≤ y) ∧ (bit = false → y ≤ x)
theorem stp_refl (x : Int) (bit : Bool) : Stp x x bit := ⟨fun _ => Int.le_refl _, fun _ => Int.le_refl _⟩
theorem stp_mv {t : Int} (bit : Bool) (h0 : 0 ≤ t) (h1 : t ≤ 65535) : Stp t (mv t bit) bit := by
  cases bit
  · exact ⟨fun h => (by cases h), fun _ => mv_down h0⟩
  · exact ⟨fun _ => mv_up h1, fun h => (by cases h)⟩
theorem learn_row {l : List (List Int)} {k j : Nat} (bit : Bool) (hk : k < l.length) : (learnP l k j bit).getD k [] = (l.getD k []).set j (mv ((l.getD k []).getD j 0) bit) := by
  unfold learnP; rw [gd_set_eq hk]
theorem learn_else {l : List (List Int)} {k j i : Nat} (bit : Bool) (h : k ≠ i) : (learnP l k j bit).getD i [] = l.getD i [] := by
  unfold learnP; rw [gd_set_ne h]
/-- One place before and after. -/
theorem learn_place {l : List (List Int)} (h : rfB l = true) {k j : Nat} (hk : k < l.length) (hj : j < 33) (bit : Bool) (i a : Nat) (hi : i < l.length) (ha : a < 33) :
    ((learnP l k j bit).getD i []).getD a 0 = (l.getD i []).getD a 0 ∨ (i = k ∧ a = j ∧ Stp ((l.getD i []).getD a 0) (((learnP l k j bit).getD i []).getD a 0) bit) := by
  by_cases e : k = i
  · subst e
    rw [learn_row bit hk]
    have hr := rf_row h k hk
    have hl := ((rowB_iff _).1 hr).1
    by_cases e2 : j = a
    · subst e2
      right
      rw [gd_set_eq (by omega)]
      exact ⟨rfl, rfl, stp_mv bit (row_at hr j hj).1 (row_at hr j hj).2⟩
    · left; rw [gd_set_ne e2]
  · left; rw [learn_else bit e]
theorem place_stp {l : List (List Int)} (h : rfB l = true) {k j : Nat} (hk : k < l.length) (hj : j < 33) (bit : Bool) (a : Nat) (ha : a < 33) :
    Stp ((l.getD k []).getD a 0) (((learnP l k j bit).getD k []).getD a 0) bit := by
  rcases learn_place h hk hj bit k a hk ha with e | ⟨_, _, e⟩
  · rw [e]; exact stp_refl _ _
  · exact e
theorem seen_stp {l : List (List Int)} (h : rfB l = true) {k j : Nat} (hk : k < l.length) (hj : j < 33) (bit : Bool) {t : Nat} (ht : t ≤ 4095) :
    Stp (seenP (l.getD k []) t) (seenP ((learnP l k j bit).getD k []) t) bit := by
  have a := place_stp h hk hj bit (t / 128) (by omega)
  have b := place_stp h hk hj bit (t / 128 + 1) (by omega)
  unfold seenP
  exact ⟨fun e => lk_mono (a.1 e) (b.1 e) (by omega) (by omega), fun e => lk_mono (a.2 e) (b.2 e) (by omega) (by omega)⟩
end Go.Proofs.YtdmnaipngcldbaaDoor.rfP
