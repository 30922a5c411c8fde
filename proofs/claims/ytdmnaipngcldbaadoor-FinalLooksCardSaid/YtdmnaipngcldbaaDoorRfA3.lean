/- What fits, by a walk; and plain facts on new rows. -/
import Derived.Test.YtdmnaipngcldbaaDoorRfA2
namespace Go.Proofs.YtdmnaipngcldbaaDoor.rfP
set_option maxRecDepth 100000
open Go.Proofs.YtdmnaipngcldbaaDoor.base Go.Proofs.YtdmnaipngcldbaaDoor.sqP
def fitB (l : List (List Int)) (row : Int) : Bool := decide (l.length ≤ 20) && decide (askE l row = 0)
/-- Asked rightly, with few rows. -/
theorem fit_iff {l : List (List Int)} {row : Int} (h : fitB l row = true) : l.length ≤ 20 ∧ rfB l = true ∧ 0 ≤ row ∧ row < l.length ∧ askE l row = 0 := by
  unfold fitB at h
  rw [Bool.and_eq_true, decide_eq_true_eq, decide_eq_true_eq] at h
  obtain ⟨a, b, c⟩ := ask_zero h.2
  exact ⟨h.1, a, b, c, h.2⟩
theorem look_at {l : List (List Int)} {k t : Nat} (h : askE l (k : Int) = 0) (t1 : 1 ≤ t) (t2 : t ≤ 4095) :
    lookE l k ((t : Int) - 2048) = 0 ∧ lookV l k ((t : Int) - 2048) = seenP (l.getD k []) t ∧ lookJ l k ((t : Int) - 2048) = nearJ t := by
  have e : lookE l k ((t : Int) - 2048) = 0 := by unfold lookE; rw [if_pos h, if_neg (by omega)]
  refine ⟨e, ?_, ?_⟩
  · unfold lookV; rw [e, if_pos rfl, show ((t : Int) - 2048 + 2048).toNat = t by omega, Int.toNat_natCast]
  · unfold lookJ; rw [e, if_pos rfl, show ((t : Int) - 2048 + 2048).toNat = t by omega]
theorem seen_between {z : List Int} (h : rowB z = true) {t : Nat} (t2 : t ≤ 4095) : min (z.getD (t / 128) 0) (z.getD (t / 128 + 1) 0) / 16 ≤ seenP z t ∧ seenP z t ≤ max (z.getD (t / 128) 0) (z.getD (t / 128 + 1) 0) / 16 ∧ 0 ≤ seenP z t ∧ seenP z t ≤ 4095 := by
  have a := row_at h (t / 128) (by omega)
  have b := row_at h (t / 128 + 1) (by omega)
  have c := lk_between (a := z.getD (t / 128) 0) (b := z.getD (t / 128 + 1) 0) (w := ((t % 128 : Nat) : Int)) (by omega) (by omega)
  have d := lk_range a.1 a.2 b.1 b.2 (w := ((t % 128 : Nat) : Int)) (by omega) (by omega)
  exact ⟨c.1, c.2, d.1, d.2⟩
/-- In a new row what is seen never falls. -/
def upAt (t : Nat) : Bool := decide (seenP sqRow t ≤ seenP sqRow (t + 1))
theorem up_all : (List.range 4095).all upAt = true := by decide +kernel
theorem seen_up {a b : Nat} (h : a ≤ b) (hb : b ≤ 4095) : seenP sqRow a ≤ seenP sqRow b := by
  obtain ⟨n, rfl⟩ := Nat.le.dest h
  clear h
  induction n with
  | zero => exact Int.le_refl _
  | succ n ih =>
    have h1 := ih (by omega)
    have h2 : upAt (a + n) = true := List.all_eq_true.1 up_all (a + n) (List.mem_range.2 (by omega))
    unfold upAt at h2
    rw [decide_eq_true_eq] at h2
    exact Int.le_trans h1 h2
theorem seen_place {j : Nat} (h : j < 32) : seenP sqRow (128 * j) = sq (128 * (j : Int) - 2048) ∧ nearJ (128 * j) = j := by
  have e1 : 128 * j / 128 = j := by omega
  have e2 : 128 * j % 128 = 0 := by omega
  unfold seenP nearJ
  rw [e1, e2, sqRow_at j (by omega), if_neg (by omega)]
  refine ⟨?_, rfl⟩
  unfold lkP
  simp only [Int.natCast_zero, Int.sub_zero, Int.zero_mul, Int.add_zero] 
  omega
theorem new_one : newV 1 = [sqRow] := by decide +kernel
theorem new_ask : askE (newV 1) 0 = 0 := by decide +kernel
end Go.Proofs.YtdmnaipngcldbaaDoor.rfP
namespace Go.Proofs.YtdmnaipngcldbaaDoor.rfL
set_option maxRecDepth 100000
open Go.RowKit Go.Proofs.YtdmnaipngcldbaaDoor.base Go.Proofs.YtdmnaipngcldbaaDoor.rfP Go.Proofs.YtdmnaipngcldbaaDoor.rfW Go.Proofs.YtdmnaipngcldbaaDoor.sqP Go.Proofs.YtdmnaipngcldbaaDoor.sqW
set_option linter.unusedVariables false
set_option linter.unusedSimpArgs false
end Go.Proofs.YtdmnaipngcldbaaDoor.rfL
