/- Mixing, by walks. -/
import Derived.Test.YtjikddndlnimoaaMxW2
import Derived.Test.YtjikddndlnimoaaFixW
import Derived.Test.YtjikddndlnimoaaSqW2
namespace Go.Proofs.Ytjikddndlnimoaa.mxP
set_option maxRecDepth 100000
open Go.Proofs.Ytjikddndlnimoaa.base Go.Proofs.Ytjikddndlnimoaa.rfP Go.Proofs.Ytjikddndlnimoaa.sqP Go.Proofs.Ytjikddndlnimoaa.fixP
/-- The sum of the first products. -/
def sumK (ws ins : List Int) (k : Nat) : Int := ((prods ws ins).take k).sum
theorem sumK_0 (ws ins : List Int) : sumK ws ins 0 = 0 := rfl
theorem sumK_8 {ws ins : List Int} (h : ws.length = 8) (h' : ins.length = 8) : sumK ws ins 8 = (prods ws ins).sum := by
  unfold sumK
  rw [List.take_of_length_le (by rw [prods_length (by omega)]; omega)]
theorem sumK_succ {ws ins : List Int} (h : ws.length = 8) (h' : ins.length = 8) (k : Nat) (hk : k < 8) : sumK ws ins (k + 1) = sumK ws ins k + ws.getD k 0 * ins.getD k 0 := by
  unfold sumK
  rw [take_snoc 0 _ k (by rw [prods_length (by omega)]; omega), List.sum_append, prods_getD (by omega) k (by omega)]
  simp
theorem mul_in {x y : Int} (h1 : -2147483648 ≤ x) (h2 : x ≤ 2147483647) (h3 : -2047 ≤ y) (h4 : y ≤ 2047) : -4398046511104 ≤ x * y ∧ x * y ≤ 4398046511104 := by
  have f : ∀ a b : Int, 0 ≤ a → a ≤ 2147483648 → 0 ≤ b → b ≤ 2047 → 0 ≤ a * b ∧ a * b ≤ 4398046511104 := by
    intro a b a1 a2 b1 b2
    have := Int.mul_le_mul a2 b2 b1 (by omega)
    exact ⟨Int.mul_nonneg a1 b1, by omega⟩
  by_cases cx : 0 ≤ x <;> by_cases cy : 0 ≤ y
  · have := f x y cx (by omega) cy (by omega); omega
  · have := f x (-y) cx (by omega) (by omega) (by omega); rw [Int.mul_neg] at this; omega
  · have := f (-x) y (by omega) (by omega) cy (by omega); rw [Int.neg_mul] at this; omega
  · have := f (-x) (-y) (by omega) (by omega) (by omega) (by omega); rw [Int.neg_mul_neg] at this; omega
theorem sumK_bd {ws ins : List Int} (h : ws.length = 8) (hw : ∀ z ∈ ws, -2147483648 ≤ z ∧ z ≤ 2147483647) (hi : inB ins = true) : ∀ k : Nat, k ≤ 8 → -4398046511104 * (k : Int) ≤ sumK ws ins k ∧ sumK ws ins k ≤ 4398046511104 * (k : Int)
  | 0, _ => by rw [sumK_0]; simp
  | k + 1, hk => by
    have a := sumK_bd h hw hi k (by omega)
    rw [sumK_succ h ((inB_iff _).1 hi).1 k (by omega)]
    have b : -2147483648 ≤ ws.getD k 0 ∧ ws.getD k 0 ≤ 2147483647 := by
      rw [List.getD_eq_getElem?_getD, List.getElem?_eq_getElem (by omega)]
      exact hw _ (List.getElem_mem _)
    have c := inB_at hi k (by omega)
    have d := mul_in b.1 b.2 c.1 c.2
    omega
theorem sat_is (n : Int) : max (-2147483648) (min 2147483647 n) = sat n := by unfold sat; split <;> (try split) <;> omega
/-- Rounded down, out of a division that rounds towards nothing. -/
theorem floor_is (s : Int) : (if Int.tmod s 65536 < 0 then Int.tdiv s 65536 - 1 else Int.tdiv s 65536) = s / 65536 := by
  have h := Int.tdiv_eq_ediv (a := s) (b := 65536)
  have hs : Int.sign 65536 = 1 := rfl
  rw [hs] at h
  have hm := Int.mul_tdiv_add_tmod s 65536
  split <;> (split at h <;> omega)
end Go.Proofs.Ytjikddndlnimoaa.mxP
namespace Go.Proofs.Ytjikddndlnimoaa.mxW
set_option maxRecDepth 100000
open Go.RowKit Go.Proofs.Ytjikddndlnimoaa.base Go.Proofs.Ytjikddndlnimoaa.rfP Go.Proofs.Ytjikddndlnimoaa.mxP Go.Proofs.Ytjikddndlnimoaa.sqP Go.Proofs.Ytjikddndlnimoaa.sqW Go.Proofs.Ytjikddndlnimoaa.fixP Go.Proofs.Ytjikddndlnimoaa.fixW
set_option linter.unusedVariables false
set_option linter.unusedSimpArgs false
end Go.Proofs.Ytjikddndlnimoaa.mxW
