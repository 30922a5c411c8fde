/- Plain arithmetic of adaptive maps. No program. -/
import Derived.Test.YtipbafcjmeibpaaStPlain
import Derived.Test.YtipbafcjmeibpaaRecipPlain
namespace Go.Proofs.Ytipbafcjmeibpaa.adP
open Go.RowKit Go.Proofs.Ytipbafcjmeibpaa.cntP Go.Proofs.Ytipbafcjmeibpaa.stP

/-- An adaptive map: its limit, its probabilities, its numbers. -/
structure Ad where
  l : Int
  p : List Int
  n : List Int
def pOk (x : Int) : Bool := decide (0 ≤ x) && decide (x ≤ 65535)
def nOk (l x : Int) : Bool := decide (0 ≤ x) && decide (x ≤ l)
/-- The first k places of the rows are right. -/
def upTo (m : Ad) (k : Nat) : Bool := (List.range k).all fun i => pOk (m.p.getD i 0) && nOk m.l (m.n.getD i 0)
def adShape (m : Ad) : Bool := decide (1 ≤ m.l) && decide (m.l ≤ 1000) && decide (m.p.length = 193) && decide (m.n.length = 193)
def adOk (m : Ad) : Bool := adShape m && upTo m 193
def adE (m : Ad) : Int := if adOk m then 0 else 8
def atE (m : Ad) (s : Int) : Int := if adOk m then (if s < 193 then 0 else 2) else 8

theorem adShape_iff (m : Ad) : adShape m = true ↔ 1 ≤ m.l ∧ m.l ≤ 1000 ∧ m.p.length = 193 ∧ m.n.length = 193 := by
  simp [adShape, and_assoc]
theorem pOk_iff (x : Int) : pOk x = true ↔ 0 ≤ x ∧ x ≤ 65535 := by simp [pOk]
theorem nOk_iff (l x : Int) : nOk l x = true ↔ 0 ≤ x ∧ x ≤ l := by simp [nOk]
theorem upTo_next (m : Ad) (k : Nat) : upTo m (k + 1) = (upTo m k && (pOk (m.p.getD k 0) && nOk m.l (m.n.getD k 0))) := by
  simp [upTo, List.range_succ]
theorem upTo_iff (m : Ad) (k : Nat) : upTo m k = true ↔ ∀ i, i < k → (0 ≤ m.p.getD i 0 ∧ m.p.getD i 0 ≤ 65535) ∧ (0 ≤ m.n.getD i 0 ∧ m.n.getD i 0 ≤ m.l) := by
  simp only [upTo, List.all_eq_true, List.mem_range, Bool.and_eq_true, pOk_iff, nOk_iff]
theorem upTo_bad {m : Ad} {k : Nat} (hk : k < 193) (h : ¬ (pOk (m.p.getD k 0) = true ∧ nOk m.l (m.n.getD k 0) = true)) : adOk m = false := by
  rw [Bool.eq_false_iff]
  intro ha
  simp only [adOk, Bool.and_eq_true] at ha
  have := (upTo_iff m 193).1 ha.2 k hk
  exact h ⟨(pOk_iff _).2 this.1, (nOk_iff _ _).2 this.2⟩
theorem adOk_iff (m : Ad) : adOk m = true ↔ (1 ≤ m.l ∧ m.l ≤ 1000 ∧ m.p.length = 193 ∧ m.n.length = 193) ∧ ∀ i, i < 193 → (0 ≤ m.p.getD i 0 ∧ m.p.getD i 0 ≤ 65535) ∧ (0 ≤ m.n.getD i 0 ∧ m.n.getD i 0 ≤ m.l) := by
  rw [adOk, Bool.and_eq_true, adShape_iff, upTo_iff]
end Go.Proofs.Ytipbafcjmeibpaa.adP
