/- Plain arithmetic of bounded counts of bits. No program. -/
import Derived.WalkKit
namespace Go.Proofs.Ytkklmclnjmafaaa.cntP
set_option maxRecDepth 100000
open Go.RowKit

/-- A count: zeros, ones, the last bit. -/
structure Cnt where
  a : Int
  b : Int
  l : Int
def zero : Cnt := ⟨0, 0, 0⟩
def isZero (c : Cnt) : Bool := decide (c.a = 0) && decide (c.b = 0) && decide (c.l = 0)
def okOne (m o : Int) : Bool := decide (1 ≤ m) && decide (m ≤ 12) && decide (0 ≤ o) && decide (o ≤ 7)
def ok (c : Cnt) : Bool := isZero c || (decide (c.l = 0) && okOne c.a c.b) || (decide (c.l = 1) && okOne c.b c.a)
def chk (c : Cnt) : Int := if ok c then 0 else 8
def more (n : Int) : Int := if n + 1 ≤ 12 then n + 1 else 12
def shr (n : Int) : Int := if n ≤ 2 then n else n / 2 + 1
def nx (c : Cnt) (bit : Int) : Cnt := if bit = 0 then ⟨more c.a, shr c.b, 0⟩ else ⟨shr c.a, more c.b, 1⟩
def turn (c : Cnt) : Cnt := if isZero c then c else ⟨c.b, c.a, 1 - c.l⟩

theorem ok_iff (c : Cnt) : ok c = true ↔ (c.a = 0 ∧ c.b = 0 ∧ c.l = 0) ∨ (c.l = 0 ∧ 1 ≤ c.a ∧ c.a ≤ 12 ∧ 0 ≤ c.b ∧ c.b ≤ 7) ∨ (c.l = 1 ∧ 1 ≤ c.b ∧ c.b ≤ 12 ∧ 0 ≤ c.a ∧ c.a ≤ 7) := by
  unfold ok isZero okOne
  simp only [Bool.or_eq_true, Bool.and_eq_true, decide_eq_true_eq]
  omega
theorem nx_ok {c : Cnt} {bit : Int} (h : ok c = true) (h1 : bit = 0 ∨ bit = 1) : ok (nx c bit) = true := by
  rw [ok_iff] at h ⊢
  have m : ∀ n, more n = n + 1 ∧ n + 1 ≤ 12 ∨ more n = 12 ∧ 12 < n + 1 := fun n => by unfold more; split <;> omega
  have r : ∀ n, shr n = n ∧ n ≤ 2 ∨ shr n = n / 2 + 1 ∧ 2 < n := fun n => by unfold shr; split <;> omega
  rcases h1 with rfl | rfl
  · have := m c.a
    have := r c.b
    show (more c.a = 0 ∧ shr c.b = 0 ∧ (0 : Int) = 0) ∨ ((0 : Int) = 0 ∧ 1 ≤ more c.a ∧ more c.a ≤ 12 ∧ 0 ≤ shr c.b ∧ shr c.b ≤ 7) ∨ ((0 : Int) = 1 ∧ 1 ≤ shr c.b ∧ shr c.b ≤ 12 ∧ 0 ≤ more c.a ∧ more c.a ≤ 7)
    omega
  · have := m c.b
    have := r c.a
    show (shr c.a = 0 ∧ more c.b = 0 ∧ (1 : Int) = 0) ∨ ((1 : Int) = 0 ∧ 1 ≤ shr c.a ∧ shr c.a ≤ 12 ∧ 0 ≤ more c.b ∧ more c.b ≤ 7) ∨ ((1 : Int) = 1 ∧ 1 ≤ more c.b ∧ more c.b ≤ 12 ∧ 0 ≤ shr c.a ∧ shr c.a ≤ 7)
    omega
theorem turn_ok {c : Cnt} (h : ok c = true) : ok (turn c) = true := by
  rw [ok_iff] at h
  unfold turn
  split
  · rw [ok_iff]; exact h
  · rename_i hz
    rw [ok_iff]
    simp [isZero] at hz
    simp only
    omega
/-- The count after some bits. -/
def run (c : Cnt) (l : List Int) : Cnt := l.foldl nx c
theorem run_snoc (c : Cnt) (l : List Int) (z : Int) : run c (l ++ [z]) = nx (run c l) z := by simp [run]
theorem run_ok : ∀ (l : List Int) {c : Cnt}, ok c = true → (∀ z ∈ l, z = 0 ∨ z = 1) → ok (run c l) = true
  | [], _, h, _ => h
  | z :: l, c, h, hz => run_ok l (nx_ok h (hz z (by simp))) fun y hy => hz y (by simp [hy])
/-- What Next, Total, Turn and Run return: the value, and the error. -/
def nxE (c : Cnt) (bit : Int) : Int := if ok c then (if bit ≤ 1 then 0 else 2) else 8
def nxC (c : Cnt) (bit : Int) : Cnt := if ok c then (if bit ≤ 1 then nx c bit else ⟨0, 0, 0⟩) else ⟨0, 0, 0⟩
def totV (c : Cnt) : Int := if ok c then c.a + c.b else 0
def trC (c : Cnt) : Cnt := if ok c then turn c else ⟨0, 0, 0⟩
def bitsB (l : List Int) : Bool := l.all fun z => decide (z ≤ 1)
def runE (c : Cnt) (l : List Int) : Int := if ok c then (if 20000 < l.length then 4 else if bitsB l then 0 else 2) else 8
def runC (c : Cnt) (l : List Int) : Cnt := if ok c then (if 20000 < l.length then ⟨0, 0, 0⟩ else if bitsB l then run c l else ⟨0, 0, 0⟩) else ⟨0, 0, 0⟩
theorem chk_yes {c : Cnt} (h : ok c = true) : chk c = 0 := by rw [chk, if_pos h]
theorem chk_no {c : Cnt} (h : ok c = false) : chk c = 8 := by rw [chk, if_neg (by simp [h])]
theorem ok_bd {c : Cnt} (h : ok c = true) : 0 ≤ c.a ∧ c.a ≤ 12 ∧ 0 ≤ c.b ∧ c.b ≤ 12 ∧ 0 ≤ c.l ∧ c.l ≤ 1 := by
  rw [ok_iff] at h; omega
theorem bitsB_snoc (l : List Int) (z : Int) : bitsB (l ++ [z]) = (bitsB l && decide (z ≤ 1)) := by simp [bitsB]
theorem bitsB_iff (l : List Int) : bitsB l = true ↔ ∀ z ∈ l, z ≤ 1 := by simp [bitsB]
end Go.Proofs.Ytkklmclnjmafaaa.cntP
