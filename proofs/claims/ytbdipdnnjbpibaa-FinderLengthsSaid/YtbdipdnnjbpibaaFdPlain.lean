/- Plain arithmetic of finders. No program. -/
import Derived.Test.YtbdipdnnjbpibaaRgPlain
namespace Go.Proofs.Ytbdipdnnjbpibaa.fdP
open Go.RowKit Go.Proofs.Ytbdipdnnjbpibaa.rgP

/-- A finder: its level, the numbers at its places. -/
structure Fnd where
  l : Int
  s : List Int
def numB (x : Int) : Bool := decide (-1 ≤ x) && decide (x ≤ 1073741824)
def fdShape (f : Fnd) : Bool := lvB f.l && decide (f.s.length = szOf f.l)
def fdOk (f : Fnd) : Bool := fdShape f && f.s.all numB
def fdE (f : Fnd) : Int := if fdOk f then 0 else 8
def zeroF : Fnd := ⟨0, []⟩
def newF (l : Int) : Fnd := if lvB l then ⟨l, List.replicate (szOf l) (-1)⟩ else zeroF
def plc (f : Fnd) (h : Int) : Nat := (h % (f.s.length : Int)).toNat
def findV (f : Fnd) (h : Int) : Int := if fdOk f then f.s.getD (plc f h) 0 else 0
def placeFV (f : Fnd) (h : Int) : Int := if fdOk f then h % (f.s.length : Int) else 0
def fputE (f : Fnd) (n : Int) : Int := if fdOk f then (if 0 ≤ n ∧ n ≤ 1073741824 then 0 else 2) else 8
def fput (f : Fnd) (h n : Int) : Fnd := ⟨f.l, f.s.set (plc f h) n⟩
def fputV (f : Fnd) (h n : Int) : Fnd := if fputE f n = 0 then fput f h n else zeroF

theorem numB_iff (x : Int) : numB x = true ↔ -1 ≤ x ∧ x ≤ 1073741824 := by simp [numB]
theorem fdShape_iff (f : Fnd) : fdShape f = true ↔ lvB f.l = true ∧ f.s.length = szOf f.l := by simp [fdShape]
theorem fdOk_iff (f : Fnd) : fdOk f = true ↔ (lvB f.l = true ∧ f.s.length = szOf f.l) ∧ ∀ x ∈ f.s, -1 ≤ x ∧ x ≤ 1073741824 := by
  rw [fdOk, Bool.and_eq_true, fdShape_iff, List.all_eq_true]
  simp only [numB_iff]
theorem fdE_yes {f : Fnd} (h : fdOk f = true) : fdE f = 0 := by rw [fdE, if_pos h]
theorem fdE_no {f : Fnd} (h : fdOk f = false) : fdE f = 8 := by rw [fdE, if_neg (by rw [h]; decide)]
theorem fd_len {f : Fnd} (h : fdOk f = true) : 64 ≤ f.s.length ∧ f.s.length ≤ 8192 := by
  have h1 := (fdOk_iff f).1 h
  have := sz_bd h1.1.1
  omega
theorem plc_lt {f : Fnd} (h : fdOk f = true) (x : Int) : plc f x < f.s.length := by
  have h1 := fd_len h
  unfold plc
  have := Int.emod_lt_of_pos x (show (0 : Int) < f.s.length by omega)
  have := Int.emod_nonneg x (show (f.s.length : Int) ≠ 0 by omega)
  omega
theorem plc_int {f : Fnd} (h : fdOk f = true) (x : Int) : (plc f x : Int) = x % (f.s.length : Int) := by
  have h1 := fd_len h
  unfold plc
  have := Int.emod_nonneg x (show (f.s.length : Int) ≠ 0 by omega)
  omega
theorem fput_ok {f : Fnd} {h n : Int} (hf : fdOk f = true) (h1 : 0 ≤ n) (h2 : n ≤ 1073741824) : fdOk (fput f h n) = true := by
  rw [fdOk_iff] at *
  refine ⟨⟨hf.1.1, by show (f.s.set _ _).length = _; rw [List.length_set]; exact hf.1.2⟩, ?_⟩
  intro x hx
  rcases List.mem_or_eq_of_mem_set hx with h3 | h3
  · exact hf.2 x h3
  · rw [h3]; omega
theorem newF_ok {l : Int} (h : lvB l = true) : fdOk (newF l) = true := by
  rw [newF, if_pos h, fdOk_iff]
  refine ⟨⟨h, List.length_replicate⟩, fun x hx => ?_⟩
  have := List.eq_of_mem_replicate hx
  omega
/-- The numbers of places are powers of two. -/
theorem szOf_pow {l : Int} (h : lvB l = true) : ∃ k : Nat, k ≤ 20 ∧ ((szOf l : Nat) : Int) = 2 ^ k := by
  rcases lv_cases h with rfl | rfl | rfl | rfl | rfl | rfl | rfl | rfl
  · exact ⟨6, by decide, by decide +kernel⟩
  · exact ⟨7, by decide, by decide +kernel⟩
  · exact ⟨8, by decide, by decide +kernel⟩
  · exact ⟨9, by decide, by decide +kernel⟩
  · exact ⟨10, by decide, by decide +kernel⟩
  · exact ⟨11, by decide, by decide +kernel⟩
  · exact ⟨12, by decide, by decide +kernel⟩
  · exact ⟨13, by decide, by decide +kernel⟩
end Go.Proofs.Ytbdipdnnjbpibaa.fdP
