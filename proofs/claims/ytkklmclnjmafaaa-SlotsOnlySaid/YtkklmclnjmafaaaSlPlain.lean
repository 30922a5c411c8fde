/- Tables of slots, by themselves: a table's bytes stand in one list, sixteen a slot. -/
import Derived.Test.YtkklmclnjmafaaaBase
namespace Go.Proofs.Ytkklmclnjmafaaa.slP
set_option maxRecDepth 100000
def szN (lv : Int) : Nat := 16 * 2 ^ lv.toNat
def lvB (lv : Int) : Bool := decide (0 ≤ lv) && decide (lv ≤ 7)
def stA (fl : List Int) (i k : Nat) : Int := fl.getD (16 * i + 1 + k) 0
def chA (fl : List Int) (i : Nat) : Int := fl.getD (16 * i) 0
def rowB (fl : List Int) (i : Nat) : Bool := (List.range 15).all fun k => decide (stA fl i k < 193)
def okB (lv : Int) (n : Nat) (fl : List Int) : Bool := lvB lv && decide (n = szN lv) && (List.range n).all (rowB fl)
def okE (lv : Int) (n : Nat) (fl : List Int) : Int := if okB lv n fl = true then 0 else 8
theorem lv_yes {lv : Int} (h0 : 0 ≤ lv) (h7 : lv ≤ 7) : lvB lv = true := by simp [lvB, h0, h7]
theorem lv_no {lv : Int} (h : ¬ (0 ≤ lv ∧ lv ≤ 7)) : lvB lv = false := by
  cases e : lvB lv
  · rfl
  · simp [lvB] at e; exact absurd e h
theorem sz_le {lv : Int} (h7 : lv ≤ 7) : 16 ≤ szN lv ∧ szN lv ≤ 2048 := by
  have h : lv.toNat ≤ 7 := by omega
  have h1 : 2 ^ lv.toNat ≤ 2 ^ 7 := Nat.pow_le_pow_right (by omega) h
  have h2 : 0 < 2 ^ lv.toNat := Nat.two_pow_pos _
  unfold szN; omega
theorem ok_iff (lv : Int) (n : Nat) (fl : List Int) : okB lv n fl = true ↔ (0 ≤ lv ∧ lv ≤ 7) ∧ n = szN lv ∧ ∀ i, i < n → ∀ k, k < 15 → stA fl i k < 193 := by
  simp [okB, lvB, rowB, and_assoc]
theorem okE_yes {lv : Int} {n : Nat} {fl : List Int} (h0 : 0 ≤ lv ∧ lv ≤ 7) (h1 : n = szN lv) (h2 : ∀ i, i < n → ∀ k, k < 15 → stA fl i k < 193) : okE lv n fl = 0 := by
  unfold okE; rw [if_pos ((ok_iff lv n fl).2 ⟨h0, h1, h2⟩)]
theorem okE_no {lv : Int} {n : Nat} {fl : List Int} (h : ¬ ((0 ≤ lv ∧ lv ≤ 7) ∧ n = szN lv ∧ ∀ i, i < n → ∀ k, k < 15 → stA fl i k < 193)) : okE lv n fl = 8 := by
  unfold okE; rw [if_neg (fun e => h ((ok_iff lv n fl).1 e))]
theorem okE_ok {lv : Int} {n : Nat} {fl : List Int} (h : okB lv n fl = true) : okE lv n fl = 0 := if_pos h
theorem okE_bad {lv : Int} {n : Nat} {fl : List Int} (h : ¬ okB lv n fl = true) : okE lv n fl = 8 := if_neg h
end Go.Proofs.Ytkklmclnjmafaaa.slP
