/- Plain arithmetic of states of counts. No program. -/
import Derived.Test.YtkklmclnjmafaaaCntPlain
namespace Go.Proofs.Ytkklmclnjmafaaa.stP
set_option maxRecDepth 100000
open Go.RowKit Go.Proofs.Ytkklmclnjmafaaa.cntP

def stOk (s : Int) : Bool := decide (0 ≤ s) && decide (s < 193)
/-- The state of a count. -/
def sOf (c : Cnt) : Int := if c.a = 0 ∧ c.b = 0 then 0 else if c.l = 0 then (c.a - 1) * 8 + c.b + 1 else (11 + c.b) * 8 + c.a + 1
/-- The count of a state. -/
def sBack (s : Int) : Cnt := if s = 0 then ⟨0, 0, 0⟩ else if (s - 1) / 8 < 12 then ⟨(s - 1) / 8 + 1, (s - 1) % 8, 0⟩ else ⟨(s - 1) % 8, (s - 1) / 8 - 11, 1⟩
def sNext (s bit : Int) : Int := sOf (nx (sBack s) bit)

theorem stOk_iff (s : Int) : stOk s = true ↔ 0 ≤ s ∧ s < 193 := by simp [stOk]
theorem stOk_no (s : Int) : stOk s = false ↔ s < 0 ∨ 193 ≤ s := by simp [stOk]; omega
theorem sBack_ok {s : Int} (h1 : 0 ≤ s) (h2 : s < 193) : ok (sBack s) = true := by
  rw [ok_iff]; unfold sBack
  split
  · exact .inl ⟨rfl, rfl, rfl⟩
  · split
    · right; left; exact ⟨rfl, by show 1 ≤ (s - 1) / 8 + 1; omega, by show (s - 1) / 8 + 1 ≤ 12; omega, by show 0 ≤ (s - 1) % 8; omega, by show (s - 1) % 8 ≤ 7; omega⟩
    · right; right; exact ⟨rfl, by show 1 ≤ (s - 1) / 8 - 11; omega, by show (s - 1) / 8 - 11 ≤ 12; omega, by show 0 ≤ (s - 1) % 8; omega, by show (s - 1) % 8 ≤ 7; omega⟩
theorem sOf_bd {c : Cnt} (h : ok c = true) : 0 ≤ sOf c ∧ sOf c < 193 := by
  rw [ok_iff] at h; unfold sOf
  split
  · omega
  · split <;> omega
theorem sOf_sBack {s : Int} (h1 : 0 ≤ s) (h2 : s < 193) : sOf (sBack s) = s := by
  unfold sBack
  split
  · rename_i h; rw [h]; rfl
  · split
    · show (if (s - 1) / 8 + 1 = 0 ∧ (s - 1) % 8 = 0 then (0 : Int) else if (0 : Int) = 0 then ((s - 1) / 8 + 1 - 1) * 8 + (s - 1) % 8 + 1 else (11 + (s - 1) % 8) * 8 + ((s - 1) / 8 + 1) + 1) = s
      rw [if_neg (by omega), if_pos rfl]; omega
    · show (if (s - 1) % 8 = 0 ∧ (s - 1) / 8 - 11 = 0 then (0 : Int) else if (1 : Int) = 0 then ((s - 1) % 8 - 1) * 8 + ((s - 1) / 8 - 11) + 1 else (11 + ((s - 1) / 8 - 11)) * 8 + (s - 1) % 8 + 1) = s
      rw [if_neg (by omega), if_neg (by omega)]; omega
theorem sBack_sOf {c : Cnt} (h : ok c = true) : sBack (sOf c) = c := by
  obtain ⟨a, b, l⟩ := c
  rw [ok_iff] at h
  simp only at h
  unfold sOf
  simp only
  split
  · obtain ⟨rfl, rfl, rfl⟩ : a = 0 ∧ b = 0 ∧ l = 0 := by omega
    rfl
  · split
    · rename_i h1 h2
      subst h2
      unfold sBack
      rw [if_neg (by omega), if_pos (by omega)]
      congr 1 <;> omega
    · obtain rfl : l = 1 := by omega
      unfold sBack
      rw [if_neg (by omega), if_neg (by omega)]
      congr 1 <;> omega
theorem sOf_inj {c d : Cnt} (h : ok c = true) (k : ok d = true) (e : sOf c = sOf d) : c = d := by
  rw [← sBack_sOf h, ← sBack_sOf k, e]
theorem sNext_bd {s bit : Int} (h1 : 0 ≤ s) (h2 : s < 193) (hb : bit = 0 ∨ bit = 1) : 0 ≤ sNext s bit ∧ sNext s bit < 193 := sOf_bd (nx_ok (sBack_ok h1 h2) hb)
/-- The state after some bits. -/
def sRun (s : Int) (l : List Int) : Int := l.foldl sNext s
theorem sRun_snoc (s : Int) (l : List Int) (z : Int) : sRun s (l ++ [z]) = sNext (sRun s l) z := by simp [sRun]
theorem sRun_of : ∀ (l : List Int) (c : Cnt), ok c = true → (∀ z ∈ l, z = 0 ∨ z = 1) → sRun (sOf c) l = sOf (run c l)
  | [], _, _, _ => rfl
  | z :: l, c, h, hz => by
    have hz0 := hz z (by simp)
    have ih := sRun_of l (nx c z) (nx_ok h hz0) (fun y hy => hz y (by simp [hy]))
    show sRun (sNext (sOf c) z) l = sOf (run (nx c z) l)
    rw [← ih]; unfold sNext; rw [sBack_sOf h]
def cntC (s : Int) : Cnt := if s < 193 then sBack s else ⟨0, 0, 0⟩
def cntE (s : Int) : Int := if s < 193 then 0 else 2
def numV (c : Cnt) : Int := if ok c then sOf c else 0
def stE (s bit : Int) : Int := if s < 193 then (if bit ≤ 1 then 0 else 2) else 2
def stN (s bit : Int) : Int := if s < 193 then (if bit ≤ 1 then sNext s bit else 0) else 0
def stT (s : Int) : Int := if s < 193 then (sBack s).a + (sBack s).b else 0
def stRE (s : Int) (l : List Int) : Int := if s < 193 then (if 20000 < l.length then 4 else if bitsB l then 0 else 2) else 2
def stR (s : Int) (l : List Int) : Int := if s < 193 then (if 20000 < l.length then 0 else if bitsB l then sRun s l else 0) else 0
theorem sBack_low {s : Int} (h1 : 1 ≤ s) (h2 : s ≤ 96) : sBack s = ⟨(s - 1) / 8 + 1, (s - 1) % 8, 0⟩ := by
  unfold sBack; rw [if_neg (by omega), if_pos (by omega)]
theorem sBack_high {s : Int} (h1 : 97 ≤ s) : sBack s = ⟨(s - 1) % 8, (s - 1) / 8 - 11, 1⟩ := by
  unfold sBack; rw [if_neg (by omega), if_neg (by omega)]
end Go.Proofs.Ytkklmclnjmafaaa.stP
