/- Filters: runs, plain facts. No program's numbers. -/
import Derived.Test.YtbfodmckgjeoaaaFiPlain
namespace Go.Proofs.Ytbfodmckgjeoaaa.fiP
set_option maxRecDepth 100000
set_option linter.unusedVariables false
set_option linter.unusedSimpArgs false
/-- How long a run from i on is that has n bytes already, with so many more at most. -/
def rlN (b : List Int) (i : Nat) : Nat → Nat → Nat
  | 0, n => n
  | f + 1, n => if i + n < b.length ∧ b.getD (i + n) 0 = b.getD i 0 then rlN b i f (n + 1) else n
def rl (b : List Int) (i : Nat) : Nat := rlN b i 256 1
theorem rlN_yes {b : List Int} {i n : Nat} (hn : n < 257) (h1 : i + n < b.length) (h2 : b.getD (i + n) 0 = b.getD i 0) : rlN b i (257 - n) n = rlN b i (257 - (n + 1)) (n + 1) := by
  obtain ⟨f, hf⟩ : ∃ f, 257 - n = f + 1 := ⟨256 - n, by omega⟩
  rw [hf, show 257 - (n + 1) = f by omega]
  rw [rlN, if_pos ⟨h1, h2⟩]
theorem rlN_no {b : List Int} {i n : Nat} (h : ¬ (n < 257 ∧ i + n < b.length ∧ b.getD (i + n) 0 = b.getD i 0)) : rlN b i (257 - n) n = n := by
  rcases Nat.lt_or_ge n 257 with hn | hn
  · obtain ⟨f, hf⟩ : ∃ f, 257 - n = f + 1 := ⟨256 - n, by omega⟩
    rw [hf, rlN, if_neg fun hh => h ⟨hn, hh⟩]
  · rw [show 257 - n = 0 by omega, rlN]
theorem rlN_bd (b : List Int) (i : Nat) : ∀ f n, i + n ≤ b.length → n ≤ rlN b i f n ∧ rlN b i f n ≤ n + f ∧ i + rlN b i f n ≤ b.length
  | 0, n, h => ⟨Nat.le_refl _, Nat.le_refl _, h⟩
  | f + 1, n, h => by
    rw [rlN]
    split
    · rename_i hh
      have := rlN_bd b i f (n + 1) (by omega)
      omega
    · exact ⟨Nat.le_refl _, by omega, h⟩
theorem rl_bd {b : List Int} {i : Nat} (h : i < b.length) : 1 ≤ rl b i ∧ rl b i ≤ 257 ∧ i + rl b i ≤ b.length := by
  have := rlN_bd b i 256 1 (by omega)
  unfold rl; omega
/-- What stands for the run from i on. -/
def tok (b : List Int) (i : Nat) : List Int := if rl b i = 1 then [b.getD i 0] else [b.getD i 0, b.getD i 0, (rl b i : Int) - 2]
/-- The bytes from i on, with their runs counted. -/
def cnt (b : List Int) : Nat → Nat → List Int
  | 0, _ => []
  | f + 1, i => if i < b.length then tok b i ++ cnt b f (i + rl b i) else []
theorem cnt_fuel (b : List Int) : ∀ f g i, b.length - i ≤ f → b.length - i ≤ g → cnt b f i = cnt b g i
  | 0, 0, _, _, _ => rfl
  | 0, g + 1, i, h1, h2 => by rw [cnt, cnt, if_neg (by omega)]
  | f + 1, 0, i, h1, h2 => by rw [cnt, cnt, if_neg (by omega)]
  | f + 1, g + 1, i, h1, h2 => by
    rw [cnt, cnt]
    by_cases c : i < b.length
    · have := rl_bd c
      rw [if_pos c, if_pos c, cnt_fuel b f g _ (by omega) (by omega)]
    · rw [if_neg c, if_neg c]
def cn (b : List Int) (i : Nat) : List Int := cnt b (b.length - i) i
theorem cn_step {b : List Int} {i : Nat} (h : i < b.length) : cn b i = tok b i ++ cn b (i + rl b i) := by
  have := rl_bd h
  obtain ⟨f, hf⟩ : ∃ f, b.length - i = f + 1 := ⟨b.length - i - 1, by omega⟩
  rw [cn, hf, cnt, if_pos h, cn]
  rw [cnt_fuel b f (b.length - (i + rl b i)) _ (by omega) (by omega)]
theorem cn_end {b : List Int} {i : Nat} (h : b.length ≤ i) : cn b i = [] := by
  rw [cn, show b.length - i = 0 by omega, cnt]
theorem tok_len {b : List Int} {i : Nat} (h : i < b.length) : 1 ≤ (tok b i).length ∧ 2 * (tok b i).length ≤ 3 * rl b i := by
  have := rl_bd h
  unfold tok
  split
  · rename_i e; rw [e]; simp
  · simp; omega
theorem cn_len (b : List Int) : ∀ d i, b.length - i = d → 2 * (cn b i).length ≤ 3 * (b.length - i) := by
  intro d
  induction d using Nat.strongRecOn with
  | _ d ih =>
    intro i hd
    rcases Nat.lt_or_ge i b.length with h | h
    · have h1 := rl_bd h
      have h2 := tok_len h
      rw [cn_step h, List.length_append]
      have := ih (b.length - (i + rl b i)) (by omega) (i + rl b i) rfl
      omega
    · rw [cn_end h]; simp
theorem tok_bd {b : List Int} (hb : ∀ z ∈ b, 0 ≤ z ∧ z ≤ 255) {i : Nat} (h : i < b.length) : ∀ z ∈ tok b i, 0 ≤ z ∧ z ≤ 255 := by
  have h1 := rl_bd h
  have h2 := at_bd hb i
  intro z hz
  unfold tok at hz
  split at hz
  · rw [List.mem_singleton.1 hz]; exact h2
  · simp at hz; rcases hz with rfl | rfl
    · exact h2
    · omega
theorem cn_bd {b : List Int} (hb : ∀ z ∈ b, 0 ≤ z ∧ z ≤ 255) : ∀ d i, b.length - i = d → ∀ z ∈ cn b i, 0 ≤ z ∧ z ≤ 255 := by
  intro d
  induction d using Nat.strongRecOn with
  | _ d ih =>
    intro i hd z hz
    rcases Nat.lt_or_ge i b.length with h | h
    · have h1 := rl_bd h
      rw [cn_step h] at hz
      rcases List.mem_append.1 hz with hz | hz
      · exact tok_bd hb h z hz
      · exact ih (b.length - (i + rl b i)) (by omega) (i + rl b i) rfl z hz
    · rw [cn_end h] at hz; simp at hz
end Go.Proofs.Ytbfodmckgjeoaaa.fiP
