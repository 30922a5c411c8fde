/- FilterNames: the examples' values. -/
import Derived.Test.YtbfodmckgjeoaaaFiN
import Derived.Test.YtbfodmckgjeoaaaMk8
namespace Go.Proofs.Ytbfodmckgjeoaaa.fiL
set_option maxRecDepth 100000
open Go.RowKit Go.Proofs.Ytbfodmckgjeoaaa.base Go.Proofs.Ytbfodmckgjeoaaa.fiP Go.Proofs.Ytbfodmckgjeoaaa.fiW Go.Proofs.Ytbfodmckgjeoaaa.fiU
set_option linter.unusedVariables false
set_option maxRecDepth 100000
theorem nv_1 : oneO (3, 0) (List.replicate 257 3) = some [3, 3, 255] ∧ backO (3, 0) [3, 3, 255] = some (List.replicate 257 3) := by decide +kernel
theorem nv_2 : oneO (3, 0) (List.replicate 258 3) = some [3, 3, 255, 3] ∧ backO (3, 0) [3, 3, 255, 3] = some (List.replicate 258 3) := by decide +kernel
theorem nv_3 : oneO (3, 0) (List.replicate 259 3) = some [3, 3, 255, 3, 3, 0] ∧ backO (3, 0) [3, 3, 255, 3, 3, 0] = some (List.replicate 259 3) := by decide +kernel
theorem nv_4 : oneO (3, 0) (List.replicate 256 3) = some [3, 3, 254] ∧ backO (3, 0) [3, 3, 254] = some (List.replicate 256 3) := by decide +kernel
theorem nv_5 : oneO (3, 0) [] = some [] ∧ backO (3, 0) [] = some [] := by decide +kernel
theorem nv_6 : oneO (3, 0) [1, 1, 2, 2] = some [1, 1, 0, 2, 2, 0] ∧ backO (3, 0) [1, 1, 0, 2, 2, 0] = some [1, 1, 2, 2] := by decide +kernel
theorem nv_7 : backO (3, 0) [3, 3, 254, 3] = some (List.replicate 256 3 ++ [3]) ∨ backO (3, 0) [3, 3, 254, 3] = none := by decide +kernel
theorem nv_7' : backO (3, 0) [3, 3, 254, 3] = none := by decide +kernel
theorem nv_8 : backO (3, 0) [0, 0] = none := by decide +kernel
theorem nv_9 : backO (3, 0) [1, 2, 2] = none := by decide +kernel
theorem nv_a : backO (3, 0) [7, 7, 1, 7, 7, 0] = none := by decide +kernel
theorem nv_b : oneO (1, 8) [1, 0, 0, 0, 0, 0, 0, 0, 0, 255] = some [1, 0, 0, 0, 0, 0, 0, 0, 255, 255] ∧ backO (1, 8) [1, 0, 0, 0, 0, 0, 0, 0, 255, 255] = some [1, 0, 0, 0, 0, 0, 0, 0, 0, 255] := by decide +kernel
theorem nv_c : oneO (2, 0) [255, 0, 255, 255, 1] = some [255, 1, 1, 0, 2] ∧ backO (2, 0) [255, 1, 1, 0, 2] = some [255, 0, 255, 255, 1] := by decide +kernel
theorem nv_d : oneO (1, 2) [9] = some [9] ∧ backO (1, 2) [9] = some [9] := by decide +kernel
def badF : List (Int × Int) := [(0, 0), (1, 0), (1, 9), (1, -1), (2, 1), (3, 1), (4, 0), (255, 0)]
theorem nv_bad : badF.all (fun f => !okF f && decide (chE [(3, 0), f] = 8) && decide (chE [f] = 8)) = true := by decide +kernel
def runs4 : List (Int × Int) := [(3, 0), (3, 0), (3, 0), (3, 0)]
theorem byt_repl (n : Nat) {c : Int} (h0 : 0 ≤ c) (h1 : c ≤ 255) : Byt (List.replicate n c) := by
  intro z hz
  rw [(List.mem_replicate.1 hz).2]; exact ⟨h0, h1⟩
theorem nv_e : appO runs4 (List.replicate 2000 0) = some (appF runs4 (List.replicate 2000 0)) := if_pos ⟨by decide, by simp⟩
theorem nv_l : (appF runs4 (List.replicate 2000 0)).length ≤ 10125 := appF_short (by decide) (by simp)
theorem nv_f : undO runs4 (appF runs4 (List.replicate 2000 0)) = some (List.replicate 2000 0) := by
  unfold undO
  rw [if_pos ⟨by decide, nv_l⟩, und_app (by decide) (byt_repl 2000 (by decide) (by decide)) (by decide) (by simp)]
  simp
theorem nv_h (n : Nat) (h : 10125 < n) : oneO (3, 0) (List.replicate n 0) = none := if_neg fun hh => by have := hh.2; simp at this; omega
theorem nv_i (n : Nat) (h : 10125 < n) : backO (3, 0) (List.replicate n 0) = none ∧ backE (3, 0) (List.replicate n 0) = 4 := ⟨if_neg fun hh => by have := hh.2; simp at this; omega, by
  unfold backE; rw [if_pos (by decide), if_neg (by simp; omega)]⟩
theorem nv_j (n : Nat) (h : 2000 < n) : appO [] (List.replicate n 0) = none := if_neg fun hh => by have := hh.2; simp at this; omega
theorem nv_k (n : Nat) (h : 10125 < n) : undO [] (List.replicate n 0) = none ∧ undE [] (List.replicate n 0) = 4 := ⟨if_neg fun hh => by have := hh.2; simp at this; omega, by
  unfold undE; rw [if_pos (by decide), if_neg (by simp; omega)]⟩
theorem nv_m (n : Nat) (h : n ≤ 10125) (h2 : 2000 < n) : undO [] (List.replicate n 0) = none ∧ undE [] (List.replicate n 0) = 12 := ⟨by
  unfold undO; rw [if_pos ⟨by decide, by simp; exact h⟩]
  show (some (List.replicate n (0 : Int))).bind _ = none
  simp; exact h2, by
  unfold undE; rw [if_pos (by decide), if_pos (by simp; exact h)]⟩
def five : List (Int × Int) := [(0, 0), (0, 0), (0, 0), (0, 0), (0, 0)]
theorem nv_n : appO five [] = none ∧ appE five = 4 ∧ undO five [] = none ∧ undE five [] = 4 := by decide +kernel
/-- The cells of a list of filters. -/
def fcs : List (Int × Int) → List Value
  | [] => []
  | f :: r => .int .u8 f.1 :: .int .i64 f.2 :: fcs r
theorem fcs_at : ∀ (fs : List (Int × Int)) (i : Nat), i < fs.length → (fcs fs)[i * 2]? = some (.int .u8 (fs.getD i (0, 0)).1) ∧ (fcs fs)[i * 2 + 1]? = some (.int .i64 (fs.getD i (0, 0)).2)
  | [], i, h => by simp at h
  | f :: r, 0, _ => ⟨rfl, rfl⟩
  | f :: r, i + 1, h => by
    have := fcs_at r i (by simpa using h)
    rw [show (i + 1) * 2 = i * 2 + 2 by omega]
    simpa [fcs] using this
theorem inf_lit {w : World} {fs : List (Int × Int)} {cs : List Value} {g n : Nat} (hL : Lies w g 23 cs) (hc : fcs fs = cs) (hn : fs.length = n) (h9 : n ≤ 1000) (hb : ∀ f ∈ fs, (0 ≤ f.1 ∧ f.1 ≤ 255) ∧ (-9223372036854775808 ≤ f.2 ∧ f.2 ≤ 9223372036854775807)) : InF w (some ⟨g, 0, none⟩) n n fs := by
  subst hc
  refine ⟨.inr ⟨g, 0, rfl, hL.lt, fun i hi => ?_⟩, hn, Nat.le_refl _, by omega, hb⟩
  have := fcs_at fs i hi
  rw [Nat.zero_add, hL.cell, hL.cell]
  exact this
theorem mk5 (w : World) : (Instr.makeSlice 35 (.int .i64 5) (.int .i64 5)).run Try.prog w = .ok (.slice (some ⟨w.heap.size, 0, none⟩) 5 5) (w.alloc (.cells #[.int .u8 0, .int .i64 0, .int .u8 0, .int .i64 0, .int .u8 0, .int .i64 0, .int .u8 0, .int .i64 0, .int .u8 0, .int .i64 0] 23)) := by
  kernel_rfl
theorem inf_bd {fs : List (Int × Int)} (h : fs.all (fun f => decide (0 ≤ f.1) && decide (f.1 ≤ 255) && decide (-9223372036854775808 ≤ f.2) && decide (f.2 ≤ 9223372036854775807)) = true) : ∀ f ∈ fs, (0 ≤ f.1 ∧ f.1 ≤ 255) ∧ (-9223372036854775808 ≤ f.2 ∧ f.2 ≤ 9223372036854775807) := by
  intro f hf
  have := List.all_eq_true.1 h f hf
  simp at this
  omega
theorem ib_zero (w : World) (n : Nat) (hn : n ≤ 20000) : Ib (w.alloc (.cells (zC n) 5)) (some ⟨w.heap.size, 0, none⟩) n n (List.replicate n 0) :=
  ⟨has_zC w _ n (by unfold maxLen; omega) rfl, by simp, Nat.le_refl _, by omega, byt_repl n (by decide) (by decide)⟩
theorem ib_none (w : World) : Ib w none 0 0 [] := ⟨.inl rfl, rfl, Nat.le_refl _, by omega, by intro z hz; cases hz⟩
theorem inf_none (w : World) : InF w none 0 0 [] := ⟨.inl rfl, rfl, Nat.le_refl _, by omega, by simp⟩
/-- A wrong filter is one to all. -/
theorem bad_at {i : Nat} (h : i < 8) : ∃ a b, badF.getD i (0, 0) = (a, b) ∧ okF (a, b) = false ∧ chE [(3, 0), (a, b)] = 8 ∧ chE [(a, b)] = 8 ∧ (0 ≤ a ∧ a ≤ 255) ∧ (-9223372036854775808 ≤ b ∧ b ≤ 9223372036854775807) := by
  have := List.all_eq_true.1 nv_bad (badF.getD i (0, 0)) (by rw [List.getD_eq_getElem?_getD, List.getElem?_eq_getElem (by simpa [badF] using h)]; exact List.getElem_mem _)
  have hb := inf_bd (fs := badF) rfl (badF.getD i (0, 0)) (by rw [List.getD_eq_getElem?_getD, List.getElem?_eq_getElem (by simpa [badF] using h)]; exact List.getElem_mem _)
  generalize badF.getD i (0, 0) = f at *
  obtain ⟨a, b⟩ := f
  simp only [Bool.and_eq_true, decide_eq_true_eq, Bool.not_eq_true'] at this
  exact ⟨a, b, rfl, this.1.1, this.1.2, this.2, hb.1, hb.2⟩
/-- Forty great counts. -/
def wide : Nat → List Int
  | 0 => []
  | k + 1 => wide k ++ [(k : Int), (k : Int), 255]
theorem wide_len : ∀ k, (wide k).length = 3 * k
  | 0 => rfl
  | k + 1 => by rw [wide, List.length_append, wide_len k]; simp; omega
theorem nv_g : backO (3, 0) (wide 40) = none := by decide +kernel
theorem wide_byt : ∀ k, k ≤ 40 → Byt (wide k)
  | 0, _ => by intro z hz; cases hz
  | k + 1, h => by
    intro z hz
    rw [wide] at hz
    rcases List.mem_append.1 hz with hz | hz
    · exact wide_byt k (by omega) z hz
    · simp at hz; omega
end Go.Proofs.Ytbfodmckgjeoaaa.fiL
