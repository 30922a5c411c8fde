/- Sizes and pieces, by plain facts. -/
import Derived.Test.YthckpenindchlaaMbW4
import Derived.Test.YthckpenindchlaaRowE
import Derived.Test.YthckpenindchlaaMemI
import Derived.BigQuiet
namespace Go.Proofs.Ythckpenindchlaa.spW
set_option maxRecDepth 100000
open Go.RowKit Go.Proofs.Ythckpenindchlaa.base Go.Proofs.Ythckpenindchlaa.mbW
set_option linter.unusedVariables false
set_option linter.unusedSimpArgs false
set_option maxRecDepth 100000
/-! Sizes. -/
open Classical in
noncomputable def szE (zs : List Int) : Int := if ∃ z ∈ zs, z < 0 then 8 else if 16 < zs.length then 4 else if 8192 < zs.sum then 4 else 0
theorem sz_neg {zs : List Int} {k : Nat} (hk : k < zs.length) (h : zs.getD k 0 < 0) : szE zs = 8 := by
  unfold szE
  rw [if_pos ⟨zs.getD k 0, by rw [List.getD_eq_getElem?_getD, List.getElem?_eq_getElem hk]; exact List.getElem_mem _, h⟩]
theorem sz_all {zs : List Int} (h : ∀ k, k < zs.length → 0 ≤ zs.getD k 0) : ¬ ∃ z ∈ zs, z < 0 := fun ⟨z, hz, h2⟩ => by
  obtain ⟨i, hi, rfl⟩ := List.mem_iff_getElem.1 hz
  have := h i hi
  rw [List.getD_eq_getElem?_getD, List.getElem?_eq_getElem hi] at this
  simp at this
  omega
theorem sz_many {zs : List Int} (h : ∀ k, k < zs.length → 0 ≤ zs.getD k 0) (h2 : 16 < zs.length) : szE zs = 4 := by unfold szE; rw [if_neg (sz_all h), if_pos h2]
theorem sz_sum {zs : List Int} (h : ∀ k, k < zs.length → 0 ≤ zs.getD k 0) (h3 : 8192 < zs.sum) : szE zs = 4 := by
  unfold szE
  rw [if_neg (sz_all h)]
  by_cases h2 : 16 < zs.length
  · rw [if_pos h2]
  · rw [if_neg h2, if_pos h3]
theorem sz_ok {zs : List Int} (h : ∀ k, k < zs.length → 0 ≤ zs.getD k 0) (h2 : ¬ 16 < zs.length) (h3 : ¬ 8192 < zs.sum) : szE zs = 0 := by unfold szE; rw [if_neg (sz_all h), if_neg h2, if_neg h3]
theorem sz_cases (zs : List Int) : szE zs = 0 ∨ szE zs = 4 ∨ szE zs = 8 := by unfold szE; split <;> (try split) <;> (try split) <;> simp
theorem sz_zero {zs : List Int} (h : szE zs = 0) : (∀ k, k < zs.length → 0 ≤ zs.getD k 0) ∧ zs.length ≤ 16 ∧ zs.sum ≤ 8192 := by
  unfold szE at h
  split at h
  · omega
  · rename_i h1
    split at h
    · omega
    · split at h
      · omega
      · refine ⟨fun k hk => ?_, by omega, by omega⟩
        rcases Int.lt_or_le (zs.getD k 0) 0 with hn | hn
        · exact absurd ⟨zs.getD k 0, by rw [List.getD_eq_getElem?_getD, List.getElem?_eq_getElem hk]; exact List.getElem_mem _, hn⟩ h1
        · exact hn
theorem sum_snoc (zs : List Int) {k : Nat} (h : k < zs.length) : (zs.take (k + 1)).sum = (zs.take k).sum + zs.getD k 0 := by
  rw [List.take_add_one, List.getElem?_eq_getElem h, List.getD_eq_getElem?_getD, List.getElem?_eq_getElem h, List.sum_append]
  simp only [Option.toList_some, Option.getD_some, List.sum_cons, List.sum_nil]
  omega
theorem sum_nn : ∀ {zs : List Int}, (∀ k, k < zs.length → 0 ≤ zs.getD k 0) → 0 ≤ zs.sum
  | [], _ => by simp
  | z :: l, h => by
    have h1 : 0 ≤ z := h 0 (by simp)
    have h2 := sum_nn (zs := l) (fun k hk => h (k + 1) (by simpa using hk))
    rw [List.sum_cons]; omega
theorem sum_take {zs : List Int} (h : ∀ k, k < zs.length → 0 ≤ zs.getD k 0) (k : Nat) : 0 ≤ (zs.take k).sum ∧ (zs.take k).sum ≤ zs.sum := by
  have e : zs.sum = (zs.take k).sum + (zs.drop k).sum := by rw [← List.sum_append, List.take_append_drop]
  have h1 : 0 ≤ (zs.take k).sum := sum_nn (fun i hi => by
    rw [List.length_take] at hi
    rw [List.getD_eq_getElem?_getD, List.getElem?_take, if_pos (by omega)]
    have := h i (by omega)
    rwa [List.getD_eq_getElem?_getD] at this)
  have h2 : 0 ≤ (zs.drop k).sum := sum_nn (fun i hi => by
    rw [List.length_drop] at hi
    rw [List.getD_eq_getElem?_getD, List.getElem?_drop]
    have := h (k + i) (by omega)
    rwa [List.getD_eq_getElem?_getD] at this)
  omega
theorem sz_one {zs : List Int} (h : szE zs = 0) {k : Nat} (hk : k < zs.length) : 0 ≤ zs.getD k 0 ∧ zs.getD k 0 ≤ 8192 := by
  have h1 := sz_zero h
  have h2 := sum_take h1.1 k
  have h3 := sum_take h1.1 (k + 1)
  have h4 := sum_snoc zs hk
  have := h1.1 k hk
  omega
/-! Pieces. -/
structure Pc where
  m : Int
  o : Int
  r : Int
def pc0 : Pc := ⟨0, 0, 0⟩
def cnt (z b : Int) : Nat := ((z + b - 1) / b).toNat
theorem lt_cnt {z b : Int} (hb : 0 < b) (t : Nat) : (t : Int) * b < z ↔ t < cnt z b := by
  unfold cnt
  have h := Int.le_ediv_iff_mul_le (a := (t : Int) + 1) (b := z + b - 1) (c := b) hb
  rw [Int.add_mul, Int.one_mul] at h
  constructor
  · intro h1
    have := h.2 (by omega)
    omega
  · intro h1
    have := h.1 (by omega)
    omega
theorem cnt_zero {z b : Int} (hb : 0 < b) (hz : z ≤ 0) : cnt z b = 0 := by
  have := (lt_cnt (z := z) hb 0)
  simp at this
  omega
theorem cnt_le {z b : Int} (hb : 16 ≤ b) (hz : 0 ≤ z) : 16 * (cnt z b : Int) ≤ z + 15 := by
  rcases Nat.eq_zero_or_pos (cnt z b) with h | h
  · rw [h]; omega
  · have h1 := (lt_cnt (z := z) (b := b) (by omega) (cnt z b - 1)).2 (by omega)
    have h2 : ((cnt z b - 1 : Nat) : Int) * 16 ≤ ((cnt z b - 1 : Nat) : Int) * b := Int.mul_le_mul_of_nonneg_left hb (by omega)
    omega
def pc1 (i : Nat) (z b : Int) (t : Nat) : Pc := ⟨i, t * b, min b (z - t * b)⟩
def pcs1 (i : Nat) (z b : Int) (n : Nat) : List Pc := (List.range n).map (pc1 i z b)
theorem pcs1_len (i : Nat) (z b : Int) (n : Nat) : (pcs1 i z b n).length = n := by simp [pcs1]
theorem pcs1_snoc (i : Nat) (z b : Int) (n : Nat) : pcs1 i z b (n + 1) = pcs1 i z b n ++ [pc1 i z b n] := by simp [pcs1, List.range_succ]
def pcsT (zs : List Int) (b : Int) : Nat → List Pc
  | 0 => []
  | k + 1 => pcsT zs b k ++ pcs1 k (zs.getD k 0) b (cnt (zs.getD k 0) b)
def blB (b : Int) : Bool := decide (16 ≤ b) && decide (b ≤ 4096)
theorem blB_iff (b : Int) : blB b = true ↔ 16 ≤ b ∧ b ≤ 4096 := by simp [blB]
noncomputable def pieE (zs : List Int) (b : Int) : Int := if szE zs = 0 then (if blB b then 0 else 2) else szE zs
noncomputable def pieV (zs : List Int) (b : Int) : List Pc := if pieE zs b = 0 then pcsT zs b zs.length else []
theorem pie_sz {zs : List Int} (b : Int) (h : szE zs ≠ 0) : pieE zs b = szE zs ∧ pieV zs b = [] := by
  have e : pieE zs b = szE zs := by unfold pieE; rw [if_neg h]
  exact ⟨e, by unfold pieV; rw [if_neg (by rw [e]; exact h)]⟩
theorem pie_bl {zs : List Int} {b : Int} (h : szE zs = 0) (h2 : blB b = false) : pieE zs b = 2 ∧ pieV zs b = [] := by
  have e : pieE zs b = 2 := by unfold pieE; rw [if_pos h, if_neg (by rw [h2]; decide)]
  exact ⟨e, by unfold pieV; rw [if_neg (by rw [e]; decide)]⟩
theorem pie_ok {zs : List Int} {b : Int} (h : szE zs = 0) (h2 : blB b = true) : pieE zs b = 0 ∧ pieV zs b = pcsT zs b zs.length := by
  have e : pieE zs b = 0 := by unfold pieE; rw [if_pos h, if_pos h2]
  exact ⟨e, by unfold pieV; rw [if_pos e]⟩
theorem pcsT_len {zs : List Int} {b : Int} (h : ∀ k, k < zs.length → 0 ≤ zs.getD k 0) (hb : 16 ≤ b) : ∀ k, k ≤ zs.length → 16 * ((pcsT zs b k).length : Int) ≤ (zs.take k).sum + 15 * k
  | 0, _ => by simp [pcsT]
  | k + 1, hk => by
    have ih := pcsT_len h hb k (by omega)
    have h1 := cnt_le hb (h k (by omega))
    rw [pcsT, List.length_append, pcs1_len, sum_snoc zs (by omega)]
    omega
theorem pcs_small {zs : List Int} {b : Int} (h : szE zs = 0) (hb : 16 ≤ b) {k : Nat} (hk : k ≤ zs.length) : (pcsT zs b k).length ≤ 527 := by
  have h1 := sz_zero h
  have h2 := pcsT_len h1.1 hb k hk
  have h3 := sum_take h1.1 k
  omega
/-! In memory. -/
def pcE (p : Pc) : List Value := [.int .i64 p.m, .int .i64 p.o, .int .i64 p.r]
def PE : Enc Pc where
  enc := pcE
  n := 3
  T := 46
  d := pc0
  len := fun x => rfl
  one := fun x v hv => by
    simp only [pcE, List.mem_cons, List.not_mem_nil, or_false] at hv
    rcases hv with rfl | rfl | rfl <;> rfl
  pos := by decide
theorem infoP : ∃ i z, Try.prog.info? 46 = some i ∧ i.zero = some z ∧ i.size = 3 ∧ i.bytes = 24 ∧ z.cells.size = 3 ∧ z.cells = (pcE pc0).toArray := by
  obtain ⟨i, h1, h2, h3, h4⟩ := info_parts (P := Try.prog) (e := 46) (z := .agg (pcE pc0).toArray) (size := 3) (bytes := 24) (by kernel_rfl)
  exact ⟨i, _, h1, h2, h3, h4, rfl, rfl⟩
theorem info3 : (Try.prog.info? 46).map (·.size) = some PE.n := by kernel_rfl
theorem IP : Enc.Info PE Try.prog 27 24 := ⟨Try.underlying27, by
  obtain ⟨i, z, h1, h2, h3, h4, h5, _⟩ := infoP
  exact ⟨i, z, h1, h2, h3, h4, h5⟩⟩
end Go.Proofs.Ythckpenindchlaa.spW
