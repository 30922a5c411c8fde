/- What is missing, by plain facts. -/
import Derived.Test.YthckpenindchlaaSpW3
import Derived.Test.YthckpenindchlaaBool
import Derived.Test.YthckpenindchlaaOrd
import Derived.Deep.DeepCutAuto
namespace Go.Proofs.Ythckpenindchlaa.spW
set_option maxRecDepth 100000
open Go.RowKit Go.Proofs.Ythckpenindchlaa.base Go.Proofs.Ythckpenindchlaa.mbW
set_option linter.unusedVariables false
set_option linter.unusedSimpArgs false
set_option maxRecDepth 100000
def setR (c : List Bool) (o k : Nat) : List Bool := (List.range c.length).map fun j => c.getD j false || (decide (o ≤ j) && decide (j < o + k))
theorem setR_len (c : List Bool) (o k : Nat) : (setR c o k).length = c.length := by simp [setR]
theorem setR_get (c : List Bool) (o k : Nat) {j : Nat} (h : j < c.length) : (setR c o k).getD j false = (c.getD j false || (decide (o ≤ j) && decide (j < o + k))) := by
  rw [List.getD_eq_getElem?_getD, setR, List.getElem?_map, List.getElem?_range h]; rfl
theorem ext_getD {a b : List Bool} (hl : a.length = b.length) (h : ∀ j, j < a.length → a.getD j false = b.getD j false) : a = b := by
  apply List.ext_getElem hl
  intro j h1 h2
  have := h j h1
  rwa [List.getD_eq_getElem?_getD, List.getD_eq_getElem?_getD, List.getElem?_eq_getElem h1, List.getElem?_eq_getElem h2] at this
theorem setR_zero (c : List Bool) (o : Nat) : setR c o 0 = c := by
  refine ext_getD (setR_len _ _ _) (fun j hj => ?_)
  rw [setR_len] at hj
  rw [setR_get _ _ _ hj]
  have : ¬ (o ≤ j ∧ j < o + 0) := by omega
  by_cases h1 : o ≤ j
  · rw [decide_eq_false (by omega : ¬ j < o + 0)]; simp
  · rw [decide_eq_false h1]; simp
theorem getD_set (c : List Bool) (i : Nat) (x : Bool) {j : Nat} (h : j < c.length) : (c.set i x).getD j false = if i = j then x else c.getD j false := by
  rw [List.getD_eq_getElem?_getD, List.getElem?_set]
  split
  · rename_i e; subst e; rw [if_pos h]; rfl
  · rw [List.getD_eq_getElem?_getD]
theorem setR_step (c : List Bool) (o k : Nat) (h : o + k < c.length) : (setR c o k).set (o + k) true = setR c o (k + 1) := by
  refine ext_getD (by rw [List.length_set, setR_len, setR_len]) (fun j hj => ?_)
  rw [List.length_set, setR_len] at hj
  rw [getD_set _ _ _ (by rw [setR_len]; exact hj), setR_get _ _ _ hj, setR_get _ _ _ hj]
  split
  · rename_i e; subst e
    rw [decide_eq_true (by omega : o ≤ o + k), decide_eq_true (by omega : o + k < o + (k + 1))]; simp
  · rename_i e
    by_cases h1 : j < o + k
    · rw [decide_eq_true h1, decide_eq_true (by omega : j < o + (k + 1))]
    · rw [decide_eq_false h1, decide_eq_false (by omega : ¬ j < o + (k + 1))]
def cvT (l : List Pc) (i : Int) (z : Nat) : Nat → List Bool
  | 0 => List.replicate z false
  | t + 1 => if (l.getD t pc0).m = i then setR (cvT l i z t) (l.getD t pc0).o.toNat (l.getD t pc0).r.toNat else cvT l i z t
theorem cvT_len (l : List Pc) (i : Int) (z : Nat) : ∀ t, (cvT l i z t).length = z
  | 0 => by simp [cvT]
  | t + 1 => by
    rw [cvT]
    split
    · rw [setR_len, cvT_len l i z t]
    · exact cvT_len l i z t
/-- A position is covered exactly if a piece covers it. -/
theorem cvT_iff (l : List Pc) (i : Int) (z : Nat) {j : Nat} (hj : j < z) : ∀ t, t ≤ l.length → ((cvT l i z t).getD j false = true ↔ ∃ u, u < t ∧ (l.getD u pc0).m = i ∧ (l.getD u pc0).o.toNat ≤ j ∧ j < (l.getD u pc0).o.toNat + (l.getD u pc0).r.toNat)
  | 0, _ => by
    rw [cvT, List.getD_eq_getElem?_getD, List.getElem?_replicate, if_pos hj]
    simp
  | t + 1, ht => by
    have ih := cvT_iff l i z hj t (by omega)
    rw [cvT]
    split
    · rename_i hm
      rw [setR_get _ _ _ (by rw [cvT_len]; exact hj), Bool.or_eq_true, Bool.and_eq_true, decide_eq_true_iff, decide_eq_true_iff, ih]
      constructor
      · rintro (⟨u, h1, h2⟩ | ⟨h1, h2⟩)
        · exact ⟨u, by omega, h2⟩
        · exact ⟨t, by omega, hm, h1, h2⟩
      · rintro ⟨u, h1, h2, h3, h4⟩
        rcases Nat.lt_or_ge u t with h | h
        · exact .inl ⟨u, h, h2, h3, h4⟩
        · obtain rfl : u = t := by omega
          exact .inr ⟨h3, h4⟩
    · rename_i hm
      rw [ih]
      constructor
      · rintro ⟨u, h1, h2⟩
        exact ⟨u, by omega, h2⟩
      · rintro ⟨u, h1, h2⟩
        rcases Nat.lt_or_ge u t with h | h
        · exact ⟨u, h, h2⟩
        · obtain rfl : u = t := by omega
          exact absurd h2.1 hm
def bmp (l : List Pc) : List Pc := l.set (l.length - 1) ⟨(l.getD (l.length - 1) pc0).m, (l.getD (l.length - 1) pc0).o, (l.getD (l.length - 1) pc0).r + 1⟩
theorem bmp_len (l : List Pc) : (bmp l).length = l.length := by simp [bmp]
def gp (i : Int) (c : List Bool) : Nat → List Pc
  | 0 => []
  | k + 1 => if c.getD k false = true then gp i c k else if 0 < k ∧ c.getD (k - 1) false = false then bmp (gp i c k) else gp i c k ++ [⟨i, k, 1⟩]
theorem gp_cov {i : Int} {c : List Bool} {k : Nat} (h : c.getD k false = true) : gp i c (k + 1) = gp i c k := by rw [gp, if_pos h]
theorem gp_bmp {i : Int} {c : List Bool} {k : Nat} (h : c.getD k false = false) (h1 : 0 < k) (h2 : c.getD (k - 1) false = false) : gp i c (k + 1) = bmp (gp i c k) := by rw [gp, if_neg (by rw [h]; decide), if_pos ⟨h1, h2⟩]
theorem gp_new {i : Int} {c : List Bool} {k : Nat} (h : c.getD k false = false) (h1 : ¬ (0 < k ∧ c.getD (k - 1) false = false)) : gp i c (k + 1) = gp i c k ++ [⟨i, k, 1⟩] := by rw [gp, if_neg (by rw [h]; decide), if_neg h1]
theorem gp_len (i : Int) (c : List Bool) : ∀ k, (gp i c k).length ≤ k
  | 0 => by simp [gp]
  | k + 1 => by
    have := gp_len i c k
    rw [gp]
    split
    · omega
    · split
      · rw [bmp_len]; omega
      · rw [List.length_append]; simp; omega
theorem gp_pos (i : Int) (c : List Bool) : ∀ k, 0 < k → c.getD (k - 1) false = false → 0 < (gp i c k).length
  | 0, h, _ => by omega
  | k + 1, _, h => by
    rw [Nat.add_sub_cancel] at h
    rw [gp, if_neg (by rw [h]; decide)]
    split
    · rename_i h1
      rw [bmp_len]
      exact gp_pos i c k h1.1 h1.2
    · rw [List.length_append]; simp
theorem gp_r (i : Int) (c : List Bool) : ∀ k, ∀ p ∈ gp i c k, 1 ≤ p.r ∧ p.r ≤ k
  | 0, p, h => by simp [gp] at h
  | k + 1, p, h => by
    rw [gp] at h
    split at h
    · have := gp_r i c k p h; omega
    · split at h
      · rename_i h1
        have hp := gp_pos i c k h1.1 h1.2
        unfold bmp at h
        rcases List.mem_or_eq_of_mem_set h with h | h
        · have := gp_r i c k p h; omega
        · subst h
          have := gp_r i c k ((gp i c k).getD ((gp i c k).length - 1) pc0) (by
            rw [List.getD_eq_getElem?_getD, List.getElem?_eq_getElem (by omega)]
            exact List.getElem_mem _)
          show 1 ≤ _ + 1 ∧ _ + 1 ≤ _
          omega
      · rw [List.mem_append, List.mem_singleton] at h
        rcases h with h | rfl
        · have := gp_r i c k p h; omega
        · show (1 : Int) ≤ 1 ∧ (1 : Int) ≤ _
          omega
def msT (zs : List Int) (l : List Pc) : Nat → List Pc
  | 0 => []
  | i + 1 => msT zs l i ++ gp i (cvT l i (zs.getD i 0).toNat l.length) (zs.getD i 0).toNat
theorem msT_len {zs : List Int} (h : ∀ k, k < zs.length → 0 ≤ zs.getD k 0) (l : List Pc) : ∀ k, k ≤ zs.length → ((msT zs l k).length : Int) ≤ (zs.take k).sum
  | 0, _ => by simp [msT]
  | k + 1, hk => by
    have ih := msT_len h l k (by omega)
    have h1 := gp_len k (cvT l k (zs.getD k 0).toNat l.length) (zs.getD k 0).toNat
    have h2 := h k (by omega)
    rw [msT, List.length_append, sum_snoc zs (by omega)]
    omega
theorem ms_small {zs : List Int} (h : szE zs = 0) (l : List Pc) {k : Nat} (hk : k ≤ zs.length) : (msT zs l k).length ≤ 8192 := by
  have h1 := sz_zero h
  have h2 := msT_len h1.1 l k hk
  have h3 := sum_take h1.1 k
  omega
theorem bmp_app (a : List Pc) {b : List Pc} (h : 0 < b.length) : bmp (a ++ b) = a ++ bmp b := by
  unfold bmp
  have e : (a ++ b).length - 1 = a.length + (b.length - 1) := by rw [List.length_append]; omega
  rw [e, List.set_append_right _ _ (by omega), show a.length + (b.length - 1) - a.length = b.length - 1 by omega, List.getD_eq_getElem?_getD, List.getElem?_append_right (by omega), show a.length + (b.length - 1) - a.length = b.length - 1 by omega, ← List.getD_eq_getElem?_getD]
/-! Valid pieces. -/
def wiP (zs : List Int) (p : Pc) : Prop := 0 ≤ p.m ∧ p.m < zs.length ∧ 0 ≤ p.o ∧ 1 ≤ p.r ∧ p.r ≤ zs.getD p.m.toNat 0 ∧ p.o ≤ zs.getD p.m.toNat 0 - p.r
instance (zs : List Int) (p : Pc) : Decidable (wiP zs p) := by unfold wiP; infer_instance
open Classical in
noncomputable def cpE (zs : List Int) (l : List Pc) : Int := if 600 < l.length then 4 else if ∀ k, k < l.length → wiP zs (l.getD k pc0) then 0 else 8
theorem cp_many {zs : List Int} {l : List Pc} (h : 600 < l.length) : cpE zs l = 4 := by unfold cpE; rw [if_pos h]
theorem cp_bad {zs : List Int} {l : List Pc} (h : ¬ 600 < l.length) {k : Nat} (hk : k < l.length) (hb : ¬ wiP zs (l.getD k pc0)) : cpE zs l = 8 := by unfold cpE; rw [if_neg h, if_neg (fun e => hb (e k hk))]
theorem cp_ok {zs : List Int} {l : List Pc} (h : ¬ 600 < l.length) (hb : ∀ k, k < l.length → wiP zs (l.getD k pc0)) : cpE zs l = 0 := by unfold cpE; rw [if_neg h, if_pos hb]
theorem cp_zero {zs : List Int} {l : List Pc} (h : cpE zs l = 0) : l.length ≤ 600 ∧ ∀ k, k < l.length → wiP zs (l.getD k pc0) := by
  unfold cpE at h
  split at h
  · omega
  · split at h
    · rename_i h2; exact ⟨by omega, h2⟩
    · omega
theorem cp_cases (zs : List Int) (l : List Pc) : cpE zs l = 0 ∨ cpE zs l = 4 ∨ cpE zs l = 8 := by unfold cpE; split <;> (try split) <;> simp
noncomputable def msE (zs : List Int) (l : List Pc) : Int := if szE zs = 0 then cpE zs l else szE zs
noncomputable def msV (zs : List Int) (l : List Pc) : List Pc := if msE zs l = 0 then msT zs l zs.length else []
theorem ms_sz {zs : List Int} (l : List Pc) (h : szE zs ≠ 0) : msE zs l = szE zs ∧ msV zs l = [] := by
  have e : msE zs l = szE zs := by unfold msE; rw [if_neg h]
  exact ⟨e, by unfold msV; rw [if_neg (by rw [e]; exact h)]⟩
theorem ms_cp {zs : List Int} {l : List Pc} (h : szE zs = 0) (h2 : cpE zs l ≠ 0) : msE zs l = cpE zs l ∧ msV zs l = [] := by
  have e : msE zs l = cpE zs l := by unfold msE; rw [if_pos h]
  exact ⟨e, by unfold msV; rw [if_neg (by rw [e]; exact h2)]⟩
theorem ms_ok {zs : List Int} {l : List Pc} (h : szE zs = 0) (h2 : cpE zs l = 0) : msE zs l = 0 ∧ msV zs l = msT zs l zs.length := by
  have e : msE zs l = 0 := by unfold msE; rw [if_pos h, h2]
  exact ⟨e, by unfold msV; rw [if_pos e]⟩
end Go.Proofs.Ythckpenindchlaa.spW
