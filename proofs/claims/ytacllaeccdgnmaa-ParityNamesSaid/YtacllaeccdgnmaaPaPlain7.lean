/- Parity by plain lists: which are gone; a group with its lost string replaced. -/
import Derived.Test.YtacllaeccdgnmaaPaPlain6
namespace Go.Proofs.Ytacllaeccdgnmaa.paP
set_option maxRecDepth 100000
open Go.RowKit
set_option linter.unusedVariables false
def goneP (lost : List Bool) (a k : Nat) : List Int := ((List.range' a k).filter (fun i => lost.getD i false)).map (fun i : Nat => (i : Int))
theorem goneP_step (lost : List Bool) (a k : Nat) : goneP lost a (k + 1) = if lost.getD (a + k) false = true then goneP lost a k ++ [((a + k : Nat) : Int)] else goneP lost a k := by
  unfold goneP
  rw [List.range'_1_concat, List.filter_append, List.map_append]
  cases h : lost.getD (a + k) false
  · rw [List.filter_cons_of_neg (by simpa using h)]; simp
  · rw [List.filter_cons_of_pos (by simpa using h)]; simp
theorem goneP_mem {lost : List Bool} {a k : Nat} {z : Int} (h : z ∈ goneP lost a k) : ∃ i, z = ((i : Nat) : Int) ∧ a ≤ i ∧ i < a + k ∧ lost.getD i false = true := by
  unfold goneP at h
  obtain ⟨i, hi, rfl⟩ := List.mem_map.1 h
  obtain ⟨h1, h2⟩ := List.mem_filter.1 hi
  obtain ⟨h3, h4⟩ := List.mem_range'_1.1 h1
  exact ⟨i, rfl, h3, h4, h2⟩
theorem goneP_has {lost : List Bool} {a k i : Nat} (h1 : a ≤ i) (h2 : i < a + k) (h : lost.getD i false = true) : (i : Int) ∈ goneP lost a k :=
  List.mem_map.2 ⟨i, List.mem_filter.2 ⟨List.mem_range'_1.2 ⟨h1, h2⟩, h⟩, rfl⟩
theorem goneP_nodup (lost : List Bool) (a k : Nat) : (goneP lost a k).Nodup := by
  unfold goneP
  have h1 : ((List.range' a k).filter (fun i => lost.getD i false)).Nodup := (List.nodup_range' (s := a) (n := k)).filter _
  exact List.pairwise_map.2 (h1.imp fun hxy e => hxy (by omega))
theorem goneP_two {lost : List Bool} {a k : Nat} (h : 1 < (goneP lost a k).length) : ∃ i j, a ≤ i ∧ i < a + k ∧ a ≤ j ∧ j < a + k ∧ i ≠ j ∧ lost.getD i false = true ∧ lost.getD j false = true := by
  have hn := goneP_nodup lost a k
  have hm := fun z => goneP_mem (lost := lost) (a := a) (k := k) (z := z)
  match hg : goneP lost a k, h with
  | x :: y :: r, _ =>
    rw [hg] at hn hm
    obtain ⟨i, rfl, i1, i2, i3⟩ := hm x (by simp)
    obtain ⟨j, rfl, j1, j2, j3⟩ := hm y (by simp)
    refine ⟨i, j, i1, i2, j1, j2, ?_, i3, j3⟩
    rintro rfl
    simp at hn
theorem goneP_len {lost : List Bool} {a k : Nat} : (goneP lost a k).length ≤ k := by
  unfold goneP
  rw [List.length_map]
  refine Nat.le_trans (List.length_filter_le _ _) ?_
  simp
/-- What is repaired does not depend on what stands in its place. -/
theorem oth_set (l : List (List Int)) (k : Nat) (t : List Int) : oth (l.set k t) (k : Int) = oth l (k : Int) := by
  unfold oth
  rw [if_pos (by omega), if_pos (by omega), Int.toNat_natCast, List.eraseIdx_set_eq]
theorem rep_set (l : List (List Int)) (k : Nat) (t p : List Int) : repE (l.set k t) (k : Int) p = repE l (k : Int) p ∧ repV (l.set k t) (k : Int) p = repV l (k : Int) p := by
  have hm : madeP (l.set k t) (k : Int) p = madeP l (k : Int) p := by unfold madeP; rw [oth_set]
  have he : repE (l.set k t) (k : Int) p = repE l (k : Int) p := by unfold repE; rw [oth_set, hm, List.length_set]
  refine ⟨he, ?_⟩
  unfold repV
  rw [he, hm]
theorem chunk_get {α : Type} (l : List α) (g j x : Nat) : (chunk l g j)[x]? = if x < g then l[j * g + x]? else none := by
  unfold chunk
  rw [List.getElem?_take]
  split
  · rw [List.getElem?_drop]
  · rfl
theorem chunk_set {X l : List (List Int)} {g q i0 : Nat} {t : List Int} (hg : 0 < g) (hl : X.length = l.length) (hi : i0 < l.length) (hq : i0 / g = q) (ht : X.getD i0 [] = t)
    (h : ∀ i, i < l.length → i / g = q → i ≠ i0 → X.getD i [] = l.getD i []) : chunk X g q = (chunk l g q).set (i0 - q * g) t := by
  have hI := (in_group hg).1 hq
  apply List.ext_getElem?
  intro x
  rw [List.getElem?_set, chunk_get, chunk_get, chunk_len]
  by_cases hx : x < g
  · rw [if_pos hx, if_pos hx]
    by_cases e : i0 - q * g = x
    · have e2 : q * g + x = i0 := by omega
      rw [if_pos e, if_pos (by omega), e2]
      rw [List.getD_eq_getElem?_getD] at ht
      rw [List.getElem?_eq_getElem (by omega)] at ht ⊢
      rw [← ht]; rfl
    · rw [if_neg e]
      rcases Nat.lt_or_ge (q * g + x) l.length with a | a
      · have := h (q * g + x) a ((in_group hg).2 (by omega)) (by omega)
        rw [List.getD_eq_getElem?_getD, List.getD_eq_getElem?_getD, List.getElem?_eq_getElem (by omega), List.getElem?_eq_getElem a] at this
        rw [List.getElem?_eq_getElem (by omega), List.getElem?_eq_getElem a]
        exact congrArg _ this
      · rw [List.getElem?_eq_none (by omega), List.getElem?_eq_none a]
  · rw [if_neg hx, if_neg hx, if_neg (by omega)]
theorem gi_lost {l : List (List Int)} {lost : List Bool} {g : Nat} {p : List (List Int)} {i q : Nat} (hq : i / g = q) (h : lost.getD i false = true) : gi l lost g p i = repE (chunk l g q) ((i : Int) - ((q * g : Nat) : Int)) (p.getD q []) := by
  unfold gi; rw [if_pos h, hq]
theorem gi_kept {l : List (List Int)} {lost : List Bool} {g : Nat} {p : List (List Int)} {i : Nat} (h : lost.getD i false = false) : gi l lost g p i = 0 := by
  unfold gi; rw [if_neg (by rw [h]; simp)]
theorem rvi_lost {l : List (List Int)} {lost : List Bool} {g : Nat} {p : List (List Int)} {i q : Nat} (hq : i / g = q) (h : lost.getD i false = true) : rvi l lost g p i = repV (chunk l g q) ((i : Int) - ((q * g : Nat) : Int)) (p.getD q []) := by
  unfold rvi; rw [if_pos h, hq]
theorem rvi_kept {l : List (List Int)} {lost : List Bool} {g : Nat} {p : List (List Int)} {i : Nat} (h : lost.getD i false = false) : rvi l lost g p i = l.getD i [] := by
  unfold rvi; rw [if_neg (by rw [h]; simp)]
theorem repV_byt {l : List (List Int)} {k : Int} {p : List Int} (hp : Byt p) (hb : ∀ s ∈ l, Byt s) : Byt (repV l k p) := by
  unfold repV
  split
  · rename_i h
    unfold repE at h
    split at h
    · omega
    split at h
    · omega
    split at h
    · omega
    rename_i h1 h2 h3
    have hm : Byt (madeP l k p) := mixL_byt (by omega) hp fun s hs => ⟨hb s (othR_mem hs), by have := wd_le hs; omega⟩
    exact fun z hz => hm z (List.mem_of_mem_drop (List.mem_of_mem_take hz))
  · intro z hz; simp at hz
end Go.Proofs.Ytacllaeccdgnmaa.paP
