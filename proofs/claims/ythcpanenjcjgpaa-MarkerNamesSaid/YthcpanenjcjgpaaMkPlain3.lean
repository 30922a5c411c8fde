/- Markers: the pieces. No program's numbers. -/
import Derived.Test.YthcpanenjcjgpaaMkPlain2
namespace Go.Proofs.Ythcpanenjcjgpaa.mkP
set_option linter.unusedVariables false
set_option linter.unusedSimpArgs false
/-- Where pieces end. -/
def ends (b : List Int) : List Int := pl b ++ [(b.length : Int)]
def toK (b : List Int) (k : Nat) : Nat := ((ends b).getD k 0).toNat
def frK (b : List Int) (k : Nat) : Nat := if k = 0 then 0 else toK b (k - 1)
def cK (b : List Int) (k : Nat) : List (List Int) := (List.range k).map fun j => seg b (frK b j) (toK b j)
def cuts (b : List Int) : List (List Int) := cK b (ends b).length
theorem cK_snoc (b : List Int) (k : Nat) : cK b (k + 1) = cK b k ++ [seg b (frK b k) (toK b k)] := by simp [cK, List.range_succ]
theorem cK_len (b : List Int) (k : Nat) : (cK b k).length = k := by simp [cK]
theorem ends_len (b : List Int) : (ends b).length = (pl b).length + 1 := by simp [ends]
theorem ends_pos (b : List Int) : 0 < (ends b).length := by rw [ends_len]; omega
theorem ends_at {b : List Int} {k : Nat} (h : k < (ends b).length) : ∃ i : Nat, (ends b).getD k 0 = i ∧ i ≤ b.length ∧ (k < (pl b).length → occ b i = true) ∧ (k = (pl b).length → i = b.length) := by
  rw [ends_len] at h
  rw [ends, getD_app]
  by_cases c : k < (pl b).length
  · rw [if_pos c]
    obtain ⟨i, e, h1, h2⟩ := plK_mem (b := b) (k := b.length) (z := (pl b).getD k 0) (by
      rw [List.getD_eq_getElem?_getD, List.getElem?_eq_getElem c]; exact List.getElem_mem c)
    exact ⟨i, e, by omega, fun _ => h2, fun hh => by omega⟩
  · rw [if_neg c, show k - (pl b).length = 0 by omega]
    exact ⟨b.length, rfl, Nat.le_refl _, fun hh => by omega, fun _ => rfl⟩
theorem toK_cast {b : List Int} {k : Nat} (h : k < (ends b).length) : (ends b).getD k 0 = (toK b k : Int) := by
  obtain ⟨i, e, _⟩ := ends_at h
  rw [toK, e, Int.toNat_natCast]
theorem toK_le {b : List Int} {k : Nat} (h : k < (ends b).length) : toK b k ≤ b.length := by
  obtain ⟨i, e, h1, _⟩ := ends_at h
  rw [toK, e, Int.toNat_natCast]; exact h1
theorem toK_occ {b : List Int} {k : Nat} (h : k < (pl b).length) : occ b (toK b k) = true := by
  obtain ⟨i, e, _, h2, _⟩ := ends_at (b := b) (k := k) (by rw [ends_len]; omega)
  rw [toK, e, Int.toNat_natCast]; exact h2 h
theorem toK_last (b : List Int) : toK b (pl b).length = b.length := by
  obtain ⟨i, e, _, _, h2⟩ := ends_at (b := b) (k := (pl b).length) (by rw [ends_len]; omega)
  rw [toK, e, Int.toNat_natCast]; exact h2 rfl
theorem pl_up (b : List Int) : ∀ k j, j < k → k < (pl b).length → (pl b).getD j 0 < (pl b).getD k 0 := by
  have hp : (pl b).Pairwise (· < ·) := by
    rw [pl, plK, List.pairwise_map]
    exact ((List.pairwise_lt_range (n := b.length)).filter _).imp fun h => by omega
  intro k j h1 h2
  have := List.pairwise_iff_getElem.1 hp j k (by omega) h2 h1
  rw [List.getD_eq_getElem?_getD, List.getD_eq_getElem?_getD, List.getElem?_eq_getElem (by omega), List.getElem?_eq_getElem h2]
  exact this
theorem toK_up {b : List Int} {j k : Nat} (h1 : j < k) (h2 : k < (ends b).length) : toK b j < toK b k := by
  rw [ends_len] at h2
  by_cases c : k < (pl b).length
  · have := pl_up b k j h1 c
    have e1 : toK b j = ((pl b).getD j 0).toNat := by rw [toK, ends, getD_app, if_pos (by omega)]
    have e2 : toK b k = ((pl b).getD k 0).toNat := by rw [toK, ends, getD_app, if_pos c]
    have e3 := toK_cast (b := b) (k := j) (by rw [ends_len]; omega)
    rw [ends, getD_app, if_pos (by omega)] at e3
    omega
  · rw [show k = (pl b).length by omega, toK_last]
    have := occ_room (toK_occ (b := b) (k := j) (by omega))
    omega
theorem frK_le {b : List Int} {k : Nat} (h : k < (ends b).length) : frK b k ≤ toK b k := by
  unfold frK
  split
  · omega
  · exact Nat.le_of_lt (toK_up (by omega) h)
/-- No marker stands in between. -/
theorem between {b : List Int} {k : Nat} (h : k < (ends b).length) {i : Nat} (h1 : k = 0 ∨ toK b (k - 1) < i) (h2 : i < toK b k) : occ b i = false := by
  cases ho : occ b i with
  | false => rfl
  | true =>
    have hr := occ_room ho
    have hm : (i : Int) ∈ pl b := List.mem_map.2 ⟨i, List.mem_filter.2 ⟨List.mem_range.2 (by omega), ho⟩, rfl⟩
    obtain ⟨m, hm1, hm2⟩ := List.getElem_of_mem hm
    have e : toK b m = i := by
      rw [toK, ends, getD_app, if_pos hm1, List.getD_eq_getElem?_getD, List.getElem?_eq_getElem hm1]
      simp [hm2]
    have hml : m < (ends b).length := by rw [ends_len]; omega
    rcases Nat.lt_or_ge m k with c | c
    · rcases h1 with h1 | h1
      · omega
      · rcases Nat.eq_or_lt_of_le (show m ≤ k - 1 by omega) with c2 | c2
        · rw [c2] at e; omega
        · have := toK_up (b := b) c2 (by omega); omega
    · rcases Nat.eq_or_lt_of_le c with c2 | c2
      · rw [← c2] at e; omega
      · have := toK_up (b := b) c2 hml; omega
/-- What All gives of a piece. -/
theorem piece_pl {b : List Int} {k : Nat} (h : k < (ends b).length) : pl (seg b (frK b k) (toK b k)) = if k = 0 then [] else [0] := by
  by_cases c : k = 0
  · subst c
    rw [if_pos rfl]
    exact seg_places0 (toK_le h) fun j _ h2 => between h (.inl rfl) h2
  · rw [if_neg c]
    have e : frK b k = toK b (k - 1) := by rw [frK, if_neg c]
    have hk := ends_len b
    have ho : occ b (toK b (k - 1)) = true := toK_occ (by omega)
    have hlt := toK_up (b := b) (j := k - 1) (k := k) (by omega) h
    rw [e]
    refine seg_places (Nat.le_of_lt hlt) (toK_le h) (fun j h1 h2 => between h (.inr h1) h2) ?_ ho hlt
    by_cases c2 : k < (pl b).length
    · exact .inr (toK_occ c2)
    · exact .inl (by rw [show k = (pl b).length by omega, toK_last])
theorem seg_bd {b : List Int} (hb : ∀ z ∈ b, 0 ≤ z ∧ z ≤ 255) (f t : Nat) : ∀ z ∈ seg b f t, 0 ≤ z ∧ z ≤ 255 := fun z hz => hb z (seg_mem hz)
/-- The pieces, one behind the other. -/
theorem pieces_join {b : List Int} : ∀ k, k ≤ (ends b).length → (cK b k).flatten = b.take (frK b k)
  | 0, _ => by simp [cK, frK]
  | k + 1, h => by
    rw [cK_snoc, List.flatten_append, pieces_join k (by omega)]
    have e : frK b (k + 1) = toK b k := by simp [frK]
    rw [e, ← seg_join (frK_le (by omega))]
    simp
theorem pieces_all (b : List Int) : (cuts b).flatten = b := by
  rw [cuts, pieces_join _ (Nat.le_refl _)]
  have e : frK b (ends b).length = toK b (pl b).length := by simp [frK, ends_len]
  rw [e, toK_last, List.take_length]
end Go.Proofs.Ythcpanenjcjgpaa.mkP
