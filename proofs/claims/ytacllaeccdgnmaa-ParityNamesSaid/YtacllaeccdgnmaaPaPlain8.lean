/- Parity by plain lists: what Protect returned recovers the list. -/
import Derived.Test.YtacllaeccdgnmaaPaPlain7
namespace Go.Proofs.Ytacllaeccdgnmaa.paP
set_option maxRecDepth 100000
open Go.RowKit
set_option linter.unusedVariables false
def cntP (lost : List Bool) (g j : Nat) : Nat → Nat
  | 0 => 0
  | k + 1 => cntP lost g j k + (if lost.getD k false = true ∧ k / g = j then 1 else 0)
theorem cnt_le (lost : List Bool) (g j : Nat) : ∀ k, cntP lost g j k ≤ k
  | 0 => Nat.le_refl _
  | k + 1 => by
    have := cnt_le lost g j k
    unfold cntP
    split <;> omega
theorem cnt_one {lost : List Bool} {g j : Nat} : ∀ {k : Nat}, 0 < cntP lost g j k → ∃ i, i < k ∧ lost.getD i false = true ∧ i / g = j
  | 0, h => by simp [cntP] at h
  | k + 1, h => by
    unfold cntP at h
    by_cases c : lost.getD k false = true ∧ k / g = j
    · exact ⟨k, by omega, c.1, c.2⟩
    · rw [if_neg c] at h
      obtain ⟨i, h1, h2⟩ := cnt_one (k := k) (by omega)
      exact ⟨i, by omega, h2⟩
theorem cnt_two {lost : List Bool} {g j : Nat} : ∀ {k : Nat}, 1 < cntP lost g j k → ∃ i i', i < k ∧ i' < k ∧ i ≠ i' ∧ lost.getD i false = true ∧ lost.getD i' false = true ∧ i / g = j ∧ i' / g = j
  | 0, h => by simp [cntP] at h
  | k + 1, h => by
    unfold cntP at h
    by_cases c : lost.getD k false = true ∧ k / g = j
    · rw [if_pos c] at h
      obtain ⟨i, h1, h2, h3⟩ := cnt_one (k := k) (by omega : 0 < cntP lost g j k)
      exact ⟨i, k, by omega, by omega, by omega, h2, c.1, h3, c.2⟩
    · rw [if_neg c] at h
      obtain ⟨i, i', h1, h2, h3⟩ := cnt_two (k := k) (by omega)
      exact ⟨i, i', by omega, by omega, h3⟩
theorem cnt_has {lost : List Bool} {g j i : Nat} (h : lost.getD i false = true) (hg : i / g = j) : ∀ {k : Nat}, i < k → 0 < cntP lost g j k
  | 0, h => by omega
  | k + 1, hk => by
    unfold cntP
    by_cases e : i = k
    · subst e; rw [if_pos ⟨h, hg⟩]; omega
    · have := cnt_has h hg (k := k) (by omega); omega
theorem cnt_has2 {lost : List Bool} {g j i i' : Nat} (h : lost.getD i false = true) (h' : lost.getD i' false = true) (hg : i / g = j) (hg' : i' / g = j) (hlt : i < i') : ∀ {k : Nat}, i' < k → 1 < cntP lost g j k
  | 0, h => by omega
  | k + 1, hk => by
    unfold cntP
    by_cases e : i' = k
    · subst e
      have := cnt_has h hg hlt
      rw [if_pos ⟨h', hg'⟩]; omega
    · have := cnt_has2 h h' hg hg' hlt (k := k) (by omega); omega
theorem cnt_twoB {lost : List Bool} {g j n : Nat} (h : 1 < cntP lost g j n) : twoB lost g n = true := by
  obtain ⟨i, i', h1, h2, h3, h4, h5, h6, h7⟩ := cnt_two h
  exact twoB_yes h1 h2 h3 (by rw [h6, h7]) h4 h5
theorem cnt_no {lost : List Bool} {g n K : Nat} (hg : 0 < g) (hK : groups n g = K) (h : ∀ j, j < K → cntP lost g j n ≤ 1) : twoB lost g n = false := by
  refine twoB_no fun i i' h1 h2 h3 h4 h5 => ?_
  have hj : i / g < K := by
    rw [← hK, groups_iff hg]
    have := Nat.div_mul_le_self i g
    omega
  have h6 := h (i / g) hj
  rcases Nat.lt_trichotomy i i' with a | a | a
  · have := cnt_has2 h4 h5 rfl h3.symm a h2; omega
  · exact a
  · have := cnt_has2 h5 h4 h3.symm rfl a h1; omega
theorem protE_ok {l : List (List Int)} {g : Nat} (h : protE l (g : Int) = 0) : 1 ≤ g ∧ g ≤ 16 ∧ l.length ≤ 100 ∧ wd l ≤ 5000 := by
  unfold protE at h
  split at h
  · omega
  · split at h
    · omega
    · omega
theorem protP_len (l : List (List Int)) (g q : Nat) : (protP l g q).length = q := by simp [protP]
theorem protP_at {l : List (List Int)} {g q j : Nat} (h : j < q) : (protP l g q).getD j [] = parP (chunk l g j) := by
  unfold protP
  simp [List.getD_eq_getElem?_getD, h]
theorem one_group {l D : List (List Int)} {lost : List Bool} {g i K : Nat} (hp : protE l (g : Int) = 0) (hl : D.length = l.length) (hb : ∀ s ∈ l, Byt s) (hi : i < l.length) (h : lost.getD i false = true) (htw : twoB lost g l.length = false)
    (hD : ∀ j, j < l.length → lost.getD j false = false → D.getD j [] = l.getD j []) (hK : groups l.length g = K) :
    gi D lost g (protP l g K) i = 0 ∧ rvi D lost g (protP l g K) i = l.getD i [] := by
  obtain ⟨g1, g2, n1, w1⟩ := protE_ok hp
  obtain ⟨q, hq⟩ : ∃ q, i / g = q := ⟨_, rfl⟩
  have hI := (in_group (by omega)).1 hq
  have hqK : q < K := by
    rw [← hK, groups_iff (by omega)]; omega
  rw [gi_lost hq h, rvi_lost hq h, protP_at hqK]
  have hc := chunk_set (X := D) (l := l) (g := g) (q := q) (i0 := i) (t := D.getD i []) (by omega) hl hi hq rfl fun j h1 h2 h3 => hD j h1 (by
    cases e : lost.getD j false
    · rfl
    · exact absurd (twoB_uniq htw h1 hi (by rw [h2, hq]) e h) h3)
  rw [hc, show (i : Int) - ((q * g : Nat) : Int) = ((i - q * g : Nat) : Int) by omega]
  have hcl := chunk_len l g q
  have hr := repairs_at (l := chunk l g q) (k := i - q * g) (by rw [hcl]; omega) (fun u hu => ⟨hb u (chunk_mem hu), Nat.le_trans (wd_le (chunk_mem hu)) w1⟩) (by rw [hcl]; omega) (D.getD i [])
  refine ⟨hr.1, hr.2.trans ?_⟩
  rw [List.getD_eq_getElem?_getD, chunk_get, if_pos (by omega), show q * g + (i - q * g) = i by omega, List.getD_eq_getElem?_getD]
theorem recovered {l D : List (List Int)} {lost : List Bool} {g K : Nat} (hp : protE l (g : Int) = 0) (hl : D.length = l.length) (hn : lost.length = l.length) (hb : ∀ s ∈ l, Byt s) (htw : twoB lost g l.length = false)
    (hD : ∀ j, j < l.length → lost.getD j false = false → D.getD j [] = l.getD j []) (hK : groups l.length g = K) : recE D lost (g : Int) (protP l g K) = 0 ∧ recV D lost (g : Int) (protP l g K) = l := by
  obtain ⟨g1, g2, n1, w1⟩ := protE_ok hp
  have hlen : ∀ j, j < l.length → (l.getD j []).length ≤ 5000 := fun j hj => Nat.le_trans (wd_le (by rw [List.getD_eq_getElem?_getD, List.getElem?_eq_getElem hj]; exact List.getElem_mem _)) w1
  have hbad : badB D lost = false := badB_no.2 fun i hi h => by
    rw [hl] at hi
    rw [hD i hi h]; exact hlen i hi
  have e : recE D lost (g : Int) (protP l g K) = 0 := by
    unfold recE
    rw [if_neg (by rw [hn, hl]; omega), if_neg (by rw [hl]; omega), if_neg (by rw [hbad]; simp), Int.toNat_natCast, if_neg (by rw [protP_len, hl, hK, htw]; simp)]
    refine fE_zero fun i hi => ?_
    cases e : lost.getD i false
    · exact gi_kept e
    · exact (one_group hp hl hb (by omega) e htw hD hK).1
  refine ⟨e, ?_⟩
  unfold recV
  rw [if_pos e, Int.toNat_natCast, hl]
  apply List.ext_getElem
  · simp
  · intro i h1 h2
    simp only [List.getElem_map, List.getElem_range]
    have h3 : l.getD i [] = l[i] := by rw [List.getD_eq_getElem?_getD, List.getElem?_eq_getElem h2]; rfl
    rw [← h3]
    cases e : lost.getD i false
    · rw [rvi_kept e]; exact hD i h2 e
    · exact (one_group hp hl hb h2 e htw hD hK).2
theorem lost_two {l D : List (List Int)} {lost : List Bool} {g : Nat} {p : List (List Int)} (hp : protE l (g : Int) = 0) (hl : D.length = l.length) (hn : lost.length = l.length) (htw : twoB lost g l.length = true)
    (hD : ∀ j, j < l.length → lost.getD j false = false → D.getD j [] = l.getD j []) : recE D lost (g : Int) p = 40 := by
  obtain ⟨g1, g2, n1, w1⟩ := protE_ok hp
  have hlen : ∀ j, j < l.length → (l.getD j []).length ≤ 5000 := fun j hj => Nat.le_trans (wd_le (by rw [List.getD_eq_getElem?_getD, List.getElem?_eq_getElem hj]; exact List.getElem_mem _)) w1
  have hbad : badB D lost = false := badB_no.2 fun i hi h => by
    rw [hl] at hi
    rw [hD i hi h]; exact hlen i hi
  unfold recE
  rw [if_neg (by rw [hn, hl]; omega), if_neg (by rw [hl]; omega), if_neg (by rw [hbad]; simp), Int.toNat_natCast, if_pos (.inr (by rw [hl]; exact htw))]
end Go.Proofs.Ytacllaeccdgnmaa.paP
