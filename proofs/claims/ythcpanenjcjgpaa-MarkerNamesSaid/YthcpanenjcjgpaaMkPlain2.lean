/- Markers: pieces, parts at the end, two strings one behind the other: plain facts. No program's numbers. -/
import Derived.Test.YthcpanenjcjgpaaMkPlain
namespace Go.Proofs.Ythcpanenjcjgpaa.mkP
set_option linter.unusedVariables false
set_option linter.unusedSimpArgs false

theorem occ_eq {b c : List Int} {i j : Nat} (hb : i + 13 ≤ b.length) (hc : j + 13 ≤ c.length) (h : ∀ k, k < 13 → b.getD (i + k) 0 = c.getD (j + k) 0) : occ b i = occ c j := by
  cases h1 : occ b i with
  | true => exact (occ_of_all hc fun k hk => by rw [← h k hk]; exact occ_at h1 hk).symm
  | false =>
    cases h2 : occ c j with
    | false => rfl
    | true => rw [occ_of_all hb fun k hk => by rw [h k hk]; exact occ_at h2 hk] at h1; cases h1
theorem getD_app (a b : List Int) (i : Nat) : (a ++ b).getD i 0 = if i < a.length then a.getD i 0 else b.getD (i - a.length) 0 := by
  simp only [List.getD_eq_getElem?_getD, List.getElem?_append]
  split <;> rfl
theorem getD_take (b : List Int) (n i : Nat) (h : i < n) : (b.take n).getD i 0 = b.getD i 0 := by
  simp only [List.getD_eq_getElem?_getD, List.getElem?_take]; rw [if_pos h]
theorem getD_drop (b : List Int) (n i : Nat) : (b.drop n).getD i 0 = b.getD (n + i) 0 := by
  simp only [List.getD_eq_getElem?_getD, List.getElem?_drop]
/-- The piece from f to t. -/
def seg (b : List Int) (f t : Nat) : List Int := (b.drop f).take (t - f)
theorem seg_len {b : List Int} {f t : Nat} (ht : t ≤ b.length) : (seg b f t).length = t - f := by
  rw [seg, List.length_take, List.length_drop]; omega
theorem seg_at {b : List Int} {f t i : Nat} (h : i < t - f) : (seg b f t).getD i 0 = b.getD (f + i) 0 := by
  rw [seg, getD_take _ _ _ h, getD_drop]
theorem seg_occ {b : List Int} {f t i : Nat} (ht : t ≤ b.length) (hi : f + i + 13 ≤ t) : occ (seg b f t) i = occ b (f + i) :=
  occ_eq (by rw [seg_len ht]; omega) (by omega) fun k hk => by rw [seg_at (by omega), Nat.add_assoc]
theorem seg_mem {b : List Int} {f t : Nat} {z : Int} (h : z ∈ seg b f t) : z ∈ b := List.mem_of_mem_drop (List.mem_of_mem_take h)
theorem seg_join {b : List Int} {f t : Nat} (h : f ≤ t) : b.take f ++ seg b f t = b.take t := by
  rw [seg]
  conv => rhs; rw [show t = f + (t - f) by omega, List.take_add]
/-- The cut at these places. -/
def cutF (b : List Int) : Nat → List Nat → List (List Int)
  | _, [] => []
  | f, t :: ts => seg b f t :: cutF b t ts
/-- A piece that begins with a marker has no other, and one that does not has none. -/
theorem seg_places {b : List Int} {f t : Nat} (hf : f ≤ t) (ht : t ≤ b.length) (hn : ∀ j, f < j → j < t → occ b j = false) (hr : t = b.length ∨ occ b t = true) (ho : occ b f = true) (hft : f < t) : pl (seg b f t) = [0] := by
  have hr2 := occ_room ho
  have h13 : f + 13 ≤ t := by
    rcases hr with h | h
    · omega
    · exact occ_apart ho h hft
  have hl := seg_len (b := b) (f := f) ht
  rw [pl, hl, plK_same (k := 1) (by omega) ?_, plK_hit (k := 0) ?_, plK_0]; rfl
  · rw [seg_occ ht (by omega)]; exact ho
  · intro j h1 h2
    rcases Nat.lt_or_ge t (f + j + 13) with h3 | h3
    · exact occ_end (by rw [hl]; omega)
    · rw [seg_occ ht h3]; exact hn _ (by omega) (by omega)
theorem seg_places0 {b : List Int} {f t : Nat} (ht : t ≤ b.length) (hn : ∀ j, f ≤ j → j < t → occ b j = false) : pl (seg b f t) = [] := by
  have hl := seg_len (b := b) (f := f) ht
  rw [pl, plK_same (k := 0) (by omega) ?_, plK_0]
  intro j h1 h2
  rw [hl] at h2
  rcases Nat.lt_or_ge t (f + j + 13) with h3 | h3
  · exact occ_end (by rw [hl]; omega)
  · rw [seg_occ ht h3]; exact hn _ (by omega) (by omega)
/-- How many bytes of a marker stand at the end. -/
def parB (b : List Int) (n : Nat) : Bool := decide (n ≤ b.length) && decide (b.drop (b.length - n) = mk.take n)
def parF (b : List Int) : Nat → Nat
  | 0 => 0
  | n + 1 => if parB b (n + 1) then n + 1 else parF b n
def par (b : List Int) : Nat := parF b 12
theorem parF_le (b : List Int) : ∀ n, parF b n ≤ n ∧ parF b n ≤ b.length
  | 0 => ⟨Nat.le_refl _, Nat.zero_le _⟩
  | n + 1 => by
    unfold parF
    by_cases h : parB b (n + 1) = true
    · rw [if_pos h]
      simp only [parB, Bool.and_eq_true, decide_eq_true_eq] at h
      exact ⟨Nat.le_refl _, h.1⟩
    · rw [if_neg h]
      have := parF_le b n
      omega
theorem parF_yes {b : List Int} {n : Nat} (h : parB b (n + 1) = true) : parF b (n + 1) = n + 1 := by unfold parF; rw [if_pos h]
theorem parF_no {b : List Int} {n : Nat} (h : parB b (n + 1) = false) : parF b (n + 1) = parF b n := by
  rw [show parF b (n + 1) = if parB b (n + 1) then n + 1 else parF b n from rfl, h]; rfl
theorem parF_at (b : List Int) : ∀ n, 0 < parF b n → parB b (parF b n) = true
  | 0, h => by simp [parF] at h
  | n + 1, h => by
    by_cases c : parB b (n + 1) = true
    · rw [parF_yes c]; exact c
    · rw [Bool.not_eq_true] at c
      rw [parF_no c] at h ⊢
      exact parF_at b n h
theorem parF_above (b : List Int) : ∀ n k, k ≤ n → parF b n < k → parB b k = false
  | 0, k, h1, h2 => by omega
  | n + 1, k, h1, h2 => by
    by_cases c : parB b (n + 1) = true
    · rw [parF_yes c] at h2; omega
    · rw [Bool.not_eq_true] at c
      rw [parF_no c] at h2
      by_cases e : k = n + 1
      · rw [e]; exact c
      · exact parF_above b n k (by omega) h2
theorem par_big {b : List Int} {n m : Nat} (h : n ≤ m) (hk : ∀ k, n < k → k ≤ m → parB b k = false) : parF b m = parF b n := by
  induction m with
  | zero => rw [show n = 0 by omega]
  | succ m ih =>
    by_cases e : n = m + 1
    · rw [e]
    · rw [parF_no (hk _ (by omega) (by omega)), ih (by omega) fun k h1 h2 => hk k h1 (by omega)]
theorem parB_at {b : List Int} {n k : Nat} (h : parB b n = true) (hn : n ≤ 13) (hk : k < n) : n ≤ b.length ∧ b.getD (b.length - n + k) 0 = mk.getD k 0 := by
  simp only [parB, Bool.and_eq_true, decide_eq_true_eq] at h
  refine ⟨h.1, ?_⟩
  have := congrArg (fun l => l.getD k 0) h.2
  simp only [getD_drop] at this
  rw [this, getD_take _ _ _ hk]
theorem parB_of {b : List Int} {n : Nat} (hn : n ≤ b.length) (h13 : n ≤ 13) (h : ∀ k, k < n → b.getD (b.length - n + k) 0 = mk.getD k 0) : parB b n = true := by
  simp only [parB, Bool.and_eq_true, decide_eq_true_eq]
  refine ⟨hn, List.ext_getElem ?_ fun k h1 h2 => ?_⟩
  · have : mk.length = 13 := rfl
    rw [List.length_drop, List.length_take, this]; omega
  · have hm : mk.length = 13 := rfl
    rw [List.length_take, hm] at h2
    rw [List.length_drop] at h1
    have := h k (by omega)
    rw [List.getD_eq_getElem?_getD, List.getD_eq_getElem?_getD, List.getElem?_eq_getElem (by omega), List.getElem?_eq_getElem (by omega)] at this
    simp only [List.getElem_take, List.getElem_drop]
    simpa using this
/-- Just one part. -/
theorem par_one {b : List Int} {n : Nat} (h : parB b n = true) (h0 : 0 < n) (hn : n ≤ 12) : par b = n := by
  rcases Nat.lt_or_ge (par b) n with h1 | h1
  · rw [parF_above b 12 n hn h1] at h; cases h
  · rcases Nat.eq_or_lt_of_le h1 with h2 | h2
    · exact h2.symm
    · have h3 := parF_at b 12 (Nat.lt_trans h0 h2)
      have hle := (parF_le b 12).1
      have h3' : parB b (par b) = true := h3
      have hle' : par b ≤ 12 := hle
      obtain ⟨e1, e2⟩ := parB_at (k := par b - n) h3' (by omega) (by omega)
      obtain ⟨e3, e4⟩ := parB_at (k := 0) h (by omega) h0
      rw [show b.length - par b + (par b - n) = b.length - n + 0 by omega, e4] at e2
      have := (mk_at (k := par b - n) (by omega)).1 (by rw [← e2]; rfl)
      omega
/-- The markers of two strings, one behind the other. -/
def midB (a b : List Int) : Bool := decide (0 < par a) && (decide (13 - par a ≤ b.length) && decide (b.take (13 - par a) = mk.drop (par a)))
def joinL (a b : List Int) : List Int := pl a ++ (if midB a b then [(a.length : Int) - par a] else []) ++ (pl b).map fun z => (a.length : Int) + z
theorem occ_left {a b : List Int} {i : Nat} (h : i + 13 ≤ a.length) : occ (a ++ b) i = occ a i :=
  occ_eq (by rw [List.length_append]; omega) h fun k hk => by rw [getD_app, if_pos (by omega)]
theorem occ_right {a b : List Int} {i : Nat} : occ (a ++ b) (a.length + i) = occ b i := by
  rcases Nat.lt_or_ge b.length (i + 13) with h | h
  · rw [occ_end (by rw [List.length_append]; omega), occ_end h]
  · exact occ_eq (by rw [List.length_append]; omega) h fun k hk => by rw [getD_app, if_neg (by omega), show a.length + i + k - a.length = i + k by omega]
/-- One that stands across. -/
theorem occ_mid {a b : List Int} {n : Nat} (h0 : 0 < n) (hn : n ≤ 12) (hl : n ≤ a.length) : occ (a ++ b) (a.length - n) = (decide (par a = n) && midB a b) := by
  cases ho : occ (a ++ b) (a.length - n) with
  | true =>
    have hr := occ_room ho
    rw [List.length_append] at hr
    have hp : parB a n = true := parB_of hl (by omega) fun k hk => by
      have := occ_at (k := k) ho (by omega)
      rwa [getD_app, if_pos (by omega)] at this
    have hpa := par_one hp h0 hn
    have hb : b.take (13 - n) = mk.drop n := by
      have hm : mk.length = 13 := rfl
      refine List.ext_getElem (by rw [List.length_take, List.length_drop, hm]; omega) fun k h1 h2 => ?_
      rw [List.length_drop, hm] at h2
      have := occ_at (k := n + k) ho (by omega)
      rw [getD_app, if_neg (by omega), show a.length - n + (n + k) - a.length = k by omega, List.getD_eq_getElem?_getD, List.getD_eq_getElem?_getD, List.getElem?_eq_getElem (by omega), List.getElem?_eq_getElem (by rw [hm]; omega)] at this
      simp only [List.getElem_take, List.getElem_drop]
      simpa using this
    simp only [midB, hpa, decide_true, Bool.true_and]
    rw [decide_eq_true h0, decide_eq_true (by omega : 13 - n ≤ b.length), decide_eq_true hb]; rfl
  | false =>
    cases hm : decide (par a = n) && midB a b with
    | false => rfl
    | true =>
      simp only [Bool.and_eq_true, decide_eq_true_eq, midB] at hm
      obtain ⟨e1, e2, e3, e4⟩ := hm
      have hp : parB a n = true := by rw [← e1]; exact parF_at a 12 e2
      rw [e1] at e3 e4
      have hm : mk.length = 13 := rfl
      rw [occ_of_all (by rw [List.length_append]; omega) fun k hk => ?_] at ho
      · cases ho
      · rw [getD_app]
        split
        · exact (parB_at hp (by omega) (by omega)).2
        · rw [show a.length - n + k - a.length = k - n by omega]
          have := congrArg (fun l => l.getD (k - n) 0) e4
          simp only [getD_drop] at this
          rw [getD_take _ _ _ (by omega), show n + (k - n) = k by omega] at this
          exact this
theorem plK_all {b : List Int} {k : Nat} (h : b.length ≤ k + 12) (hk : k ≤ b.length) : plK b k = pl b :=
  (plK_same hk fun j h1 h2 => occ_end (by omega)).symm
theorem plK_app_left {a b : List Int} {k : Nat} (h : k + 12 ≤ a.length) : plK (a ++ b) k = plK a k := by
  induction k with
  | zero => rfl
  | succ k ih =>
    have e := occ_left (a := a) (b := b) (i := k) (by omega)
    cases ho : occ a k with
    | true => rw [plK_hit ho, plK_hit (by rw [e]; exact ho), ih (by omega)]
    | false => rw [plK_miss ho, plK_miss (by rw [e]; exact ho), ih (by omega)]
theorem plK_app_right {a b : List Int} (k : Nat) : plK (a ++ b) (a.length + k) = plK (a ++ b) a.length ++ (plK b k).map fun z => (a.length : Int) + z := by
  induction k with
  | zero => simp [plK_0]
  | succ k ih =>
    have e := occ_right (a := a) (b := b) (i := k)
    cases ho : occ b k with
    | true =>
      rw [plK_hit ho, ← Nat.add_assoc, plK_hit (by rw [e]; exact ho), ih]
      simp
    | false => rw [plK_miss ho, ← Nat.add_assoc, plK_miss (by rw [e]; exact ho), ih]
/-- Up to n bytes ahead of the end of the first one. -/
theorem plK_mid {a b : List Int} : ∀ d, d ≤ 12 → d ≤ a.length → (a.length ≤ 12 → d = a.length ∨ d ≤ a.length) →
    plK (a ++ b) a.length = plK (a ++ b) (a.length - d) ++ if decide (0 < par a) && (decide (par a ≤ d) && midB a b) then [(a.length : Int) - par a] else []
  | 0, _, _, _ => by
    have : ¬ (0 < par a ∧ par a ≤ 0) := by omega
    have e : (decide (0 < par a) && (decide (par a ≤ 0) && midB a b)) = false := by
      cases h : decide (0 < par a) <;> cases h2 : decide (par a ≤ 0) <;> simp_all
    rw [e]; simp
  | d + 1, h1, h2, _ => by
    rw [plK_mid d (by omega) (by omega) (fun _ => .inr (by omega))]
    have hm := occ_mid (a := a) (b := b) (n := d + 1) (by omega) (by omega) h2
    have e : a.length - d = a.length - (d + 1) + 1 := by omega
    by_cases c : par a = d + 1
    · have f : (decide (0 < par a) && (decide (par a ≤ d) && midB a b)) = false := by
        have : ¬ par a ≤ d := by omega
        simp [this]
      have g : (decide (0 < par a) && (decide (par a ≤ d + 1) && midB a b)) = midB a b := by
        have h3 : 0 < par a := by omega
        have h4 : par a ≤ d + 1 := by omega
        simp [h3, h4]
      rw [f, g]
      rw [decide_eq_true c, Bool.true_and] at hm
      rw [e]
      cases hmm : midB a b with
      | true =>
        rw [hmm] at hm
        rw [plK_hit hm]
        have : ((a.length - (d + 1) : Nat) : Int) = (a.length : Int) - par a := by omega
        simp [this]
      | false =>
        rw [hmm] at hm
        rw [plK_miss hm]
    · rw [decide_eq_false c, Bool.false_and] at hm
      rw [e, plK_miss hm]
      have : decide (par a ≤ d + 1) = decide (par a ≤ d) := by
        rw [Bool.eq_iff_iff, decide_eq_true_iff, decide_eq_true_iff]; omega
      rw [this]
theorem par_le (a : List Int) : par a ≤ 12 ∧ par a ≤ a.length := parF_le a 12
theorem midB_pos {a b : List Int} : (decide (0 < par a) && midB a b) = midB a b := by
  cases h : decide (0 < par a)
  · simp [midB, h]
  · rfl
theorem pl_join (a b : List Int) : pl (a ++ b) = joinL a b := by
  rw [pl, List.length_append, plK_app_right b.length]
  show _ ++ (pl b).map _ = _
  unfold joinL
  congr 1
  have hp := par_le a
  rw [plK_mid (min 12 a.length) (by omega) (by omega) (fun _ => .inr (by omega))]
  have e1 : decide (par a ≤ min 12 a.length) = true := decide_eq_true (by omega)
  rw [e1, Bool.true_and, midB_pos]
  congr 1
  rcases Nat.lt_or_ge 12 a.length with h | h
  · rw [plK_app_left (by omega), plK_all (by omega) (by omega)]
  · rw [show a.length - min 12 a.length = 0 by omega, plK_0, ← plK_all (k := 0) (by omega) (by omega), plK_0]
end Go.Proofs.Ythcpanenjcjgpaa.mkP
