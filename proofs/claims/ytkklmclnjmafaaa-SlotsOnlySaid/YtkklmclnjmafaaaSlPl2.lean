/- Finding twice, by itself. -/
import Derived.Test.YtkklmclnjmafaaaSlT2
namespace Go.Proofs.Ytkklmclnjmafaaa.slP
set_option maxRecDepth 100000
open Go.Proofs.Ytkklmclnjmafaaa.base
set_option linter.unusedVariables false
set_option linter.unusedSimpArgs false
theorem set_get (fl : List Int) (o i : Nat) (x : Int) (h : o < fl.length) : (fl.set o x).getD i 0 = if o = i then x else fl.getD i 0 := by
  rw [List.getD_eq_getElem?_getD, List.getD_eq_getElem?_getD, List.getElem?_set]
  by_cases e : o = i
  · rw [if_pos e, if_pos e, if_pos (by omega)]; rfl
  · rw [if_neg e, if_neg e]
theorem setL_len : ∀ (xs : List Int) (o : Nat) (fl : List Int), (setL fl o xs).length = fl.length
  | [], _, _ => rfl
  | x :: r, o, fl => by rw [setL, setL_len r]; simp
theorem setL_get : ∀ (xs : List Int) (o : Nat) (fl : List Int) (i : Nat), o + xs.length ≤ fl.length → (setL fl o xs).getD i 0 = if o ≤ i ∧ i < o + xs.length then xs.getD (i - o) 0 else fl.getD i 0
  | [], o, fl, i, h => by rw [if_neg (by simp)]; rfl
  | x :: r, o, fl, i, h => by
    simp only [List.length_cons] at h ⊢
    rw [setL, setL_get r (o + 1) (fl.set o x) i (by simp; omega), set_get fl o i x (by omega)]
    by_cases h1 : o + 1 ≤ i ∧ i < o + 1 + r.length
    · rw [if_pos h1, if_pos (by omega), show i - o = (i - (o + 1)) + 1 by omega]; rfl
    · rw [if_neg h1]
      by_cases e : o = i
      · subst e; rw [if_pos rfl, if_pos (by omega), Nat.sub_self]; rfl
      · rw [if_neg e, if_neg (by omega)]
theorem new_len (h : Int) : (newS h).length = 16 := rfl
theorem new_st (h : Int) (k : Nat) : (newS h).getD (1 + k) 0 = 0 := by
  unfold newS
  rw [Nat.add_comm, List.getD_cons_succ]
  rw [List.getD_eq_getElem?_getD]
  rcases Nat.lt_or_ge k 15 with hk | hk
  · have : ([0, 0, 0, 0, 0, 0, 0, 0, 0, 0, 0, 0, 0, 0, 0] : List Int) = List.replicate 15 0 := rfl
    rw [this, List.getElem?_replicate, if_pos hk]; rfl
  · rw [List.getElem?_eq_none (by simpa using hk)]; rfl
theorem ch_new {fl : List Int} {n m i : Nat} {h : Int} (he : fl.length = n * 16) (hm : m < n) : chA (setL fl (m * 16) (newS h)) i = if i = m then ckN h else chA fl i := by
  unfold chA
  rw [setL_get _ _ _ _ (by rw [new_len]; omega), new_len]
  by_cases e : i = m
  · subst e; rw [if_pos (by omega), if_pos rfl, show 16 * i - i * 16 = 0 by omega]; rfl
  · rw [if_neg (by omega), if_neg e]
theorem st_new {fl : List Int} {n m i k : Nat} {h : Int} (he : fl.length = n * 16) (hm : m < n) (hk : k < 15) : stA (setL fl (m * 16) (newS h)) i k = if i = m then 0 else stA fl i k := by
  unfold stA
  rw [setL_get _ _ _ _ (by rw [new_len]; omega), new_len]
  by_cases e : i = m
  · subst e; rw [if_pos (by omega), if_pos rfl, show 16 * i + 1 + k - i * 16 = 1 + k by omega, new_st]
  · rw [if_neg (by omega), if_neg e]
theorem same_find {fl fl' : List Int} {n : Nat} {h : Int} (hq : plN n h < n) (hd : bes (plN n h) < n) (hc : ∀ i, i < n → chA fl' i = chA fl i) (hf : fndB fl n h = true) : lkN fl' n h = lkN fl n h ∧ fndB fl' n h = true ∧ fdL fl' n h = fl' := by
  have e1 := hc _ hq
  have e2 := hc _ hd
  have hf' : fndB fl' n h = true := by rw [fndB, e1, e2]; exact hf
  refine ⟨?_, hf', if_pos hf'⟩
  unfold lkN
  rw [e1, e2]
  by_cases c1 : chA fl (plN n h) = ckN h
  · rw [if_pos c1, if_pos c1]
  · rw [if_neg c1, if_neg c1]
    have c2 : chA fl (bes (plN n h)) = ckN h := by simpa [fndB, c1] using hf
    rw [if_pos c2, if_pos c2]
theorem bes_ne (q : Nat) : bes q ≠ q := by unfold bes; split <;> omega
theorem fd_len (fl : List Int) (n : Nat) (h : Int) : (fdL fl n h).length = fl.length := by
  unfold fdL; split
  · rfl
  · exact setL_len _ _ _
theorem lk_bound {fl : List Int} {n : Nat} {h : Int} (h1 : plN n h < n) (h2 : bes (plN n h) < n) : lkN fl n h < n := by
  unfold lkN
  split
  · exact h1
  · split
    · exact h2
    · split
      · exact h2
      · exact h1
theorem lk_two (fl : List Int) (n : Nat) (h : Int) : lkN fl n h = plN n h ∨ lkN fl n h = bes (plN n h) := by
  unfold lkN
  split
  · exact .inl rfl
  · split
    · exact .inr rfl
    · split
      · exact .inr rfl
      · exact .inl rfl
/-- What finding leaves: valid, and found at the same place again. -/
theorem fd_again {lv : Int} {n : Nat} {fl : List Int} {h : Int} (hok : okB lv n fl = true) (he : fl.length = n * 16) (hq : plN n h < n) (hd : bes (plN n h) < n) :
    okB lv n (fdL fl n h) = true ∧ lkN (fdL fl n h) n h = lkN fl n h ∧ fndB (fdL fl n h) n h = true ∧ fdL (fdL fl n h) n h = fdL fl n h ∧ chA (fdL fl n h) (lkN fl n h) = ckN h := by
  by_cases hf : fndB fl n h = true
  · have e : fdL fl n h = fl := if_pos hf
    rw [e]
    refine ⟨hok, rfl, hf, e, ?_⟩
    unfold lkN
    by_cases c1 : chA fl (plN n h) = ckN h
    · rw [if_pos c1]; exact c1
    · have c2 : chA fl (bes (plN n h)) = ckN h := by simpa [fndB, c1] using hf
      rw [if_neg c1, if_pos c2]; exact c2
  · have e : fdL fl n h = setL fl (lkN fl n h * 16) (newS h) := if_neg hf
    have hm := lk_bound (fl := fl) hq hd
    have hc : ∀ i, chA (fdL fl n h) i = if i = lkN fl n h then ckN h else chA fl i := fun i => by rw [e]; exact ch_new he hm
    have hnf : ¬ chA fl (plN n h) = ckN h ∧ ¬ chA fl (bes (plN n h)) = ckN h := by simpa [fndB] using hf
    have hl : lkN (fdL fl n h) n h = lkN fl n h ∧ fndB (fdL fl n h) n h = true := by
      rcases lk_two fl n h with k | k
      · have c1 : chA (fdL fl n h) (plN n h) = ckN h := by rw [hc, if_pos k.symm]
        have := lk_1 rfl c1
        exact ⟨by rw [this.1, k], this.2.2⟩
      · have c1 : ¬ chA (fdL fl n h) (plN n h) = ckN h := by rw [hc, if_neg (by rw [k]; exact fun x => bes_ne _ x.symm)]; exact hnf.1
        have c2 : chA (fdL fl n h) (bes (plN n h)) = ckN h := by rw [hc, if_pos k.symm]
        have := lk_2 rfl c1 c2
        exact ⟨by rw [this.1, k], this.2.2⟩
    refine ⟨?_, hl.1, hl.2, if_pos hl.2, by rw [hc, if_pos rfl]⟩
    obtain ⟨h1, h2, h3⟩ := (ok_iff lv n fl).1 hok
    refine (ok_iff _ _ _).2 ⟨h1, h2, fun i hi k hk => ?_⟩
    rw [e, st_new he hm hk]
    split
    · decide
    · exact h3 i hi k hk
theorem ch_set {fl : List Int} {p k i : Nat} {x : Int} (hk : k < 15) : chA (fl.set (16 * p + 1 + k) x) i = chA fl i := by
  unfold chA
  rw [List.getD_eq_getElem?_getD, List.getD_eq_getElem?_getD, List.getElem?_set, if_neg (by omega)]
theorem st_set {fl : List Int} {n p k i j : Nat} {x : Int} (he : fl.length = n * 16) (hp : p < n) (hk : k < 15) (hj : j < 15) : stA (fl.set (16 * p + 1 + k) x) i j = if i = p ∧ j = k then x else stA fl i j := by
  unfold stA
  rw [set_get _ _ _ _ (by omega)]
  by_cases e : i = p ∧ j = k
  · rw [if_pos (by omega), if_pos e]
  · rw [if_neg (by omega), if_neg e]
theorem ok_set {lv : Int} {n : Nat} {fl : List Int} {p k : Nat} {x : Int} (hok : okB lv n fl = true) (he : fl.length = n * 16) (hp : p < n) (hk : k < 15) (hx : x < 193) : okB lv n (fl.set (16 * p + 1 + k) x) = true := by
  obtain ⟨h1, h2, h3⟩ := (ok_iff lv n fl).1 hok
  refine (ok_iff _ _ _).2 ⟨h1, h2, fun i hi j hj => ?_⟩
  rw [st_set he hp hk hj]
  split
  · exact hx
  · exact h3 i hi j hj
theorem bitE_vals {lv : Int} {n : Nat} {fl : List Int} {p k x : Int} (hok : okB lv n fl = true) : bitE lv n fl p k x = 0 ∨ bitE lv n fl p k x = 2 := by
  by_cases hp : posB n p k
  · have ha := at_ok hok hp
    by_cases hx : x ≤ 1
    · exact .inl (bit_ok ha hx).1
    · exact .inr (bit_arg ha hx).1
  · have ha := at_arg hok hp
    exact .inr ((bit_bad (x := x) (by rw [ha]; decide)).1.trans ha)
/-- A bit where a table is valid: the table is valid, and its checks are as they were. -/
theorem bit_same {lv : Int} {n : Nat} {fl : List Int} {p k x : Int} (hok : okB lv n fl = true) (he : fl.length = n * 16) (hb : ∀ z ∈ fl, 0 ≤ z ∧ z ≤ 255) (x0 : 0 ≤ x) (h0 : bitE lv n fl p k x = 0) :
    ∃ fz, bitT lv n fl p k x = ⟨lv, n, fz⟩ ∧ okB lv n fz = true ∧ ∀ i, chA fz i = chA fl i := by
  have ha : atE lv n fl p k = 0 ∧ x ≤ 1 := by
    unfold bitE at h0
    split at h0
    · rename_i h1
      split at h0
      · rename_i h2; exact ⟨h1, h2⟩
      · cases h0
    · rename_i h1; exact absurd h0 h1
  obtain ⟨p0, p1, k0, k1⟩ := (at_zero ha.1).2
  have hs := ((ok_iff lv n fl).1 hok).2.2 p.toNat (by omega) (k.toNat - 1) (by omega)
  have hs0 : 0 ≤ stA fl p.toNat (k.toNat - 1) := by
    unfold stA
    rw [List.getD_eq_getElem?_getD]
    rcases Nat.lt_or_ge (16 * p.toNat + 1 + (k.toNat - 1)) fl.length with h | h
    · rw [List.getElem?_eq_getElem h]; exact (hb _ (List.getElem_mem h)).1
    · rw [List.getElem?_eq_none h]; decide
  have hv := stP.sNext_bd hs0 hs (show x = 0 ∨ x = 1 by omega)
  refine ⟨_, if_pos h0, ok_set hok he (by omega) (by omega) hv.2, fun i => ch_set (by omega)⟩
end Go.Proofs.Ytkklmclnjmafaaa.slP
