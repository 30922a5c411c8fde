/- Plain facts on bytes that repeat: in the end each one is expected. -/
import Derived.Test.YtemiecghdmagnaaGO
namespace Go.Proofs.Ytemiecghdmagnaa.maP
set_option maxRecDepth 100000
open Go.RowKit Go.Proofs.Ytemiecghdmagnaa.base Go.Proofs.Ytemiecghdmagnaa.rgP Go.Proofs.Ytemiecghdmagnaa.fdP Go.Proofs.Ytemiecghdmagnaa.cxP Go.Proofs.Ytemiecghdmagnaa.hashP Go.Proofs.Ytemiecghdmagnaa.hashW Go.Proofs.Ytemiecghdmagnaa.nibP
set_option linter.unusedVariables false
/-- The bytes of a row, again and again. -/
def cyc (b : List Int) (M : Nat) : List Int := (List.range M).map fun t => b.getD (t % b.length) 0
theorem cyc_len (b : List Int) (M : Nat) : (cyc b M).length = M := by simp [cyc]
theorem cyc_at (b : List Int) (M t : Nat) (h : t < M) : (cyc b M).getD t 0 = b.getD (t % b.length) 0 := by
  unfold cyc
  rw [List.getD_eq_getElem?_getD, List.getElem?_map, List.getElem?_range h]
  rfl
/-- The place of the four bytes up to one, around. -/
def plL (b : List Int) (i : Nat) : Nat := (hSteps (kStart 6) [b.getD ((i + b.length - 3) % b.length) 0, b.getD ((i + b.length - 2) % b.length) 0, b.getD ((i + b.length - 1) % b.length) 0, b.getD i 0] % 128).toNat
/-- The four bytes up to one have a place for themselves. -/
def aloneL (b : List Int) (i : Nat) : Prop := ∀ k, k < b.length → k ≠ i → plL b k ≠ plL b i
theorem sz1 : szOf 1 = 128 := by decide +kernel
theorem plk_cyc (b : List Int) (M t : Nat) (h4 : 4 ≤ b.length) (h3 : 3 ≤ t) (ht : t < M) : plk 128 (cyc b M) (t + 1) = plL b (t % b.length) := by
  have hn : 0 < b.length := by omega
  unfold plk plL keyL
  congr 3
  refine getD_ext (by simp [cyc_len]; omega) fun i hi => ?_
  have hi : i < 4 := by simp [cyc_len] at hi; omega
  rw [List.getD_eq_getElem?_getD, List.getElem?_drop, List.getElem?_append_right (by simp; omega), List.length_replicate, List.getElem?_take_of_lt (by omega), ← List.getD_eq_getElem?_getD, cyc_at b M _ (by omega)]
  have key : ∀ d, d ≤ 3 → (t - d) % b.length = (t % b.length + b.length - d) % b.length := by
    intro d hd
    have hdm := Nat.div_add_mod t b.length
    have hlt := Nat.mod_lt t hn
    generalize t % b.length = x at *
    generalize hq : t / b.length = q at *
    by_cases hx : d ≤ x
    · have e1 : t - d = b.length * q + (x - d) := by omega
      have e2 : x + b.length - d = b.length * 1 + (x - d) := by omega
      rw [e1, e2, Nat.mul_add_mod, Nat.mul_add_mod]
    · have hq1 : 1 ≤ q := by
        rcases Nat.eq_zero_or_pos q with h0 | h0
        · rw [h0] at hdm; omega
        · exact h0
      obtain ⟨p, rfl⟩ : ∃ p, q = p + 1 := ⟨q - 1, by omega⟩
      have e1 : t - d = b.length * p + (x + b.length - d) := by rw [Nat.mul_add] at hdm; omega
      rw [e1, Nat.mul_add_mod]
  rcases (show i = 0 ∨ i = 1 ∨ i = 2 ∨ i = 3 by omega) with rfl | rfl | rfl | rfl
  · rw [show t + 1 + 0 - 4 = t - 3 by omega, key 3 (by omega)]; rfl
  · rw [show t + 1 + 1 - 4 = t - 2 by omega, key 2 (by omega)]; rfl
  · rw [show t + 1 + 2 - 4 = t - 1 by omega, key 1 (by omega)]; rfl
  · rw [show t + 1 + 3 - 4 = t by omega]
    show _ = b.getD (t % b.length) 0
    rfl
theorem last_cyc (b : List Int) (M i : Nat) (h4 : 4 ≤ b.length) (h3 : 3 ≤ i) (hi : i < b.length) (hM : b.length + i ≤ M) (ha : aloneL b i) : ∀ d, i + 1 + d ≤ b.length + i → lastAt 128 (cyc b M) (plL b i) (i + 1 + d) = ((i + 1 : Nat) : Int)
  | 0, _ => by
    show (if _ then _ else _) = _
    rw [if_pos]
    rw [plk_cyc b M i h4 h3 (by omega), Nat.mod_eq_of_lt hi]
  | d + 1, hd => by
    show (if plk 128 (cyc b M) (i + 1 + d + 1) = plL b i then _ else _) = _
    rw [plk_cyc b M (i + 1 + d) h4 (by omega) (by omega), if_neg]
    · exact last_cyc b M i h4 h3 hi hM ha d (by omega)
    · apply ha _ (Nat.mod_lt _ (by omega))
      intro e
      have hdm := Nat.div_add_mod (i + 1 + d) b.length
      rw [e] at hdm
      rcases Nat.eq_zero_or_pos ((i + 1 + d) / b.length) with h0 | h0
      · rw [h0] at hdm; omega
      · have := Nat.mul_le_mul_left b.length h0
        omega
def distinctL (b : List Int) : Prop := ∀ i k, i < b.length → k < b.length → b.getD i 0 = b.getD k 0 → i = k
theorem take_cyc (b : List Int) (M k : Nat) (hk : k ≤ M) : (cyc b M).take k = cyc b k := by
  refine getD_ext (by simp [cyc_len]; omega) fun i hi => ?_
  have hi : i < k := by simp [cyc_len] at hi; omega
  rw [cyc_at b k i hi, List.getD_eq_getElem?_getD, List.getElem?_take_of_lt hi, ← List.getD_eq_getElem?_getD, cyc_at b M i (by omega)]
section
variable {b : List Int} {M : Nat}
theorem at_mod (h4 : 4 ≤ b.length) (hM : M ≤ 64) (hd : distinctL b) (t : Nat) (ht : t ≤ M) (h0 : 0 ≤ (came3 1 (cyc b t)).m.a) : (came3 1 (cyc b t)).m.a.toNat % b.length = t % b.length ∧ (came3 1 (cyc b t)).m.a < t := by
  have hn : 0 < b.length := by omega
  have hT := came_true (l := 1) (by decide) t (cyc b t) (cyc_len b t) (by omega)
  obtain ⟨c1, c2, c3, c4⟩ := hT.m
  rw [cyc_len] at c2
  obtain ⟨k1, k2⟩ := c3 h0
  have e := c4 h0 1 (Nat.le_refl _) (by omega)
  rw [cyc_len] at e
  generalize (came3 1 (cyc b t)).m.a = a at *
  obtain ⟨x, rfl⟩ : ∃ x : Nat, a = x := ⟨a.toNat, by omega⟩
  have hx : x < t := by omega
  have e1 : ((x : Int) - ((1 : Nat) : Int)).toNat = x - 1 := by omega
  rw [e1, cyc_at b t _ (by omega), cyc_at b t _ (by omega)] at e
  have e2 := hd _ _ (Nat.mod_lt _ hn) (Nat.mod_lt _ hn) e
  refine ⟨?_, by omega⟩
  rw [Int.toNat_natCast]
  have s1 : x % b.length = ((x - 1) % b.length + 1) % b.length := by rw [Nat.mod_add_mod]; congr 1; omega
  have s2 : t % b.length = ((t - 1) % b.length + 1) % b.length := by rw [Nat.mod_add_mod]; congr 1; omega
  rw [s1, s2, e2]
theorem ex_cyc (h4 : 4 ≤ b.length) (hM : M ≤ 64) (hd : distinctL b) (t : Nat) (ht : t ≤ M) (h0 : 0 ≤ (came3 1 (cyc b t)).m.a) : exE (came3 1 (cyc b t)).m (came3 1 (cyc b t)).r = 0 ∧ exB (came3 1 (cyc b t)).m (came3 1 (cyc b t)).r = true ∧ exV (came3 1 (cyc b t)).m (came3 1 (cyc b t)).r = b.getD (t % b.length) 0 := by
  have hT := came_true (l := 1) (by decide) t (cyc b t) (cyc_len b t) (by omega)
  obtain ⟨e1, e2⟩ := at_mod h4 hM hd t ht h0
  have hp := put_new (l := 1) (by decide) (cyc b t) (by rw [cyc_len]; omega)
  have hm := hT.m.1
  have hr := hT.r
  generalize came3 1 (cyc b t) = s at *
  have x0 : exE s.m s.r = 0 := exE_yes hm (by rw [hr]; exact hp.2.2.1)
  have x1 : exB s.m s.r = true := by
    rw [exB, if_pos x0, decide_eq_true h0]
    unfold isB
    rw [hr, hp.2.2.2.1, hp.2.2.2.2, cyc_len, sz1, decide_eq_true (by omega), decide_eq_true (by omega)]
    rfl
  refine ⟨x0, x1, ?_⟩
  rw [exV, if_pos x1, hr, hp.2.2.2.1, ago_at (by decide) (cyc b t) s.m.a h0 (by rw [cyc_len]; omega) (by rw [cyc_len, sz1]; omega), cyc_at b t _ (by omega), e1]
theorem goes_on (h4 : 4 ≤ b.length) (hM : M ≤ 64) (hd : distinctL b) (t : Nat) (ht : t < M) (h0 : 0 ≤ (came3 1 (cyc b t)).m.a) : 0 ≤ (came3 1 (cyc b (t + 1))).m.a ∧ (came3 1 (cyc b (t + 1))).m.k = min ((came3 1 (cyc b t)).m.k + 1) 40 := by
  obtain ⟨x0, x1, x2⟩ := ex_cyc h4 hM hd t (by omega) h0
  have e := came_take (l := 1) (cyc b (t + 1)) t (by rw [cyc_len]; omega)
  rw [take_cyc b (t + 1) (t + 1) (Nat.le_refl _), take_cyc b (t + 1) t (by omega), cyc_at b (t + 1) t (by omega)] at e
  rw [e, step3_m]
  have ho : onM (came3 1 (cyc b t)).m (came3 1 (cyc b t)).r (b.getD (t % b.length) 0) = ⟨(came3 1 (cyc b t)).m.a + 1, min ((came3 1 (cyc b t)).m.k + 1) 40⟩ := by
    unfold onM
    rw [if_pos ⟨x1, x2⟩]
  unfold nextM
  rw [ho, if_neg (by show ¬ (came3 1 (cyc b t)).m.a + 1 = -1; omega)]
  exact ⟨by show 0 ≤ (came3 1 (cyc b t)).m.a + 1; omega, rfl⟩
theorem begins (h4 : 4 ≤ b.length) (hM : M ≤ 64) (hd : distinctL b) (i : Nat) (h3 : 3 ≤ i) (hi : i < b.length) (ha : aloneL b i) (hT : b.length + i < M) : 0 ≤ (came3 1 (cyc b (b.length + i + 1))).m.a ∧ 4 ≤ (came3 1 (cyc b (b.length + i + 1))).m.k := by
  by_cases h0 : 0 ≤ (came3 1 (cyc b (b.length + i))).m.a
  · obtain ⟨g1, g2⟩ := goes_on h4 hM hd (b.length + i) hT h0
    have hT' := came_true (l := 1) (by decide) (b.length + i) (cyc b (b.length + i)) (cyc_len _ _) (by omega)
    have := (hT'.m.2.2.1 h0).2
    exact ⟨g1, by rw [g2]; omega⟩
  · have hT' := came_true (l := 1) (by decide) (b.length + i) (cyc b (b.length + i)) (cyc_len _ _) (by omega)
    have hmb := (mtB_iff _).1 hT'.m.1
    have hno : (came3 1 (cyc b (b.length + i))).m = noM := by
      have a1 : (came3 1 (cyc b (b.length + i))).m.a = -1 := by omega
      have a2 : (came3 1 (cyc b (b.length + i))).m.k = 0 := by omega
      generalize (came3 1 (cyc b (b.length + i))).m = m at *
      obtain ⟨x, y⟩ := m
      simp only at a1 a2
      subst a1 a2
      rfl
    have e := came_take (l := 1) (cyc b (b.length + i + 1)) (b.length + i) (by rw [cyc_len]; omega)
    have et := told_at (l := 1) (by decide) (cyc b (b.length + i + 1)) (by rw [cyc_len]; omega) (b.length + i) (by rw [cyc_len]; omega)
    have ep := put_take (l := 1) (by decide) (cyc b (b.length + i + 1)) (b.length + i) (by rw [cyc_len]; omega) (by rw [cyc_len]; omega)
    rw [take_cyc b _ (b.length + i + 1) (Nat.le_refl _), take_cyc b _ (b.length + i) (by omega)] at e
    rw [take_cyc b _ (b.length + i) (by omega), sz1, plk_cyc b _ (b.length + i) h4 (by omega) (by omega), Nat.add_mod_left, Nat.mod_eq_of_lt hi] at et
    rw [take_cyc b _ (b.length + i + 1) (Nat.le_refl _), take_cyc b _ (b.length + i) (by omega)] at ep
    have el := last_cyc b (b.length + i + 1) i h4 h3 hi (by omega) ha (b.length - 1) (by omega)
    rw [show i + 1 + (b.length - 1) = b.length + i by omega] at el
    rw [el] at et
    have hf := full_least (l := 1) (by decide) (cyc b (b.length + i + 1)) (by rw [cyc_len]; omega) (i + 1) (i + 1) (Nat.le_refl _) (by rw [cyc_len]; omega) (fun j j1 j2 => by
      rw [cyc_len, cyc_at b _ _ (by omega), cyc_at b _ _ (by omega)]
      congr 1
      rw [show b.length + i + 1 - j = b.length + (i + 1 - j) by omega, Nat.add_mod_left])
    have hp := put_new (l := 1) (by decide) (cyc b (b.length + i + 1)) (by rw [cyc_len]; omega)
    rw [e, step3_m]
    unfold nextM
    rw [hno, on_no, if_pos (by rfl)]
    unfold lookM
    rw [et, ep, hp.2.2.2.1, cyc_len, if_neg (by omega), if_neg (by omega)]
    refine ⟨?_, ?_⟩
    · show (0 : Int) ≤ ((i + 1 : Nat) : Int)
      omega
    · show (4 : Int) ≤ min _ 40
      omega
theorem repeats (h4 : 4 ≤ b.length) (hM : M ≤ 64) (hd : distinctL b) (i : Nat) (h3 : 3 ≤ i) (hi : i < b.length) (ha : aloneL b i) : ∀ d, b.length + i + 1 + d ≤ M → 0 ≤ (came3 1 (cyc b (b.length + i + 1 + d))).m.a ∧ 4 ≤ (came3 1 (cyc b (b.length + i + 1 + d))).m.k
  | 0, h => begins h4 hM hd i h3 hi ha (by omega)
  | d + 1, h => by
    obtain ⟨g1, g2⟩ := repeats h4 hM hd i h3 hi ha d (by omega)
    obtain ⟨q1, q2⟩ := goes_on h4 hM hd (b.length + i + 1 + d) (by omega) g1
    exact ⟨q1, by show 4 ≤ (came3 1 (cyc b (b.length + i + 1 + d + 1))).m.k; rw [q2]; omega⟩
/-- In the end the next byte is expected. -/
theorem repeats_end (h4 : 4 ≤ b.length) (h20 : b.length ≤ 20) (more : Nat) (hmr : more ≤ 20) (hd : distinctL b) (i : Nat) (h3 : 3 ≤ i) (hi : i < b.length) (ha : aloneL b i) : let s := came3 1 (cyc b (2 * b.length + more)); exE s.m s.r = 0 ∧ exB s.m s.r = true ∧ exV s.m s.r = b.getD (more % b.length) 0 ∧ 4 ≤ s.m.k := by
  intro s
  obtain ⟨g1, g2⟩ := repeats (M := 2 * b.length + more) h4 (by omega) hd i h3 hi ha (b.length + more - i - 1) (by omega)
  rw [show b.length + i + 1 + (b.length + more - i - 1) = 2 * b.length + more by omega] at g1 g2
  obtain ⟨x0, x1, x2⟩ := ex_cyc (M := 2 * b.length + more) h4 (by omega) hd _ (Nat.le_refl _) g1
  refine ⟨x0, x1, ?_, g2⟩
  rw [x2, show 2 * b.length + more = b.length + (b.length + more) by omega, Nat.add_mod_left, Nat.add_mod_left]
end
end Go.Proofs.Ytemiecghdmagnaa.maP
