/- Plain arithmetic of adaptive maps: the mean. No program. -/
import Derived.Test.YtipbafcjmeibpaaAdPlain2
namespace Go.Proofs.Ytipbafcjmeibpaa.adP
open Go.RowKit Go.Proofs.Ytipbafcjmeibpaa.cntP Go.Proofs.Ytipbafcjmeibpaa.stP Go.Proofs.Ytipbafcjmeibpaa.recipP

/-- The map after the first bits of a list, all at one place. -/
def meM (m : Ad) (s : Int) (l : List Int) : Ad := l.foldl (fun m b => mv m s b) m
def ones (l : List Int) : Int := l.sum
theorem meM_snoc (m : Ad) (s b : Int) (l : List Int) : meM m s (l ++ [b]) = mv (meM m s l) s b := by simp [meM]
theorem ones_snoc (l : List Int) (b : Int) : ones (l ++ [b]) = ones l + b := by simp [ones]
theorem meM_ok : ∀ (l : List Int) {m : Ad} {s : Int}, adOk m = true → 0 ≤ s → s < 193 → (∀ z ∈ l, z = 0 ∨ z = 1) → adOk (meM m s l) = true
  | [], _, _, h, _, _, _ => h
  | z :: l, m, s, h, h1, h2, hz => meM_ok l (mv_ok ⟨h, h1, h2, hz z (by simp)⟩) h1 h2 (fun y hy => hz y (by simp [hy]))
theorem meM_l : ∀ (l : List Int) (m : Ad) (s : Int), (meM m s l).l = m.l
  | [], _, _ => rfl
  | z :: l, m, s => by show (meM (mv m s z) s l).l = m.l; rw [meM_l l]; rfl
theorem ones_bd : ∀ (l : List Int), (∀ z ∈ l, z = 0 ∨ z = 1) → 0 ≤ ones l ∧ ones l ≤ l.length
  | [], _ => by simp [ones]
  | z :: l, h => by
    have ih := ones_bd l (fun y hy => h y (by simp [hy]))
    have hz := h z (by simp)
    simp only [ones, List.sum_cons, List.length_cons] at *
    omega
theorem getD_set_same (l : List Int) (i : Nat) (x : Int) (h : i < l.length) : (l.set i x).getD i 0 = x := by rw [getD_set_row _ _ _ _ h, if_pos rfl]
theorem meM_len (l : List Int) {m : Ad} {s : Int} (h : adOk m = true) (h1 : 0 ≤ s) (h2 : s < 193) (hz : ∀ z ∈ l, z = 0 ∨ z = 1) : (meM m s l).p.length = 193 ∧ (meM m s l).n.length = 193 := by
  have := meM_ok l h h1 h2 hz
  rw [adOk_iff] at this
  exact ⟨this.1.2.2.1, this.1.2.2.2⟩
/-- What the statement says of the numbers, after the first k bits, as long as they are at most the limit. -/
structure Mean (lim : Int) (s : Int) (m : Ad) (k : Int) (o : Int) : Prop where
  n : m.n.getD s.toNat 0 = k
  a : m.p.getD s.toNat 0 * (k + 1) - 32768 - 65535 * o ≤ (k + 1) * (k + 2)
  b : -((k + 1) * (k + 2)) ≤ m.p.getD s.toNat 0 * (k + 1) - 32768 - 65535 * o
theorem mean_zero {lim s : Int} (h1 : 0 ≤ s) (h2 : s < 193) : Mean lim s (newA lim) 0 0 := by
  have e1 : (newA lim).p.getD s.toNat 0 = 32768 := rep_get (by omega)
  have e2 : (newA lim).n.getD s.toNat 0 = 0 := rep_get (by omega)
  exact ⟨e2, by rw [e1]; decide, by rw [e1]; decide⟩
theorem mean_step {lim s k o b : Int} {m : Ad} (F : Fits m s b) (hl : m.l = lim) (hk : 0 ≤ k) (hkl : k < lim) (h : Mean lim s m k o) : Mean lim s (mv m s b) (k + 1) (o + b) := by
  obtain ⟨hn, ha, hb⟩ := h
  have ok := F.ok
  rw [adOk_iff] at ok
  obtain ⟨⟨_, _, e1, e2⟩, hr⟩ := ok
  have s0 := F.s0
  have s1 := F.s1
  obtain ⟨⟨p1, p2⟩, _, _, _⟩ := place_bd F
  have en : nNext m s = k + 1 := by unfold nNext; rw [hn, if_pos (by omega)]
  have ep : (mv m s b).p.getD s.toNat 0 = pNext m s b := getD_set_same _ _ _ (by omega)
  have en2 : (mv m s b).n.getD s.toNat 0 = k + 1 := by rw [← en]; exact getD_set_same _ _ _ (by omega)
  have tb : 0 ≤ tgt b ∧ tgt b ≤ 65535 := by rcases F.bit with rfl | rfl <;> decide
  have hq := quo_off (x := tgt b - m.p.getD s.toNat 0) (n := k + 1 + 1) (by omega) (by omega) (by omega)
  have ht : tgt b = 65535 * b := by rcases F.bit with rfl | rfl <;> rfl
  have epv : pNext m s b = m.p.getD s.toNat 0 + quo (tgt b - m.p.getD s.toNat 0) (k + 1 + 1) := by unfold pNext; rw [en]
  rw [ht] at hq epv
  refine ⟨en2, ?_, ?_⟩
  all_goals
    rw [ep, epv]
    generalize m.p.getD s.toNat 0 = p at *
    generalize quo (65535 * b - p) (k + 1 + 1) = q at *
    have d1 : (p + q) * (k + 1 + 1) = p * (k + 1) + p + q * (k + 1 + 1) := by rw [Int.add_mul, Int.mul_add p (k + 1) 1, Int.mul_one]
    have d2 : (k + 1 + 1) * (k + 1 + 2) = (k + 1) * (k + 2) + 2 * (k + 1 + 1) := by
      rw [show k + 1 + 2 = k + 3 by omega, show k + 1 + 1 = k + 2 by omega]
      rw [Int.mul_add, Int.add_mul, Int.mul_add, Int.add_mul, Int.add_mul]; omega
    rw [d1, d2]
    generalize p * (k + 1) = u at *
    generalize q * (k + 1 + 1) = v at *
    generalize (k + 1) * (k + 2) = y at *
    omega
end Go.Proofs.Ytipbafcjmeibpaa.adP
