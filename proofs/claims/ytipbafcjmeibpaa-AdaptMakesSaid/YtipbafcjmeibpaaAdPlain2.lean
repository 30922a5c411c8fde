/- Plain arithmetic of adaptive maps: a step, a run. No program. -/
import Derived.Test.YtipbafcjmeibpaaAdPlain
namespace Go.Proofs.Ytipbafcjmeibpaa.adP
open Go.RowKit Go.Proofs.Ytipbafcjmeibpaa.cntP Go.Proofs.Ytipbafcjmeibpaa.stP Go.Proofs.Ytipbafcjmeibpaa.recipP

def zeroA : Ad := ⟨0, [], []⟩
def newOk (l : Int) : Bool := decide (1 ≤ l) && decide (l ≤ 1000)
def newA (l : Int) : Ad := ⟨l, List.replicate 193 32768, List.replicate 193 0⟩
def newE (l : Int) : Int := if newOk l then 0 else 2
def newR (l : Int) : Ad := if newOk l then newA l else zeroA
def tgt (b : Int) : Int := if b = 1 then 65535 else 0
def nNext (m : Ad) (s : Int) : Int := if m.n.getD s.toNat 0 + 1 ≤ m.l then m.n.getD s.toNat 0 + 1 else m.l
def pNext (m : Ad) (s b : Int) : Int := m.p.getD s.toNat 0 + quo (tgt b - m.p.getD s.toNat 0) (nNext m s + 1)
def mv (m : Ad) (s b : Int) : Ad := ⟨m.l, m.p.set s.toNat (pNext m s b), m.n.set s.toNat (nNext m s)⟩
def pV (m : Ad) (s : Int) : Int := if atE m s = 0 then m.p.getD s.toNat 0 else 0
def upE (m : Ad) (s b : Int) : Int := if atE m s = 0 then (if b ≤ 1 then 0 else 2) else atE m s
def upR (m : Ad) (s b : Int) : Ad := if upE m s b = 0 then mv m s b else zeroA
def ruE (m : Ad) (s : Int) (l : List Int) : Int := if atE m s = 0 then (if 20000 < l.length then 4 else if bitsB l then 0 else 2) else atE m s
def ruM (m : Ad) : Int → List Int → Ad
  | _, [] => m
  | s, b :: l => ruM (mv m s b) (sNext s b) l
def ruR (m : Ad) (s : Int) (l : List Int) : Ad := if ruE m s l = 0 then ruM m s l else zeroA
def ruS (m : Ad) (s : Int) (l : List Int) : Int := if ruE m s l = 0 then sRun s l else 0

theorem ruM_snoc : ∀ (l : List Int) (m : Ad) (s b : Int), ruM m s (l ++ [b]) = mv (ruM m s l) (sRun s l) b
  | [], _, _, _ => rfl
  | z :: l, m, s, b => by
    show ruM (mv m s z) (sNext s z) (l ++ [b]) = _
    rw [ruM_snoc l]; rfl
theorem ruM_app : ∀ (k l : List Int) (m : Ad) (s : Int), ruM m s (k ++ l) = ruM (ruM m s k) (sRun s k) l
  | [], _, _, _ => rfl
  | z :: k, l, m, s => by
    show ruM (mv m s z) (sNext s z) (k ++ l) = _
    rw [ruM_app k]; rfl
theorem newOk_iff (l : Int) : newOk l = true ↔ 1 ≤ l ∧ l ≤ 1000 := by simp [newOk]
theorem rep_get {n i : Nat} {x : Int} (h : i < n) : (List.replicate n x).getD i 0 = x := by simp [List.getD_eq_getElem?_getD, h]
theorem newA_ok {l : Int} (h : newOk l = true) : adOk (newA l) = true := by
  rw [newOk_iff] at h
  rw [adOk_iff]
  refine ⟨⟨h.1, h.2, List.length_replicate, List.length_replicate⟩, fun i hi => ?_⟩
  have e1 : (newA l).p.getD i 0 = 32768 := rep_get hi
  have e2 : (newA l).n.getD i 0 = 0 := rep_get hi
  rw [e1, e2]
  exact ⟨by omega, by omega, by show (0 : Int) ≤ l; omega⟩
theorem atE_zero (m : Ad) (s : Int) : atE m s = 0 ↔ adOk m = true ∧ s < 193 := by
  unfold atE; split
  · split <;> simp_all
  · simp_all
theorem getD_set_row (l : List Int) (i j : Nat) (x : Int) (hi : i < l.length) : (l.set i x).getD j 0 = if i = j then x else l.getD j 0 := by
  simp only [List.getD_eq_getElem?_getD, List.getElem?_set]
  by_cases c : i = j
  · subst c; simp [hi]
  · simp [c]
structure Fits (m : Ad) (s b : Int) : Prop where
  ok : adOk m = true
  s0 : 0 ≤ s
  s1 : s < 193
  bit : b = 0 ∨ b = 1
/-- All that a step needs to know of the place. -/
theorem place_bd {m : Ad} {s b : Int} (h : Fits m s b) : (0 ≤ m.p.getD s.toNat 0 ∧ m.p.getD s.toNat 0 ≤ 65535) ∧ (0 ≤ m.n.getD s.toNat 0 ∧ m.n.getD s.toNat 0 ≤ m.l) ∧ (1 ≤ m.l ∧ m.l ≤ 1000) ∧ (1 ≤ nNext m s ∧ nNext m s ≤ m.l) ∧ (0 ≤ pNext m s b ∧ pNext m s b ≤ 65535) ∧ (b = 1 → m.p.getD s.toNat 0 ≤ pNext m s b) ∧ (b = 0 → pNext m s b ≤ m.p.getD s.toNat 0 ∧ (m.p.getD s.toNat 0 = 0 ∨ pNext m s b < m.p.getD s.toNat 0)) := by
  obtain ⟨ha, h0, h1, hb⟩ := h
  rw [adOk_iff] at ha
  obtain ⟨⟨l1, l2, -, -⟩, hr⟩ := ha
  obtain ⟨⟨p1, p2⟩, n1, n2⟩ := hr s.toNat (by omega)
  have hn : 1 ≤ nNext m s ∧ nNext m s ≤ m.l := by unfold nNext; split <;> omega
  unfold pNext
  generalize m.p.getD s.toNat 0 = p at *
  generalize nNext m s = n at *
  have hq := quo_between (x := tgt b - p) (n := n + 1) (by omega) (by omega)
  refine ⟨⟨p1, p2⟩, ⟨n1, n2⟩, ⟨l1, l2⟩, hn, ?_⟩
  rcases hb with rfl | rfl
  · have ht : tgt 0 = 0 := rfl
    rw [ht] at hq ⊢
    by_cases c : p = 0
    · subst c
      have := hq.1 (by omega)
      omega
    · have := hq.2 (by omega)
      omega
  · have ht : tgt 1 = 65535 := rfl
    rw [ht] at hq ⊢
    have := hq.1 (by omega)
    omega
theorem mv_ok {m : Ad} {s b : Int} (h : Fits m s b) : adOk (mv m s b) = true := by
  obtain ⟨_, _, hl, hn, hp, _⟩ := place_bd h
  obtain ⟨ha, h0, h1, hb⟩ := h
  rw [adOk_iff] at *
  obtain ⟨⟨l1, l2, e1, e2⟩, hr⟩ := ha
  refine ⟨⟨l1, l2, by simp [mv, e1], by simp [mv, e2]⟩, fun i hi => ?_⟩
  have a := hr i hi
  show (0 ≤ (m.p.set s.toNat (pNext m s b)).getD i 0 ∧ (m.p.set s.toNat (pNext m s b)).getD i 0 ≤ 65535) ∧ 0 ≤ (m.n.set s.toNat (nNext m s)).getD i 0 ∧ (m.n.set s.toNat (nNext m s)).getD i 0 ≤ m.l
  rw [getD_set_row _ _ _ _ (by omega), getD_set_row _ _ _ _ (by omega)]
  split
  · exact ⟨hp, by omega, hn.2⟩
  · exact a
theorem sRun_bd : ∀ (l : List Int) {s : Int}, 0 ≤ s → s < 193 → (∀ z ∈ l, z = 0 ∨ z = 1) → 0 ≤ sRun s l ∧ sRun s l < 193
  | [], _, h1, h2, _ => ⟨h1, h2⟩
  | z :: l, s, h1, h2, hz => by
    have h := sNext_bd h1 h2 (hz z (by simp))
    exact sRun_bd l h.1 h.2 (fun y hy => hz y (by simp [hy]))
theorem ruM_ok : ∀ (l : List Int) {m : Ad} {s : Int}, adOk m = true → 0 ≤ s → s < 193 → (∀ z ∈ l, z = 0 ∨ z = 1) → adOk (ruM m s l) = true
  | [], _, _, h, _, _, _ => h
  | z :: l, m, s, h, h1, h2, hz => by
    have hb := hz z (by simp)
    have h3 := sNext_bd h1 h2 hb
    exact ruM_ok l (mv_ok ⟨h, h1, h2, hb⟩) h3.1 h3.2 (fun y hy => hz y (by simp [hy]))
theorem mv_l (m : Ad) (s b : Int) : (mv m s b).l = m.l := rfl
/-- A quotient times its divisor is off by less than two divisors. -/
theorem quo_off {x n : Int} (h1 : 1 ≤ n) (h3 : -65536 ≤ x) (h4 : x ≤ 65536) : x - 2 * n ≤ quo x n * n ∧ quo x n * n ≤ x + 2 * n := by
  have r := rc_spec h1
  have r2 : 65536 - n ≤ rc n * n := by rw [Int.add_mul, Int.one_mul] at r; omega
  have e : (x * rc n) * n = x * (rc n * n) := Int.mul_assoc _ _ _
  have q1 : quo x n * 65536 ≤ x * rc n := by unfold quo; omega
  have q2 : x * rc n ≤ (quo x n + 1) * 65536 := by unfold quo; omega
  have q1' : quo x n * 65536 * n ≤ x * rc n * n := Int.mul_le_mul_of_nonneg_right q1 (by omega)
  have q2' : x * rc n * n ≤ (quo x n + 1) * 65536 * n := Int.mul_le_mul_of_nonneg_right q2 (by omega)
  have f1 : quo x n * 65536 * n = quo x n * n * 65536 := by rw [Int.mul_assoc, Int.mul_comm 65536 n, ← Int.mul_assoc]
  have f2 : (quo x n + 1) * 65536 * n = (quo x n * n + n) * 65536 := by rw [Int.mul_assoc, Int.mul_comm 65536 n, ← Int.mul_assoc, Int.add_mul, Int.one_mul]
  have f3 : x * (65536 - n) = x * 65536 - x * n := by rw [Int.mul_sub]
  generalize quo x n * n = q at *
  have xn1 : x * n ≤ 65536 * n := Int.mul_le_mul_of_nonneg_right h4 (by omega)
  have xn2 : -65536 * n ≤ x * n := Int.mul_le_mul_of_nonneg_right h3 (by omega)
  by_cases c : 0 ≤ x
  · have e1 : x * (rc n * n) ≤ x * 65536 := Int.mul_le_mul_of_nonneg_left r.1 c
    have e2 : x * (65536 - n) ≤ x * (rc n * n) := Int.mul_le_mul_of_nonneg_left r2 c
    omega
  · have e1 : x * 65536 ≤ x * (rc n * n) := Int.mul_le_mul_of_nonpos_left (by omega) r.1
    have e2 : x * (rc n * n) ≤ x * (65536 - n) := Int.mul_le_mul_of_nonpos_left (by omega) r2
    omega
end Go.Proofs.Ytipbafcjmeibpaa.adP
