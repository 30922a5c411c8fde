/- Logarithms by digits: they grow, double, and add up but for a little. No program. -/
import Derived.Test.YtaehjhjbbkblbaaCostMath
namespace Go.Proofs.Ytaehjhjbbkblbaa.costP
open Go.RowKit Go.Proofs.Ytaehjhjbbkblbaa.encP

def LexLe (s t : Int × Int) : Prop := s.2 < t.2 ∨ s.2 = t.2 ∧ s.1 ≤ t.1
theorem lgStep_le {s t : Int × Int} (hs : 2147483648 ≤ s.1) (h : LexLe s t) : LexLe (lgStep s) (lgStep t) := by
  obtain ⟨x, l⟩ := s
  obtain ⟨y, m⟩ := t
  unfold LexLe lgStep at *
  simp only at h hs ⊢
  rcases h with h | ⟨rfl, h⟩
  · left
    split <;> split <;> simp only <;> omega
  · have q : x * x ≤ y * y := Int.mul_le_mul h h (by omega) (by omega)
    generalize x * x = a at *
    generalize y * y = b at *
    split <;> split
    all_goals first
    | exact .inr ⟨rfl, by dsimp only; omega⟩
    | exact .inl (by dsimp only; omega)
    | (exfalso; omega)
theorem lgIt_le {s t : Int × Int} (h1 : 2147483648 ≤ s.1) (h2 : s.1 < 4294967296) (h3 : 0 ≤ s.2) (h : LexLe s t) : ∀ k : Nat, LexLe (lgIt k s) (lgIt k t)
  | 0 => h
  | k + 1 => lgStep_le (lgIt_bd h1 h2 h3 (Int.lt_succ s.2) k).1 (lgIt_le h1 h2 h3 h k)
theorem hN_le {n m : Int} (h1 : 1 ≤ n) (h : n ≤ m) (h2 : m ≤ 4294967296) : hN n ≤ hN m := by
  obtain ⟨_, a, b, _⟩ := hN_spec (n := n) h1 (by omega)
  obtain ⟨_, c, d, _⟩ := hN_spec (n := m) (by omega) h2
  rcases Nat.lt_or_ge (hN m) (hN n) with x | x
  · have : (2 : Nat) ^ (hN m + 1) ≤ 2 ^ hN n := Nat.pow_le_pow_right (by omega) x
    have : (2 : Int) ^ (hN m + 1) ≤ 2 ^ hN n := by exact_mod_cast this
    omega
  · exact x
theorem lgR_le {n m : Int} (h1 : 1 ≤ n) (h : n ≤ m) (h2 : m ≤ 4294967296) : lgR n ≤ lgR m := by
  obtain ⟨a, b, c, _⟩ := lg0_bd h1 (by omega : n ≤ 4294967296)
  have hl := hN_le h1 h h2
  have h0 : LexLe (lg0 n) (lg0 m) := by
    rcases Nat.lt_or_ge (hN n) (hN m) with x | x
    · left; show (hN n : Int) < hN m; omega
    · right
      have e : hN n = hN m := by omega
      refine ⟨by show (hN n : Int) = hN m; rw [e], ?_⟩
      show n * 2147483648 / 2 ^ hN n ≤ m * 2147483648 / 2 ^ hN m
      rw [e]
      exact Int.ediv_le_ediv (Int.pow_pos (by omega)) (by omega)
  have := lgIt_le a b c h0 16
  unfold LexLe at this
  unfold lgR
  omega
theorem lgIt_add (x l c : Int) : ∀ k : Nat, lgIt k (x, l + c) = ((lgIt k (x, l)).1, (lgIt k (x, l)).2 + 2 ^ k * c)
  | 0 => by simp [lgIt]
  | k + 1 => by
    show lgStep (lgIt k (x, l + c)) = _
    rw [lgIt_add x l c k]
    show _ = ((lgStep (lgIt k (x, l))).1, (lgStep (lgIt k (x, l))).2 + 2 ^ (k + 1) * c)
    have e : (2 : Int) ^ (k + 1) * c = 2 * (2 ^ k * c) := by rw [Int.pow_succ, Int.mul_comm ((2 : Int) ^ k) 2, Int.mul_assoc]
    rw [e]
    unfold lgStep
    simp only
    split
    · exact Prod.ext rfl (by show 2 * ((lgIt k (x, l)).2 + 2 ^ k * c) + 1 = 2 * (lgIt k (x, l)).2 + 1 + 2 * (2 ^ k * c); omega)
    · exact Prod.ext rfl (by show 2 * ((lgIt k (x, l)).2 + 2 ^ k * c) = 2 * (lgIt k (x, l)).2 + 2 * (2 ^ k * c); omega)
theorem lgR_two {m : Int} (h1 : 1 ≤ m) (h2 : 2 * m ≤ 4294967296) : lgR (2 * m) = lgR m + 65536 := by
  obtain ⟨_, a, b, _⟩ := hN_spec (n := m) h1 (by omega)
  have p : (2 : Int) ^ (hN m + 1) = 2 * 2 ^ hN m := by rw [Int.pow_succ, Int.mul_comm]
  have e : hN (2 * m) = hN m + 1 := hN_eq (by omega) h2 (by omega) (by rw [Int.pow_succ]; omega)
  have e0 : lg0 (2 * m) = ((lg0 m).1, (lg0 m).2 + 1) := by
    refine Prod.ext ?_ ?_
    · show 2 * m * 2147483648 / 2 ^ hN (2 * m) = m * 2147483648 / 2 ^ hN m
      rw [e, p, Int.mul_assoc]
      exact Int.mul_ediv_mul_of_pos _ _ (by omega)
    · show ((hN (2 * m) : Nat) : Int) = (hN m : Int) + 1
      rw [e]; omega
  have := lgIt_add (lg0 m).1 (lg0 m).2 1 16
  unfold lgR
  rw [e0, this]
  show (lgIt 16 (lg0 m)).2 + 2 ^ 16 * 1 = (lgIt 16 (lg0 m)).2 + 65536
  have : (2 : Int) ^ 16 = 65536 := by decide
  omega
theorem lgR_mul {n m : Nat} (h1 : 1 ≤ n) (k1 : 1 ≤ m) (h : n * m ≤ 4294967296) : lgR ((n : Int) * m) ≤ lgR n + lgR m + 3 ∧ lgR n + lgR m - 1 ≤ lgR ((n : Int) * m) := by
  obtain ⟨p, p1, p2, all⟩ := lg_pow
  have hn : n ≤ 4294967296 := Nat.le_trans (Nat.le_mul_of_pos_right n k1) h
  have hm : m ≤ 4294967296 := Nat.le_trans (Nat.le_mul_of_pos_left m h1) h
  obtain ⟨a, ea, a1, a2⟩ := all n h1 hn
  obtain ⟨b, eb, b1, b2⟩ := all m k1 hm
  obtain ⟨c, ec, c1, c2⟩ := all (n * m) (Nat.mul_pos h1 k1) h
  rw [Int.natCast_mul] at ec
  rw [ea, eb, ec]
  rw [Nat.mul_pow] at c1 c2
  constructor
  · have h3 : n ^ p * m ^ p < 2 ^ (a + 2) * 2 ^ (b + 2) := Nat.mul_lt_mul'' a2 b2
    rw [← Nat.pow_add] at h3
    have := (Nat.pow_lt_pow_iff_right (by omega : 1 < 2)).1 (Nat.lt_of_le_of_lt c1 h3)
    omega
  · have h3 : 2 ^ a * 2 ^ b ≤ n ^ p * m ^ p := Nat.mul_le_mul a1 b1
    rw [← Nat.pow_add] at h3
    have := (Nat.pow_lt_pow_iff_right (by omega : 1 < 2)).1 (Nat.lt_of_le_of_lt h3 c2)
    omega
/-- Where a product is at most another one, but for a factor. -/
theorem lgR_near {A B C D : Nat} {e : Nat} (hA : 1 ≤ A ∧ A ≤ 4294967296) (hB : 1 ≤ B ∧ B ≤ 4294967296) (hC : 1 ≤ C ∧ C ≤ 4294967296) (hD : 1 ≤ D ∧ D ≤ 4294967296) (f : ∀ p : Nat, 1 ≤ p → p ≤ 65536 → (A * B) ^ p ≤ 2 ^ e * (C * D) ^ p) :
    lgR A + lgR B ≤ lgR C + lgR D + 3 + e := by
  obtain ⟨p, p1, p2, all⟩ := lg_pow
  obtain ⟨a, ea, a1, a2⟩ := all A hA.1 hA.2
  obtain ⟨b, eb, b1, b2⟩ := all B hB.1 hB.2
  obtain ⟨c, ec, c1, c2⟩ := all C hC.1 hC.2
  obtain ⟨d, ed, d1, d2⟩ := all D hD.1 hD.2
  rw [ea, eb, ec, ed]
  have h1 := f p p1 p2
  rw [Nat.mul_pow, Nat.mul_pow] at h1
  have h3 : 2 ^ a * 2 ^ b ≤ A ^ p * B ^ p := Nat.mul_le_mul a1 b1
  have h4 : C ^ p * D ^ p < 2 ^ (c + 2) * 2 ^ (d + 2) := Nat.mul_lt_mul'' c2 d2
  have h5 : 2 ^ e * (C ^ p * D ^ p) < 2 ^ e * (2 ^ (c + 2) * 2 ^ (d + 2)) := Nat.mul_lt_mul_of_pos_left h4 (Nat.two_pow_pos e)
  rw [← Nat.pow_add] at h3
  rw [← Nat.pow_add, ← Nat.pow_add] at h5
  have := (Nat.pow_lt_pow_iff_right (by omega : 1 < 2)).1 (Nat.lt_of_le_of_lt (Nat.le_trans h3 h1) h5)
  omega
end Go.Proofs.Ytaehjhjbbkblbaa.costP
