/- Plain arithmetic of bounded counts of bits: what the statements say. No program. -/
import Derived.Test.YtkklmclnjmafaaaCntPlain
namespace Go.Proofs.Ytkklmclnjmafaaa.cntP
set_option maxRecDepth 100000
open Go.RowKit
theorem more_pos {n : Int} (h : 0 ≤ n) : 1 ≤ more n := by unfold more; split <;> omega
theorem turn_a {c : Cnt} (h : ok c = true) : (turn c).a = c.b ∧ (turn c).b = c.a := by
  obtain ⟨a, b, l⟩ := c
  unfold turn
  split
  · rename_i hz
    simp [isZero] at hz
    obtain ⟨⟨rfl, rfl⟩, rfl⟩ := hz
    exact ⟨rfl, rfl⟩
  · exact ⟨rfl, rfl⟩
theorem nx_turn {c : Cnt} {z : Int} (h : ok c = true) (hz : z = 0 ∨ z = 1) : nx (turn c) (1 - z) = turn (nx c z) := by
  have bd := ok_bd h
  obtain ⟨ta, tb⟩ := turn_a h
  rcases hz with rfl | rfl
  · have m := more_pos bd.1
    have e1 : nx (turn c) (1 - 0) = ⟨shr (turn c).a, more (turn c).b, 1⟩ := rfl
    have e2 : nx c 0 = ⟨more c.a, shr c.b, 0⟩ := rfl
    rw [e1, e2, ta, tb]
    unfold turn
    rw [if_neg]
    · rfl
    · simp [isZero]; omega
  · have m := more_pos bd.2.2.1
    have e1 : nx (turn c) (1 - 1) = ⟨more (turn c).a, shr (turn c).b, 0⟩ := rfl
    have e2 : nx c 1 = ⟨shr c.a, more c.b, 1⟩ := rfl
    rw [e1, e2, ta, tb]
    unfold turn
    rw [if_neg]
    · rfl
    · simp [isZero]
theorem turn_turn {c : Cnt} (h : ok c = true) : turn (turn c) = c := by
  obtain ⟨a, b, l⟩ := c
  have hi := (ok_iff _).1 h
  simp only at hi
  by_cases hz : isZero ⟨a, b, l⟩ = true
  · simp [turn, hz]
  · have e : turn ⟨a, b, l⟩ = ⟨b, a, 1 - l⟩ := by simp [turn, hz]
    rw [e]
    simp [isZero] at hz
    by_cases h2 : isZero ⟨b, a, 1 - l⟩ = true
    · simp [isZero] at h2
      obtain ⟨⟨rfl, rfl⟩, h3⟩ := h2
      omega
    · simp [turn, h2]; omega
theorem run_turn : ∀ (l : List Int) {c : Cnt}, ok c = true → (∀ z ∈ l, z = 0 ∨ z = 1) → run (turn c) (l.map (1 - ·)) = turn (run c l)
  | [], _, _, _ => rfl
  | z :: l, c, h, hz => by
    have hz0 := hz z (by simp)
    show run (nx (turn c) (1 - z)) (l.map (1 - ·)) = turn (run (nx c z) l)
    rw [nx_turn h hz0]
    exact run_turn l (nx_ok h hz0) fun y hy => hz y (by simp [hy])
theorem run_append (c : Cnt) (l m : List Int) : run (run c l) m = run c (l ++ m) := by simp [run]
theorem run_cut (c : Cnt) (l : List Int) (k : Nat) : run (run c (l.take k)) (l.drop k) = run c l := by rw [run_append, List.take_append_drop]
/-- What n equal bits make of a number that grows, and of the other one. -/
def growTo (a : Int) (n : Nat) : Int := if a + n ≤ 12 then a + n else 12
def shrN : Nat → Int → Int
  | 0, b => b
  | n + 1, b => shr (shrN n b)
theorem run_zeros (c : Cnt) (h : c.a ≤ 12) : ∀ n : Nat, (run c (List.replicate n 0)).a = growTo c.a n ∧ (run c (List.replicate n 0)).b = shrN n c.b ∧ (1 ≤ n → (run c (List.replicate n 0)).l = 0)
  | 0 => by simp [run, growTo, shrN]; omega
  | n + 1 => by
    obtain ⟨h1, h2, _⟩ := run_zeros c h n
    rw [List.replicate_succ', run_snoc]
    have e : nx (run c (List.replicate n 0)) 0 = ⟨more (run c (List.replicate n 0)).a, shr (run c (List.replicate n 0)).b, 0⟩ := rfl
    rw [e, h1, h2]
    refine ⟨?_, rfl, fun _ => rfl⟩
    show more (growTo c.a n) = growTo c.a (n + 1)
    unfold more growTo
    simp only [Int.natCast_add, Int.cast_ofNat_Int]
    split <;> split <;> (try split) <;> omega
theorem run_ones (c : Cnt) (h : c.b ≤ 12) : ∀ n : Nat, (run c (List.replicate n 1)).b = growTo c.b n ∧ (run c (List.replicate n 1)).a = shrN n c.a ∧ (1 ≤ n → (run c (List.replicate n 1)).l = 1)
  | 0 => by simp [run, growTo, shrN]; omega
  | n + 1 => by
    obtain ⟨h1, h2, _⟩ := run_ones c h n
    rw [List.replicate_succ', run_snoc]
    have e : nx (run c (List.replicate n 1)) 1 = ⟨shr (run c (List.replicate n 1)).a, more (run c (List.replicate n 1)).b, 1⟩ := rfl
    rw [e, h1, h2]
    refine ⟨?_, rfl, fun _ => rfl⟩
    show more (growTo c.b n) = growTo c.b (n + 1)
    unfold more growTo
    simp only [Int.natCast_add, Int.cast_ofNat_Int]
    split <;> split <;> (try split) <;> omega
theorem shr_le {n m : Int} (h : n ≤ m) : shr n ≤ shr m := by unfold shr; split <;> split <;> omega
theorem shrN_le : ∀ (k : Nat) {b m : Int}, b ≤ m → shrN k b ≤ shrN k m
  | 0, _, _, h => h
  | k + 1, _, _, h => shr_le (shrN_le k h)
theorem shrN_two : ∀ k : Nat, shrN k 2 = 2
  | 0 => rfl
  | k + 1 => by show shr (shrN k 2) = 2; rw [shrN_two k]; rfl
theorem shrN_add (b : Int) : ∀ j k : Nat, shrN (j + k) b = shrN k (shrN j b)
  | _, 0 => rfl
  | j, k + 1 => by show shr (shrN (j + k) b) = shr (shrN k (shrN j b)); rw [shrN_add b j k]
theorem shrN_four {b : Int} {n : Nat} (hb : b ≤ 12) (hn : 4 ≤ n) : shrN n b ≤ 2 := by
  have e : n = 4 + (n - 4) := by omega
  rw [e, shrN_add]
  have h4 : shrN 4 b ≤ shrN 4 12 := shrN_le 4 hb
  have h5 : shrN 4 12 = 2 := by decide
  rw [h5] at h4
  have := shrN_le (n - 4) h4
  rwa [shrN_two] at this
end Go.Proofs.Ytkklmclnjmafaaa.cntP
