/- What is written and read back: plain facts. -/
import Derived.Test.YthdgoahfhcoccaaOcL2
import Derived.Test.YthdgoahfhcoccaaOcL1
import Derived.Test.YthdgoahfhcoccaaOcW9
import Derived.Test.YthdgoahfhcoccaaOcWa
namespace Go.Proofs.Ythdgoahfhcoccaa.ocL
open Go.RowKit Go.Proofs.Ythdgoahfhcoccaa.base Go.Proofs.Ythdgoahfhcoccaa.ocP Go.Proofs.Ythdgoahfhcoccaa.ocW
set_option linter.unusedVariables false
set_option linter.unusedSimpArgs false

theorem valB_digs_k {x : Int} {q : Nat} (h1 : 0 ≤ x) (h2 : x < 256 ^ q) : ∀ k, k ≤ q → valB ((digs x q).take k) = x / 256 ^ (q - k)
  | 0, _ => by simp [valB]; rw [Int.ediv_eq_zero_of_lt h1 h2]
  | k + 1, h => by
    have ih := valB_digs_k h1 h2 k (by omega)
    rw [valB_take (by rw [digs_len]; omega), ih, digs_get (by omega), pw (show k < q by omega), ← Int.ediv_ediv_of_nonneg (Int.le_of_lt (pw_pos _)), show q - (k + 1) = q - 1 - k by omega]
    generalize x / 256 ^ (q - 1 - k) = u
    omega
theorem valB_digs {x : Int} {q : Nat} (h1 : 0 ≤ x) (h2 : x < 256 ^ q) : valB (digs x q) = x := by
  have h := valB_digs_k h1 h2 q (Nat.le_refl _)
  rw [List.take_of_length_le (by rw [digs_len]; exact Nat.le_refl _), Nat.sub_self] at h
  simpa using h
def bB (x : Int) (s r : List Int) (q : Nat) : List Int := digs x q ++ (digs s.length q ++ s) ++ r
theorem bB_len (x : Int) (s r : List Int) (q : Nat) : (bB x s r q).length = q + (q + s.length) + r.length := by simp [bB, digs_len]; omega
theorem bB_b {x : Int} {s r : List Int} {q : Nat} (hs : ∀ z ∈ s, 0 ≤ z ∧ z ≤ 255) (hr : ∀ z ∈ r, 0 ≤ z ∧ z ≤ 255) : ∀ z ∈ bB x s r q, 0 ≤ z ∧ z ≤ 255 := by
  intro z hz
  unfold bB at hz
  simp only [List.mem_append] at hz
  rcases hz with (h | h | h) | h
  · exact digs_b _ _ z h
  · exact digs_b _ _ z h
  · exact hs z h
  · exact hr z h
theorem bB_0 (x : Int) (s r : List Int) (q : Nat) : ((bB x s r q).drop 0).take q = digs x q := by
  rw [List.drop_zero, bB, List.append_assoc, List.take_left' (digs_len x q)]
theorem bB_1 (x : Int) (s r : List Int) (q : Nat) : ((bB x s r q).drop q).take q = digs s.length q := by
  rw [bB, List.append_assoc, List.drop_left' (digs_len x q), List.append_assoc, List.take_left' (digs_len _ q)]
theorem bB_2 (x : Int) (s r : List Int) (q : Nat) : ((bB x s r q).drop (q + q)).take s.length = s := by
  rw [show bB x s r q = (digs x q ++ digs s.length q) ++ (s ++ r) by simp [bB], List.drop_left' (by simp [digs_len]), List.take_left' rfl]
theorem bB_3 (x : Int) (s r : List Int) (q : Nat) : ((bB x s r q).drop (q + (q + s.length))).take r.length = r := by
  rw [bB, List.drop_left' (by simp [digs_len]), List.take_of_length_le (Nat.le_refl _)]
theorem back_facts {x : Int} {s r : List Int} {q : Nat} {B : List Int} (hB : bB x s r q = B) (q1 : 1 ≤ q) (q2 : q ≤ 8) (x1 : 0 ≤ x) (x2 : x < 256 ^ q) (sl : s.length ≤ 900) (rl : r.length ≤ 900) (sq : (s.length : Int) < 256 ^ q) :
    newE B = 0 ∧ newB B = B ∧ rdE ⟨B, 0⟩ q x = 0 ∧ rdN ⟨B, 0⟩ q x = x ∧ rdC ⟨B, 0⟩ q x = ⟨B, q⟩ ∧
    rsE ⟨B, q⟩ q s.length = 0 ∧ rsC ⟨B, q⟩ q s.length = ⟨B, q + (q + s.length)⟩ ∧ rsV ⟨B, q⟩ q s.length = s ∧
    cuE ⟨B, q + (q + s.length)⟩ = 0 ∧ leftV ⟨B, q + (q + s.length)⟩ = r.length ∧
    tkE ⟨B, q + (q + s.length)⟩ r.length = 0 ∧ tkC ⟨B, q + (q + s.length)⟩ r.length = ⟨B, q + (q + s.length) + r.length⟩ ∧ tkV ⟨B, q + (q + s.length)⟩ r.length = r := by
  have hl : B.length = q + (q + s.length) + r.length := by rw [← hB, bB_len]
  have c0 : cuB ⟨B, 0⟩ = true := (cuB_iff _).2 ⟨by show B.length ≤ 50000; omega, by show (0 : Int) ≤ 0; omega, by show (0 : Int) ≤ (B.length : Int); omega⟩
  have c1 : cuB ⟨B, q⟩ = true := (cuB_iff _).2 ⟨by show B.length ≤ 50000; omega, by show (0 : Int) ≤ q; omega, by show (q : Int) ≤ (B.length : Int); omega⟩
  have c2 : cuB ⟨B, q + (q + s.length)⟩ = true := (cuB_iff _).2 ⟨by show B.length ≤ 50000; omega, by show (0 : Int) ≤ q + (q + s.length); omega, by show (q : Int) + (q + s.length) ≤ (B.length : Int); omega⟩
  have hw : wdB q = true := (wdB_iff _).2 (by omega)
  have v0 : rdV ⟨B, 0⟩ q = x := by
    show valB ((B.drop 0).take q) = x
    rw [← hB, bB_0, valB_digs x1 x2]
  have v1 : rdV ⟨B, q⟩ q = s.length := by
    show valB ((B.drop q).take q) = s.length
    rw [← hB, bB_1, valB_digs (by omega) sq]
  have e0 : rdE ⟨B, 0⟩ q x = 0 := by
    rw [rdE, if_pos c0, if_pos hw, pkE, if_pos (by show (q : Int) ≤ (B.length : Int) - 0; omega), v0, if_pos (Int.le_refl _)]
  have p1 : pkE ⟨B, q⟩ q s.length = 0 := by
    rw [pkE, if_pos (by show (q : Int) ≤ (B.length : Int) - q; omega), v1, if_pos (Int.le_refl _)]
  have e1 : rsE ⟨B, q⟩ q s.length = 0 := by
    rw [rsE, if_pos c1, if_pos ⟨hw, by omega⟩, if_pos p1, v1, if_pos (by show (s.length : Int) ≤ (B.length : Int) - q - q; omega)]
  have e2 : tkE ⟨B, q + (q + s.length)⟩ r.length = 0 := by
    rw [tkE, if_pos c2, if_pos (by omega), if_pos (by show (r.length : Int) ≤ (B.length : Int) - (q + (q + s.length)); omega)]
  refine ⟨by rw [newE, if_pos (by omega)], by rw [newB, if_pos (by omega)], e0, by rw [rdN, if_pos e0, v0], by rw [rdC, if_pos e0]; simp, e1, by rw [rsC, if_pos e1, v1], ?_, by rw [cuE, if_pos c2], ?_, e2, by rw [tkC, if_pos e2], ?_⟩
  · rw [rsV, if_pos e1, v1, Int.toNat_natCast, show ((⟨B, q⟩ : Cu).a + (q : Int)).toNat = q + q by show ((q : Int) + q).toNat = q + q; omega, ← hB]
    exact bB_2 x s r q
  · rw [leftV, if_pos c2]; show (B.length : Int) - (q + (q + s.length)) = r.length; omega
  · rw [tkV, if_pos e2, Int.toNat_natCast, show ((⟨B, q + (q + s.length)⟩ : Cu).a).toNat = q + (q + s.length) by show ((q : Int) + (q + s.length)).toNat = q + (q + s.length); omega, ← hB]
    exact bB_3 x s r q
theorem num_out {x l : Int} {q : Nat} (hl : l = q) (q1 : 1 ≤ q) (q2 : q ≤ 8) : (numE x l = if x < 256 ^ q then 0 else 16) := by
  subst hl
  have hw : wdB q = true := (wdB_iff _).2 (by omega)
  rw [numE, if_pos hw, Int.toNat_natCast]
theorem fits_iff {x : Int} (q : Nat) (h : 0 ≤ x) : (x / 256 ^ q == 0) = decide (x < 256 ^ q) := by
  by_cases c : x < 256 ^ q
  · rw [decide_eq_true c, Int.ediv_eq_zero_of_lt h c]; rfl
  · rw [decide_eq_false c]
    have : 1 ≤ x / 256 ^ q := (Int.le_ediv_iff_mul_le (pw_pos q)).2 (by omega)
    simp; omega
theorem short_out {s q : Nat} (q1 : 1 ≤ q) (h : ¬ (s : Int) < 256 ^ q) (hs : s ≤ 900) : q = 1 ∧ 255 < s := by
  have h1 : q = 1 := by
    rcases Nat.lt_or_ge q 2 with h2 | h2
    · omega
    · exfalso
      apply h
      have e : (256 : Int) ^ q = 65536 * 256 ^ (q - 2) := by rw [show q = 2 + (q - 2) by omega, Int.pow_add]; simp
      have h3 := pw_pos (q - 2)
      rw [e]
      omega
  subst h1
  exact ⟨rfl, by omega⟩
theorem digs_zero (q : Nat) : digs 0 q = List.replicate q 0 := by
  unfold digs
  apply List.ext_getElem
  · simp
  · intro i h1 h2; simp
end Go.Proofs.Ythdgoahfhcoccaa.ocL
