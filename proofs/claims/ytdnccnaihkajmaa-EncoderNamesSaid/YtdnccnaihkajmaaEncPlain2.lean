/- Plain arithmetic of giving bytes out. No program. -/
import Derived.Test.YtdnccnaihkajmaaEncPlain
namespace Go.Proofs.Ytdnccnaihkajmaa.encP
open Go.RowKit

/-- How many bytes of a range are given out (at most f). -/
def rounds : Nat → Int → Int → Nat
  | 0, _, _ => 0
  | f + 1, a, b => if a / 16777216 = b / 16777216 then rounds f (a * 256 % 4294967296) (b * 256 % 4294967296 + 255) + 1 else 0
/-- The range behind them, and the bytes. -/
def given : Nat → Int → Int → Int × Int × List Int
  | 0, a, b => (a, b, [])
  | f + 1, a, b =>
    if a / 16777216 = b / 16777216 then
      let r := given f (a * 256 % 4294967296) (b * 256 % 4294967296 + 255)
      (r.1, r.2.1, a / 16777216 :: r.2.2)
    else (a, b, [])
theorem step_bd {a b : Int} (h0 : 0 ≤ a) (h : a ≤ b) (h1 : b ≤ 4294967295) (e : a / 16777216 = b / 16777216) :
    0 ≤ a * 256 % 4294967296 ∧ b * 256 % 4294967296 + 255 ≤ 4294967295 ∧ (b * 256 % 4294967296 + 255) - a * 256 % 4294967296 = (b - a) * 256 + 255 ∧ 0 ≤ a / 16777216 ∧ a / 16777216 ≤ 255 := by omega
/-- .. and ends with two numbers of different first bytes. -/
theorem given_ok : ∀ (f : Nat) (a b : Int), f ≤ 4 → 0 ≤ a → a ≤ b → b ≤ 4294967295 → (256 : Int) ^ (4 - f) - 1 ≤ b - a →
    0 ≤ (given f a b).1 ∧ (given f a b).1 < (given f a b).2.1 ∧ (given f a b).2.1 ≤ 4294967295 ∧ (given f a b).1 / 16777216 ≠ (given f a b).2.1 / 16777216 ∧ (given f a b).2.2.length = rounds f a b ∧ rounds f a b ≤ f ∧ (∀ z ∈ (given f a b).2.2, 0 ≤ z ∧ z ≤ 255)
  | 0, a, b, _, h0, h, h1, hd => by
    have : (256 : Int) ^ (4 - 0) = 4294967296 := by decide
    rw [this] at hd
    simp only [given, rounds]
    refine ⟨h0, by omega, h1, by omega, rfl, Nat.le_refl _, by simp⟩
  | f + 1, a, b, hf, h0, h, h1, hd => by
    by_cases e : a / 16777216 = b / 16777216
    · obtain ⟨s1, s2, s3, s4, s5⟩ := step_bd h0 h h1 e
      have hp : (256 : Int) ^ (4 - f) = 256 ^ (4 - (f + 1)) * 256 := by rw [← Int.pow_succ]; congr 1; omega
      have ih := given_ok f (a * 256 % 4294967296) (b * 256 % 4294967296 + 255) (by omega) s1 (by omega) s2 (by rw [s3, hp]; omega)
      simp only [given, rounds, if_pos e]
      obtain ⟨i1, i2, i3, i4, i5, i6, i7⟩ := ih
      refine ⟨i1, i2, i3, i4, by simp [i5], by omega, ?_⟩
      intro z hz
      rcases List.mem_cons.1 hz with rfl | hz
      · exact ⟨s4, s5⟩
      · exact i7 z hz
    · simp only [given, rounds, if_neg e]
      refine ⟨h0, by omega, h1, e, rfl, by omega, by simp⟩
end Go.Proofs.Ytdnccnaihkajmaa.encP
