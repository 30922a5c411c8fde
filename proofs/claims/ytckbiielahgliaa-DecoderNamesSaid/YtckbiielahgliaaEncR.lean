/- What the reference's Did, Put, Ended and End return, by walks. -/
import Derived.Test.YtckbiielahgliaaEncW3
import Derived.Deep.RegionHeld3
namespace Go.Proofs.Ytckbiielahgliaa.encW
open Go.RowKit Go.Proofs.Ytckbiielahgliaa.base Go.Proofs.Ytckbiielahgliaa.encP
set_option linter.unusedVariables false
set_option linter.unusedSimpArgs false

/-- What holds ahead of a round: what is left to give out. -/
def DidAt (g B : Nat) (a0 b0 : Int) (zs : List Int) (w' : World) : Prop :=
  ∃ (y1 y2 : Int) (A : Option Addr) (c : Nat) (ys : List Int) (f : Nat), (Lies (w') (g) 58 [.int .u32 (y1), .int .u32 (y2), .slice (A) (ys.length) (c)]) ∧ OwnZ w' B (.slice A ys.length c) ys ∧
    f ≤ 4 ∧ 0 ≤ y1 ∧ y1 ≤ y2 ∧ y2 ≤ 4294967295 ∧ (256 : Int) ^ (4 - f) - 1 ≤ y2 - y1 ∧
    (given f y1 y2).1 = (given 4 a0 b0).1 ∧ (given f y1 y2).2.1 = (given 4 a0 b0).2.1 ∧ ys ++ (given f y1 y2).2.2 = zs ++ (given 4 a0 b0).2.2
theorem did_step {g B f : Nat} {a0 b0 y1 y2 : Int} {zs ys : List Int} {w5 : World} {Ak A5 : Option Addr} {ck c5 : Nat} (K5 : Lies (w5) (g) 58 [.int .u32 (y1), .int .u32 (y2), .slice (Ak) (ys.length) (ck)]) (O5 : OwnZ w5 B (.slice A5 (ys.length + 1) c5) (ys ++ [y1 / 16777216]))
    (f4 : f ≤ 4) (c1 : 0 ≤ y1) (c2 : y1 ≤ y2) (c3 : y2 ≤ 4294967295) (c4 : (256 : Int) ^ (4 - f) - 1 ≤ y2 - y1) (c6 : (given f y1 y2).1 = (given 4 a0 b0).1) (c7 : (given f y1 y2).2.1 = (given 4 a0 b0).2.1) (c8 : ys ++ (given f y1 y2).2.2 = zs ++ (given 4 a0 b0).2.2) (e : y1 / 16777216 = y2 / 16777216) :
    DidAt g B a0 b0 zs (((w5.setCell ⟨g, 2, none⟩ (.slice A5 (ys.length + 1) c5)).setCell ⟨g, 0, none⟩ (.int .u32 (y1 * 256 % 4294967296))).setCell ⟨g, 1, none⟩ (.int .u32 (y2 * 256 % 4294967296 + 255))) := by
  obtain ⟨f', rfl⟩ : ∃ f', f = f' + 1 := by
    cases f with
    | zero => exact absurd c4 (by have : (256 : Int) ^ (4 - 0) = 4294967296 := by decide
                                  rw [this]; omega)
    | succ f' => exact ⟨f', rfl⟩
  obtain ⟨s1, s2, s3, s4, s5⟩ := step_bd c1 c2 c3 e
  have G : given (f' + 1) y1 y2 = ((given f' (y1 * 256 % 4294967296) (y2 * 256 % 4294967296 + 255)).1, (given f' (y1 * 256 % 4294967296) (y2 * 256 % 4294967296 + 255)).2.1, y1 / 16777216 :: (given f' (y1 * 256 % 4294967296) (y2 * 256 % 4294967296 + 255)).2.2) := by rw [given, if_pos e]
  rw [G] at c6 c7 c8
  have hw : (256 : Int) ^ (4 - f') = 256 ^ (4 - (f' + 1)) * 256 := by rw [← Int.pow_succ]; congr 1; omega
  have hl : ys.length + 1 = (ys ++ [y1 / 16777216]).length := by simp
  refine ⟨_, _, A5, c5, ys ++ [y1 / 16777216], f', ?_, ?_, by omega, s1, by omega, s2, ?_, c6, c7, ?_⟩
  · rw [hl]
    exact ((K5.set 2 _).set 0 _).set 1 _
  · rw [← hl]
    exact ((O5.other K5 (by decide) _ _).other (K5.set 2 _) (by decide) _ _).other ((K5.set 2 _).set 0 _) (by decide) _ _
  · rw [s3, hw]; omega
  · rw [List.append_assoc, ← c8]; rfl
theorem given_len {a b : Int} (h1 : 0 ≤ a) (h2 : a ≤ b) (h3 : b ≤ 4294967295) : (given 4 a b).2.2.length ≤ 4 := by
  have e4 : (256 : Int) ^ (4 - 4) = 1 := by decide
  obtain ⟨k1, k2, k3, k4, k5, k6, k7⟩ := given_ok 4 a b (by omega) h1 h2 h3 (by rw [e4]; omega)
  omega
end Go.Proofs.Ytckbiielahgliaa.encW
