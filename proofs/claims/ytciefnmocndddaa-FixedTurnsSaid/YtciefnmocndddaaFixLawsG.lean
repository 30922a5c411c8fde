/- FixedTurns: dot products, turned, for all arguments. -/
import Derived.Test.YtciefnmocndddaaFixLawsD
import Derived.Test.YtciefnmocndddaaFixLawsE
import Derived.Test.YtciefnmocndddaaFixLawsF
import Derived.Test.YtciefnmocndddaaFixLawsF2
namespace Go.Proofs.Ytciefnmocndddaa.fixL
open Go.RowKit Go.Proofs.Ytciefnmocndddaa.base Go.Proofs.Ytciefnmocndddaa.fixP Go.Proofs.Ytciefnmocndddaa.fixW
set_option linter.unusedVariables false

theorem turns_out (A B : Option Addr) (n m c1 c2 : Nat) (t : Int) (w : World) (h : 15 < n ∨ n ≤ 15 ∧ ((m : Int) != (n : Int)) = true ∨ n ≤ 15 ∧ m = n ∧ t < 0 ∨ n ≤ 15 ∧ m = n ∧ 0 ≤ t ∧ (n : Int) < t) :
    Calls Try.prog 8 #[.slice A n c1, .slice B m c2, .int .i64 t] w fun e w' => e = .returned (.bool true) ∧ Below w.heap.size w w' := by
  have acc := Below.refl w.heap.size w
  rcases h with h | ⟨h0, h⟩ | ⟨h0, rfl, h⟩ | ⟨h0, rfl, h, h1⟩
  all_goals
    go_enter Try.func8, Try.ntmps8
    go_wp2_with (first | (go_at_call 18; refine (alive _).mono ?_; rintro e w' ⟨rfl, hb⟩; replace acc := acc.trans (hb.mono acc.size); clear hb))
    go_ret
    exact ⟨rfl, acc⟩
/-- A slice that came in: its parts. -/
theorem parts_of {w : World} {A : Option Addr} {N c n : Nat} {xs : List Int} (h : Has .i32 w A xs) (hl : xs.length = N) (hr : A = none → N = 0 ∧ c = 0) (hn : n ≤ N) (hc : N ≤ c) :
    (∃ b o, A = some ⟨b, o, none⟩ ∧ ¬ c = n ∧ Has .i32 w (some ⟨b, o + n, none⟩) (xs.drop n)) ∨ (∃ x, A = some x ∧ c = n ∧ Has .i32 w (some x) (xs.drop n)) ∨ (A = none ∧ N = 0 ∧ n = 0 ∧ c = 0) ∨ (∃ x, A = some x ∧ ¬ c = n ∧ N = 0 ∧ ∀ b o, x ≠ ⟨b, o, none⟩) := by
  rcases A with _ | ⟨b, o, sp⟩
  · obtain ⟨e1, e2⟩ := hr rfl
    exact .inr (.inr (.inl ⟨rfl, e1, by omega, e2⟩))
  · by_cases e : c = n
    · exact .inr (.inl ⟨_, rfl, e, .inl (List.drop_eq_nil_of_le (by omega))⟩)
    · cases sp with
      | none => exact .inl ⟨b, o, rfl, e, h.dropAt n⟩
      | some p =>
        rcases h with h0 | ⟨b', o', he, _⟩
        · exact .inr (.inr (.inr ⟨_, rfl, e, by rw [h0] at hl; simpa using hl.symm, fun b' o' hh => by injection hh with _ _ h3; cases h3⟩))
        · injection he with he
          injection he with _ _ h3
          cases h3
theorem row_spot {w : World} {A : Option Addr} {n c : Nat} {zs : List Int} (h : IsRow .i32 w A n c zs) : (A = none → n = 0 ∧ c = 0) ∧ n ≤ c ∧ c ≤ maxLen ∧ ∀ x, A = some x → c ≠ 0 → x.spot = none := by
  rcases h with ⟨rfl, rfl, rfl, rfl⟩ | ⟨x, rfl, hl, hm, hz, hc, _⟩
  · exact ⟨fun _ => ⟨rfl, rfl⟩, Nat.le_refl _, Nat.zero_le _, fun x hx => by cases hx⟩
  · refine ⟨fun h => (by cases h), hl, hm, fun y hy h0 => ?_⟩
    injection hy with hy
    subst hy
    have h0 := hc 0 (by omega)
    simpa [Addr.add] using World.cell?_spot h0
theorem turns (A : Option Addr) (n c1 : Nat) (z1 : List Int) (B : Option Addr) (m c2 : Nat) (z2 : List Int) (t : Int) (w : World) (r1 : IsRow .i32 w A n c1 z1) (r2 : IsRow .i32 w B m c2 z2) (_ : -9223372036854775808 ≤ t) (_ : t ≤ 9223372036854775807) :
    Calls Try.prog 8 #[.slice A n c1, .slice B m c2, .int .i64 t] w fun e w' => e = .returned (.bool true) ∧ Below w.heap.size w w' := by
  obtain ⟨hA, lA, _, wA⟩ := has_of_row r1
  obtain ⟨hB, lB, _, wB⟩ := has_of_row r2
  obtain ⟨nA, cA, mA, sA⟩ := row_spot r1
  obtain ⟨nB, cB, mB, sB⟩ := row_spot r2
  unfold maxLen at mA mB
  by_cases h0 : 15 < n ∨ n ≤ 15 ∧ ((m : Int) != (n : Int)) = true ∨ n ≤ 15 ∧ m = n ∧ t < 0 ∨ n ≤ 15 ∧ m = n ∧ 0 ≤ t ∧ (n : Int) < t
  · exact turns_out A B n m c1 c2 t w h0
  · obtain rfl : m = n := by
      have : ¬ ((m : Int) != (n : Int)) = true := fun h => h0 (.inr (.inl ⟨by omega, h⟩))
      simp at this; omega
    obtain ⟨k, rfl⟩ : ∃ k : Nat, t = k := ⟨t.toNat, by omega⟩
    have hk : k ≤ m := by omega
    have h16 : m ≤ 15 := by omega
    have X := wf32 wA
    have Y := wf32 wB
    generalize z1.take m = xs at *
    generalize z2.take m = ys at *
    rcases parts_of hA lA nA hk cA with ⟨b1, o1, rfl, e1, p1⟩ | ⟨x1, rfl, e1, p1⟩ | ⟨rfl, e1, e2, e3⟩ | ⟨x1, rfl, e1, e2, e3⟩
    · rcases parts_of hB lB nB hk cB with ⟨b2, o2, rfl, f1, q1⟩ | ⟨x2, rfl, f1, q1⟩ | ⟨rfl, f1, f2, f3⟩ | ⟨x2, rfl, f1, f2, f3⟩
      · exact turns_1 b1 o1 c1 b2 o2 c2 m k xs ys w h16 hk ⟨lA, lB, X, Y, hA, hB, p1, q1, hA.front k, hB.front k⟩ cA cB (by omega) (by omega) e1 f1
      · have hkm : k = m := by omega
        subst hkm
        subst f1
        exact turns_3 b1 o1 c1 _ x2 xs ys w h16 (Nat.le_refl _) ⟨lA, lB, X, Y, hA, hB, p1, q1, hA.front _, hB.front _⟩ cA cB (by omega) (by omega) e1
      · subst f1 f2 f3
        exact turns_7 b1 o1 c1 xs ys w h16 hk ⟨lA, lB, X, Y, hA, hB, hA.dropAt 0, .inl (by simpa using lB), hA.front 0, hB.front 0⟩ cA cB (by omega) (by omega) e1
      · exact absurd (sB x2 rfl (by omega)) (fun h => f3 x2.block x2.off (by obtain ⟨b, o, s⟩ := x2; simp at h; subst h; rfl))
    · rcases parts_of hB lB nB hk cB with ⟨b2, o2, rfl, f1, q1⟩ | ⟨x2, rfl, f1, q1⟩ | ⟨rfl, f1, f2, f3⟩ | ⟨x2, rfl, f1, f2, f3⟩
      · have hkm : k = m := by omega
        subst hkm
        subst e1
        exact turns_2 b2 o2 c2 _ x1 xs ys w h16 (Nat.le_refl _) ⟨lA, lB, X, Y, hA, hB, p1, q1, hA.front _, hB.front _⟩ cA cB (by omega) (by omega) f1
      · have hkm : k = m := by omega
        subst hkm
        subst e1
        have hcc := f1
        subst hcc
        exact turns_4 _ x1 x2 xs ys w h16 (Nat.le_refl _) ⟨lA, lB, X, Y, hA, hB, p1, q1, hA.front _, hB.front _⟩ cA cB (by omega) (by omega)
      · subst f1 f2 f3
        subst e1
        exact turns_8 x1 xs ys w h16 hk ⟨lA, lB, X, Y, hA, hB, .inl (by simpa using lA), .inl (by simpa using lB), hA.front 0, hB.front 0⟩ cA cB (by omega) (by omega)
      · exact absurd (sB x2 rfl (by omega)) (fun h => f3 x2.block x2.off (by obtain ⟨b, o, s⟩ := x2; simp at h; subst h; rfl))
    · subst e1 e2 e3
      rcases parts_of hB lB nB hk cB with ⟨b2, o2, rfl, f1, q1⟩ | ⟨x2, rfl, f1, q1⟩ | ⟨rfl, f1, f2, f3⟩ | ⟨x2, rfl, f1, f2, f3⟩
      · exact turns_5 b2 o2 c2 xs ys w h16 hk ⟨lA, lB, X, Y, hA, hB, .inl (by simpa using lA), hB.dropAt 0, hA.front 0, hB.front 0⟩ cA cB (by omega) (by omega) f1
      · subst f1
        exact turns_6 x2 xs ys w h16 hk ⟨lA, lB, X, Y, hA, hB, .inl (by simpa using lA), .inl (by simpa using lB), hA.front 0, hB.front 0⟩ cA cB (by omega) (by omega)
      · subst f3
        exact turns_9 xs ys w h16 hk ⟨lA, lB, X, Y, hA, hB, .inl (by simpa using lA), .inl (by simpa using lB), hA.front 0, hB.front 0⟩ cA cB (by omega) (by omega)
      · exact absurd (sB x2 rfl (by omega)) (fun h => f3 x2.block x2.off (by obtain ⟨b, o, s⟩ := x2; simp at h; subst h; rfl))
    · exact absurd (sA x1 rfl (by omega)) (fun h => e3 x1.block x1.off (by obtain ⟨b, o, s⟩ := x1; simp at h; subst h; rfl))
end Go.Proofs.Ytciefnmocndddaa.fixL
