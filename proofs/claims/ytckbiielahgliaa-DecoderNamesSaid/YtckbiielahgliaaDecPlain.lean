/- Plain: what the decoder's functions come to. No program. -/
import Derived.Test.YtckbiielahgliaaEncPlain3
namespace Go.Proofs.Ytckbiielahgliaa.decP
open Go.RowKit Go.Proofs.Ytckbiielahgliaa.encP

/-- A byte that is read: 0 behind the end. -/
def byt (zs : List Int) (i : Nat) : Int := zs.getD i 0
def InB (zs : List Int) : Prop := ∀ z ∈ zs, 0 ≤ z ∧ z ≤ 255
theorem byt_bd {zs : List Int} (h : InB zs) (i : Nat) : 0 ≤ byt zs i ∧ byt zs i ≤ 255 := by
  unfold byt
  rw [List.getD_eq_getElem?_getD]
  rcases Nat.lt_or_ge i zs.length with hi | hi
  · rw [List.getElem?_eq_getElem hi]; exact h _ (List.getElem_mem hi)
  · rw [List.getElem?_eq_none hi]; exact ⟨by decide, by decide⟩
/-- The place in the range, behind bytes that are taken. -/
def xs (zs : List Int) : Nat → Int → Int → Int → Nat → Int
  | 0, _, _, x, _ => x
  | f + 1, a, b, x, t => if a / 16777216 = b / 16777216 then xs zs f (a * 256 % 4294967296) (b * 256 % 4294967296 + 255) (x * 256 % 4294967296 + byt zs t) (t + 1) else x
def gbit (x1 x2 x p : Int) : Bool := decide (x ≤ mid x1 x2 p)
def decOk (x1 x2 x : Int) (n : Nat) (t : Int) : Bool := (!decide (x1 / 16777216 = x2 / 16777216)) && decide (x1 < x2) && decide (x1 ≤ x) && decide (x ≤ x2) && decide (n ≤ 20000) && decide (4 ≤ t) && decide (t ≤ 1000000)
theorem decOk_iff (x1 x2 x : Int) (n : Nat) (t : Int) : decOk x1 x2 x n t = true ↔ x1 / 16777216 ≠ x2 / 16777216 ∧ x1 < x2 ∧ x1 ≤ x ∧ x ≤ x2 ∧ n ≤ 20000 ∧ 4 ≤ t ∧ t ≤ 1000000 := by
  simp [decOk, and_assoc]
def dcV (x1 x2 x : Int) (n : Nat) (t : Int) : Int := if decOk x1 x2 x n t then 0 else 8
/-- The four bytes from a place on. -/
def win (zs : List Int) (o : Nat) : Int := ((byt zs o * 256 + byt zs (o + 1)) * 256 + byt zs (o + 2)) * 256 + byt zs (o + 3)
theorem win_bd {zs : List Int} (h : InB zs) (o : Nat) : 0 ≤ win zs o ∧ win zs o ≤ 4294967295 := by
  have h0 := byt_bd h o
  have h1 := byt_bd h (o + 1)
  have h2 := byt_bd h (o + 2)
  have h3 := byt_bd h (o + 3)
  unfold win; omega
theorem win_step {zs : List Int} (h : InB zs) (o : Nat) : win zs o * 256 % 4294967296 + byt zs (o + 4) = win zs (o + 1) ∧ win zs o / 16777216 = byt zs o := by
  have h0 := byt_bd h o
  have h1 := byt_bd h (o + 1)
  have h2 := byt_bd h (o + 2)
  have h3 := byt_bd h (o + 3)
  unfold win
  rw [show o + 1 + 1 = o + 2 from rfl, show o + 1 + 2 = o + 3 from rfl, show o + 1 + 3 = o + 4 from rfl]
  generalize byt zs o = a at *
  generalize byt zs (o + 1) = b at *
  generalize byt zs (o + 2) = c at *
  generalize byt zs (o + 3) = d at *
  omega
/-- Where the place is the window, it stays the window; and what is given out is what is taken. -/
theorem xs_win {zs : List Int} (h : InB zs) : ∀ (f : Nat) (a b : Int) (o : Nat), 0 ≤ a → b ≤ 4294967295 → a ≤ win zs o → win zs o ≤ b →
    xs zs f a b (win zs o) (o + 4) = win zs (o + (given f a b).2.2.length) ∧ (given f a b).1 ≤ win zs (o + (given f a b).2.2.length) ∧ win zs (o + (given f a b).2.2.length) ≤ (given f a b).2.1 ∧ ∀ i, i < (given f a b).2.2.length → (given f a b).2.2.getD i 0 = byt zs (o + i)
  | 0, a, b, o, h0, h1, h2, h3 => by simp [xs, given]; exact ⟨h2, h3⟩
  | f + 1, a, b, o, h0, h1, h2, h3 => by
    by_cases e : a / 16777216 = b / 16777216
    · obtain ⟨w1, w2⟩ := win_step h o
      obtain ⟨v1, v2⟩ := win_bd h o
      obtain ⟨u1, u2⟩ := byt_bd h (o + 4)
      obtain ⟨s1, s2, s3, s4, s5⟩ := step_bd h0 (by omega) h1 e
      have ih := xs_win h f (a * 256 % 4294967296) (b * 256 % 4294967296 + 255) (o + 1) s1 s2 (by rw [← w1]; omega) (by rw [← w1]; omega)
      rw [xs, if_pos e, w1]
      simp only [given, if_pos e, List.length_cons]
      obtain ⟨i1, i2, i3, i4⟩ := ih
      generalize given f (a * 256 % 4294967296) (b * 256 % 4294967296 + 255) = r at *
      rw [show o + 1 + r.2.2.length = o + (r.2.2.length + 1) by omega] at i1 i2 i3
      refine ⟨i1, i2, i3, ?_⟩
      intro i hi
      cases i with
      | zero => show a / 16777216 = byt zs o; omega
      | succ i =>
        have := i4 i (by omega)
        rw [show o + 1 + i = o + (i + 1) by omega] at this
        simpa using this
    · rw [xs, if_neg e]
      simp only [given, if_neg e]
      exact ⟨rfl, h2, h3, fun i hi => by simp at hi⟩
/-- The place stays in the range. -/
theorem xs_bd {zs : List Int} (h : InB zs) : ∀ (f : Nat) (a b x : Int) (t : Nat), 0 ≤ a → b ≤ 4294967295 → a ≤ x → x ≤ b → (given f a b).1 ≤ xs zs f a b x t ∧ xs zs f a b x t ≤ (given f a b).2.1
  | 0, a, b, x, t, _, _, h2, h3 => ⟨h2, h3⟩
  | f + 1, a, b, x, t, h0, h1, h2, h3 => by
    by_cases e : a / 16777216 = b / 16777216
    · obtain ⟨u1, u2⟩ := byt_bd h t
      obtain ⟨s1, s2, s3, s4, s5⟩ := step_bd h0 (by omega) h1 e
      have ih := xs_bd h f (a * 256 % 4294967296) (b * 256 % 4294967296 + 255) (x * 256 % 4294967296 + byt zs t) (t + 1) s1 s2 (by omega) (by omega)
      rw [xs, if_pos e]
      simp only [given, if_pos e]
      exact ih
    · rw [xs, if_neg e]
      simp only [given, if_neg e]
      exact ⟨h2, h3⟩
/-- What getting a bit makes of the range, the place and the count of bytes. -/
def gt (zs : List Int) (x1 x2 x : Int) (t : Nat) (p : Int) : Int × Int × Int × Nat :=
  ((pu x1 x2 p (gbit x1 x2 x p)).1, (pu x1 x2 p (gbit x1 x2 x p)).2.1, xs zs 4 (nx x1 x2 p (gbit x1 x2 x p)).1 (nx x1 x2 p (gbit x1 x2 x p)).2 x t, t + (pu x1 x2 p (gbit x1 x2 x p)).2.2.length)
theorem nx_in {x1 x2 x p : Int} (h1 : x1 ≤ x) (h2 : x ≤ x2) : (nx x1 x2 p (gbit x1 x2 x p)).1 ≤ x ∧ x ≤ (nx x1 x2 p (gbit x1 x2 x p)).2 := by
  unfold gbit
  by_cases c : x ≤ mid x1 x2 p
  · rw [decide_eq_true c]; exact ⟨h1, c⟩
  · rw [decide_eq_false c]; exact ⟨by show mid x1 x2 p + 1 ≤ x; omega, h2⟩
end Go.Proofs.Ytckbiielahgliaa.decP
