/- Plain arithmetic of squashing and stretching. No program. -/
import Derived.WalkKit
namespace Go.Proofs.YtdmnaipngcldbaaDoor.sqP
set_option maxRecDepth 100000
open Go.RowKit

def rows : List Int := [1, 2, 3, 6, 10, 16, 27, 45, 73, 120, 194, 310, 488, 747, 1101, 1546, 2047, 2549, 2994, 3348, 3607, 3785, 3901, 3975, 4022, 4050, 4068, 4079, 4085, 4089, 4092, 4093, 4094]
theorem rows_bd : ∀ z ∈ rows, 1 ≤ z ∧ z ≤ 4094 := by decide +kernel
theorem row_bd (i : Nat) (h : i < 33) : 1 ≤ rows.getD i 0 ∧ rows.getD i 0 ≤ 4094 := by
  apply rows_bd
  rw [List.getD_eq_getElem?_getD, List.getElem?_eq_getElem (show i < rows.length from h)]; simp

/-- The middle of squashing. -/
def mid (d : Int) : Int := (rows.getD (d / 128 + 16).toNat 0 * (128 - d % 128) + rows.getD (d / 128 + 17).toNat 0 * (d % 128) + 64) / 128
def sq (d : Int) : Int := if d > 2047 then 4095 else if d < -2047 then 0 else mid d

/-- Looked at one by one. -/
def okAt (k : Nat) : Bool :=
  let d : Int := (k : Int) - 2047
  decide (1 ≤ mid d) && decide (mid d ≤ mid (d + 1)) && decide (mid (d + 1) ≤ mid d + 4) && decide (mid (d + 1) ≤ 4094)
theorem ok_all : (List.range 4094).all okAt = true := by decide +kernel
theorem ok_at {d : Int} (h1 : -2047 ≤ d) (h2 : d ≤ 2046) : 1 ≤ mid d ∧ mid d ≤ mid (d + 1) ∧ mid (d + 1) ≤ mid d + 4 ∧ mid (d + 1) ≤ 4094 := by
  have := List.all_eq_true.1 ok_all (d + 2047).toNat (List.mem_range.2 (by omega))
  unfold okAt at this
  rw [show (((d + 2047).toNat : Nat) : Int) - 2047 = d from by omega] at this
  simp only [Bool.and_eq_true, decide_eq_true_eq] at this
  omega
theorem mid_bd {d : Int} (h1 : -2047 ≤ d) (h2 : d ≤ 2047) : 1 ≤ mid d ∧ mid d ≤ 4094 := by
  by_cases h : d ≤ 2046
  · have := ok_at h1 h; omega
  · have := ok_at (d := d - 1) (by omega) (by omega)
    rw [show d - 1 + 1 = d from by omega] at this; omega
theorem mid_mono {a b : Int} (h1 : -2047 ≤ a) (h2 : b ≤ 2047) (h : a ≤ b) : mid a ≤ mid b := by
  obtain ⟨n, hn⟩ : ∃ n : Nat, b = a + n := ⟨(b - a).toNat, by omega⟩
  subst hn
  clear h
  induction n with
  | zero => simp
  | succ n ih =>
    have := ih (by omega)
    have := (ok_at (d := a + n) (by omega) (by omega)).2.1
    rw [show a + ((n + 1 : Nat) : Int) = a + n + 1 from by omega]; omega
theorem sq_in {d : Int} (h1 : -2047 ≤ d) (h2 : d ≤ 2047) : sq d = mid d := by unfold sq; rw [if_neg (by omega), if_neg (by omega)]
theorem sq_bd (d : Int) : 0 ≤ sq d ∧ sq d ≤ 4095 := by
  unfold sq; split
  · omega
  · split
    · omega
    · have := mid_bd (d := d) (by omega) (by omega); omega
theorem sq_mono {a b : Int} (h : a ≤ b) : sq a ≤ sq b := by
  by_cases ha : a < -2047
  · have : sq a = 0 := by unfold sq; rw [if_neg (by omega), if_pos ha]
    have := sq_bd b; omega
  · by_cases hb : b > 2047
    · have : sq b = 4095 := by unfold sq; rw [if_pos hb]
      have := sq_bd a; omega
    · rw [sq_in (by omega) (by omega), sq_in (by omega) (by omega)]
      exact mid_mono (by omega) (by omega) h

/-- d is what p is stretched to: the least number that is, squashed, at least p; the greatest one, if none is. -/
def IsSt (p d : Int) : Prop := -2047 ≤ d ∧ d ≤ 2047 ∧ (∀ e, -2047 ≤ e → e < d → sq e < p) ∧ (d < 2047 → p ≤ sq d)
theorem isSt_unique {p d e : Int} (h : IsSt p d) (h' : IsSt p e) : d = e := by
  obtain ⟨a1, a2, a3, a4⟩ := h
  obtain ⟨b1, b2, b3, b4⟩ := h'
  rcases Int.lt_trichotomy d e with c | c | c
  · have := b3 d a1 c; have := a4 (by omega); omega
  · exact c
  · have := a3 e b1 c; have := b4 (by omega); omega
/-- Linear search. -/
def up : Nat → Int → Int → Int
  | 0, d, _ => d
  | n + 1, d, p => if sq d < p then up n (d + 1) p else d
def st (p : Int) : Int := up 4094 (-2047) p
theorem up_is (p : Int) : ∀ (n : Nat) (d : Int), -2047 ≤ d → d + n = 2047 → (∀ e, -2047 ≤ e → e < d → sq e < p) → IsSt p (up n d p)
  | 0, d, h1, h2, h3 => ⟨h1, by simp [up]; omega, by simpa [up] using h3, fun h => by simp [up] at h; omega⟩
  | n + 1, d, h1, h2, h3 => by
    unfold up
    by_cases c : sq d < p
    · rw [if_pos c]
      refine up_is p n (d + 1) (by omega) (by omega) fun e e1 e2 => ?_
      by_cases g : e = d
      · rw [g]; exact c
      · exact h3 e e1 (by omega)
    · rw [if_neg c]
      exact ⟨h1, by omega, h3, fun _ => by omega⟩
theorem st_is (p : Int) : IsSt p (st p) := up_is p 4094 (-2047) (by omega) (by omega) fun e h1 h2 => by omega
theorem st_eq {p d : Int} (h : IsSt p d) : d = st p := isSt_unique h (st_is p)
theorem st_bd (p : Int) : -2047 ≤ st p ∧ st p ≤ 2047 := ⟨(st_is p).1, (st_is p).2.1⟩
theorem st_le {p d : Int} (h1 : -2047 ≤ d) (h : p ≤ sq d) : st p ≤ d := by
  by_cases c : st p ≤ d
  · exact c
  · have := (st_is p).2.2.1 d h1 (by omega); omega
theorem st_mono {p q : Int} (h : p ≤ q) : st p ≤ st q := by
  by_cases c : st q = 2047
  · rw [c]; exact (st_bd p).2
  · have := (st_is q).2.2.2 (by have := (st_bd q).2; omega)
    exact st_le (st_bd q).1 (by omega)
end Go.Proofs.YtdmnaipngcldbaaDoor.sqP
