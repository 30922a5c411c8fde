/- Plain facts on mixers: what mixing gives, what learning gives, that a step lessens the error. -/
import Derived.Test.YtjikddndlnimoaaSqPlain
import Derived.Test.YtjikddndlnimoaaFixPlain
import Derived.Test.YtjikddndlnimoaaRfWC
namespace Go.Proofs.Ytjikddndlnimoaa.mxP
set_option maxRecDepth 100000
open Go.Proofs.Ytjikddndlnimoaa.base Go.Proofs.Ytjikddndlnimoaa.rfP Go.Proofs.Ytjikddndlnimoaa.sqP Go.Proofs.Ytjikddndlnimoaa.fixP
set_option linter.unusedVariables false
def setB (z : List Int) : Bool := decide (z.length = 8)
/-- A valid mixer. -/
def mxB (l : List (List Int)) : Bool := decide (1 ≤ l.length) && decide (l.length ≤ 256) && l.all setB
def mxE (l : List (List Int)) : Int := if mxB l = true then 0 else 8
theorem mxB_iff (l : List (List Int)) : mxB l = true ↔ 1 ≤ l.length ∧ l.length ≤ 256 ∧ ∀ z ∈ l, z.length = 8 := by
  unfold mxB
  rw [Bool.and_eq_true, Bool.and_eq_true, decide_eq_true_eq, decide_eq_true_eq, List.all_eq_true, and_assoc]
  simp only [setB, decide_eq_true_eq]
theorem mxE_yes {l : List (List Int)} (h : mxB l = true) : mxE l = 0 := by unfold mxE; rw [if_pos h]
theorem mxE_no {l : List (List Int)} (h : mxB l = false) : mxE l = 8 := by unfold mxE; rw [h]; rfl
theorem mxB_len {l : List (List Int)} (h : ¬ (1 ≤ l.length ∧ l.length ≤ 256)) : mxB l = false := by
  cases hr : mxB l
  · rfl
  · exact absurd ⟨((mxB_iff l).1 hr).1, ((mxB_iff l).1 hr).2.1⟩ h
def setsB (l : List (List Int)) (i : Nat) : Prop := ∀ k, k < i → (l.getD k []).length = 8
theorem setsB_all {l : List (List Int)} (h1 : 1 ≤ l.length) (h2 : l.length ≤ 256) (h : setsB l l.length) : mxB l = true := by
  rw [mxB_iff]
  refine ⟨h1, h2, fun z hz => ?_⟩
  obtain ⟨i, hi, rfl⟩ := List.getElem_of_mem hz
  have := h i hi
  rw [List.getD_eq_getElem?_getD, List.getElem?_eq_getElem hi] at this
  exact this
theorem setsB_not {l : List (List Int)} {i : Nat} (hi : i < l.length) (h : (l.getD i []).length ≠ 8) : mxB l = false := by
  cases hr : mxB l
  · rfl
  · exfalso
    have := ((mxB_iff l).1 hr).2.2 _ (List.getElem_mem hi)
    rw [List.getD_eq_getElem?_getD, List.getElem?_eq_getElem hi] at h
    exact h this
theorem mx_row {l : List (List Int)} (h : mxB l = true) (k : Nat) (hk : k < l.length) : (l.getD k []).length = 8 := by
  rw [List.getD_eq_getElem?_getD, List.getElem?_eq_getElem hk]
  exact ((mxB_iff l).1 h).2.2 _ (List.getElem_mem hk)
theorem mx_great {l : List (List Int)} (h : mxB l = true) : greatB l = false := by
  obtain ⟨h1, h2, h3⟩ := (mxB_iff _).1 h
  refine great_none (by omega) (fun i hi => ?_)
  rw [mx_row h i hi]
  omega
/-- Inputs. -/
def inAt (x : Int) : Bool := decide (-2047 ≤ x) && decide (x ≤ 2047)
def inB (z : List Int) : Bool := decide (z.length = 8) && z.all inAt
theorem inB_iff (z : List Int) : inB z = true ↔ z.length = 8 ∧ ∀ x ∈ z, -2047 ≤ x ∧ x ≤ 2047 := by
  simp [inB, inAt]
theorem inB_at {z : List Int} (h : inB z = true) (i : Nat) (hi : i < 8) : -2047 ≤ z.getD i 0 ∧ z.getD i 0 ≤ 2047 := by
  obtain ⟨h1, h2⟩ := (inB_iff z).1 h
  rw [List.getD_eq_getElem?_getD, List.getElem?_eq_getElem (by omega)]
  exact h2 _ (List.getElem_mem _)
def upIn (z : List Int) (i : Nat) : Prop := ∀ k, k < i → -2047 ≤ z.getD k 0 ∧ z.getD k 0 ≤ 2047
theorem upIn_all {z : List Int} (hl : z.length = 8) (h : upIn z 8) : inB z = true := by
  rw [inB_iff]
  refine ⟨hl, fun x hx => ?_⟩
  obtain ⟨i, hi, rfl⟩ := List.getElem_of_mem hx
  have := h i (by omega)
  rw [List.getD_eq_getElem?_getD, List.getElem?_eq_getElem hi] at this
  exact this
theorem upIn_not {z : List Int} {i : Nat} (hi : i < z.length) (h : ¬ (-2047 ≤ z.getD i 0 ∧ z.getD i 0 ≤ 2047)) : inB z = false := by
  cases hr : inB z
  · rfl
  · exfalso
    refine h ?_
    rw [List.getD_eq_getElem?_getD, List.getElem?_eq_getElem hi]
    exact ((inB_iff z).1 hr).2 _ (List.getElem_mem hi)
theorem inB_len {z : List Int} (h : z.length ≠ 8) : inB z = false := by
  cases hr : inB z
  · rfl
  · exact absurd ((inB_iff z).1 hr).1 h
/-- The error of a mixer, a set and inputs. -/
def mAskE (l : List (List Int)) (set : Int) (ins : List Int) : Int := if mxB l = true then (if set < 0 ∨ (l.length : Int) ≤ set ∨ inB ins = false then 2 else 0) else 8
theorem mAsk_bad {l : List (List Int)} {set : Int} {ins : List Int} (h : mxB l = false) : mAskE l set ins = 8 := by unfold mAskE; rw [h]; rfl
theorem mAsk_no {l : List (List Int)} {set : Int} {ins : List Int} (h : mxB l = true) (h2 : set < 0 ∨ (l.length : Int) ≤ set ∨ inB ins = false) : mAskE l set ins = 2 := by unfold mAskE; rw [if_pos h, if_pos h2]
theorem mAsk_ok {l : List (List Int)} {set : Int} {ins : List Int} (h : mxB l = true) (h1 : 0 ≤ set) (h2 : set < l.length) (h3 : inB ins = true) : mAskE l set ins = 0 := by
  unfold mAskE
  rw [if_pos h, if_neg]
  rintro (h | h | h)
  · omega
  · omega
  · rw [h3] at h; cases h
theorem mAsk_zero {l : List (List Int)} {set : Int} {ins : List Int} (h : mAskE l set ins = 0) : mxB l = true ∧ 0 ≤ set ∧ set < l.length ∧ inB ins = true := by
  unfold mAskE at h
  split at h
  · rename_i h1
    split at h
    · cases h
    · rename_i h2
      refine ⟨h1, by omega, by omega, ?_⟩
      cases hi : inB ins
      · exact absurd (.inr (.inr hi)) h2
      · rfl
  · cases h
/-- The dot product, kept in range. -/
def dotP (ws ins : List Int) : Int := sat (prods ws ins).sum
def clampD (n : Int) : Int := max (-2047) (min 2047 n)
def mixD (ws ins : List Int) : Int := clampD (dotP ws ins / 65536)
theorem clamp_bd (n : Int) : -2047 ≤ clampD n ∧ clampD n ≤ 2047 := by unfold clampD; omega
theorem clamp_mono {a b : Int} (h : a ≤ b) : clampD a ≤ clampD b := by unfold clampD; omega
theorem sat_mono {a b : Int} (h : a ≤ b) : sat a ≤ sat b := by unfold sat; split <;> split <;> (try split) <;> (try split) <;> omega
def offP (p : Int) (bit : Bool) : Int := if bit then 4095 - p else -p
def wrongE (p : Int) : Int := if p < 0 ∨ 4095 < p then 2 else 0
def wrongV (p : Int) (bit : Bool) : Int := if p < 0 ∨ 4095 < p then 0 else offP p bit
/-- A weight after learning. -/
def tau (w x off : Int) : Int := sat (w + rnd (x * off * 7) 14)
def tauL (ws ins : List Int) (off : Int) : List Int := List.zipWith (fun w x => tau w x off) ws ins
theorem rnd14 (n : Int) : rnd n 14 = (n + 8192) / 16384 := by
  have : rnd n 14 = n / 16384 + n / 8192 % 2 := rfl
  rw [this]
  omega
end Go.Proofs.Ytjikddndlnimoaa.mxP
