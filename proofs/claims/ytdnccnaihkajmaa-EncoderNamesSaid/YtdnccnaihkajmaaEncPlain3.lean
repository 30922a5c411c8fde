/- Plain: what the encoder's functions come to. No program. -/
import Derived.Test.YtdnccnaihkajmaaEncPlain2
namespace Go.Proofs.Ytdnccnaihkajmaa.encP
open Go.RowKit

def encOk (x1 x2 : Int) (n : Nat) : Bool := (!decide (x1 / 16777216 = x2 / 16777216)) && decide (x1 < x2) && decide (n ≤ 20000)
theorem encOk_iff (x1 x2 : Int) (n : Nat) : encOk x1 x2 n = true ↔ x1 / 16777216 ≠ x2 / 16777216 ∧ x1 < x2 ∧ n ≤ 20000 := by
  simp [encOk, and_assoc]
def ckV (x1 x2 : Int) (n : Nat) : Int := if encOk x1 x2 n then 0 else 8
/-- The part of a range that a bit has. -/
def nx (x1 x2 p : Int) (b : Bool) : Int × Int := if b then (x1, mid x1 x2 p) else (mid x1 x2 p + 1, x2)
/-- The range behind a bit, and what is given out. -/
def pu (x1 x2 p : Int) (b : Bool) : Int × Int × List Int := given 4 (nx x1 x2 p b).1 (nx x1 x2 p b).2
def puE (x1 x2 : Int) (n : Nat) (p : Int) (b : Bool) : Int := if encOk x1 x2 n then (if pOk p then (if n + (pu x1 x2 p b).2.2.length ≤ 20000 then 0 else 4) else 2) else 8
def puV (x1 x2 : Int) (zs : List Int) (p : Int) (b : Bool) : Int × Int × List Int :=
  if puE x1 x2 zs.length p b = 0 then ((pu x1 x2 p b).1, (pu x1 x2 p b).2.1, zs ++ (pu x1 x2 p b).2.2) else (0, 0, [])
/-- The four bytes of ending. -/
def b4 (x : Int) : List Int := [x / 16777216, x / 65536 % 256, x / 256 % 256, x % 256]
def enE (x1 x2 : Int) (n : Nat) : Int := if encOk x1 x2 n then (if n ≤ 19996 then 0 else 4) else 8
def enV (x1 x2 : Int) (zs : List Int) : List Int := if enE x1 x2 zs.length = 0 then zs ++ b4 x1 else []

theorem nx_bd {x1 x2 p : Int} {b : Bool} (a1 : 0 ≤ x1) (h : x1 < x2) (a3 : x2 ≤ 4294967295) (hp : pOk p = true) : 0 ≤ (nx x1 x2 p b).1 ∧ (nx x1 x2 p b).1 ≤ (nx x1 x2 p b).2 ∧ (nx x1 x2 p b).2 ≤ 4294967295 := by
  obtain ⟨p1, p2⟩ := (pOk_iff p).1 hp
  obtain ⟨m1, m2⟩ := mid_bd (x1 := x1) (x2 := x2) h p1 p2
  cases b
  · show 0 ≤ mid x1 x2 p + 1 ∧ mid x1 x2 p + 1 ≤ x2 ∧ x2 ≤ 4294967295
    omega
  · show 0 ≤ x1 ∧ x1 ≤ mid x1 x2 p ∧ mid x1 x2 p ≤ 4294967295
    omega
theorem pu_ok {x1 x2 p : Int} {b : Bool} (a1 : 0 ≤ x1) (h : x1 < x2) (a3 : x2 ≤ 4294967295) (hp : pOk p = true) :
    0 ≤ (pu x1 x2 p b).1 ∧ (pu x1 x2 p b).1 < (pu x1 x2 p b).2.1 ∧ (pu x1 x2 p b).2.1 ≤ 4294967295 ∧ (pu x1 x2 p b).1 / 16777216 ≠ (pu x1 x2 p b).2.1 / 16777216 ∧ (pu x1 x2 p b).2.2.length ≤ 4 ∧ ∀ z ∈ (pu x1 x2 p b).2.2, 0 ≤ z ∧ z ≤ 255 := by
  obtain ⟨n1, n2, n3⟩ := nx_bd (b := b) a1 h a3 hp
  have e4 : (256 : Int) ^ (4 - 4) = 1 := by decide
  obtain ⟨k1, k2, k3, k4, k5, k6, k7⟩ := given_ok 4 (nx x1 x2 p b).1 (nx x1 x2 p b).2 (by omega) n1 n2 n3 (by rw [e4]; omega)
  exact ⟨k1, k2, k3, k4, by unfold pu; omega, k7⟩
theorem puE_cases (x1 x2 : Int) (n : Nat) (p : Int) (b : Bool) : puE x1 x2 n p b = 0 ∨ puE x1 x2 n p b = 2 ∨ puE x1 x2 n p b = 4 ∨ puE x1 x2 n p b = 8 := by
  unfold puE
  by_cases h1 : encOk x1 x2 n = true
  · rw [if_pos h1]
    by_cases h2 : pOk p = true
    · rw [if_pos h2]; split <;> simp
    · rw [if_neg h2]; simp
  · rw [if_neg h1]; simp
theorem puE_bad {x1 x2 : Int} {n : Nat} (p : Int) (b : Bool) (h : encOk x1 x2 n = false) : puE x1 x2 n p b = 8 := by simp [puE, h]
theorem puE_arg {x1 x2 : Int} {n : Nat} {p : Int} (b : Bool) (h : encOk x1 x2 n = true) (hp : pOk p = false) : puE x1 x2 n p b = 2 := by simp [puE, h, hp]
theorem puE_ok {x1 x2 : Int} {n : Nat} {p : Int} {b : Bool} (h : encOk x1 x2 n = true) (hp : pOk p = true) : puE x1 x2 n p b = if n + (pu x1 x2 p b).2.2.length ≤ 20000 then 0 else 4 := by rw [puE, if_pos h, if_pos hp]
theorem puV_no {x1 x2 : Int} {zs : List Int} {p : Int} {b : Bool} (h : puE x1 x2 zs.length p b ≠ 0) : puV x1 x2 zs p b = (0, 0, []) := by rw [puV, if_neg h]
theorem puV_yes {x1 x2 : Int} {zs : List Int} {p : Int} {b : Bool} (h : puE x1 x2 zs.length p b = 0) : puV x1 x2 zs p b = ((pu x1 x2 p b).1, (pu x1 x2 p b).2.1, zs ++ (pu x1 x2 p b).2.2) := by rw [puV, if_pos h]
theorem puE_zero {x1 x2 : Int} {n : Nat} {p : Int} {b : Bool} (h : puE x1 x2 n p b = 0) : encOk x1 x2 n = true ∧ pOk p = true ∧ n + (pu x1 x2 p b).2.2.length ≤ 20000 := by
  cases h1 : encOk x1 x2 n
  · rw [puE_bad p b h1] at h; omega
  · cases h2 : pOk p
    · rw [puE_arg b h1 h2] at h; omega
    · rw [puE_ok h1 h2] at h
      refine ⟨rfl, rfl, ?_⟩
      apply Classical.byContradiction
      intro hc
      rw [if_neg hc] at h; omega
theorem puV_bd {x1 x2 : Int} {zs : List Int} {p : Int} {b : Bool} (a1 : 0 ≤ x1) (a3 : x2 ≤ 4294967295) :
    0 ≤ (puV x1 x2 zs p b).1 ∧ (puV x1 x2 zs p b).1 ≤ 4294967295 ∧ 0 ≤ (puV x1 x2 zs p b).2.1 ∧ (puV x1 x2 zs p b).2.1 ≤ 4294967295 ∧ (puV x1 x2 zs p b).2.2.length ≤ 20000 := by
  by_cases h : puE x1 x2 zs.length p b = 0
  · obtain ⟨h1, h2, h3⟩ := puE_zero h
    obtain ⟨c1, c2, c3⟩ := (encOk_iff _ _ _).1 h1
    obtain ⟨k1, k2, k3, k4, k5, k6⟩ := pu_ok (b := b) a1 c2 a3 h2
    rw [puV_yes h]
    refine ⟨k1, by show (pu x1 x2 p b).1 ≤ _; omega, by show 0 ≤ (pu x1 x2 p b).2.1; omega, k3, by simpa using h3⟩
  · rw [puV_no h]; decide
theorem b4_len (x : Int) : (b4 x).length = 4 := rfl
theorem enE_cases (x1 x2 : Int) (n : Nat) : enE x1 x2 n = 0 ∨ enE x1 x2 n = 4 ∨ enE x1 x2 n = 8 := by
  unfold enE; split
  · split <;> simp
  · simp
theorem enV_len {x1 x2 : Int} {zs : List Int} : (enV x1 x2 zs).length ≤ 20000 := by
  unfold enV enE
  by_cases h1 : encOk x1 x2 zs.length = true
  · rw [if_pos h1]
    by_cases h2 : zs.length ≤ 19996
    · rw [if_pos h2, if_pos rfl, List.length_append, b4_len]; omega
    · rw [if_neg h2]; simp
  · rw [if_neg h1]; simp

/-- Bits one behind the other, from a range and what was given out. -/
def runS : List Int → List Bool → Int × Int × List Int → Int × Int × List Int
  | p :: ps, b :: bs, s => runS ps bs ((pu s.1 s.2.1 p b).1, (pu s.1 s.2.1 p b).2.1, s.2.2 ++ (pu s.1 s.2.1 p b).2.2)
  | _, _, s => s
theorem runS_nil (ps : List Int) (s : Int × Int × List Int) : runS ps [] s = s := by cases ps <;> rfl
def nxt (s : Int × Int × List Int) (p : Int) (b : Bool) : Int × Int × List Int := ((pu s.1 s.2.1 p b).1, (pu s.1 s.2.1 p b).2.1, s.2.2 ++ (pu s.1 s.2.1 p b).2.2)
theorem runS_snoc : ∀ (ps : List Int) (bs : List Bool) (s : Int × Int × List Int) (k : Nat), k < ps.length → k < bs.length →
    runS (ps.take (k + 1)) (bs.take (k + 1)) s = nxt (runS (ps.take k) (bs.take k) s) (ps.getD k 0) (bs.getD k false)
  | p :: ps, b :: bs, s, 0, _, _ => by simp [runS, nxt]
  | p :: ps, b :: bs, s, k + 1, h1, h2 => by
    have := runS_snoc ps bs ((pu s.1 s.2.1 p b).1, (pu s.1 s.2.1 p b).2.1, s.2.2 ++ (pu s.1 s.2.1 p b).2.2) k (by simpa using h1) (by simpa using h2)
    simpa [runS] using this
  | [], _, _, _, h1, _ => by simp at h1
  | _ :: _, [], _, _, _, h2 => by simp at h2
/-- A state of coding: a valid range. -/
def EGood (s : Int × Int × List Int) : Prop := 0 ≤ s.1 ∧ s.1 < s.2.1 ∧ s.2.1 ≤ 4294967295 ∧ s.1 / 16777216 ≠ s.2.1 / 16777216
theorem good_nxt {s : Int × Int × List Int} (h : EGood s) {p : Int} (hp : pOk p = true) (b : Bool) : EGood (nxt s p b) ∧ (nxt s p b).2.2.length ≤ s.2.2.length + 4 := by
  obtain ⟨h1, h2, h3, h4⟩ := h
  obtain ⟨k1, k2, k3, k4, k5, k6⟩ := pu_ok (b := b) h1 h2 h3 hp
  exact ⟨⟨k1, k2, k3, k4⟩, by simp only [nxt, List.length_append]; omega⟩
def s0 : Int × Int × List Int := (0, 4294967295, [])
theorem good_s0 : EGood s0 := by unfold EGood s0; decide
theorem all_getD {ps : List Int} {q : Int → Bool} (h : ps.all q = true) {k : Nat} (hk : k < ps.length) : q (ps.getD k 0) = true := by
  have := List.all_eq_true.1 h (ps.getD k 0) (by rw [List.getD_eq_getElem?_getD, List.getElem?_eq_getElem hk]; simp)
  exact this
theorem run_good (ps : List Int) (bs : List Bool) (hl : ps.length = bs.length) : ∀ k, k ≤ ps.length → (ps.take k).all pOk = true → EGood (runS (ps.take k) (bs.take k) s0) ∧ (runS (ps.take k) (bs.take k) s0).2.2.length ≤ 4 * k
  | 0, _, _ => by simp [runS]; exact ⟨good_s0, rfl⟩
  | k + 1, hk, ha => by
    have hk' : k < ps.length := by omega
    have hsplit : ps.take (k + 1) = ps.take k ++ [ps.getD k 0] := by rw [List.take_succ_eq_append_getElem hk']; simp [List.getD_eq_getElem?_getD, List.getElem?_eq_getElem hk']
    rw [hsplit, List.all_append] at ha
    have ha1 : (ps.take k).all pOk = true := by revert ha; cases (ps.take k).all pOk <;> simp
    have ha2 : pOk (ps.getD k 0) = true := by revert ha; rw [ha1]; simp
    obtain ⟨g, l⟩ := run_good ps bs hl k (by omega) ha1
    rw [runS_snoc ps bs s0 k hk' (by omega)]
    obtain ⟨g2, l2⟩ := good_nxt g ha2 (bs.getD k false)
    exact ⟨g2, by omega⟩
def rnE (ps : List Int) (nb : Nat) : Int := if 2000 < nb then 4 else if ps.length = nb then (if ps.all pOk then 0 else 2) else 2
def rnV (ps : List Int) (bs : List Bool) : List Int := if rnE ps bs.length = 0 then (runS ps bs s0).2.2 ++ b4 (runS ps bs s0).1 else []
end Go.Proofs.Ytdnccnaihkajmaa.encP
