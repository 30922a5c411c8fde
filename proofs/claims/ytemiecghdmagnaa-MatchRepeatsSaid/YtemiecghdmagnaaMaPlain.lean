/- Plain facts on matches. No program. -/
import Derived.Test.YtemiecghdmagnaaGA
import Derived.Test.YtemiecghdmagnaaCxPlain
import Derived.Test.YtemiecghdmagnaaGC
namespace Go.Proofs.Ytemiecghdmagnaa.maP
set_option maxRecDepth 100000
open Go.RowKit Go.Proofs.Ytemiecghdmagnaa.rgP Go.Proofs.Ytemiecghdmagnaa.fdP Go.Proofs.Ytemiecghdmagnaa.cxP Go.Proofs.Ytemiecghdmagnaa.hashP Go.Proofs.Ytemiecghdmagnaa.hashW Go.Proofs.Ytemiecghdmagnaa.nibP
set_option linter.unusedVariables false

/-- A match: where, how long. -/
structure Mt where
  a : Int
  k : Int
def noM : Mt := ⟨-1, 0⟩
def zM : Mt := ⟨0, 0⟩
def mtB (m : Mt) : Bool := (decide (m.a = -1) && decide (m.k = 0)) || (decide (0 ≤ m.a) && (decide (m.a ≤ 1073741824) && (decide (1 ≤ m.k) && decide (m.k ≤ 40))))
def mtE (m : Mt) : Int := if mtB m then 0 else 8
def exE (m : Mt) (r : Rg) : Int := if mtB m then rgE r else 8
def exB (m : Mt) (r : Rg) : Bool := if exE m r = 0 then (decide (0 ≤ m.a) && isB r m.a) else false
def exV (m : Mt) (r : Rg) : Int := if exB m r then ago r (r.n - m.a) else 0
/-- What a byte b, read up to p, tells a match of the length k. -/
def tdV (b p : Nat) (k : Int) : Int := if rd p = (rd (256 + b)).take (rd p).length then (if (rd (256 + b)).getD (rd p).length false then 50 * k else -(50 * k)) else 0
def inE (m : Mt) (r : Rg) (p : Int) : Int := if exE m r = 0 then wE p else 8
def inV (m : Mt) (r : Rg) (p : Int) : Int := if inE m r p = 0 then (if exB m r then tdV (exV m r).toNat p.toNat m.k else 0) else 0
/-- The match that goes on. -/
def onM (m : Mt) (r : Rg) (c : Int) : Mt := if exB m r = true ∧ exV m r = c then ⟨m.a + 1, min (m.k + 1) 40⟩ else noM
def keyH (r : Rg) : Int := hSteps (kStart 6) (lastL r 4)
/-- The match that begins in a ring r behind the byte, with a finder f before it. -/
def lookM (r : Rg) (f : Fnd) : Mt :=
  if findV f (keyH r) < 0 ∨ r.n < findV f (keyH r) then noM
  else if min (full r (findV f (keyH r)) : Int) 40 < 3 then noM
  else ⟨findV f (keyH r), min (full r (findV f (keyH r)) : Int) 40⟩
def nextM (m : Mt) (r : Rg) (f : Fnd) (c : Int) : Mt := if (onM m r c).a = -1 then lookM (putR r [c]) f else onM m r c
def byE (m : Mt) (r : Rg) (f : Fnd) : Int := if exE m r = 0 ∧ fdE f = 0 then (if r.n = 1073741824 then 16 else 0) else 8
def byM (m : Mt) (r : Rg) (f : Fnd) (c : Int) : Mt := if byE m r f = 0 then nextM m r f c else zM
def byR (m : Mt) (r : Rg) (f : Fnd) (c : Int) : Rg := if byE m r f = 0 then putR r [c] else zeroR
def byF (m : Mt) (r : Rg) (f : Fnd) (c : Int) : Fnd := if byE m r f = 0 then fput f (keyH (putR r [c])) (r.n + 1) else zeroF

theorem mtB_iff (m : Mt) : mtB m = true ↔ (m.a = -1 ∧ m.k = 0) ∨ (0 ≤ m.a ∧ m.a ≤ 1073741824 ∧ 1 ≤ m.k ∧ m.k ≤ 40) := by simp [mtB]
theorem mtE_yes {m : Mt} (h : mtB m = true) : mtE m = 0 := by simp [mtE, h]
theorem mtE_no {m : Mt} (h : mtB m = false) : mtE m = 8 := by simp [mtE, h]
theorem exE_parts {m : Mt} {r : Rg} (h : exE m r = 0) : mtB m = true ∧ rgOk r = true := by
  unfold exE at h
  cases h1 : mtB m
  · rw [h1] at h; simp at h
  · rw [h1] at h
    simp only [if_true] at h
    unfold rgE at h
    cases h2 : rgOk r
    · rw [h2] at h; simp at h
    · exact ⟨rfl, rfl⟩
theorem exE_yes {m : Mt} {r : Rg} (h1 : mtB m = true) (h2 : rgOk r = true) : exE m r = 0 := by simp [exE, rgE, h1, h2]
theorem exE_cases (m : Mt) (r : Rg) : exE m r = 0 ∨ exE m r = 8 := by
  unfold exE rgE
  split
  · split <;> simp
  · simp
theorem ago_bd {r : Rg} (h : ∀ z ∈ r.b, 0 ≤ z ∧ z ≤ 255) (k : Int) : 0 ≤ ago r k ∧ ago r k ≤ 255 := by
  unfold ago
  split
  · decide
  · exact at_bd h _
theorem exV_bd {r : Rg} (h : ∀ z ∈ r.b, 0 ≤ z ∧ z ≤ 255) (m : Mt) : 0 ≤ exV m r ∧ exV m r ≤ 255 := by
  unfold exV
  split
  · exact ago_bd h _
  · decide
theorem rd_div : ∀ (j n : Nat), n < 512 → 1 ≤ n / 2 ^ j → rd (n / 2 ^ j) = (rd n).take ((rd n).length - j)
  | 0, n, h, _ => by simp
  | j + 1, n, h, h1 => by
    have e : n / 2 ^ (j + 1) = n / 2 / 2 ^ j := by rw [Nat.pow_succ, Nat.mul_comm, Nat.div_div_eq_div_mul]
    have h2 : 2 ≤ n := by
      rcases Nat.lt_or_ge n 2 with h3 | h3
      · rw [Nat.div_eq_of_lt (Nat.lt_of_lt_of_le h3 (by rw [Nat.pow_succ]; have := Nat.one_le_two_pow (n := j); omega))] at h1
        omega
      · exact h3
    rw [e] at h1 ⊢
    rw [rd_div j (n / 2) (by omega) h1, rd_step n h h2]
    simp only [List.length_append, List.length_singleton]
    rw [List.take_append_of_le_length (by omega)]
    congr 1
    omega
theorem rd_inj {n p : Nat} (h1 : n < 512) (h2 : p < 512) (n1 : 1 ≤ n) (p1 : 1 ≤ p) (h : rd n = rd p) : n = p := by
  rw [← prt_rd n h1 n1, ← prt_rd p h2 p1, h]
theorem rd_byte : ∀ b, b < 256 → (rd (256 + b)).length = 8 ∧ ∀ i, i < 8 → (rd (256 + b)).getD i false = ((256 + b) / 2 ^ (7 - i) % 2 == 1) ∧ 1 ≤ (256 + b) / 2 ^ (8 - i) ∧ (256 + b) / 2 ^ (8 - i) < 512 := by decide +kernel
/-- The program's way: by shifts. -/
theorem tdV_eq {b p : Nat} (k : Int) (hb : b < 256) (p1 : 1 ≤ p) (p2 : p < 256) : tdV b p k = if (256 + b) / 2 ^ (8 - (rd p).length) = p then (if (256 + b) / 2 ^ (7 - (rd p).length) % 2 = 0 then -(50 * k) else 50 * k) else 0 := by
  obtain ⟨hl, h⟩ := rd_byte b hb
  have hp : (rd p).length < 8 := by have := rd_len p (by omega); have := this.2.2; omega
  obtain ⟨e1, e2, e3⟩ := h _ hp
  have e4 := rd_div (8 - (rd p).length) (256 + b) (by omega) e2
  rw [hl, show 8 - (8 - (rd p).length) = (rd p).length by omega] at e4
  unfold tdV
  rw [e1]
  by_cases c : (256 + b) / 2 ^ (8 - (rd p).length) = p
  · rw [if_pos c, if_pos (by rw [← e4, c])]
    by_cases c2 : (256 + b) / 2 ^ (7 - (rd p).length) % 2 = 0
    · rw [if_pos c2, if_neg (by simp [c2])]
    · rw [if_neg c2, if_pos (by simp; omega)]
  · rw [if_neg c, if_neg]
    intro e
    exact c (rd_inj e3 (by omega) e2 p1 (by rw [e4, ← e]))
end Go.Proofs.Ytemiecghdmagnaa.maP
