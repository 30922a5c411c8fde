/- CostIdeal, by a walk. -/
import Derived.Test.YtaehjhjbbkblbaaCostL1
namespace Go.Proofs.Ytaehjhjbbkblbaa.costL
open Go.RowKit Go.Proofs.Ytaehjhjbbkblbaa.base Go.Proofs.Ytaehjhjbbkblbaa.encP Go.Proofs.Ytaehjhjbbkblbaa.costP Go.Proofs.Ytaehjhjbbkblbaa.encW Go.Proofs.Ytaehjhjbbkblbaa.costW
set_option linter.unusedVariables false
set_option linter.unusedSimpArgs false

theorem mid_eq (x1 x2 p : Int) : mid x1 x2 p = x1 + (x2 - x1) * p / 4096 := by
  unfold mid
  have e : (x2 - x1) * p = 4096 * ((x2 - x1) / 4096 * p) + (x2 - x1) % 4096 * p := by
    have : x2 - x1 = 4096 * ((x2 - x1) / 4096) + (x2 - x1) % 4096 := by omega
    calc (x2 - x1) * p = (4096 * ((x2 - x1) / 4096) + (x2 - x1) % 4096) * p := by rw [← this]
      _ = _ := by rw [Int.add_mul, Int.mul_assoc]
  generalize (x2 - x1) / 4096 * p = a at *
  generalize (x2 - x1) % 4096 * p = b at *
  rw [e]; omega
/-- The part of a range that a bit has: at least its share. -/
theorem prt_facts {x1 x2 p : Int} {b : Bool} (h : x1 < x2) (p1 : 1 ≤ p) (p2 : p ≤ 4095) :
    1 ≤ prtV x1 x2 p b ∧ prtV x1 x2 p b ≤ x2 - x1 + 1 ∧ (x2 - x1) * (if b then p else 4096 - p) ≤ 4096 * prtV x1 x2 p b := by
  obtain ⟨m1, m2⟩ := mid_bd (x1 := x1) (x2 := x2) (p := p) h (by omega) p2
  have e := mid_eq x1 x2 p
  have e2 : (x2 - x1) * (4096 - p) = (x2 - x1) * 4096 - (x2 - x1) * p := Int.mul_sub _ _ _
  cases b
  · show 1 ≤ x2 - mid x1 x2 p ∧ x2 - mid x1 x2 p ≤ x2 - x1 + 1 ∧ (x2 - x1) * (4096 - p) ≤ 4096 * (x2 - mid x1 x2 p)
    rw [e2]
    generalize (x2 - x1) * p = y at *
    omega
  · show 1 ≤ mid x1 x2 p - x1 + 1 ∧ mid x1 x2 p - x1 + 1 ≤ x2 - x1 + 1 ∧ (x2 - x1) * p ≤ 4096 * (mid x1 x2 p - x1 + 1)
    generalize (x2 - x1) * p = y at *
    omega
theorem ideal_nat {w q t : Nat} (hw : 1 ≤ w) (hw2 : w ≤ 4294967295) (q1 : 1 ≤ q) (q2 : q ≤ 4095) (t1 : 1 ≤ t) (t2 : t ≤ w + 1) (h : w * q ≤ 4096 * t) :
    lgR ((w + 1 : Nat) : Int) + lgR q ≤ lgR t + lgR (4096 : Nat) + 65539 ∧ (16777215 ≤ w → lgR ((w + 1 : Nat) : Int) + lgR q ≤ lgR t + lgR (4096 : Nat) + 4) := by
  have hm : (w + 1) * q ≤ 2 * (t * 4096) := by
    have : (w + 1) * q = w * q + q := by rw [Nat.add_mul, Nat.one_mul]
    omega
  constructor
  · obtain ⟨E, hE⟩ : ∃ E : Nat, E = 65536 := ⟨_, rfl⟩
    have := lgR_near (A := w + 1) (B := q) (C := t) (D := 4096) (e := E) ⟨by omega, by omega⟩ ⟨by omega, by omega⟩ ⟨by omega, by omega⟩ ⟨by omega, by omega⟩ (fun p p1 p2 => by
      refine Nat.le_trans (Nat.pow_le_pow_left hm p) ?_
      rw [Nat.mul_pow 2]
      exact Nat.mul_le_mul_right _ (Nat.pow_le_pow_right (by omega) (by omega)))
    omega
  · intro hw3
    have := lgR_near (A := w + 1) (B := q) (C := t) (D := 4096) (e := 1) ⟨by omega, by omega⟩ ⟨by omega, by omega⟩ ⟨by omega, by omega⟩ ⟨by omega, by omega⟩ (fun p p1 p2 => by
      have b2 := bern2 (D := w + 1) (k := p) (by omega) (by omega)
      rw [Nat.add_sub_cancel] at b2
      have h1 : (w + 1) * q * w ≤ t * 4096 * (w + 1) := by
        have e1 : (w + 1) * q * w = w * q * (w + 1) := by ac_rfl
        rw [e1]
        exact Nat.mul_le_mul_right _ (by omega)
      have h2 := Nat.pow_le_pow_left h1 p
      rw [Nat.mul_pow ((w + 1) * q), Nat.mul_pow (t * 4096)] at h2
      have h3 : (t * 4096) ^ p * (w + 1) ^ p ≤ (t * 4096) ^ p * (2 * w ^ p) := Nat.mul_le_mul_left _ b2
      have h4 := Nat.le_trans h2 h3
      have e3 : (t * 4096) ^ p * (2 * w ^ p) = 2 ^ 1 * (t * 4096) ^ p * w ^ p := by rw [Nat.pow_one]; ac_rfl
      rw [e3] at h4
      exact Nat.le_of_mul_le_mul_right h4 (Nat.pow_pos (by omega)))
    omega
theorem lg4096 : lgR (4096 : Nat) = 786432 := by
  have := v4096.1
  rwa [lgV, if_pos (by decide)] at this
theorem ideal_facts {x1 x2 p : Int} {b : Bool} (a1 : 0 ≤ x1) (b2 : x2 ≤ 4294967295) (h : x1 < x2) (p1 : 1 ≤ p) (p2 : p ≤ 4095) :
    0 ≤ ctV x1 x2 p b ∧ 0 ≤ btV p b ∧ ctV x1 x2 p b ≤ btV p b + 65540 ∧ (16777215 ≤ x2 - x1 → ctV x1 x2 p b ≤ btV p b + 4) ∧ ctV x1 x2 p b < 2162688 ∧ btV p b ≤ 786432 ∧ ctE x1 x2 p = 0 ∧ btE p = 0 := by
  have hc : cOk p = true := (cOk_iff p).2 ⟨p1, p2⟩
  have hk : ctOk x1 x2 p = true := by rw [ctOk, hc, decide_eq_true h]; rfl
  obtain ⟨f1, f2, f3⟩ := prt_facts (b := b) h p1 p2
  rw [ctV, if_pos hk, btV, if_pos hc, ctE, if_pos hk, btE, if_pos hc]
  obtain ⟨q, hq⟩ : ∃ q : Int, q = (if b then p else 4096 - p) := ⟨_, rfl⟩
  have q1 : 1 ≤ q ∧ q ≤ 4095 := by
    subst hq
    cases b
    · show 1 ≤ 4096 - p ∧ 4096 - p ≤ 4095; omega
    · show 1 ≤ p ∧ p ≤ 4095; omega
  rw [← hq] at f3 ⊢
  generalize prtV x1 x2 p b = t at *
  obtain ⟨w, hw⟩ := Int.eq_ofNat_of_zero_le (show 0 ≤ x2 - x1 by omega)
  obtain ⟨q', rfl⟩ := Int.eq_ofNat_of_zero_le (show 0 ≤ q by omega)
  obtain ⟨t', rfl⟩ := Int.eq_ofNat_of_zero_le (show 0 ≤ t by omega)
  rw [hw] at f2 f3 ⊢
  have := ideal_nat (w := w) (q := q') (t := t') (by omega) (by omega) (by omega) (by omega) (by omega) (by omega) (by
    apply Int.ofNat_le.1
    rw [Int.natCast_mul, Int.natCast_mul]
    exact f3)
  rw [lg4096] at this
  have e1 : ((w + 1 : Nat) : Int) = (w : Int) + 1 := by omega
  rw [e1] at this
  have g1 := lgR_le (n := t') (m := (w : Int) + 1) (by omega) (by omega) (by omega)
  have g2 := lgR_le (n := q') (m := 4096) (by omega) (by omega) (by omega)
  have g3 : lgR 4096 = 786432 := lg4096
  obtain ⟨-, -, l1, l2⟩ := lg_of (n := (w : Int) + 1) (by omega) (by omega)
  obtain ⟨-, -, l3, l4⟩ := lg_of (n := (t' : Int)) (by omega) (by omega)
  obtain ⟨-, -, l5, l6⟩ := lg_of (n := (q' : Int)) (by omega) (by omega)
  rw [g3] at g2
  clear g3
  have hx := this.2
  have hy := this.1
  clear this
  generalize lgR ((w : Int) + 1) = A at *
  generalize lgR (t' : Int) = T at *
  generalize lgR (q' : Int) = Q at *
  refine ⟨by omega, by omega, by omega, fun hh => ?_, by omega, by omega, rfl, rfl⟩
  have := hx (by omega)
  omega
set_option maxRecDepth 100000 in
set_option maxHeartbeats 4000000 in
theorem ideal (x1 x2 p : Int) (b : Bool) (w : World) (a1 : 0 ≤ x1) (a2 : x1 ≤ 4294967295) (b1 : 0 ≤ x2) (b2 : x2 ≤ 4294967295) (p1 : -9223372036854775808 ≤ p) (p2 : p ≤ 9223372036854775807) :
    Calls Try.prog 13 #[.int .u32 x1, .int .u32 x2, .int .i64 p, .bool b] w fun e w' => e = .returned (.bool true) ∧ w = w' := by
  by_cases h : x1 < x2
  · cases hc : cOk p
    · have HC := Lib.hid hc
      clear hc
      go_enter Try.func13, Try.ntmps13
      go_wp2_with (first | (go_at_call 45; refine (alive _).mono ?_; rintro e w' ⟨rfl, rfl⟩) | (go_at_call 48; refine (rProbC_any p _).mono ?_; rintro e w' ⟨rfl, rfl⟩; rw [HC.out]))
      go_ret
      exact ⟨rfl, rfl⟩
    · obtain ⟨c1, c2⟩ := (cOk_iff p).1 hc
      have HC := Lib.hid hc
      obtain ⟨f1, f2, f3, f4, f5, f6, f7, f8⟩ := ideal_facts (b := b) a1 b2 h c1 c2
      have S := fun w => Step_any x1 x2 p b w a1 a2 b1 b2
      have B := fun w => Bit_any p b w
      rw [f7] at S
      rw [f8] at B
      clear hc f7 f8
      generalize ctV x1 x2 p b = n at *
      generalize btV p b = m at *
      by_cases g : x2 - x1 < 16777215
      · clear f4
        go_enter Try.func13, Try.ntmps13
        go_wp2_with (first | (go_at_call 45; refine (alive _).mono ?_; rintro e w' ⟨rfl, rfl⟩) | (go_at_call 48; refine (rProbC_any p _).mono ?_; rintro e w' ⟨rfl, rfl⟩; rw [HC.out]) | (go_at_call 37; refine (S _).mono ?_; rintro e w' ⟨rfl, rfl⟩) | (go_at_call 35; refine (B _).mono ?_; rintro e w' ⟨rfl, rfl⟩))
        go_ret
        exact ⟨rfl, rfl⟩
      · have f9 := f4 (by omega)
        clear f4
        go_enter Try.func13, Try.ntmps13
        go_wp2_with (first | (go_at_call 45; refine (alive _).mono ?_; rintro e w' ⟨rfl, rfl⟩) | (go_at_call 48; refine (rProbC_any p _).mono ?_; rintro e w' ⟨rfl, rfl⟩; rw [HC.out]) | (go_at_call 37; refine (S _).mono ?_; rintro e w' ⟨rfl, rfl⟩) | (go_at_call 35; refine (B _).mono ?_; rintro e w' ⟨rfl, rfl⟩))
        go_ret
        exact ⟨rfl, rfl⟩
  · go_enter Try.func13, Try.ntmps13
    go_wp2_with (first | (go_at_call 45; refine (alive _).mono ?_; rintro e w' ⟨rfl, rfl⟩) | (go_at_call 48; refine (rProbC_any p _).mono ?_; rintro e w' ⟨rfl, rfl⟩))
    go_ret
    exact ⟨rfl, rfl⟩
end Go.Proofs.Ytaehjhjbbkblbaa.costL
