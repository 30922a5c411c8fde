/- Joining of both, by walks. -/
import Derived.Test.YtdmnaipngcldbaaDoorRfWH
import Derived.Test.YtdmnaipngcldbaaDoorOrd
namespace Go.Proofs.YtdmnaipngcldbaaDoor.fnP
set_option maxRecDepth 100000
open Go.Proofs.YtdmnaipngcldbaaDoor.base Go.Proofs.YtdmnaipngcldbaaDoor.rfP
set_option linter.unusedVariables false
def prB (p : Int) : Bool := decide (0 ≤ p) && decide (p ≤ 4095)
theorem prB_iff (p : Int) : prB p = true ↔ 0 ≤ p ∧ p ≤ 4095 := by simp [prB]
def joinN (p a b : Int) : Int := min (max (((p + 3 * a) / 4 + (p + b) / 2 + 1) / 2) 1) 4095
def joinB (p a b : Int) : Bool := prB p && (prB a && prB b)
theorem joinB_iff (p a b : Int) : joinB p a b = true ↔ (0 ≤ p ∧ p ≤ 4095) ∧ (0 ≤ a ∧ a ≤ 4095) ∧ (0 ≤ b ∧ b ≤ 4095) := by simp [joinB, prB_iff]
def joinE (p a b : Int) : Int := if joinB p a b = true then 0 else 2
def joinV (p a b : Int) : Int := if joinB p a b = true then joinN p a b else 0
theorem join_bd (p a b : Int) : 1 ≤ joinN p a b ∧ joinN p a b ≤ 4095 := by unfold joinN; omega
theorem join_no {p a b : Int} (h : joinB p a b = false) : joinE p a b = 2 ∧ joinV p a b = 0 := by unfold joinE joinV; rw [h]; exact ⟨rfl, rfl⟩
theorem join_yes {p a b : Int} (h : joinB p a b = true) : joinE p a b = 0 ∧ joinV p a b = joinN p a b := by unfold joinE joinV; rw [h]; exact ⟨rfl, rfl⟩
/-- Both maps are valid. -/
def fnB (x y : List (List Int)) : Bool := decide (x.length = 256) && (decide (y.length = 256) && (rfB x && rfB y))
def fnE (x y : List (List Int)) : Int := if fnB x y = true then 0 else 8
theorem fnB_iff (x y : List (List Int)) : fnB x y = true ↔ x.length = 256 ∧ y.length = 256 ∧ rfB x = true ∧ rfB y = true := by simp [fnB]
theorem fnE_yes {x y : List (List Int)} (h : fnB x y = true) : fnE x y = 0 := by unfold fnE; rw [h]; rfl
theorem fnE_no {x y : List (List Int)} (h : fnB x y = false) : fnE x y = 8 := by unfold fnE; rw [h]; rfl
end Go.Proofs.YtdmnaipngcldbaaDoor.fnP
namespace Go.Proofs.YtdmnaipngcldbaaDoor.fnP
set_option maxRecDepth 100000
open Go.Proofs.YtdmnaipngcldbaaDoor.base Go.Proofs.YtdmnaipngcldbaaDoor.rfP Go.Proofs.YtdmnaipngcldbaaDoor.rfW
set_option linter.unusedVariables false
def fE (x y : List (List Int)) (r0 r1 d p : Int) : Int := if fnB x y = true then (if lookE x r0 d = 0 then (if lookE y r1 d = 0 then joinE p (lookV x r0 d) (lookV y r1 d) else lookE y r1 d) else lookE x r0 d) else 8
def fV (x y : List (List Int)) (r0 r1 d p : Int) : Int := if fE x y r0 r1 d p = 0 then joinN p (lookV x r0 d) (lookV y r1 d) else 0
def fZ (x y : List (List Int)) (r0 r1 d p v : Int) : Int := if fE x y r0 r1 d p = 0 then v else 0
theorem f_bad {x y : List (List Int)} {r0 r1 d p : Int} (h : fE x y r0 r1 d p ≠ 0) : fV x y r0 r1 d p = 0 ∧ ∀ v, fZ x y r0 r1 d p v = 0 := by unfold fV fZ; rw [if_neg h]; exact ⟨rfl, fun v => by rw [if_neg h]⟩
theorem f_ok {x y : List (List Int)} {r0 r1 d p : Int} (h : fE x y r0 r1 d p = 0) : fV x y r0 r1 d p = joinN p (lookV x r0 d) (lookV y r1 d) ∧ ∀ v, fZ x y r0 r1 d p v = v := by unfold fV fZ; rw [if_pos h]; exact ⟨rfl, fun v => by rw [if_pos h]⟩
theorem fE_no {x y : List (List Int)} {r0 r1 d p : Int} (h : fnB x y = false) : fE x y r0 r1 d p = 8 := by unfold fE; rw [h]; rfl
theorem fE_one {x y : List (List Int)} {r0 r1 d p : Int} (h : fnB x y = true) (h1 : lookE x r0 d ≠ 0) : fE x y r0 r1 d p = lookE x r0 d := by unfold fE; rw [if_pos h, if_neg h1]
theorem fE_two {x y : List (List Int)} {r0 r1 d p : Int} (h : fnB x y = true) (h1 : lookE x r0 d = 0) (h2 : lookE y r1 d ≠ 0) : fE x y r0 r1 d p = lookE y r1 d := by unfold fE; rw [if_pos h, if_pos h1, if_neg h2]
theorem fE_join {x y : List (List Int)} {r0 r1 d p : Int} (h : fnB x y = true) (h1 : lookE x r0 d = 0) (h2 : lookE y r1 d = 0) : fE x y r0 r1 d p = joinE p (lookV x r0 d) (lookV y r1 d) := by unfold fE; rw [if_pos h, if_pos h1, if_pos h2]
end Go.Proofs.YtdmnaipngcldbaaDoor.fnP
namespace Go.Proofs.YtdmnaipngcldbaaDoor.fnP
set_option maxRecDepth 100000
theorem join_a {p a b : Int} (h : ¬ (0 ≤ p ∧ p ≤ 4095)) : joinB p a b = false := by
  cases hj : joinB p a b
  · rfl
  · exact absurd ((joinB_iff p a b).1 hj).1 h
theorem join_b {p a b : Int} (h : ¬ (0 ≤ a ∧ a ≤ 4095)) : joinB p a b = false := by
  cases hj : joinB p a b
  · rfl
  · exact absurd ((joinB_iff p a b).1 hj).2.1 h
theorem join_c {p a b : Int} (h : ¬ (0 ≤ b ∧ b ≤ 4095)) : joinB p a b = false := by
  cases hj : joinB p a b
  · rfl
  · exact absurd ((joinB_iff p a b).1 hj).2.2 h
end Go.Proofs.YtdmnaipngcldbaaDoor.fnP
namespace Go.Proofs.YtdmnaipngcldbaaDoor.fnW
set_option maxRecDepth 100000
open Go.RowKit Go.Proofs.YtdmnaipngcldbaaDoor.base Go.Proofs.YtdmnaipngcldbaaDoor.rfP Go.Proofs.YtdmnaipngcldbaaDoor.fnP
set_option linter.unusedVariables false
set_option linter.unusedSimpArgs false
set_option maxHeartbeats 800000 in
theorem Join_any (p a b : Int) (w : World) :
    Calls Tryd.prog 10 #[.int .i32 p, .int .i32 a, .int .i32 b] w fun e w' => e = .returned (.tuple #[.int .i32 (joinV p a b), .int .i64 (joinE p a b)]) ∧ w' = w := by
  have i0 : ∀ w : World, (Instr.index 70 (.agg #[.int .i32 p, .int .i32 a, .int .i32 b]) (.int .i64 0)).run Tryd.prog w = .ok (.int .i32 p) w := fun _ => by kernel_rfl
  have i1 : ∀ w : World, (Instr.index 70 (.agg #[.int .i32 p, .int .i32 a, .int .i32 b]) (.int .i64 1)).run Tryd.prog w = .ok (.int .i32 a) w := fun _ => by kernel_rfl
  have i2 : ∀ w : World, (Instr.index 70 (.agg #[.int .i32 p, .int .i32 a, .int .i32 b]) (.int .i64 2)).run Tryd.prog w = .ok (.int .i32 b) w := fun _ => by kernel_rfl
  go_enter Tryd.func10, Tryd.ntmps10
  go_wp2_with fail
  go_loopw [16] (fun iv wr => (iv = .int .i64 0 ∨ (iv = .int .i64 1 ∧ 0 ≤ p ∧ p ≤ 4095) ∨ (iv = .int .i64 2 ∧ (0 ≤ p ∧ p ≤ 4095) ∧ 0 ≤ a ∧ a ≤ 4095) ∨ (iv = .int .i64 3 ∧ (0 ≤ p ∧ p ≤ 4095) ∧ (0 ≤ a ∧ a ≤ 4095) ∧ 0 ≤ b ∧ b ≤ 4095)) ∧ wr = w) (fun iv _ => 3 - (intOf iv).toNat)
  case atStart => exact ⟨.inl rfl, rfl⟩
  case round =>
    obtain ⟨hiv, rfl⟩ := hrel
    rcases hiv with rfl | ⟨rfl, hp⟩ | ⟨rfl, hp, ha⟩ | ⟨rfl, hp, ha, hb⟩
    · by_cases c1 : p < 0
      · have HN := Lib.hid (join_no (join_a (p := p) (a := a) (b := b) (by omega)))
        go_wp2_with fail
        go_ret2
        exact ⟨by rw [HN.out.1, HN.out.2]; rfl, rfl⟩
      by_cases c2 : 4095 < p
      · have HN := Lib.hid (join_no (join_a (p := p) (a := a) (b := b) (by omega)))
        have c3 : decide (p < 0) = false := decide_eq_false c1
        clear c1
        go_wp2_with fail
        go_ret2
        exact ⟨by rw [HN.out.1, HN.out.2]; rfl, rfl⟩
      have HV : Hid (0 ≤ p ∧ p ≤ 4095) := Lib.hid (by omega)
      have c3 : decide (p < 0) = false := decide_eq_false c1
      have c4 : decide (4095 < p) = false := decide_eq_false c2
      clear c1 c2
      go_wp2_with fail
      exact ⟨⟨.inr (.inl ⟨rfl, HV.out⟩), by trivial⟩, by simp [intOf]⟩
    · have HP := Lib.hid hp
      clear hp
      by_cases c1 : a < 0
      · have HN := Lib.hid (join_no (join_b (p := p) (a := a) (b := b) (by omega)))
        go_wp2_with fail
        go_ret2
        exact ⟨by rw [HN.out.1, HN.out.2]; rfl, rfl⟩
      by_cases c2 : 4095 < a
      · have HN := Lib.hid (join_no (join_b (p := p) (a := a) (b := b) (by omega)))
        have c3 : decide (a < 0) = false := decide_eq_false c1
        clear c1
        go_wp2_with fail
        go_ret2
        exact ⟨by rw [HN.out.1, HN.out.2]; rfl, rfl⟩
      have HV : Hid (0 ≤ a ∧ a ≤ 4095) := Lib.hid (by omega)
      have c3 : decide (a < 0) = false := decide_eq_false c1
      have c4 : decide (4095 < a) = false := decide_eq_false c2
      clear c1 c2
      go_wp2_with fail
      exact ⟨⟨.inr (.inr (.inl ⟨rfl, HP.out, HV.out⟩)), by trivial⟩, by simp [intOf]⟩
    · have HP := Lib.hid hp
      have HA := Lib.hid ha
      clear hp ha
      by_cases c1 : b < 0
      · have HN := Lib.hid (join_no (join_c (p := p) (a := a) (b := b) (by omega)))
        go_wp2_with fail
        go_ret2
        exact ⟨by rw [HN.out.1, HN.out.2]; rfl, rfl⟩
      by_cases c2 : 4095 < b
      · have HN := Lib.hid (join_no (join_c (p := p) (a := a) (b := b) (by omega)))
        have c3 : decide (b < 0) = false := decide_eq_false c1
        clear c1
        go_wp2_with fail
        go_ret2
        exact ⟨by rw [HN.out.1, HN.out.2]; rfl, rfl⟩
      have HV : Hid (0 ≤ b ∧ b ≤ 4095) := Lib.hid (by omega)
      have c3 : decide (b < 0) = false := decide_eq_false c1
      have c4 : decide (4095 < b) = false := decide_eq_false c2
      clear c1 c2
      go_wp2_with fail
      exact ⟨⟨.inr (.inr (.inr ⟨rfl, HP.out, HA.out, HV.out⟩)), by trivial⟩, by simp [intOf]⟩
    · have HJ := Lib.hid (join_yes ((joinB_iff p a b).2 ⟨hp, ha, hb⟩))
      have HN : Hid (joinN p a b = min (max (((p + 3 * a) / 4 + (p + b) / 2 + 1) / 2) 1) 4095) := Lib.hid rfl
      obtain ⟨p0, p1⟩ := hp
      obtain ⟨a0, a1⟩ := ha
      obtain ⟨b0, b1⟩ := hb
      have d1 : 0 ≤ (p + 3 * a) / 4 ∧ (p + 3 * a) / 4 ≤ 4095 := by omega
      have d2 : 0 ≤ (p + b) / 2 ∧ (p + b) / 2 ≤ 4095 := by omega
      obtain ⟨d3, d4⟩ := d1
      obtain ⟨d5, d6⟩ := d2
      go_wp2_with fail
      all_goals (go_ret2; refine ⟨?_, rfl⟩; rw [HJ.out.1, HJ.out.2]; (first | (rw [show joinN p a b = 1 by rw [HN.out]; omega]; rfl) | (rw [show joinN p a b = (((p + 3 * a) / 4 + (p + b) / 2 + 1) / 2) by rw [HN.out]; omega]; rfl)))
set_option maxHeartbeats 400000 in
theorem rProb_any (p : Int) (w : World) :
    Calls Tryd.prog 25 #[.int .i32 p] w fun e w' => e = .returned (.bool (prB p)) ∧ w' = w := by
  by_cases c1 : 0 ≤ p
  · by_cases c2 : p ≤ 4095
    · rw [show prB p = true from (prB_iff p).2 ⟨c1, c2⟩]
      go_enter Tryd.func25, Tryd.ntmps25
      go_wp2_with fail
      go_ret
      exact ⟨rfl, rfl⟩
    · rw [show prB p = false by simp [prB, c2]]
      go_enter Tryd.func25, Tryd.ntmps25
      go_wp2_with fail
      go_ret
      exact ⟨rfl, rfl⟩
  · rw [show prB p = false by simp [prB, c1]]
    have c2 : decide (0 ≤ p) = false := decide_eq_false c1
    go_enter Tryd.func25, Tryd.ntmps25
    go_wp2_with fail
    go_ret
    exact ⟨rfl, rfl⟩
set_option maxHeartbeats 400000 in
theorem rJoined_any (p a b : Int) (w : World) (h : joinB p a b = true) :
    Calls Tryd.prog 30 #[.int .i32 p, .int .i32 a, .int .i32 b] w fun e w' => e = .returned (.int .i32 (joinN p a b)) ∧ w' = w := by
  obtain ⟨⟨p0, p1⟩, ⟨a0, a1⟩, b0, b1⟩ := (joinB_iff p a b).1 h
  have HN : Hid (joinN p a b = min (max (((p + a + a + a) / 4 + (p + b) / 2 + 1) / 2) 1) 4095) := Lib.hid (by unfold joinN; rw [show p + 3 * a = p + a + a + a by omega])
  clear h
  have d1 : 0 ≤ (p + a + a + a) / 4 ∧ (p + a + a + a) / 4 ≤ 4095 := by omega
  have d2 : 0 ≤ (p + b) / 2 ∧ (p + b) / 2 ≤ 4095 := by omega
  obtain ⟨d3, d4⟩ := d1
  obtain ⟨d5, d6⟩ := d2
  go_enter Tryd.func30, Tryd.ntmps30
  go_wp2_with fail
  all_goals (go_ret; refine ⟨?_, rfl⟩; (first | (rw [show joinN p a b = 1 by rw [HN.out]; omega]; rfl) | (rw [show joinN p a b = (((p + a + a + a) / 4 + (p + b) / 2 + 1) / 2) by rw [HN.out]; omega]; rfl)))
set_option maxHeartbeats 400000 in
theorem rJoin_any (p a b : Int) (w : World) :
    Calls Tryd.prog 11 #[.int .i32 p, .int .i32 a, .int .i32 b] w fun e w' => e = .returned (.tuple #[.int .i32 (joinV p a b), .int .i64 (joinE p a b)]) ∧ w' = w := by
  go_enter Tryd.func11, Tryd.ntmps11
  go_wp2_with fail
  refine (rProb_any p w).mono ?_
  rintro e wx ⟨rfl, rfl⟩
  cases hp : prB p
  · have HN := Lib.hid (join_no (p := p) (a := a) (b := b) (by simp [joinB, hp]))
    clear hp
    go_wp2_with fail
    go_ret2
    exact ⟨by rw [HN.out.1, HN.out.2]; rfl, rfl⟩
  go_wp2_with fail
  refine (rProb_any a wx).mono ?_
  rintro e wy ⟨rfl, rfl⟩
  cases ha : prB a
  · have HN := Lib.hid (join_no (p := p) (a := a) (b := b) (by simp [joinB, ha]))
    clear ha hp
    go_wp2_with fail
    go_ret2
    exact ⟨by rw [HN.out.1, HN.out.2]; rfl, rfl⟩
  go_wp2_with fail
  refine (rProb_any b wy).mono ?_
  rintro e wz ⟨rfl, rfl⟩
  cases hb : prB b
  · have HN := Lib.hid (join_no (p := p) (a := a) (b := b) (by simp [joinB, hb]))
    clear ha hp hb
    go_wp2_with fail
    go_ret2
    exact ⟨by rw [HN.out.1, HN.out.2]; rfl, rfl⟩
  have hj : joinB p a b = true := by simp [joinB, ha, hp, hb]
  have HJ := Lib.hid hj
  have HN := Lib.hid (join_yes hj)
  clear ha hp hb hj
  go_wp2_with fail
  refine (rJoined_any p a b wz HJ.out).mono ?_
  rintro e w2 ⟨rfl, rfl⟩
  go_wp2_with fail
  go_ret2
  exact ⟨by rw [HN.out.1, HN.out.2]; rfl, rfl⟩
end Go.Proofs.YtdmnaipngcldbaaDoor.fnW
