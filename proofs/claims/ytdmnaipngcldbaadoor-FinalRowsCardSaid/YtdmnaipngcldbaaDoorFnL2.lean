/- FinalRows, by a walk. -/
import Derived.Test.YtdmnaipngcldbaaDoorFnW6
import Derived.Test.YtdmnaipngcldbaaDoorFnA1
namespace Go.Proofs.YtdmnaipngcldbaaDoor.fnL
set_option maxRecDepth 100000
open Go.RowKit Go.Proofs.YtdmnaipngcldbaaDoor.base Go.Proofs.YtdmnaipngcldbaaDoor.rfP Go.Proofs.YtdmnaipngcldbaaDoor.rfW Go.Proofs.YtdmnaipngcldbaaDoor.fnP Go.Proofs.YtdmnaipngcldbaaDoor.fnW Go.Proofs.YtdmnaipngcldbaaDoor.sqP Go.Proofs.YtdmnaipngcldbaaDoor.sqW Go.Proofs.YtdmnaipngcldbaaDoor.hashP Go.Proofs.YtdmnaipngcldbaaDoor.hashW
set_option linter.unusedVariables false
set_option linter.unusedSimpArgs false
set_option maxHeartbeats 1500000 in
theorem rows (one two part other : Int) (w : World) (ha : 0 ≤ one ∧ one ≤ 255) (hb : 0 ≤ two ∧ two ≤ 255) (hT : Tab w) :
    Calls Tryd.prog 8 #[.int .u8 one, .int .u8 two, .int .i64 part, .int .i64 other] w fun e w' => e = .returned (.bool true) ∧ Below w.heap.size w w' := by
  have HT := Lib.hid hT
  have HA := Lib.hid ha
  have HB := Lib.hid hb
  clear hT ha hb
  go_enter Tryd.func8, Tryd.ntmps8
  go_wp2_with fail
  refine (alive w HT.out).mono ?_
  rintro e w1 ⟨rfl, b1⟩
  have S1 := Lib.hid b1
  clear b1
  go_wp2_with fail
  refine (Rows_any one two part w1 HA.out HB.out).mono ?_
  rintro e w2 ⟨rfl, b2⟩
  have S2 := Lib.hid (below_bs S1.out b2)
  clear b2 S1
  obtain ⟨re, hre⟩ : ∃ v, rowE part = v := ⟨_, rfl⟩
  obtain ⟨r0, hr0⟩ : ∃ v, rowV part = v := ⟨_, rfl⟩
  obtain ⟨r1, hr1⟩ : ∃ v, rowW one two part = v := ⟨_, rfl⟩
  have HR := Lib.hid (And.intro hre (And.intro hr0 hr1))
  rw [hre, hr0, hr1]
  clear hre hr0 hr1
  have S3 : Hid (Lies (w2.alloc (.cells #[.int .i64 r0, .int .i64 r1] 27)) w2.heap.size 27 [.int .i64 r0, .int .i64 r1] ∧ Below w.heap.size w (w2.alloc (.cells #[.int .i64 r0, .int .i64 r1] 27))) := Lib.hid ⟨Lies.fresh _ _ _, below_al S2.out _⟩
  clear S2
  go_wp2_with fail
  generalize hw3 : (w2.alloc (.cells #[.int .i64 r0, .int .i64 r1] 27)) = w3 at *
  generalize w2.heap.size = g1 at *
  clear hw3
  refine (Rows_any one two other w3 HA.out HB.out).mono ?_
  rintro e w4 ⟨rfl, b4⟩
  obtain ⟨se, hse⟩ : ∃ v, rowE other = v := ⟨_, rfl⟩
  obtain ⟨s0, hs0⟩ : ∃ v, rowV other = v := ⟨_, rfl⟩
  obtain ⟨s1, hs1⟩ : ∃ v, rowW one two other = v := ⟨_, rfl⟩
  have HS := Lib.hid (And.intro hse (And.intro hs0 hs1))
  rw [hse, hs0, hs1]
  clear hse hs0 hs1
  have S5 : Hid (Lies (w4.alloc (.cells #[.int .i64 s0, .int .i64 s1] 27)) g1 27 [.int .i64 r0, .int .i64 r1] ∧ Lies (w4.alloc (.cells #[.int .i64 s0, .int .i64 s1] 27)) w4.heap.size 27 [.int .i64 s0, .int .i64 s1] ∧ Below w.heap.size w (w4.alloc (.cells #[.int .i64 s0, .int .i64 s1] 27))) := Lib.hid ⟨(S3.out.1.past b4).alloc _, Lies.fresh _ _ _, below_al (below_bs S3.out.2 b4) _⟩
  clear b4 S3
  go_upto_region 4 with fail
  generalize hw5 : (w4.alloc (.cells #[.int .i64 s0, .int .i64 s1] 27)) = w5 at *
  generalize w4.heap.size = g2 at *
  clear hw5
  have fin : Below w.heap.size w w5 := S5.out.2.2
  have FIN := Lib.hid fin
  clear fin
  by_cases p1 : part < 1
  · obtain ⟨h1, h2, h3⟩ := row_no (one := one) (two := two) (part := part) (by omega)
    rw [HR.out.1] at h1
    subst h1
    have c1 : decide (1 ≤ part) = false := decide_eq_false (by omega)
    have c2 : ¬ 1 ≤ part := by omega
    clear h2 h3 HR p1
    by_cases o1 : other < 1
    · obtain ⟨h1, h2, h3⟩ := row_no (one := one) (two := two) (part := other) (by omega)
      rw [HS.out.1] at h1
      subst h1
      have d1 : decide (1 ≤ other) = false := decide_eq_false (by omega)
      have d2 : ¬ 1 ≤ other := by omega
      clear h2 h3 HS o1
      go_wp2_with fail
      go_ret
      exact ⟨rfl, FIN.out⟩
    by_cases o2 : 255 < other
    · obtain ⟨h1, h2, h3⟩ := row_no (one := one) (two := two) (part := other) (by omega)
      rw [HS.out.1] at h1
      subst h1
      have d1 : decide (other ≤ 255) = false := decide_eq_false (by omega)
      have d2 : 1 ≤ other := by omega
      clear h2 h3 HS o1 o2
      go_wp2_with fail
      go_ret
      exact ⟨rfl, FIN.out⟩
    have ho : 1 ≤ other ∧ other ≤ 255 := by omega
    obtain ⟨h1, h2, h3⟩ := row_ok (one := one) (two := two) ho
    rw [HS.out.1] at h1
    rw [HS.out.2.1] at h2
    rw [HS.out.2.2] at h3
    subst h1 h2 h3
    obtain ⟨ho1, ho2⟩ := ho
    clear HS o1 o2
    go_wp2_with fail
    go_ret
    exact ⟨rfl, FIN.out⟩
  by_cases p2 : 255 < part
  · obtain ⟨h1, h2, h3⟩ := row_no (one := one) (two := two) (part := part) (by omega)
    rw [HR.out.1] at h1
    subst h1
    have c1 : decide (part ≤ 255) = false := decide_eq_false (by omega)
    have c2 : 1 ≤ part := by omega
    clear h2 h3 HR p1 p2
    by_cases o1 : other < 1
    · obtain ⟨h1, h2, h3⟩ := row_no (one := one) (two := two) (part := other) (by omega)
      rw [HS.out.1] at h1
      subst h1
      have d1 : decide (1 ≤ other) = false := decide_eq_false (by omega)
      have d2 : ¬ 1 ≤ other := by omega
      clear h2 h3 HS o1
      go_wp2_with fail
      go_ret
      exact ⟨rfl, FIN.out⟩
    by_cases o2 : 255 < other
    · obtain ⟨h1, h2, h3⟩ := row_no (one := one) (two := two) (part := other) (by omega)
      rw [HS.out.1] at h1
      subst h1
      have d1 : decide (other ≤ 255) = false := decide_eq_false (by omega)
      have d2 : 1 ≤ other := by omega
      clear h2 h3 HS o1 o2
      go_wp2_with fail
      go_ret
      exact ⟨rfl, FIN.out⟩
    have ho : 1 ≤ other ∧ other ≤ 255 := by omega
    obtain ⟨h1, h2, h3⟩ := row_ok (one := one) (two := two) ho
    rw [HS.out.1] at h1
    rw [HS.out.2.1] at h2
    rw [HS.out.2.2] at h3
    subst h1 h2 h3
    obtain ⟨ho1, ho2⟩ := ho
    clear HS o1 o2
    go_wp2_with fail
    go_ret
    exact ⟨rfl, FIN.out⟩
  have hp : 1 ≤ part ∧ part ≤ 255 := by omega
  have HP := Lib.hid hp
  obtain ⟨h1, h2, h3⟩ := row_ok (one := one) (two := two) hp
  rw [HR.out.1] at h1
  rw [HR.out.2.1] at h2
  rw [HR.out.2.2] at h3
  subst h1 h2 h3
  obtain ⟨hp1, hp2⟩ := hp
  clear HR p1 p2
  by_cases o1 : other < 1
  · obtain ⟨h1, h2, h3⟩ := row_no (one := one) (two := two) (part := other) (by omega)
    rw [HS.out.1] at h1
    subst h1
    have d1 : decide (1 ≤ other) = false := decide_eq_false (by omega)
    have d2 : ¬ 1 ≤ other := by omega
    clear h2 h3 HS o1
    go_wp2_with fail
    go_ret
    exact ⟨rfl, FIN.out⟩
  by_cases o2 : 255 < other
  · obtain ⟨h1, h2, h3⟩ := row_no (one := one) (two := two) (part := other) (by omega)
    rw [HS.out.1] at h1
    subst h1
    have d1 : decide (other ≤ 255) = false := decide_eq_false (by omega)
    have d2 : 1 ≤ other := by omega
    clear h2 h3 HS o1 o2
    go_wp2_with fail
    go_ret
    exact ⟨rfl, FIN.out⟩
  have ho : 1 ≤ other ∧ other ≤ 255 := by omega
  obtain ⟨h1, h2, h3⟩ := row_ok (one := one) (two := two) ho
  rw [HS.out.1] at h1
  rw [HS.out.2.1] at h2
  rw [HS.out.2.2] at h3
  subst h1 h2 h3
  obtain ⟨ho1, ho2⟩ := ho
  clear HS o1 o2
  have HH := Lib.hid (rowH_bd HA.out HB.out (show 0 ≤ r0 ∧ r0 ≤ 255 by omega))
  have u1 : IntKind.u8.wrap r0 = r0 := by rw [IntKind.wrap_u8]; omega
  go_wp2_with fail
  refine (ofRow w5 _ rfl HA.out HB.out (by have := HP.out; omega)).mono ?_
  rintro e w6 ⟨rfl, b6⟩
  have S6 : Hid (Lies w6 g1 27 [.int .i64 r0, .int .i64 (rowH one two r0 % 256)] ∧ Lies w6 g2 27 [.int .i64 s0, .int .i64 (rowH one two s0 % 256)] ∧ Below w.heap.size w w6) := Lib.hid ⟨S5.out.1.past b6, S5.out.2.1.past b6, below_bs S5.out.2.2 b6⟩
  clear b6 S5 FIN
  generalize rowH one two r0 = hh at *
  generalize rowH one two s0 = h2 at *
  go_wp2_with fail
  refine (place_any hh 256 w6 HH.out.1 HH.out.2).mono ?_
  rintro v w7 ⟨rfl, rfl⟩
  rw [(place256 hh).1, (place256 hh).2]
  have q1 := eq2t (a := r0) (b := hh % 256) (by omega) (by omega)
  have q2 : 0 ≤ hh % 256 := by omega
  have q3 : hh % 256 < 256 := by omega
  obtain ⟨z0, z1, -, -⟩ := S6.out.1.two
  obtain ⟨z2, z3, -, -⟩ := S6.out.2.1.two
  by_cases hq : r0 = s0
  · subst hq
    go_wp2_with fail
    go_ret
    exact ⟨rfl, S6.out.2.2⟩
  · have hq2 : decide (r0 = s0) = false := decide_eq_false hq
    have hq3 : (r0 == s0) = false := by simp [hq]
    go_wp2_with fail
    go_ret
    exact ⟨rfl, S6.out.2.2⟩
theorem rows_law (one two part other : Int) (w : World) (a1 : 0 ≤ one) (a2 : one ≤ 255) (b1 : 0 ≤ two) (b2 : two ≤ 255) (_ : -9223372036854775808 ≤ part) (_ : part ≤ 9223372036854775807) (_ : -9223372036854775808 ≤ other) (_ : other ≤ 9223372036854775807) (hT : Tab w) :
    Calls Tryd.prog 8 #[.int .u8 one, .int .u8 two, .int .i64 part, .int .i64 other] w fun e w' => e = .returned (.bool true) ∧ Below w.heap.size w w' :=
  rows one two part other w ⟨a1, a2⟩ ⟨b1, b2⟩ hT
end Go.Proofs.YtdmnaipngcldbaaDoor.fnL
