/- StatesCounts, StatesNumbers, by walks. -/
import Derived.Test.YtkpcopecndpfjaaStL
namespace Go.Proofs.Ytkpcopecndpfjaa.stL
open Go.RowKit Go.Proofs.Ytkpcopecndpfjaa.base Go.Proofs.Ytkpcopecndpfjaa.cntP Go.Proofs.Ytkpcopecndpfjaa.stP Go.Proofs.Ytkpcopecndpfjaa.cntW Go.Proofs.Ytkpcopecndpfjaa.stW
set_option linter.unusedVariables false
set_option linter.unusedSimpArgs false
theorem sNext_pos {c : Cnt} {bit : Int} (h : ok c = true) (hb : bit = 0 ∨ bit = 1) : 1 ≤ sOf (nx c bit) := by
  have bd := ok_bd h
  have m1 := more_pos bd.1
  have m2 := more_pos bd.2.2.1
  have hk := nx_ok h hb
  have b2 := ok_bd hk
  rcases hb with rfl | rfl
  · have e : nx c 0 = ⟨more c.a, shr c.b, 0⟩ := rfl
    rw [e] at b2 ⊢
    unfold sOf
    simp only at b2 ⊢
    rw [if_neg (by omega), if_pos trivial]
    omega
  · have e : nx c 1 = ⟨shr c.a, more c.b, 1⟩ := rfl
    rw [e] at b2 ⊢
    unfold sOf
    simp only at b2 ⊢
    rw [if_neg (by omega), if_neg (by omega)]
    omega
set_option maxHeartbeats 1000000 in
theorem counts_bad (s bit : Int) (w : World) (h1 : 0 ≤ s) (h2 : s ≤ 255) (b1 : 0 ≤ bit) (b2 : bit ≤ 255) (c1 : ¬ s < 193) :
    Calls Try.prog 13 #[.int .u8 s, .int .u8 bit] w fun e w' => e = .returned (.bool true) ∧ Below w.heap.size w w' := by
  have e1 : cntC s = ⟨0, 0, 0⟩ := by unfold cntC; rw [if_neg c1]
  have e2 : cntE s = 2 := by unfold cntE; rw [if_neg c1]
  have hd : decide (s < 193) = false := decide_eq_false c1
  have HE1 := Lib.hid e1
  have HE2 := Lib.hid e2
  clear e1 e2
  go_enter Try.func13, Try.ntmps13
  go_wp2_with fail
  refine (Count_any s _ h1 h2).mono ?_
  rintro e w1 ⟨rfl, hb1⟩
  rw [HE1.out, HE2.out]
  go_wp2_with (first | (go_at_call 40; refine (rState_any _ _).mono ?_; rintro e w' ⟨rfl, rfl⟩) | (go_at_call 34; refine (alive _).mono ?_; rintro e w' ⟨rfl, hb2⟩))
  go_ret
  exact ⟨rfl, by (repeat' (first | (with_reducible exact Below.refl _ _) | (with_reducible assumption) | (with_reducible refine below_drewN ?_ _) | (with_reducible refine below_new ?_ _) | (with_reducible refine Below.alloc ?_ ?_ _) | (with_reducible refine Below.drew ?_) | (with_reducible refine Below.setCell ?_ ?_ _) | (with_reducible apply below_on; (with_reducible assumption)) | (go_size; done) | (with_reducible apply size_of)))⟩
set_option maxHeartbeats 2000000 in
theorem counts_ok (s bit : Int) (w : World) (h1 : 0 ≤ s) (c1 : s < 193) (b1 : 0 ≤ bit) (b2 : bit ≤ 255) :
    Calls Try.prog 13 #[.int .u8 s, .int .u8 bit] w fun e w' => e = .returned (.bool true) ∧ Below w.heap.size w w' := by
  obtain ⟨c, hB, hok, hci, e1, e2, e3, e4, e5⟩ := back_facts h1 c1
  have h2 : s ≤ 255 := by omega
  have HE1 := Lib.hid e1
  have HE2 := Lib.hid e2
  have HE3 := Lib.hid e3
  have HE4 := Lib.hid e4
  have HOK := Lib.hid hok
  have HB := Lib.hid hB
  have HN : Hid (numV c = s) := Lib.hid (by rw [numV, if_pos hok, ← hB]; exact sOf_sBack h1 c1)
  clear e1 e2 e3 e4 e5 hok hB
  by_cases hbit : 1 < bit
  · go_enter Try.func13, Try.ntmps13
    go_wp2_with fail
    refine (Count_any s _ h1 h2).mono ?_
    rintro e w1 ⟨rfl, hb1⟩
    rw [HE1.out, HE2.out]
    go_wp2_with (first | (go_at_call 40; refine (rState_any _ _).mono ?_; rintro e w' ⟨rfl, rfl⟩))
    refine (Number_any c _ hci).mono ?_
    rintro e w2 ⟨rfl, hb2⟩
    rw [HN.out, HE4.out]
    have HA2 := Lib.hid (Lies.past (Lies.fresh w1 23 [.int .i32 c.a, .int .i32 c.b, .int .u8 c.l]) hb2)
    go_wp2_with fail
    refine (Total_any' s _ h1 h2).mono ?_
    rintro e w3 ⟨rfl, hb3⟩
    rw [HE2.out]
    have HA3 := Lib.hid (HA2.out.past hb3)
    obtain ⟨a0, a1, a2, f0, f1, f2⟩ := Lies.three HA3.out; have la := Lies.lt HA3.out
    go_wp2_with fail
    refine (Total_any c.a c.b c.l _ hci).mono ?_
    rintro e w4 ⟨rfl, hb4⟩
    rw [show totV ⟨c.a, c.b, c.l⟩ = stT s from HE3.out, show chk ⟨c.a, c.b, c.l⟩ = 0 from HE4.out]
    have HA4 := Lib.hid (HA3.out.past hb4)
    obtain ⟨a0, a1, a2, f0, f1, f2⟩ := Lies.three HA4.out; have la := Lies.lt HA4.out
    go_wp2_with fail
    refine (rcheck_any c _ hci).mono ?_
    rintro e w5 ⟨rfl, hb5⟩
    rw [HE4.out]
    go_wp2_with (first | (go_at_call 34; refine (alive _).mono ?_; rintro e w' ⟨rfl, hb6⟩))
    go_ret
    exact ⟨rfl, by (repeat' (first | (with_reducible exact Below.refl _ _) | (with_reducible assumption) | (with_reducible refine below_drewN ?_ _) | (with_reducible refine below_new ?_ _) | (with_reducible refine Below.alloc ?_ ?_ _) | (with_reducible refine Below.drew ?_) | (with_reducible refine Below.setCell ?_ ?_ _) | (with_reducible apply below_on; (with_reducible assumption)) | (go_size; done) | (with_reducible apply size_of)))⟩
  · have hb01 : bit = 0 ∨ bit = 1 := by omega
    have hbl : bit ≤ 1 := by omega
    have hkn := nx_ok HOK.out hb01
    have HST : Hid (stN s bit = sOf (nx c bit) ∧ stE s bit = 0) := Lib.hid ⟨by unfold stN sNext; rw [if_pos c1, if_pos hbl, HB.out], by unfold stE; rw [if_pos c1, if_pos hbl]⟩
    have HN1 : Hid (nxC c bit = nx c bit) := Lib.hid (by simp [nxC, HOK.out, hbl])
    have HN2 : Hid (nxE c bit = 0) := Lib.hid (by simp [nxE, HOK.out, hbl])
    have hpos := sNext_pos HOK.out hb01
    obtain ⟨t1, t2⟩ := sOf_bd hkn
    have t3 : sOf (nx c bit) ≤ 255 := by omega
    have HC1 : Hid (cntC (sOf (nx c bit)) = nx c bit) := Lib.hid (by rw [cntC, if_pos t2, sBack_sOf hkn])
    have HC2 : Hid (cntE (sOf (nx c bit)) = 0) := Lib.hid (by rw [cntE, if_pos t2])
    clear hkn hb01
    generalize sOf (nx c bit) = t at *
    generalize nx c bit = d at *
    go_enter Try.func13, Try.ntmps13
    go_wp2_with fail
    refine (Count_any s _ h1 h2).mono ?_
    rintro e w1 ⟨rfl, hb1⟩
    rw [HE1.out, HE2.out]
    go_wp2_with (first | (go_at_call 40; refine (rState_any _ _).mono ?_; rintro e w' ⟨rfl, rfl⟩))
    refine (Number_any c _ hci).mono ?_
    rintro e w2 ⟨rfl, hb2⟩
    rw [HN.out, HE4.out]
    have HA2 := Lib.hid (Lies.past (Lies.fresh w1 23 [.int .i32 c.a, .int .i32 c.b, .int .u8 c.l]) hb2)
    go_wp2_with fail
    refine (Total_any' s _ h1 h2).mono ?_
    rintro e w3 ⟨rfl, hb3⟩
    rw [HE2.out]
    have HA3 := Lib.hid (HA2.out.past hb3)
    obtain ⟨a0, a1, a2, f0, f1, f2⟩ := Lies.three HA3.out; have la := Lies.lt HA3.out
    go_wp2_with fail
    refine (Total_any c.a c.b c.l _ hci).mono ?_
    rintro e w4 ⟨rfl, hb4⟩
    rw [show totV ⟨c.a, c.b, c.l⟩ = stT s from HE3.out, show chk ⟨c.a, c.b, c.l⟩ = 0 from HE4.out]
    have HA4 := Lib.hid (HA3.out.past hb4)
    obtain ⟨a0, a1, a2, f0, f1, f2⟩ := Lies.three HA4.out; have la := Lies.lt HA4.out
    go_wp2_with fail
    refine (rcheck_any c _ hci).mono ?_
    rintro e w5 ⟨rfl, hb5⟩
    rw [HE4.out]
    have HA5 := Lib.hid (HA4.out.past hb5)
    go_wp2_with fail
    refine (NextS_any s bit _ h1 h2 b1 b2).mono ?_
    rintro e w6 ⟨rfl, hb6⟩
    rw [HST.out.1, HST.out.2]
    have HA6 := Lib.hid (HA5.out.past hb6)
    obtain ⟨a0, a1, a2, f0, f1, f2⟩ := Lies.three HA6.out; have la := Lies.lt HA6.out
    go_wp2_with fail
    refine (Next_any c.a c.b c.l bit _ hci b1 b2).mono ?_
    rintro e w7 ⟨rfl, hb7⟩
    rw [show nxC ⟨c.a, c.b, c.l⟩ bit = d from HN1.out, show nxE ⟨c.a, c.b, c.l⟩ bit = 0 from HN2.out]
    go_wp2_with fail
    refine (Count_any t _ t1 t3).mono ?_
    rintro e w8 ⟨rfl, hb8⟩
    rw [HC1.out, HC2.out]
    obtain ⟨d0, d1, d2, i0, i1, i2⟩ := Lies.three (Lies.past (Lies.fresh w7 23 [.int .i32 d.a, .int .i32 d.b, .int .u8 d.l]) hb8)
    have ld : w7.heap.size < w8.heap.size := Lies.lt (Lies.past (Lies.fresh w7 23 [.int .i32 d.a, .int .i32 d.b, .int .u8 d.l]) hb8)
    have hne : (t == 0) = false := by rw [beq_eq_false_iff_ne]; omega
    have hne2 : (t != 0) = true := by rw [bne_iff_ne]; omega
    go_wp2_with (first | (go_at_call 34; refine (alive _).mono ?_; rintro e w' ⟨rfl, hb9⟩))
    go_ret
    exact ⟨rfl, by (repeat' (first | (with_reducible exact Below.refl _ _) | (with_reducible assumption) | (with_reducible refine below_drewN ?_ _) | (with_reducible refine below_new ?_ _) | (with_reducible refine Below.alloc ?_ ?_ _) | (with_reducible refine Below.drew ?_) | (with_reducible refine Below.setCell ?_ ?_ _) | (with_reducible apply below_on; (with_reducible assumption)) | (go_size; done) | (with_reducible apply size_of)))⟩
theorem counts (s bit : Int) (w : World) (h1 : 0 ≤ s) (h2 : s ≤ 255) (b1 : 0 ≤ bit) (b2 : bit ≤ 255) :
    Calls Try.prog 13 #[.int .u8 s, .int .u8 bit] w fun e w' => e = .returned (.bool true) ∧ Below w.heap.size w w' := by
  by_cases c1 : s < 193
  · exact counts_ok s bit w h1 c1 b1 b2
  · exact counts_bad s bit w h1 h2 b1 b2 c1
end Go.Proofs.Ytkpcopecndpfjaa.stL
