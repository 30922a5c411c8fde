/- MarkerFinds, by a walk. -/
import Derived.Test.YthcpanenjcjgpaaMkL
namespace Go.Proofs.Ythcpanenjcjgpaa.mkL
open Go.RowKit Go.Proofs.Ythcpanenjcjgpaa.base Go.Proofs.Ythcpanenjcjgpaa.mkP Go.Proofs.Ythcpanenjcjgpaa.mkW
set_option linter.unusedVariables false
set_option linter.unusedSimpArgs false
theorem allV_le (b : List Int) : (allV b).length ≤ b.length := by
  unfold allV
  split
  · exact plK_len b b.length
  · exact Nat.zero_le _
set_option maxRecDepth 100000 in
set_option maxHeartbeats 4000000 in
theorem finds (A : Option Addr) (n c : Nat) (z : List Int) (i : Int) (w : World) (hr : IsRow .u8 w A n c z) (l1 : -9223372036854775808 ≤ i) (l2 : i ≤ 9223372036854775807) (hT : Tab w) :
    Calls Try.prog 3 #[.slice A n c, .int .i64 i] w fun e w' => e = .returned (.bool true) ∧ Below w.heap.size w w' := by
  have hi := ib_of hr
  obtain ⟨b, hb⟩ : ∃ b, z.take n = b := ⟨_, rfl⟩
  rw [hb] at hi
  have HH := Lib.hid hi
  have HTT := Lib.hid hT
  have n9 : (n : Int) ≤ 9223372036854775807 := by have h1 : n ≤ c := hi.h.c1; have h2 : c ≤ 9223372036854775807 := hi.h.c2; omega
  have HN9 : Hid (n ≤ 9223372036854775807) := Lib.hid (by omega)
  clear hr hb hT
  by_cases c1 : (3000 : Int) < n ∧ (n : Int) ≤ 50000
  · obtain ⟨k1, k2⟩ := c1
    clear hi
    go_enter Try.func3, Try.ntmps3
    go_wp2_with fail
    go_ret
    exact ⟨rfl, Below.refl _ _⟩
  · have cv := conv8 (c := c) hi.h.h hi.e
    have key : ((3000 : Int) < n ∧ (50000 : Int) < n) ∨ ((n : Int) ≤ 3000 ∧ (n : Int) ≤ 3000) := by omega
    rcases key with ⟨k1, k2⟩ | ⟨k1, k2⟩
    all_goals
      clear hi c1
      go_enter Try.func3, Try.ntmps3
      go_wp2_with fail
      refine (At_any b A n c i _ HH.out.h l1 l2).mono ?_
      rintro e w' ⟨rfl, rfl⟩
      clear cv
      obtain ⟨d1, w1, hcv1, ib1, hb1⟩ := conv_b b n HH.out.e HH.out.bd HN9.out w
      have IB1 := Lib.hid ib1
      have HB1 := Lib.hid hb1
      clear ib1 hb1
      go_wp2_with fail
      clear hcv1
      refine (rAt b _ n d1 i _ IB1.out.h l1 l2).mono ?_
      rintro e w2 ⟨rfl, hb2⟩
      have HB2 : Hid (Below w.heap.size w w2) := Lib.hid (HB1.out.trans (hb2.mono HB1.out.size))
      clear hb2
      go_wp2_with fail
      refine (Find_any b A n c i _ (HTT.out.below HB2.out) (HH.out.below HB2.out) l1 l2).mono ?_
      rintro e w3 ⟨rfl, hb3⟩
      have HB3 : Hid (Below w.heap.size w w3) := Lib.hid (HB2.out.trans (hb3.mono HB2.out.size))
      clear hb3
      obtain ⟨d4, w4, hcv4, ib4, hb4⟩ := conv_b b n HH.out.e HH.out.bd HN9.out w3
      have IB4 := Lib.hid ib4
      have HB4 : Hid (Below w.heap.size w w4) := Lib.hid (HB3.out.trans (hb4.mono HB3.out.size))
      clear ib4 hb4
      go_wp2_with fail
      clear hcv4
      refine (rFind b _ n d4 i _ IB4.out.h l1 l2).mono ?_
      rintro e w5 ⟨rfl, hb5⟩
      have HB5 : Hid (Below w.heap.size w w5) := Lib.hid (HB4.out.trans (hb5.mono HB4.out.size))
      clear hb5
      go_wp2_with fail
      refine (All_any b A n c _ (HTT.out.below HB5.out) (HH.out.below HB5.out)).mono ?_
      rintro e w6 ⟨A6, n6, d6, rfl, hn6, ho6, hb6⟩
      have HO6 := Lib.hid ho6
      have HN6 := Lib.hid hn6
      have HB6 : Hid (Below w.heap.size w w6) := Lib.hid (HB5.out.trans (hb6.mono HB5.out.size))
      clear hn6 ho6 hb6
      obtain ⟨d7, w7, hcv7, ib7, hb7⟩ := conv_b b n HH.out.e HH.out.bd HN9.out w6
      have IB7 := Lib.hid ib7
      have HO7 := Lib.hid (HO6.out.below hb7 (Nat.le_refl _))
      have HB7 : Hid (Below w.heap.size w w7) := Lib.hid (HB6.out.trans (hb7.mono HB6.out.size))
      clear ib7 hb7
      go_wp2_with fail
      clear hcv7
      refine (rAll b _ n d7 _ IB7.out.h).mono ?_
      rintro e w8 ⟨A8, n8, d8, rfl, hn8, ho8, hb8⟩
      have HO8 := Lib.hid ho8
      have HN8 := Lib.hid hn8
      have HO9 := Lib.hid (HO7.out.below hb8 (Nat.le_refl _))
      have HB8 : Hid (Below w.heap.size w w8) := Lib.hid (HB7.out.trans (hb8.mono HB7.out.size))
      clear hn8 ho8 hb8
      go_wp2_with fail
      refine (sameI_any A6 A8 n6 n8 d6 d8 (allV b) (allV b) _ HO9.out.has HN6.out.symm HO8.out.has HN8.out.symm (by have := HN6.out; have := allV_le b; have := HH.out.e; omega) (by have := HN8.out; have := allV_le b; have := HH.out.e; omega)).mono ?_
      rintro e w9 ⟨rfl, hb9⟩
      rw [decide_eq_true rfl]
      have HB9 : Hid (Below w.heap.size w w9) := Lib.hid (HB8.out.trans (hb9.mono HB8.out.size))
      clear hb9
      have cv := conv8 (c := c) (HH.out.below HB9.out).h.h HH.out.e
      go_wp2_with fail
      go_ret
      exact ⟨rfl, HB9.out⟩
end Go.Proofs.Ythcpanenjcjgpaa.mkL
