/- Statements of layer 8 (states), by walks. -/
import Derived.Test.YtkpcopecndpfjaaStW4
import Derived.Test.YtkpcopecndpfjaaStW5
namespace Go.Proofs.Ytkpcopecndpfjaa.stL
open Go.RowKit Go.Proofs.Ytkpcopecndpfjaa.base Go.Proofs.Ytkpcopecndpfjaa.cntP Go.Proofs.Ytkpcopecndpfjaa.stP Go.Proofs.Ytkpcopecndpfjaa.cntW Go.Proofs.Ytkpcopecndpfjaa.stW
set_option linter.unusedVariables false
set_option linter.unusedSimpArgs false
theorem stT_bd (s : Int) (h1 : 0 ≤ s) : 0 ≤ stT s ∧ stT s ≤ 24 := by
  unfold stT
  split
  · rename_i h
    have := ok_bd (sBack_ok h1 h)
    omega
  · omega
set_option maxHeartbeats 400000 in
theorem next_any (s bit want : Int) (w : World) (h1 : 0 ≤ s) (h2 : s ≤ 192) (b1 : 0 ≤ bit) (b2 : bit ≤ 1) (hn : sNext s bit = want) :
    Calls Try.prog 47 #[.int .u8 s, .int .u8 bit, .int .u8 want] w fun e w' => e = .returned (.bool true) ∧ Below w.heap.size w w' := by
  have HA : Hid (stN s bit = want ∧ stE s bit = 0) := Lib.hid ⟨by rw [stN, if_pos (by omega), if_pos b2, hn], by rw [stE, if_pos (by omega), if_pos b2]⟩
  clear hn
  go_enter Try.func47, Try.ntmps47
  go_wp2_with fail
  refine (NextS_any s bit _ h1 (by omega) b1 (by omega)).mono ?_
  rintro e w1 ⟨rfl, hb1⟩
  rw [HA.out.1, HA.out.2]
  go_wp2
  go_ret
  exact ⟨rfl, by (repeat' (first | (with_reducible exact Below.refl _ _) | (with_reducible assumption) | (with_reducible refine below_drewN ?_ _) | (with_reducible refine below_new ?_ _) | (with_reducible refine Below.alloc ?_ ?_ _) | (with_reducible refine Below.drew ?_) | (with_reducible refine Below.setCell ?_ ?_ _) | (with_reducible apply below_on; (with_reducible assumption)) | (go_size; done) | (with_reducible apply size_of)))⟩
set_option maxHeartbeats 1000000 in
theorem alive (w : World) :
    Calls Try.prog 34 #[] w fun e w' => e = .returned (.bool true) ∧ Below w.heap.size w w' := by
  have r1 : cntC 98 = ⟨1, 1, 1⟩ := by kernel_rfl
  have r2 : cntE 98 = 0 := by kernel_rfl
  have r3 : cntC 192 = ⟨7, 12, 1⟩ := by kernel_rfl
  have r4 : cntE 192 = 0 := by kernel_rfl
  have H1 := Lib.hid r1
  have H2 := Lib.hid r2
  have H3 := Lib.hid r3
  have H4 := Lib.hid r4
  clear r1 r2 r3 r4
  go_enter Try.func34, Try.ntmps34
  go_wp2_with fail
  refine (Count_any 98 _ (by omega) (by omega)).mono ?_
  rintro e w1 ⟨rfl, hb1⟩
  rw [H1.out, H2.out]
  go_wp2_with fail
  refine (Count_any 192 _ (by omega) (by omega)).mono ?_
  rintro e w2 ⟨rfl, hb2⟩
  rw [H3.out, H4.out]
  have HA2 := Lib.hid (Lies.past (Lies.fresh w1 23 [.int .i32 1, .int .i32 1, .int .u8 1]) hb2)
  go_wp2_with fail
  refine (next_any 0 0 1 _ (by omega) (by omega) (by omega) (by omega) rfl).mono ?_
  rintro e w3 ⟨rfl, hb3⟩
  have HA3 := Lib.hid ((HA2.out.alloc _).past hb3)
  have HB3 := Lib.hid (Lies.past (Lies.fresh w2 23 [.int .i32 7, .int .i32 12, .int .u8 1]) hb3)
  go_wp2_with fail
  refine (next_any 0 1 97 _ (by omega) (by omega) (by omega) (by omega) rfl).mono ?_
  rintro e w4 ⟨rfl, hb4⟩
  go_wp2_with fail
  refine (next_any 1 0 9 _ (by omega) (by omega) (by omega) (by omega) rfl).mono ?_
  rintro e w5 ⟨rfl, hb5⟩
  go_wp2_with fail
  refine (next_any 1 1 98 _ (by omega) (by omega) (by omega) (by omega) rfl).mono ?_
  rintro e w6 ⟨rfl, hb6⟩
  have hb36 : Below w3.heap.size w3 w6 := by (repeat' (first | (with_reducible exact Below.refl _ _) | (with_reducible assumption) | (with_reducible refine below_drewN ?_ _) | (with_reducible refine below_new ?_ _) | (with_reducible refine Below.alloc ?_ ?_ _) | (with_reducible refine Below.drew ?_) | (with_reducible refine Below.setCell ?_ ?_ _) | (with_reducible apply below_on; (with_reducible assumption)) | (go_size; done) | (with_reducible apply size_of)))
  obtain ⟨a0, a1, a2, f0, f1, f2⟩ := (HA3.out.past hb36).three
  obtain ⟨b0, b1, b2, g0, g1, g2⟩ := (HB3.out.past hb36).three
  go_wp2_with fail
  refine (next_any 192 1 189 _ (by omega) (by omega) (by omega) (by omega) rfl).mono ?_
  rintro e w7 ⟨rfl, hb7⟩
  go_wp2_with fail
  refine (next_any 192 0 64 _ (by omega) (by omega) (by omega) (by omega) rfl).mono ?_
  rintro e w8 ⟨rfl, hb8⟩
  go_wp2
  go_ret
  exact ⟨rfl, by (repeat' (first | (with_reducible exact Below.refl _ _) | (with_reducible assumption) | (with_reducible refine below_drewN ?_ _) | (with_reducible refine below_new ?_ _) | (with_reducible refine Below.alloc ?_ ?_ _) | (with_reducible refine Below.drew ?_) | (with_reducible refine Below.setCell ?_ ?_ _) | (with_reducible apply below_on; (with_reducible assumption)) | (go_size; done) | (with_reducible apply size_of)))⟩
set_option maxHeartbeats 2000000 in
theorem makes (s bit : Int) (c : Cnt) (w : World) (h1 : 0 ≤ s) (h2 : s ≤ 255) (b1 : 0 ≤ bit) (b2 : bit ≤ 255) (hc : CntIn c) :
    Calls Try.prog 11 #[.int .u8 s, .int .u8 bit, .agg #[.int .i32 (c).a, .int .i32 (c).b, .int .u8 (c).l]] w fun e w' => e = .returned (.bool true) ∧ Below w.heap.size w w' := by
  go_enter Try.func11, Try.ntmps11
  go_wp2_with fail
  refine (NextS_any s bit _ h1 h2 b1 b2).mono ?_
  rintro e w1 ⟨rfl, hb1⟩
  have HA1 : Hid (Lies w1 w.heap.size 23 [.int .i32 (c).a, .int .i32 (c).b, .int .u8 (c).l]) := Lib.hid (Lies.past (Lies.fresh _ _ _) hb1)
  go_wp2_with fail
  refine (rNextS_any s bit _ h1 h2 b1 b2).mono ?_
  rintro e w2 ⟨rfl, hb2⟩
  have HA2 := Lib.hid (HA1.out.past hb2)
  go_wp2_with fail
  refine (Count_any s _ h1 h2).mono ?_
  rintro e w3 ⟨rfl, hb3⟩
  have HA3 := Lib.hid (HA2.out.past hb3)
  go_wp2_with fail
  refine (rCount_any s _ h1 h2).mono ?_
  rintro e w4 ⟨rfl, hb4⟩
  have HA4 := Lib.hid ((HA3.out.alloc _).past hb4)
  have HX4 := Lib.hid (Lies.past (Lies.fresh w3 23 _) hb4)
  obtain ⟨a0, a1, a2, f0, f1, f2⟩ := Lies.three HA4.out; have la := Lies.lt HA4.out
  go_wp2_with fail
  refine (Number_any c _ hc).mono ?_
  rintro e w5 ⟨rfl, hb5⟩
  have HA5 := Lib.hid ((HA4.out.alloc _).past hb5)
  have HX5 := Lib.hid ((HX4.out.alloc _).past hb5)
  have HY5 := Lib.hid (Lies.past (Lies.fresh w4 23 _) hb5)
  obtain ⟨a0, a1, a2, f0, f1, f2⟩ := Lies.three HA5.out; have la := Lies.lt HA5.out
  go_wp2_with fail
  refine (rNumber_any c _ hc).mono ?_
  rintro e w6 ⟨rfl, hb6⟩
  go_wp2_with fail
  refine (Total_any' s _ h1 h2).mono ?_
  rintro e w7 ⟨rfl, hb7⟩
  go_wp2_with fail
  refine (rTotalS_any s _ h1 h2).mono ?_
  rintro e w8 ⟨rfl, hb8⟩
  have hb58 : Below w5.heap.size w5 w8 := by (repeat' (first | (with_reducible exact Below.refl _ _) | (with_reducible assumption) | (with_reducible refine below_drewN ?_ _) | (with_reducible refine below_new ?_ _) | (with_reducible refine Below.alloc ?_ ?_ _) | (with_reducible refine Below.drew ?_) | (with_reducible refine Below.setCell ?_ ?_ _) | (with_reducible apply below_on; (with_reducible assumption)) | (go_size; done) | (with_reducible apply size_of)))
  obtain ⟨a0, a1, a2, f0, f1, f2⟩ := (HX5.out.past hb58).three
  obtain ⟨b0, b1, b2, g0, g1, g2⟩ := (HY5.out.past hb58).three
  go_wp2_with (first | (go_at_call 33; refine (Size_any _).mono ?_; rintro e w' ⟨rfl, rfl⟩))
  go_ret
  exact ⟨rfl, by (repeat' (first | (with_reducible exact Below.refl _ _) | (with_reducible assumption) | (with_reducible refine below_drewN ?_ _) | (with_reducible refine below_new ?_ _) | (with_reducible refine Below.alloc ?_ ?_ _) | (with_reducible refine Below.drew ?_) | (with_reducible refine Below.setCell ?_ ?_ _) | (with_reducible apply below_on; (with_reducible assumption)) | (go_size; done) | (with_reducible apply size_of)))⟩
end Go.Proofs.Ytkpcopecndpfjaa.stL
