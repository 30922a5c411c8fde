/- Total, Next and Run of package states, by walks. -/
import Derived.Test.YtkklmclnjmafaaaStW2
import Derived.Test.YtkklmclnjmafaaaCntPlain2
namespace Go.Proofs.Ytkklmclnjmafaaa.stW
set_option maxRecDepth 100000
open Go.RowKit Go.Proofs.Ytkklmclnjmafaaa.base Go.Proofs.Ytkklmclnjmafaaa.cntP Go.Proofs.Ytkklmclnjmafaaa.stP Go.Proofs.Ytkklmclnjmafaaa.cntW
set_option linter.unusedVariables false
set_option linter.unusedSimpArgs false
/-- What is known of the count of a state. -/
theorem back_facts {s : Int} (h1 : 0 ≤ s) (c1 : s < 193) : ∃ c : Cnt, sBack s = c ∧ ok c = true ∧ CntIn c ∧ cntC s = c ∧ cntE s = 0 ∧ totV c = stT s ∧ chk c = 0 ∧ stT s = c.a + c.b :=
  have hok := sBack_ok h1 c1
  ⟨_, rfl, hok, cin' hok, by unfold cntC; rw [if_pos c1], by unfold cntE; rw [if_pos c1], by unfold totV stT; rw [if_pos hok, if_pos c1], chk_yes hok, by unfold stT; rw [if_pos c1]⟩
set_option maxHeartbeats 1000000 in
theorem Total_any' (s : Int) (w : World) (h1 : 0 ≤ s) (h2 : s ≤ 255) :
    Calls Try.prog 29 #[.int .u8 s] w fun e w' => e = .returned (.tuple #[.int .i32 (stT s), .int .i64 (cntE s)]) ∧ Below w.heap.size w w' := by
  by_cases c1 : s < 193
  · obtain ⟨c, hB, hok, hci, e1, e2, e3, e4, e5⟩ := back_facts h1 c1
    have HE1 := Lib.hid e1
    have HE2 := Lib.hid e2
    have HE3 := Lib.hid e3
    have HE4 := Lib.hid e4
    rw [e2]
    clear hok e1 e2 e3 e4 e5 hB
    go_enter Try.func29, Try.ntmps29
    go_wp2_with fail
    refine (Count_any _ _ h1 h2).mono ?_
    rintro e w1 ⟨rfl, hb1⟩
    rw [HE1.out, HE2.out]
    go_wp2_with fail
    refine (Total_any c.a c.b c.l _ hci).mono ?_
    rintro e w2 ⟨rfl, hb2⟩
    rw [show totV ⟨c.a, c.b, c.l⟩ = stT s from HE3.out, show chk ⟨c.a, c.b, c.l⟩ = 0 from HE4.out]
    go_wp2
    go_ret2
    exact ⟨rfl, by (repeat' (first | (with_reducible exact Below.refl _ _) | (with_reducible assumption) | (with_reducible refine below_drewN ?_ _) | (with_reducible refine below_new ?_ _) | (with_reducible refine Below.alloc ?_ ?_ _) | (with_reducible refine Below.drew ?_) | (with_reducible refine Below.setCell ?_ ?_ _) | (with_reducible apply below_at; (case k => (with_reducible assumption)); (case hB => omega)) | (with_reducible apply below_on; (with_reducible assumption)) | (go_size; done) | (with_reducible apply size_of)))⟩
  · have e1 : cntC s = ⟨0, 0, 0⟩ := by unfold cntC; rw [if_neg c1]
    have e2 : cntE s = 2 := by unfold cntE; rw [if_neg c1]
    have e3 : stT s = 0 := by unfold stT; rw [if_neg c1]
    rw [e2, e3]
    have HE1 := Lib.hid e1
    have HE2 := Lib.hid e2
    clear e1 e2 e3
    go_enter Try.func29, Try.ntmps29
    go_wp2_with fail
    refine (Count_any _ _ h1 h2).mono ?_
    rintro e w1 ⟨rfl, hb1⟩
    rw [HE1.out, HE2.out]
    go_wp2
    go_ret2
    exact ⟨rfl, by (repeat' (first | (with_reducible exact Below.refl _ _) | (with_reducible assumption) | (with_reducible refine below_drewN ?_ _) | (with_reducible refine below_new ?_ _) | (with_reducible refine Below.alloc ?_ ?_ _) | (with_reducible refine Below.drew ?_) | (with_reducible refine Below.setCell ?_ ?_ _) | (with_reducible apply below_at; (case k => (with_reducible assumption)); (case hB => omega)) | (with_reducible apply below_on; (with_reducible assumption)) | (go_size; done) | (with_reducible apply size_of)))⟩
theorem field0 (a b c : Value) (w : World) : (Instr.field 73 (.agg #[a, b, c]) 0).run Try.prog w = .ok a w := by kernel_rfl
theorem field1 (a b c : Value) (w : World) : (Instr.field 73 (.agg #[a, b, c]) 1).run Try.prog w = .ok b w := by kernel_rfl
set_option maxHeartbeats 1000000 in
theorem rSeen_any (s : Int) (w : World) (h1 : 0 ≤ s) (c1 : s < 193) : Calls Try.prog 62 #[.int .u8 s] w fun e w' => e = .returned (.int .i32 (stT s)) ∧ Below w.heap.size w w' := by
  obtain ⟨c, hB, hok, hci, e1, e2, e3, e4, e5⟩ := back_facts h1 c1
  obtain ⟨x1, x2, x3, x4, x5, x6⟩ := ok_bd hok
  have HB := Lib.hid hB
  rw [e5]
  have h3 : s ≤ 192 := by omega
  clear hok e1 e2 e3 e4 e5 hB hci
  have g0 := field0
  have g1 := field1
  go_enter Try.func62, Try.ntmps62
  go_wp2_with fail
  refine (rBack_any _ _ h1 h3).mono ?_
  rintro e w1 ⟨rfl, hb1⟩
  rw [HB.out]
  go_wp2_with fail
  refine (rBack_any _ _ h1 h3).mono ?_
  rintro e w2 ⟨rfl, hb2⟩
  rw [HB.out]
  go_wp2
  go_ret
  exact ⟨rfl, by (repeat' (first | (with_reducible exact Below.refl _ _) | (with_reducible assumption) | (with_reducible refine below_drewN ?_ _) | (with_reducible refine below_new ?_ _) | (with_reducible refine Below.alloc ?_ ?_ _) | (with_reducible refine Below.drew ?_) | (with_reducible refine Below.setCell ?_ ?_ _) | (with_reducible apply below_at; (case k => (with_reducible assumption)); (case hB => omega)) | (with_reducible apply below_on; (with_reducible assumption)) | (go_size; done) | (with_reducible apply size_of)))⟩
set_option maxHeartbeats 1000000 in
theorem after_any (c : Cnt) (bit : Int) (g : Nat) (w : World) (hci : CntIn c) (b1 : 0 ≤ bit) (b2 : bit ≤ 255) (hp : Lies w g 5 [.int .u8 bit]) :
    Calls Try.prog 46 #[.agg #[.int .i32 (c).a, .int .i32 (c).b, .int .u8 (c).l], .pointer (some ⟨g, 0, none⟩)] w fun e w' => e = .returned (.tuple #[.agg #[.int .i32 (nxC c bit).a, .int .i32 (nxC c bit).b, .int .u8 (nxC c bit).l], .int .i64 (nxE c bit)]) ∧ Below w.heap.size w w' := by
  obtain ⟨q0, q1⟩ := hp.one
  have lq := hp.lt
  have lq1 : g < w.heap.size + 1 := by omega
  have lq2 : g < w.heap.size + 1 + 1 := by omega
  clear hp
  go_enter Try.func46, Try.ntmps46
  go_wp2_with fail
  refine (Next_any c.a c.b c.l _ _ hci b1 b2).mono ?_
  rintro e w2 ⟨rfl, hb2⟩
  obtain ⟨c0, c1, c2, g0, g1, g2⟩ := Lies.three (show Lies w2 (w.heap.size + 1) 73 [.int .i32 0, .int .i32 0, .int .u8 0] by (repeat' (first | (with_reducible assumption) | (with_reducible exact Lies.fresh _ _ _) | (with_reducible apply Lies.fresh_at; (first | (with_reducible rfl) | (simp; done))) | (with_reducible refine Lies.drew ?_) | (with_reducible refine Lies.drewN ?_ _) | (with_reducible refine Lies.alloc ?_ _) | (with_reducible apply Lies.past; case hb => (with_reducible assumption)) | (with_reducible apply Lies.keeps; (case k => (with_reducible assumption)); (case ht => decide)) | (with_reducible apply Lies.store3) | (with_reducible apply Lies.other; case hp => (first | omega | (simp; done) | (simp; omega))))))
  have l7 : w.heap.size + 1 < w2.heap.size := by have := hb2.size; simp at this; omega
  go_wp2
  refine bodyPost_ret (by simp [results, Try.results46, go_sem, c0, c1, c2]; try rfl) rfl ?_
  exact ⟨rfl, by (repeat' (first | (with_reducible exact Below.refl _ _) | (with_reducible assumption) | (with_reducible refine below_drewN ?_ _) | (with_reducible refine below_new ?_ _) | (with_reducible refine Below.alloc ?_ ?_ _) | (with_reducible refine Below.drew ?_) | (with_reducible refine Below.setCell ?_ ?_ _) | (with_reducible apply below_at; (case k => (with_reducible assumption)); (case hB => omega)) | (with_reducible apply below_on; (with_reducible assumption)) | (go_size; done) | (with_reducible apply size_of)))⟩
set_option maxHeartbeats 1000000 in
theorem NextS_any (s bit : Int) (w : World) (h1 : 0 ≤ s) (h2 : s ≤ 255) (b1 : 0 ≤ bit) (b2 : bit ≤ 255) :
    Calls Try.prog 32 #[.int .u8 s, .int .u8 bit] w fun e w' => e = .returned (.tuple #[.int .u8 (stN s bit), .int .i64 (stE s bit)]) ∧ Below w.heap.size w w' := by
  by_cases c1 : s < 193
  · obtain ⟨c, hB, hok, hci, e1, e2, e3, e4, e5⟩ := back_facts h1 c1
    have HE1 := Lib.hid e1
    have HE2 := Lib.hid e2
    have HOK := Lib.hid hok
    have HB := Lib.hid hB
    clear e1 e2 e3 e4 e5 hok hB
    by_cases hbit : bit ≤ 1
    · have hb01 : bit = 0 ∨ bit = 1 := by omega
      have HN1 : Hid (nxC c bit = nx c bit) := Lib.hid (by simp [nxC, HOK.out, hbit])
      have HN2 : Hid (nxE c bit = 0) := Lib.hid (by simp [nxE, HOK.out, hbit])
      have HKN : Hid (ok (nx c bit) = true) := Lib.hid (nx_ok HOK.out hb01)
      have HST : Hid (stN s bit = sOf (nx c bit) ∧ stE s bit = 0) := Lib.hid ⟨by unfold stN sNext; rw [if_pos c1, if_pos hbit, HB.out], by unfold stE; rw [if_pos c1, if_pos hbit]⟩
      clear hb01
      generalize nx c bit = d at *
      go_enter Try.func32, Try.ntmps32
      go_wp2_with (first | (go_at_call 44; refine (Count_any _ _ h1 h2).mono ?_; rintro e w1 ⟨rfl, hb1⟩; rw [HE1.out, HE2.out]; obtain ⟨q0, q1⟩ := Lies.one (Lies.past (Lies.fresh w 5 [.int .u8 bit]) hb1); have lq : w.heap.size < w1.heap.size := Lies.lt (Lies.past (Lies.fresh w 5 [.int .u8 bit]) hb1); have lq1 : w.heap.size < w1.heap.size + 1 := (by omega); have lq2 : w.heap.size < w1.heap.size + 1 + 1 := (by omega)) | (go_at_call 46; refine (after_any c bit w.heap.size _ hci b1 b2 ((Lies.past (Lies.fresh w 5 [.int .u8 bit]) hb1).alloc _)).mono ?_; rintro e w2 ⟨rfl, hb2⟩; rw [HN1.out, HN2.out]; refine lay (P := Lies w2 w1.heap.size 73 [.int .i32 c.a, .int .i32 c.b, .int .u8 c.l]) ?_ ?_; (focus ((repeat' (first | (with_reducible assumption) | (with_reducible exact Lies.fresh _ _ _) | (with_reducible apply Lies.fresh_at; (first | (with_reducible rfl) | (simp; done))) | (with_reducible refine Lies.drew ?_) | (with_reducible refine Lies.drewN ?_ _) | (with_reducible refine Lies.alloc ?_ _) | (with_reducible apply Lies.past; case hb => (with_reducible assumption)) | (with_reducible apply Lies.keeps; (case k => (with_reducible assumption)); (case ht => decide)) | (with_reducible apply Lies.store3) | (with_reducible apply Lies.other; case hp => (first | omega | (simp; done) | (simp; omega))))); done)); intro L6; obtain ⟨d0, d1, d2, f0, f1, f2⟩ := L6.three; have l6 := L6.lt; clear L6) | (go_at_call 57; refine (Number_ok d.a d.b d.l _ HKN.out).mono ?_; rintro e w' ⟨rfl, hb3⟩) | go_in)
      go_ret2
      exact ⟨(by rw [HST.out.1, HST.out.2]; try rfl), by (repeat' (first | (with_reducible exact Below.refl _ _) | (with_reducible assumption) | (with_reducible refine below_drewN ?_ _) | (with_reducible refine below_new ?_ _) | (with_reducible refine Below.alloc ?_ ?_ _) | (with_reducible refine Below.drew ?_) | (with_reducible refine Below.setCell ?_ ?_ _) | (with_reducible apply below_at; (case k => (with_reducible assumption)); (case hB => omega)) | (with_reducible apply below_on; (with_reducible assumption)) | (go_size; done) | (with_reducible apply size_of)))⟩
    · have HN1 : Hid (nxC c bit = ⟨0, 0, 0⟩) := Lib.hid (by simp [nxC, HOK.out, hbit])
      have HN2 : Hid (nxE c bit = 2) := Lib.hid (by simp [nxE, HOK.out, hbit])
      have HST : Hid (stN s bit = 0 ∧ stE s bit = 2) := Lib.hid ⟨by unfold stN; rw [if_pos c1, if_neg hbit], by unfold stE; rw [if_pos c1, if_neg hbit]⟩
      go_enter Try.func32, Try.ntmps32
      go_wp2_with (first | (go_at_call 44; refine (Count_any _ _ h1 h2).mono ?_; rintro e w1 ⟨rfl, hb1⟩; rw [HE1.out, HE2.out]; obtain ⟨q0, q1⟩ := Lies.one (Lies.past (Lies.fresh w 5 [.int .u8 bit]) hb1); have lq : w.heap.size < w1.heap.size := Lies.lt (Lies.past (Lies.fresh w 5 [.int .u8 bit]) hb1); have lq1 : w.heap.size < w1.heap.size + 1 := (by omega); have lq2 : w.heap.size < w1.heap.size + 1 + 1 := (by omega)) | (go_at_call 46; refine (after_any c bit w.heap.size _ hci b1 b2 ((Lies.past (Lies.fresh w 5 [.int .u8 bit]) hb1).alloc _)).mono ?_; rintro e w2 ⟨rfl, hb2⟩; rw [HN1.out, HN2.out]; refine lay (P := Lies w2 w1.heap.size 73 [.int .i32 c.a, .int .i32 c.b, .int .u8 c.l]) ?_ ?_; (focus ((repeat' (first | (with_reducible assumption) | (with_reducible exact Lies.fresh _ _ _) | (with_reducible apply Lies.fresh_at; (first | (with_reducible rfl) | (simp; done))) | (with_reducible refine Lies.drew ?_) | (with_reducible refine Lies.drewN ?_ _) | (with_reducible refine Lies.alloc ?_ _) | (with_reducible apply Lies.past; case hb => (with_reducible assumption)) | (with_reducible apply Lies.keeps; (case k => (with_reducible assumption)); (case ht => decide)) | (with_reducible apply Lies.store3) | (with_reducible apply Lies.other; case hp => (first | omega | (simp; done) | (simp; omega))))); done)); intro L6; obtain ⟨d0, d1, d2, f0, f1, f2⟩ := L6.three; have l6 := L6.lt; clear L6) | go_in)
      go_ret2
      exact ⟨(by rw [HST.out.1, HST.out.2]; try rfl), by (repeat' (first | (with_reducible exact Below.refl _ _) | (with_reducible assumption) | (with_reducible refine below_drewN ?_ _) | (with_reducible refine below_new ?_ _) | (with_reducible refine Below.alloc ?_ ?_ _) | (with_reducible refine Below.drew ?_) | (with_reducible refine Below.setCell ?_ ?_ _) | (with_reducible apply below_at; (case k => (with_reducible assumption)); (case hB => omega)) | (with_reducible apply below_on; (with_reducible assumption)) | (go_size; done) | (with_reducible apply size_of)))⟩
  · have e1 : cntC s = ⟨0, 0, 0⟩ := by unfold cntC; rw [if_neg c1]
    have e2 : cntE s = 2 := by unfold cntE; rw [if_neg c1]
    have HE1 := Lib.hid e1
    have HE2 := Lib.hid e2
    clear e1 e2
    go_enter Try.func32, Try.ntmps32
    go_wp2_with (first | (go_at_call 44; refine (Count_any _ _ h1 h2).mono ?_; rintro e w' ⟨rfl, hb1⟩; rw [HE1.out, HE2.out]) | go_in)
    go_ret2
    exact ⟨by simp [stN, stE, Int.not_lt.mpr c1], by (repeat' (first | (with_reducible exact Below.refl _ _) | (with_reducible assumption) | (with_reducible refine below_drewN ?_ _) | (with_reducible refine below_new ?_ _) | (with_reducible refine Below.alloc ?_ ?_ _) | (with_reducible refine Below.drew ?_) | (with_reducible refine Below.setCell ?_ ?_ _) | (with_reducible apply below_at; (case k => (with_reducible assumption)); (case hB => omega)) | (with_reducible apply below_on; (with_reducible assumption)) | (go_size; done) | (with_reducible apply size_of)))⟩
end Go.Proofs.Ytkklmclnjmafaaa.stW
