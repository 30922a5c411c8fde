/- ContextDeep, by a walk. -/
import Derived.Test.YtpggdijhfdddpaaDoorCxA2
namespace Go.Proofs.YtpggdijhfdddpaaDoor.cxW
open Go.RowKit Go.Proofs.YtpggdijhfdddpaaDoor.base Go.Proofs.YtpggdijhfdddpaaDoor.rgP Go.Proofs.YtpggdijhfdddpaaDoor.cxP Go.Proofs.YtpggdijhfdddpaaDoor.hashP Go.Proofs.YtpggdijhfdddpaaDoor.hashW
set_option linter.unusedVariables false
set_option linter.unusedSimpArgs false
set_option maxHeartbeats 1500000 in
theorem deep_law (m p q : Int) (w : World) (m1 : 0 ≤ m) (m2 : m ≤ 4294967295) (p1 : -9223372036854775808 ≤ p) (p2 : p ≤ 9223372036854775807) (q1 : -9223372036854775808 ≤ q) (q2 : q ≤ 9223372036854775807) (hT : Tab w) :
    Calls Tryd.prog 7 #[.int .u32 m, .int .i64 p, .int .i64 q] w fun e w' => e = .returned (.bool true) ∧ Below w.heap.size w w' := by
  have HTT := Lib.hid hT
  clear hT
  by_cases a1 : p < 16
  · go_enter Tryd.func7, Tryd.ntmps7
    go_wp2_with (go_at_call 21; refine (alive _ HTT.out).mono ?_; rintro e wz ⟨rfl, hbz⟩)
    go_ret
    exact ⟨rfl, by (repeat' (first | (with_reducible exact Below.refl _ _) | (with_reducible assumption) | (with_reducible refine below_drewN ?_ _) | (with_reducible refine below_new ?_ _) | (with_reducible refine Below.alloc ?_ ?_ _) | (with_reducible refine Below.drew ?_) | (with_reducible refine Below.setCell ?_ ?_ _) | (with_reducible apply below_at; (case k => (with_reducible assumption)); (case hB => omega)) | (with_reducible apply below_on; (with_reducible assumption)) | (go_size; done) | (with_reducible apply size_of)))⟩
  by_cases a2 : 31 < p
  · go_enter Tryd.func7, Tryd.ntmps7
    go_wp2_with (go_at_call 21; refine (alive _ HTT.out).mono ?_; rintro e wz ⟨rfl, hbz⟩)
    go_ret
    exact ⟨rfl, by (repeat' (first | (with_reducible exact Below.refl _ _) | (with_reducible assumption) | (with_reducible refine below_drewN ?_ _) | (with_reducible refine below_new ?_ _) | (with_reducible refine Below.alloc ?_ ?_ _) | (with_reducible refine Below.drew ?_) | (with_reducible refine Below.setCell ?_ ?_ _) | (with_reducible apply below_at; (case k => (with_reducible assumption)); (case hB => omega)) | (with_reducible apply below_on; (with_reducible assumption)) | (go_size; done) | (with_reducible apply size_of)))⟩
  by_cases a3 : q < 16
  · go_enter Tryd.func7, Tryd.ntmps7
    go_wp2_with (go_at_call 21; refine (alive _ HTT.out).mono ?_; rintro e wz ⟨rfl, hbz⟩)
    go_ret
    exact ⟨rfl, by (repeat' (first | (with_reducible exact Below.refl _ _) | (with_reducible assumption) | (with_reducible refine below_drewN ?_ _) | (with_reducible refine below_new ?_ _) | (with_reducible refine Below.alloc ?_ ?_ _) | (with_reducible refine Below.drew ?_) | (with_reducible refine Below.setCell ?_ ?_ _) | (with_reducible apply below_at; (case k => (with_reducible assumption)); (case hB => omega)) | (with_reducible apply below_on; (with_reducible assumption)) | (go_size; done) | (with_reducible apply size_of)))⟩
  by_cases a4 : 31 < q
  · go_enter Tryd.func7, Tryd.ntmps7
    go_wp2_with (go_at_call 21; refine (alive _ HTT.out).mono ?_; rintro e wz ⟨rfl, hbz⟩)
    go_ret
    exact ⟨rfl, by (repeat' (first | (with_reducible exact Below.refl _ _) | (with_reducible assumption) | (with_reducible refine below_drewN ?_ _) | (with_reducible refine below_new ?_ _) | (with_reducible refine Below.alloc ?_ ?_ _) | (with_reducible refine Below.drew ?_) | (with_reducible refine Below.setCell ?_ ?_ _) | (with_reducible apply below_at; (case k => (with_reducible assumption)); (case hB => omega)) | (with_reducible apply below_on; (with_reducible assumption)) | (go_size; done) | (with_reducible apply size_of)))⟩
  have HP : Hid (dpV m p = hStep m p ∧ dpE p = 0) := Lib.hid (by have : dpB p = true := (dpB_iff p).2 (by omega); simp [dpV, dpE, this])
  have HQ : Hid (dpV m q = hStep m q ∧ dpE q = 0) := Lib.hid (by have : dpB q = true := (dpB_iff q).2 (by omega); simp [dpV, dpE, this])
  have h5 : IntKind.u8.wrap p = p := by rw [IntKind.wrap_u8]; omega
  have HI : Hid (decide (hStep m p = hStep m q) = decide (p = q)) := Lib.hid (by rw [decide_eq_decide]; exact hStep_inj' m1 m2 (by omega) (by omega) (by omega) (by omega))
  have HB := Lib.hid (hStep_bd m1 m2 (c := p) (by omega) (by omega))
  have HK : Hid (hBack (hStep m p) p = m) := Lib.hid (hBack_hStep m1 m2 (by omega) (by omega))
  generalize hx : hStep m p = x at *
  have HX := Lib.hid hx
  generalize hStep m q = y at *
  clear hx
  go_enter Tryd.func7, Tryd.ntmps7
  go_wp2_with (go_at_call 21; refine (alive _ HTT.out).mono ?_; rintro e wz ⟨rfl, hbz⟩)
  refine (Deep_any m p _ m1 m2).mono ?_
  rintro e w1 ⟨rfl, hb1⟩
  rw [HP.out.1, HP.out.2]
  go_wp2_with fail
  refine (Deep_any m q _ m1 m2).mono ?_
  rintro e w2 ⟨rfl, hb2⟩
  rw [HQ.out.1, HQ.out.2]
  go_wp2_with fail
  refine (step_any m p _ m1 m2 (by omega) (by omega)).mono ?_
  rintro e w3 ⟨rfl, hb3⟩
  rw [HX.out]
  obtain ⟨x1, x2⟩ := HB.out
  have hbb : (x == y) = (p == q) := HI.out
  go_wp2_with fail
  refine (back_any x p _ x1 x2 (by omega) (by omega)).mono ?_
  rintro e w4 ⟨rfl, rfl⟩
  rw [HK.out]
  go_wp2_with fail
  go_ret
  exact ⟨rfl, by (repeat' (first | (with_reducible exact Below.refl _ _) | (with_reducible assumption) | (with_reducible refine below_drewN ?_ _) | (with_reducible refine below_new ?_ _) | (with_reducible refine Below.alloc ?_ ?_ _) | (with_reducible refine Below.drew ?_) | (with_reducible refine Below.setCell ?_ ?_ _) | (with_reducible apply below_at; (case k => (with_reducible assumption)); (case hB => omega)) | (with_reducible apply below_on; (with_reducible assumption)) | (go_size; done) | (with_reducible apply size_of)))⟩
end Go.Proofs.YtpggdijhfdddpaaDoor.cxW
