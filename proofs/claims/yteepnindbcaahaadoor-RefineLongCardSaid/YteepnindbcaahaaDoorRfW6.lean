/- The reference's Look, by walks. -/
import Derived.Test.YteepnindbcaahaaDoorRfW5
namespace Go.Proofs.YteepnindbcaahaaDoor.rfW
set_option maxRecDepth 100000
open Go.RowKit Go.Proofs.YteepnindbcaahaaDoor.base Go.Proofs.YteepnindbcaahaaDoor.rfP
set_option linter.unusedVariables false
set_option linter.unusedSimpArgs false
set_option maxHeartbeats 2000000 in
theorem rLook_bad (P : Option Addr) (m c : Nat) (rs : List RY) (row d : Int) (w : World) (h : RowsY w P m c rs) (hb : askE (numsY rs) row ≠ 0) :
    Calls Tryd.prog 13 #[.agg #[.slice P m c], .int .i64 row, .int .i32 d] w fun e w' => e = .returned (.tuple #[.int .i32 0, .int .i64 0, .int .i64 (askE (numsY rs) row)]) ∧ Below w.heap.size w w' := by
  have H := Lib.hid h
  have LB : Hid (Lies (w.alloc (.cells #[.slice P m c] 24)) w.heap.size 24 [.slice P m c]) := Lib.hid (Lies.fresh _ _ _)
  clear h
  obtain ⟨v, hv⟩ : ∃ v, askE (numsY rs) row = v := ⟨_, rfl⟩
  have HV := Lib.hid hv
  rw [hv] at hb ⊢
  clear hv
  go_enter Tryd.func13, Tryd.ntmps13
  go_wp2_with fail
  refine (rAsked_any P m c rs row _ (H.out.below (B := w.heap.size) (by (repeat' (first | (with_reducible exact Below.refl _ _) | (with_reducible assumption) | (with_reducible refine below_drewN ?_ _) | (with_reducible refine below_new ?_ _) | (with_reducible refine Below.alloc ?_ ?_ _) | (with_reducible refine Below.drew ?_) | (with_reducible refine Below.setCell ?_ ?_ _) | (with_reducible apply below_at; (case k => (with_reducible assumption)); (case hB => omega)) | (with_reducible apply below_on; (with_reducible assumption)) | (go_size; done) | (with_reducible apply size_of)))) (Nat.le_refl _))).mono ?_
  rintro e w1 ⟨rfl, hb1⟩
  rw [HV.out]
  have HB1 : Hid (Below w.heap.size w w1) := Lib.hid (by (repeat' (first | (with_reducible exact Below.refl _ _) | (with_reducible assumption) | (with_reducible refine below_drewN ?_ _) | (with_reducible refine below_new ?_ _) | (with_reducible refine Below.alloc ?_ ?_ _) | (with_reducible refine Below.drew ?_) | (with_reducible refine Below.setCell ?_ ?_ _) | (with_reducible apply below_at; (case k => (with_reducible assumption)); (case hB => omega)) | (with_reducible apply below_on; (with_reducible assumption)) | (go_size; done) | (with_reducible apply size_of))))
  have x1 : w1.cell? ⟨w.heap.size, 0, none⟩ = some (.slice P m c) := (LB.out.past hb1).cell 0
  clear hb1
  go_wp2_with fail
  refine (rAsked_any P m c rs row _ (H.out.below HB1.out (Nat.le_refl _))).mono ?_
  rintro e w2 ⟨rfl, hb2⟩
  rw [HV.out]
  have HB2 : Hid (Below w.heap.size w w2) := Lib.hid (HB1.out.trans (hb2.mono HB1.out.size))
  clear hb2 x1
  go_wp2_with fail
  refine bodyPost_ret (by simp [results, Tryd.results13, go_sem, ]; try rfl) rfl ?_
  exact ⟨rfl, HB2.out⟩
set_option maxHeartbeats 2000000 in
theorem rLook_far (P : Option Addr) (m c : Nat) (rs : List RY) (row d : Int) (w : World) (h : RowsY w P m c rs) (hb : askE (numsY rs) row = 0) (hd : d < -2047 ∨ 2047 < d) :
    Calls Tryd.prog 13 #[.agg #[.slice P m c], .int .i64 row, .int .i32 d] w fun e w' => e = .returned (.tuple #[.int .i32 0, .int .i64 0, .int .i64 2]) ∧ Below w.heap.size w w' := by
  have H := Lib.hid h
  have HV := Lib.hid hb
  clear h hb
  by_cases c1 : d < -2047
  · clear hd
    go_enter Tryd.func13, Tryd.ntmps13
    go_wp2_with fail
    refine (rAsked_any P m c rs row _ (H.out.below (B := w.heap.size) (by (repeat' (first | (with_reducible exact Below.refl _ _) | (with_reducible assumption) | (with_reducible refine below_drewN ?_ _) | (with_reducible refine below_new ?_ _) | (with_reducible refine Below.alloc ?_ ?_ _) | (with_reducible refine Below.drew ?_) | (with_reducible refine Below.setCell ?_ ?_ _) | (with_reducible apply below_at; (case k => (with_reducible assumption)); (case hB => omega)) | (with_reducible apply below_on; (with_reducible assumption)) | (go_size; done) | (with_reducible apply size_of)))) (Nat.le_refl _))).mono ?_
    rintro e w1 ⟨rfl, hb1⟩
    rw [HV.out]
    have HB1 : Hid (Below w.heap.size w w1) := Lib.hid (by (repeat' (first | (with_reducible exact Below.refl _ _) | (with_reducible assumption) | (with_reducible refine below_drewN ?_ _) | (with_reducible refine below_new ?_ _) | (with_reducible refine Below.alloc ?_ ?_ _) | (with_reducible refine Below.drew ?_) | (with_reducible refine Below.setCell ?_ ?_ _) | (with_reducible apply below_at; (case k => (with_reducible assumption)); (case hB => omega)) | (with_reducible apply below_on; (with_reducible assumption)) | (go_size; done) | (with_reducible apply size_of))))
    clear hb1
    go_wp2_with fail
    refine bodyPost_ret (by simp [results, Tryd.results13, go_sem, ]; try rfl) rfl ?_
    exact ⟨rfl, HB1.out⟩
  · have c2 : 2047 < d := by omega
    have c3 : decide (d < -2047) = false := decide_eq_false c1
    have c4 : 0 ≤ d := by omega
    clear hd c1
    go_enter Tryd.func13, Tryd.ntmps13
    go_wp2_with fail
    refine (rAsked_any P m c rs row _ (H.out.below (B := w.heap.size) (by (repeat' (first | (with_reducible exact Below.refl _ _) | (with_reducible assumption) | (with_reducible refine below_drewN ?_ _) | (with_reducible refine below_new ?_ _) | (with_reducible refine Below.alloc ?_ ?_ _) | (with_reducible refine Below.drew ?_) | (with_reducible refine Below.setCell ?_ ?_ _) | (with_reducible apply below_at; (case k => (with_reducible assumption)); (case hB => omega)) | (with_reducible apply below_on; (with_reducible assumption)) | (go_size; done) | (with_reducible apply size_of)))) (Nat.le_refl _))).mono ?_
    rintro e w1 ⟨rfl, hb1⟩
    rw [HV.out]
    have HB1 : Hid (Below w.heap.size w w1) := Lib.hid (by (repeat' (first | (with_reducible exact Below.refl _ _) | (with_reducible assumption) | (with_reducible refine below_drewN ?_ _) | (with_reducible refine below_new ?_ _) | (with_reducible refine Below.alloc ?_ ?_ _) | (with_reducible refine Below.drew ?_) | (with_reducible refine Below.setCell ?_ ?_ _) | (with_reducible apply below_at; (case k => (with_reducible assumption)); (case hB => omega)) | (with_reducible apply below_on; (with_reducible assumption)) | (go_size; done) | (with_reducible apply size_of))))
    clear hb1
    go_wp2_with fail
    refine bodyPost_ret (by simp [results, Tryd.results13, go_sem, ]; try rfl) rfl ?_
    exact ⟨rfl, HB1.out⟩
end Go.Proofs.YteepnindbcaahaaDoor.rfW
