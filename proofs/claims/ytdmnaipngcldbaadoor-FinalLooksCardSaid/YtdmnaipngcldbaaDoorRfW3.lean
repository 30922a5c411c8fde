/- Whether a row is asked rightly, by walks. -/
import Derived.Test.YtdmnaipngcldbaaDoorRfW2
namespace Go.Proofs.YtdmnaipngcldbaaDoor.rfP
set_option maxRecDepth 100000
/-- The error of a refiner and a row. -/
def askE (l : List (List Int)) (row : Int) : Int := if rfB l = true then (if row < 0 ∨ (l.length : Int) ≤ row then 2 else 0) else 8
end Go.Proofs.YtdmnaipngcldbaaDoor.rfP
namespace Go.Proofs.YtdmnaipngcldbaaDoor.rfW
set_option maxRecDepth 100000
open Go.RowKit Go.Proofs.YtdmnaipngcldbaaDoor.base Go.Proofs.YtdmnaipngcldbaaDoor.rfP
set_option linter.unusedVariables false
set_option linter.unusedSimpArgs false
theorem ask_bad {l : List (List Int)} {row : Int} (h : rfB l = false) : askE l row = 8 := by unfold askE; rw [h]; rfl
theorem ask_no {l : List (List Int)} {row : Int} (h : rfB l = true) (h2 : row < 0 ∨ (l.length : Int) ≤ row) : askE l row = 2 := by unfold askE; rw [if_pos h, if_pos h2]
theorem ask_ok {l : List (List Int)} {row : Int} (h : rfB l = true) (h1 : 0 ≤ row) (h2 : row < l.length) : askE l row = 0 := by unfold askE; rw [if_pos h, if_neg (by omega)]
set_option maxHeartbeats 2000000 in
theorem checkAt_any (P : Option Addr) (m c : Nat) (rs : List RY) (row : Int) (w : World) (h : RowsY w P m c rs) :
    Calls Tryd.prog 41 #[.agg #[.slice P m c], .int .i64 row] w fun e w' => e = .returned (.int .i64 (askE (numsY rs) row)) ∧ Below w.heap.size w w' := by
  have H := Lib.hid h
  have HLN : Hid ((numsY rs).length = m) := Lib.hid (by rw [nums_len]; exact h.l)
  have LB : Hid (Lies (w.alloc (.cells #[.slice P m c] 24)) w.heap.size 24 [.slice P m c]) := Lib.hid (Lies.fresh _ _ _)
  clear h
  cases hr : rfB (numsY rs)
  · have HE := Lib.hid (rfE_no hr)
    have HA := Lib.hid (ask_bad (row := row) hr)
    clear hr
    go_enter Tryd.func41, Tryd.ntmps41
    go_wp2_with fail
    refine (Check_any P m c rs _ (H.out.below (B := w.heap.size) (by (repeat' (first | (with_reducible exact Below.refl _ _) | (with_reducible assumption) | (with_reducible refine below_drewN ?_ _) | (with_reducible refine below_new ?_ _) | (with_reducible refine Below.alloc ?_ ?_ _) | (with_reducible refine Below.drew ?_) | (with_reducible refine Below.setCell ?_ ?_ _) | (with_reducible apply below_at; (case k => (with_reducible assumption)); (case hB => omega)) | (with_reducible apply below_on; (with_reducible assumption)) | (go_size; done) | (with_reducible apply size_of)))) (Nat.le_refl _))).mono ?_
    rintro e w1 ⟨rfl, hb1⟩
    rw [HE.out]
    have HB1 : Hid (Below w.heap.size w w1) := Lib.hid (by (repeat' (first | (with_reducible exact Below.refl _ _) | (with_reducible assumption) | (with_reducible refine below_drewN ?_ _) | (with_reducible refine below_new ?_ _) | (with_reducible refine Below.alloc ?_ ?_ _) | (with_reducible refine Below.drew ?_) | (with_reducible refine Below.setCell ?_ ?_ _) | (with_reducible apply below_at; (case k => (with_reducible assumption)); (case hB => omega)) | (with_reducible apply below_on; (with_reducible assumption)) | (go_size; done) | (with_reducible apply size_of))))
    clear hb1
    go_wp2_with fail
    refine bodyPost_ret (by simp [results, Tryd.results41, go_sem, ]; try rfl) rfl ?_
    exact ⟨by rw [HA.out], HB1.out⟩
  · have HE := Lib.hid (rfE_yes hr)
    by_cases a1 : row < 0
    · have HA := Lib.hid (ask_no (row := row) hr (.inl a1))
      clear hr
      go_enter Tryd.func41, Tryd.ntmps41
      go_wp2_with fail
      refine (Check_any P m c rs _ (H.out.below (B := w.heap.size) (by (repeat' (first | (with_reducible exact Below.refl _ _) | (with_reducible assumption) | (with_reducible refine below_drewN ?_ _) | (with_reducible refine below_new ?_ _) | (with_reducible refine Below.alloc ?_ ?_ _) | (with_reducible refine Below.drew ?_) | (with_reducible refine Below.setCell ?_ ?_ _) | (with_reducible apply below_at; (case k => (with_reducible assumption)); (case hB => omega)) | (with_reducible apply below_on; (with_reducible assumption)) | (go_size; done) | (with_reducible apply size_of)))) (Nat.le_refl _))).mono ?_
      rintro e w1 ⟨rfl, hb1⟩
      rw [HE.out]
      have HB1 : Hid (Below w.heap.size w w1) := Lib.hid (by (repeat' (first | (with_reducible exact Below.refl _ _) | (with_reducible assumption) | (with_reducible refine below_drewN ?_ _) | (with_reducible refine below_new ?_ _) | (with_reducible refine Below.alloc ?_ ?_ _) | (with_reducible refine Below.drew ?_) | (with_reducible refine Below.setCell ?_ ?_ _) | (with_reducible apply below_at; (case k => (with_reducible assumption)); (case hB => omega)) | (with_reducible apply below_on; (with_reducible assumption)) | (go_size; done) | (with_reducible apply size_of))))
      have x1 := (LB.out.past hb1).cell 0
      clear hb1
      go_wp2_with fail
      refine bodyPost_ret (by simp [results, Tryd.results41, go_sem, ]; try rfl) rfl ?_
      exact ⟨by rw [HA.out], HB1.out⟩
    by_cases a2 : (m : Int) ≤ row
    · have HA := Lib.hid (ask_no (row := row) hr (.inr (by rw [HLN.out]; exact a2)))
      clear hr
      go_enter Tryd.func41, Tryd.ntmps41
      go_wp2_with fail
      refine (Check_any P m c rs _ (H.out.below (B := w.heap.size) (by (repeat' (first | (with_reducible exact Below.refl _ _) | (with_reducible assumption) | (with_reducible refine below_drewN ?_ _) | (with_reducible refine below_new ?_ _) | (with_reducible refine Below.alloc ?_ ?_ _) | (with_reducible refine Below.drew ?_) | (with_reducible refine Below.setCell ?_ ?_ _) | (with_reducible apply below_at; (case k => (with_reducible assumption)); (case hB => omega)) | (with_reducible apply below_on; (with_reducible assumption)) | (go_size; done) | (with_reducible apply size_of)))) (Nat.le_refl _))).mono ?_
      rintro e w1 ⟨rfl, hb1⟩
      rw [HE.out]
      have HB1 : Hid (Below w.heap.size w w1) := Lib.hid (by (repeat' (first | (with_reducible exact Below.refl _ _) | (with_reducible assumption) | (with_reducible refine below_drewN ?_ _) | (with_reducible refine below_new ?_ _) | (with_reducible refine Below.alloc ?_ ?_ _) | (with_reducible refine Below.drew ?_) | (with_reducible refine Below.setCell ?_ ?_ _) | (with_reducible apply below_at; (case k => (with_reducible assumption)); (case hB => omega)) | (with_reducible apply below_on; (with_reducible assumption)) | (go_size; done) | (with_reducible apply size_of))))
      have x1 : w1.cell? ⟨w.heap.size, 0, none⟩ = some (.slice P m c) := (LB.out.past hb1).cell 0
      clear hb1
      go_wp2_with fail
      refine bodyPost_ret (by simp [results, Tryd.results41, go_sem, ]; try rfl) rfl ?_
      exact ⟨by rw [HA.out], HB1.out⟩
    · have HA := Lib.hid (ask_ok (row := row) hr (by omega) (by rw [HLN.out]; omega))
      clear hr
      go_enter Tryd.func41, Tryd.ntmps41
      go_wp2_with fail
      refine (Check_any P m c rs _ (H.out.below (B := w.heap.size) (by (repeat' (first | (with_reducible exact Below.refl _ _) | (with_reducible assumption) | (with_reducible refine below_drewN ?_ _) | (with_reducible refine below_new ?_ _) | (with_reducible refine Below.alloc ?_ ?_ _) | (with_reducible refine Below.drew ?_) | (with_reducible refine Below.setCell ?_ ?_ _) | (with_reducible apply below_at; (case k => (with_reducible assumption)); (case hB => omega)) | (with_reducible apply below_on; (with_reducible assumption)) | (go_size; done) | (with_reducible apply size_of)))) (Nat.le_refl _))).mono ?_
      rintro e w1 ⟨rfl, hb1⟩
      rw [HE.out]
      have HB1 : Hid (Below w.heap.size w w1) := Lib.hid (by (repeat' (first | (with_reducible exact Below.refl _ _) | (with_reducible assumption) | (with_reducible refine below_drewN ?_ _) | (with_reducible refine below_new ?_ _) | (with_reducible refine Below.alloc ?_ ?_ _) | (with_reducible refine Below.drew ?_) | (with_reducible refine Below.setCell ?_ ?_ _) | (with_reducible apply below_at; (case k => (with_reducible assumption)); (case hB => omega)) | (with_reducible apply below_on; (with_reducible assumption)) | (go_size; done) | (with_reducible apply size_of))))
      have x1 : w1.cell? ⟨w.heap.size, 0, none⟩ = some (.slice P m c) := (LB.out.past hb1).cell 0
      clear hb1
      go_wp2_with fail
      refine bodyPost_ret (by simp [results, Tryd.results41, go_sem, ]; try rfl) rfl ?_
      exact ⟨by rw [HA.out], HB1.out⟩
end Go.Proofs.YtdmnaipngcldbaaDoor.rfW
