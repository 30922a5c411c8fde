/- The reference's Look that answers, by a walk. -/
import Derived.Test.YteepnindbcaahaaDoorRfW6
namespace Go.Proofs.YteepnindbcaahaaDoor.rfW
set_option maxRecDepth 100000
open Go.RowKit Go.Proofs.YteepnindbcaahaaDoor.base Go.Proofs.YteepnindbcaahaaDoor.rfP
set_option linter.unusedVariables false
set_option linter.unusedSimpArgs false
set_option maxHeartbeats 2000000 in
theorem rLook_ok (P : Option Addr) (m c : Nat) (rs : List RY) (k t : Nat) (w : World) (h : RowsY w P m c rs) (hr : rfB (numsY rs) = true) (hk : k < m) (t1 : 1 ≤ t) (t2 : t ≤ 4095) :
    Calls Tryd.prog 13 #[.agg #[.slice P m c], .int .i64 k, .int .i32 ((t : Int) - 2048)] w fun e w' => e = .returned (.tuple #[.int .i32 (seenP ((numsY rs).getD k []) t), .int .i64 (nearJ t), .int .i64 0]) ∧ Below w.heap.size w w' := by
  have H := Lib.hid h
  have HL : Hid (rs.length = m) := Lib.hid h.l
  have m9 : (m : Int) ≤ 9223372036854775807 := by have := h.c1; have := h.c2; omega
  have HV := Lib.hid (ask_ok (row := (k : Int)) hr (by omega) (by rw [nums_len, HL.out]; omega))
  have HN := Lib.hid (nums_at rs k (by rw [HL.out]; exact hk))
  have HR : Hid (rowB ((numsY rs).getD k []) = true) := Lib.hid (by
    rw [rowB_iff]
    have := ((rfB_iff _).1 hr).2.2
    rw [List.getD_eq_getElem?_getD, List.getElem?_eq_getElem (by rw [nums_len, HL.out]; exact hk)]
    exact this _ (List.getElem_mem _))
  have HI := Lib.hid (h.h.get k (by rw [HL.out]; exact hk))
  obtain ⟨b, off, rfl, hb, hc⟩ := h.h.some (by rw [HL.out]; omega)
  have HC := Lib.hid (And.intro hb (hc k (by rw [HL.out]; exact hk)))
  have LB : Hid (Lies (w.alloc (.cells #[.slice (some ⟨b, off, none⟩) m c] 24)) w.heap.size 24 [.slice (some ⟨b, off, none⟩) m c]) := Lib.hid (Lies.fresh _ _ _)
  have HT := Lib.hid t2
  have k1 : (k : Int) < m := by omega
  have k0 : 0 ≤ (k : Int) := by omega
  have d1 : -2047 ≤ (t : Int) - 2048 := by omega
  have d2 : (t : Int) - 2048 ≤ 2047 := by omega
  rw [HN.out] at HR ⊢
  clear h hr hc hb hk t1 t2
  generalize rs.getD k ry0 = r at *
  obtain ⟨A, n, q, z⟩ := r
  obtain rfl : n = 33 := by have e1 : z.length = n := HI.out.e; have e2 := ((rowB_iff z).1 HR.out).1; omega
  go_enter Tryd.func13, Tryd.ntmps13
  go_wp2_with fail
  refine (rAsked_any (some ⟨b, off, none⟩) m c rs k _ (H.out.below (B := w.heap.size) (by (repeat' (first | (with_reducible exact Below.refl _ _) | (with_reducible assumption) | (with_reducible refine below_drewN ?_ _) | (with_reducible refine below_new ?_ _) | (with_reducible refine Below.alloc ?_ ?_ _) | (with_reducible refine Below.drew ?_) | (with_reducible refine Below.setCell ?_ ?_ _) | (with_reducible apply below_at; (case k => (with_reducible assumption)); (case hB => omega)) | (with_reducible apply below_on; (with_reducible assumption)) | (go_size; done) | (with_reducible apply size_of)))) (Nat.le_refl _))).mono ?_
  rintro e w1 ⟨rfl, hb1⟩
  rw [HV.out]
  have HB1 : Hid (Below w.heap.size w w1) := Lib.hid (by (repeat' (first | (with_reducible exact Below.refl _ _) | (with_reducible assumption) | (with_reducible refine below_drewN ?_ _) | (with_reducible refine below_new ?_ _) | (with_reducible refine Below.alloc ?_ ?_ _) | (with_reducible refine Below.drew ?_) | (with_reducible refine Below.setCell ?_ ?_ _) | (with_reducible apply below_at; (case k => (with_reducible assumption)); (case hB => omega)) | (with_reducible apply below_on; (with_reducible assumption)) | (go_size; done) | (with_reducible apply size_of))))
  have x1 : w1.cell? ⟨w.heap.size, 0, none⟩ = some (.slice (some ⟨b, off, none⟩) m c) := (LB.out.past hb1).cell 0
  have x2 : w1.cell? ⟨b, off + k, none⟩ = some (.slice A 33 q) := (HB1.out.cell (p := ⟨b, _, none⟩) HC.out.1).trans HC.out.2
  clear hb1
  go_wp2_with fail
  refine (Seen_any A q z t _ ((HI.out.below HB1.out (Nat.le_refl _)).h) HR.out HT.out).mono ?_
  rintro e w2 ⟨rfl, nn, rfl⟩
  go_wp2_with fail
  refine bodyPost_ret (by simp [results, Tryd.results13, go_sem, ]; try rfl) rfl ?_
  exact ⟨rfl, by have := HB1.out; (repeat' (first | (with_reducible exact Below.refl _ _) | (with_reducible assumption) | (with_reducible refine below_drewN ?_ _) | (with_reducible refine below_new ?_ _) | (with_reducible refine Below.alloc ?_ ?_ _) | (with_reducible refine Below.drew ?_) | (with_reducible refine Below.setCell ?_ ?_ _) | (with_reducible apply below_at; (case k => (with_reducible assumption)); (case hB => omega)) | (with_reducible apply below_on; (with_reducible assumption)) | (go_size; done) | (with_reducible apply size_of)))⟩
end Go.Proofs.YteepnindbcaahaaDoor.rfW
