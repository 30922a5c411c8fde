/- The program's Look that answers, by a walk. -/
import Derived.Test.YtdmnaipngcldbaaDoorRfW7
import Derived.Test.YtdmnaipngcldbaaDoorBits
import Derived.Deep.DeepCutAuto
namespace Go.Proofs.YtdmnaipngcldbaaDoor.rfW
set_option maxRecDepth 100000
open Go.RowKit Go.Proofs.YtdmnaipngcldbaaDoor.base Go.Proofs.YtdmnaipngcldbaaDoor.rfP
set_option linter.unusedVariables false
set_option linter.unusedSimpArgs false
theorem and127 (t : Nat) : bits BinOp.and IntKind.i32 (t : Int) 127 = ((t % 128 : Nat) : Int) := by
  rw [and_mask32 (t : Int) 7 (by omega) 127 (by decide), show (2 : Int) ^ 7 = 128 from by decide]
  omega
set_option maxHeartbeats 2000000 in
theorem Look_ok (P : Option Addr) (m c : Nat) (rs : List RY) (k t : Nat) (w : World) (h : RowsY w P m c rs) (hr : rfB (numsY rs) = true) (hk : k < m) (t1 : 1 ≤ t) (t2 : t ≤ 4095) :
    Calls Tryd.prog 24 #[.agg #[.slice P m c], .int .i64 k, .int .i32 ((t : Int) - 2048)] w fun e w' => e = .returned (.tuple #[.int .i32 (seenP ((numsY rs).getD k []) t), .int .i64 (nearJ t), .int .i64 0]) ∧ Below w.heap.size w w' := by
  have H := Lib.hid h
  have HL : Hid (rs.length = m) := Lib.hid h.l
  have m9 : (m : Int) ≤ 9223372036854775807 := by have := h.c1; have := h.c2; omega
  have HV := Lib.hid (ask_ok (row := (k : Int)) hr (by omega) (by rw [nums_len, HL.out]; omega))
  have HN := Lib.hid (nums_at rs k (by rw [HL.out]; exact hk))
  have HR : Hid (rowB ((numsY rs).getD k []) = true) := Lib.hid (by
    rw [rowB_iff]
    have := ((rfB_iff _).1 hr).2.2
    rw [List.getD_eq_getElem?_getD, List.getElem?_eq_getElem (by rw [nums_len, HL.out]; exact hk)]
    exact this _ (List.getElem_mem _))
  have HI := Lib.hid (h.h.get k (by rw [HL.out]; exact hk))
  obtain ⟨b, off, rfl, hb, hc⟩ := h.h.some (by rw [HL.out]; omega)
  have HC := Lib.hid (And.intro hb (hc k (by rw [HL.out]; exact hk)))
  have LB : Hid (Lies (w.alloc (.cells #[.slice (some ⟨b, off, none⟩) m c] 24)) w.heap.size 24 [.slice (some ⟨b, off, none⟩) m c]) := Lib.hid (Lies.fresh _ _ _)
  have HT := Lib.hid t2
  have k1 : (k : Int) < m := by omega
  have k0 : 0 ≤ (k : Int) := by omega
  have d1 : -2047 ≤ (t : Int) - 2048 := by omega
  have d2 : (t : Int) - 2048 ≤ 2047 := by omega
  rw [HN.out] at HR ⊢
  clear h hr hc hb hk t1 t2
  generalize rs.getD k ry0 = r at *
  obtain ⟨A, n, q, z⟩ := r
  obtain rfl : n = 33 := by have e1 : z.length = n := HI.out.e; have e2 := ((rowB_iff z).1 HR.out).1; omega
  go_enter Tryd.func24, Tryd.ntmps24
  go_wp2_with fail
  refine (checkAt_any (some ⟨b, off, none⟩) m c rs k _ (H.out.below (B := w.heap.size) (by (repeat' (first | (with_reducible exact Below.refl _ _) | (with_reducible assumption) | (with_reducible refine below_drewN ?_ _) | (with_reducible refine below_new ?_ _) | (with_reducible refine Below.alloc ?_ ?_ _) | (with_reducible refine Below.drew ?_) | (with_reducible refine Below.setCell ?_ ?_ _) | (with_reducible apply below_at; (case k => (with_reducible assumption)); (case hB => omega)) | (with_reducible apply below_on; (with_reducible assumption)) | (go_size; done) | (with_reducible apply size_of)))) (Nat.le_refl _))).mono ?_
  rintro e w1 ⟨rfl, hb1⟩
  rw [HV.out]
  have HB1 : Hid (Below w.heap.size w w1) := Lib.hid (by (repeat' (first | (with_reducible exact Below.refl _ _) | (with_reducible assumption) | (with_reducible refine below_drewN ?_ _) | (with_reducible refine below_new ?_ _) | (with_reducible refine Below.alloc ?_ ?_ _) | (with_reducible refine Below.drew ?_) | (with_reducible refine Below.setCell ?_ ?_ _) | (with_reducible apply below_at; (case k => (with_reducible assumption)); (case hB => omega)) | (with_reducible apply below_on; (with_reducible assumption)) | (go_size; done) | (with_reducible apply size_of))))
  have x1 : w1.cell? ⟨w.heap.size, 0, none⟩ = some (.slice (some ⟨b, off, none⟩) m c) := (LB.out.past hb1).cell 0
  have x2 : w1.cell? ⟨b, off + k, none⟩ = some (.slice A 33 q) := (HB1.out.cell (p := ⟨b, _, none⟩) HC.out.1).trans HC.out.2
  clear hb1
  have ef : IntKind.i32.wrap (t : Int) = t := by have := HT.out; rw [IntKind.wrap_i32]; omega
  have eA : bits BinOp.and IntKind.i32 (t : Int) 127 = ((t % 128 : Nat) : Int) := and127 t
  have eD : (t : Int) / 128 = ((t / 128 : Nat) : Int) := by omega
  go_upto_region 8 with fail
  obtain ⟨hl, hbd⟩ := (rowB_iff z).1 HR.out
  obtain ⟨b2, off2, hA, hlt, hcc⟩ := has_some ((HI.out.below HB1.out (Nat.le_refl _)).h) (by show 0 < z.length; omega)
  have hA : A = some ⟨b2, off2, none⟩ := hA
  subst hA
  have hcc : ∀ i, i < z.length → w1.cell? ⟨b2, off2 + i, none⟩ = some (.int .i32 (z.getD i 0)) := hcc
  have hj : t / 128 < 32 := by have := HT.out; omega
  have hu : t % 128 < 128 := Nat.mod_lt _ (by omega)
  have z1 := hcc (t / 128) (by omega)
  have z2 := hcc (t / 128 + 1) (by omega)
  have hg : ∀ k, k < 33 → 0 ≤ z.getD k 0 ∧ z.getD k 0 ≤ 65535 := fun k hk => by
    rw [List.getD_eq_getElem?_getD, List.getElem?_eq_getElem (by omega)]
    exact hbd _ (List.getElem_mem _)
  obtain ⟨p0, p1⟩ := hg (t / 128) (by omega)
  obtain ⟨q0, q1⟩ := hg (t / 128 + 1) (by omega)
  have HS : Hid (seenP z t = lkP (z.getD (t / 128) 0) (z.getD (t / 128 + 1) 0) ((t % 128 : Nat) : Int) ∧ nearJ t = if 64 ≤ t % 128 then t / 128 + 1 else t / 128) := Lib.hid ⟨rfl, rfl⟩
  clear hbd hcc hg hl HR HI
  generalize hj' : t / 128 = j at *
  generalize hu' : t % 128 = u at *
  generalize z.getD j 0 = x at *
  generalize z.getD (j + 1) 0 = y at *
  clear hj' hu'
  obtain ⟨m0, m1, m2, m3⟩ := lk_parts p0 p1 q0 q1 (w := (u : Int)) (by omega) (by omega)
  have m4 := lk_bd p0 p1 q0 q1 (w := (u : Int)) (by omega) (by omega)
  have m5 := lk_range p0 p1 q0 q1 (w := (u : Int)) (by omega) (by omega)
  unfold lkP at m5 HS
  have e5 : IntKind.i32.wrap (128 - (u : Int)) = 128 - u := by rw [IntKind.wrap_i32]; omega
  generalize hP1 : (128 - (u : Int)) * x = P1 at *
  generalize hP2 : (u : Int) * y = P2 at *
  have e8 : IntKind.i32.wrap P1 = P1 := by rw [IntKind.wrap_i32]; omega
  have e9 : IntKind.i32.wrap P2 = P2 := by rw [IntKind.wrap_i32]; omega
  have ea : IntKind.i32.wrap (P1 + P2) = P1 + P2 := by rw [IntKind.wrap_i32]; omega
  have eb : Int.tdiv (P1 + P2) 2048 = (P1 + P2) / 2048 := Int.tdiv_eq_ediv_of_nonneg (by omega)
  obtain ⟨v, hv⟩ : ∃ v, (P1 + P2) / 2048 = v := ⟨_, rfl⟩
  rw [hv] at eb m5 HS
  have ec : IntKind.i32.wrap v = v := by rw [IntKind.wrap_i32]; omega
  have j0 : 0 ≤ (j : Int) := by omega
  have j1 : (j : Int) < 32 := by omega
  have j2 : (j : Int) + 1 < 33 := by omega
  have j3 : (j : Int) < 33 := by omega
  have j4 : IntKind.i64.wrap ((j : Int) + 1) = (j : Int) + 1 := IntWalk.i64_in _ (by omega)
  have j5 : ((j : Int) + 1).toNat = j + 1 := by omega
  clear hv hj hu m0 m1 m2 m3 m4 m5 p0 p1 q0 q1
  have HB1x := HB1
  clear HB1 HC H LB HL HN
  by_cases hu : 64 ≤ u
  · have u1 : 64 ≤ (u : Int) := by omega
    rw [if_pos hu] at HS
    clear hu
    go_wp2_with (go_quiet (fail))
    refine bodyPost_ret (by simp [results, Tryd.results24, go_sem, ]; try rfl) rfl ?_
    exact ⟨by rw [HS.out.1, HS.out.2]; try rfl, by have := HB1x.out; (repeat' (first | (with_reducible exact Below.refl _ _) | (with_reducible assumption) | (with_reducible refine below_drewN ?_ _) | (with_reducible refine below_new ?_ _) | (with_reducible refine Below.alloc ?_ ?_ _) | (with_reducible refine Below.drew ?_) | (with_reducible refine Below.setCell ?_ ?_ _) | (with_reducible apply below_at; (case k => (with_reducible assumption)); (case hB => omega)) | (with_reducible apply below_on; (with_reducible assumption)) | (go_size; done) | (with_reducible apply size_of)))⟩
  · have u1 : ¬ 64 ≤ (u : Int) := by omega
    rw [if_neg hu] at HS
    clear hu
    go_wp2_with (go_quiet (fail))
    refine bodyPost_ret (by simp [results, Tryd.results24, go_sem, ]; try rfl) rfl ?_
    exact ⟨by rw [HS.out.1, HS.out.2]; try rfl, by have := HB1x.out; (repeat' (first | (with_reducible exact Below.refl _ _) | (with_reducible assumption) | (with_reducible refine below_drewN ?_ _) | (with_reducible refine below_new ?_ _) | (with_reducible refine Below.alloc ?_ ?_ _) | (with_reducible refine Below.drew ?_) | (with_reducible refine Below.setCell ?_ ?_ _) | (with_reducible apply below_at; (case k => (with_reducible assumption)); (case hB => omega)) | (with_reducible apply below_on; (with_reducible assumption)) | (go_size; done) | (with_reducible apply size_of)))⟩
end Go.Proofs.YtdmnaipngcldbaaDoor.rfW
