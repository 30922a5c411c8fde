/- ShaSums, by a walk. -/
import Derived.Test.YtmlfajmkgkgegaaDoorShWH
import Derived.Test.YtmlfajmkgkgegaaDoorShL4
import Derived.Test.YtmlfajmkgkgegaaDoorSame8
namespace Go.Proofs.YtmlfajmkgkgegaaDoor.shL
open Go.RowKit Go.Proofs.YtmlfajmkgkgegaaDoor.base Go.Proofs.YtmlfajmkgkgegaaDoor.shP Go.Proofs.YtmlfajmkgkgegaaDoor.shW
set_option linter.unusedVariables false
set_option linter.unusedSimpArgs false
theorem liesA {w : World} {g : Nat} {cs : Array Value} {t : TypeId} (h : w.heap[g]? = some (.cells cs t (0, 0))) : Lies w g t cs.toList := by unfold Lies; rw [Array.toArray_toList]; exact h
theorem unA {w : World} {g : Nat} {cs : Array Value} {t : TypeId} (h : Lies w g t cs.toList) : w.heap[g]? = some (.cells cs t (0, 0)) := by unfold Lies at h; rw [Array.toArray_toList] at h; exact h
set_option maxRecDepth 100000 in
set_option maxHeartbeats 2000000 in
theorem sums (P : Option Addr) (m d : Nat) (rs : List R8) (w : World) (hR : RowsB w P m d rs) (hT : Tab w) :
    Calls Tryd.prog 4 #[.slice P m d] w fun e w' => e = .returned (.bool true) ∧ Below w.heap.size w w' := by
  have HTB := Lib.hid hT
  have HR := Lib.hid hR
  have HM : Hid (m ≤ 9223372036854775807) := Lib.hid (by have := hR.c1; have := hR.c2; omega)
  have m9 : (m : Int) ≤ 9223372036854775807 := by have := HM.out; omega
  clear hR hT
  cases hg : longB rs
  · have HWL := Lib.hid (whole_len_le HR.out.h hg)
    have HBD : Hid (∀ z ∈ wholeL rs, 0 ≤ z ∧ z ≤ 255) := Lib.hid (by rw [← wholeK_all rs rs.length (Nat.le_refl _)]; exact whole_bd HR.out.h _)
    have HG := Lib.hid hg
    clear hg
    go_enter Tryd.func4, Tryd.ntmps4
    go_wp2_with fail
    refine (rLong rs P m d _ HR.out.h HR.out.l HM.out).mono ?_
    rintro e w' ⟨rfl, rfl⟩
    rw [HG.out]
    go_wp2_with fail
    refine (rWhole rs P m d _ HR.out.h HR.out.l HM.out HWL.out).mono ?_
    rintro e w1 ⟨A, n, c, rfl, hn, own, hb1⟩
    have HN := Lib.hid hn
    have HO1 := Lib.hid own
    have HB1 := Lib.hid hb1
    have n9 : (n : Int) ≤ 2000000 := by have := HWL.out; omega
    clear hn own hb1
    go_wp2_with fail
    go_loopw [4] (fun i wr => ∃ k : Nat, k ≤ m ∧ i = .int .i64 k ∧ OwnZ wr w.heap.size (.slice A n c) (wholeL rs) ∧ Below w.heap.size w wr) (fun i _ => m - (intOf i).toNat)
    case atStart => exact ⟨0, Nat.zero_le _, rfl, HO1.out, HB1.out⟩
    case round =>
      clear HO1 HB1
      obtain ⟨k, hk, rfl, own, acc⟩ := hrel
      have HO := Lib.hid own
      have HACC := Lib.hid acc
      by_cases hlt : k < m
      · obtain ⟨b, off, rfl, hb, hc⟩ := HR.out.h.some (by rw [HR.out.l]; omega)
        have HBB := Lib.hid hb
        have HCC := Lib.hid (hc k (by rw [HR.out.l]; exact hlt))
        have hcell := HCC.out
        rw [← acc.cell (p := ⟨b, off + k, none⟩) hb] at hcell
        have HIN := Lib.hid (HR.out.h.get k (by rw [HR.out.l]; exact hlt))
        have HLT := Lib.hid hlt
        have k1 : (k : Int) < m := by omega
        obtain ⟨v, hv⟩ := sumV_form (rs.getD k r80).b
        have HVV := Lib.hid hv
        have HP := Lib.hid (done1 v)
        have heq := arr_same v
        clear hk own acc hlt hb hc hv
        obtain ⟨se, hse⟩ : ∃ se, sumE (rs.getD k r80).b = se := ⟨_, rfl⟩
        have HSE := Lib.hid hse
        clear hse
        generalize rs.getD k r80 = r at *
        obtain ⟨rA, rn, rc, rb⟩ := r
        simp only [] at *
        go_wp2_with fail
        refine (Sum_any rb rA rn rc _ (HTB.out.below HACC.out (Nat.le_refl _)) (HIN.out.h.below HACC.out (Nat.le_refl _)) HIN.out.e HIN.out.c1 (Nat.le_trans HIN.out.c1 HIN.out.c2) HIN.out.b).mono ?_
        rintro e w2 ⟨rfl, hb2⟩
        rw [HVV.out]
        rw [HSE.out]
        have HO2 := Lib.hid (HO.out.past hb2)
        have HB2 : Hid (Below w.heap.size w w2) := Lib.hid (HACC.out.trans (hb2.mono HACC.out.size))
        have hcell2 := HCC.out
        rw [← HB2.out.cell (p := ⟨b, off + k, none⟩) HBB.out] at hcell2
        clear hb2 hcell
        go_wp2_with (show wpList _ _ _ ({ dst := none, op := Op.store 25 (.tmp 5) _, type := _, pos := _, after := _, guard := none } :: _) _ _; go_must (refine wpList_store_arr (P := Tryd.prog) rfl 25 (.tmp 5) (.tmp 29) rfl (w2).heap.size ?c4 (darr (wbytes v)) ?c0 25 _ (z20_new w2 rfl) rfl HP.out (info20 v) ?_); (case c4 => rfl); (case c0 => rfl); intro w3 hR3 hb3 hz3; have HR3 := Lib.hid hR3; have hb23 : Below w2.heap.size w2 w3 := ((Below.refl _ _).alloc (Nat.le_refl _) _).trans hb3; have HO3 := Lib.hid (HO2.out.past hb23); have HB3 : Hid (Below w.heap.size w w3) := Lib.hid (HB2.out.trans (hb23.mono HB2.out.size)); have hcell3 := HCC.out; rw [← HB3.out.cell (p := ⟨b, off + k, none⟩) HBB.out] at hcell3; clear hR3 hb3 hz3 hb23 hcell2)
        refine (rSum rb rA rn rc _ (HIN.out.h.below HB3.out (Nat.le_refl _)) HIN.out.e (Nat.le_trans HIN.out.c1 HIN.out.c2) HIN.out.b).mono ?_
        rintro e w4 ⟨rfl, hb4⟩
        rw [HVV.out, HSE.out]
        have HO4 := Lib.hid (HO3.out.past hb4)
        have HR4 := Lib.hid ((liesA HR3.out).past hb4)
        have HB4 : Hid (Below w.heap.size w w4) := Lib.hid (HB3.out.trans (hb4.mono HB3.out.size))
        clear hb4 hcell3
        go_wp2_with (first | (show wpList _ _ _ ({ dst := none, op := Op.store 25 (.tmp 7) _, type := _, pos := _, after := _, guard := none } :: _) _ _; go_must (refine wpList_store_arr (P := Tryd.prog) rfl 25 (.tmp 7) (.tmp 37) rfl (w4).heap.size ?c4 (darr (wbytes v)) ?c0 25 _ (z20_new w4 rfl) rfl HP.out (info20 v) ?_); (case c4 => rfl); (case c0 => rfl); intro w5 hR5 hb5 hz5; have HR5 := Lib.hid hR5; have hb45 : Below w4.heap.size w4 w5 := ((Below.refl _ _).alloc (Nat.le_refl _) _).trans hb5; have HO5 := Lib.hid (HO4.out.past hb45); have HR5' := Lib.hid (unA (HR4.out.past hb45)); have HB5 : Hid (Below w.heap.size w w5) := Lib.hid (HB4.out.trans (hb45.mono HB4.out.size)); clear hR5 hb5 hz5 hb45) | (show wpList _ _ _ ({ dst := _, op := Op.load _ (.tmp 5), type := _, pos := _, after := _, guard := _ } :: _) _ _; go_must (refine wpList_load_row_g (P := Tryd.prog) (by rfl) 25 (.tmp 5) rfl (w2).heap.size ?c5 25 (darr (wbytes v)) (0, 0) _ (HR5').out Tryd.underlying25 rfl (info20 v) ?_); (case c5 => rfl)) | (show wpList _ _ _ ({ dst := _, op := Op.load _ (.tmp 7), type := _, pos := _, after := _, guard := _ } :: _) _ _; go_must (refine wpList_load_row_g (P := Tryd.prog) (by rfl) 25 (.tmp 7) rfl (w4).heap.size ?c5 25 (darr (wbytes v)) (0, 0) _ (HR5).out Tryd.underlying25 rfl (info20 v) ?_); (case c5 => rfl)))
        refine ⟨⟨k + 1, by have := HLT.out; omega, by go_num, HO5.out, HB5.out⟩, by simp [intOf]; have := HLT.out; omega⟩
      · have k1 : (m : Int) ≤ k := by omega
        clear hk own acc hlt
        go_wp2_with fail
        obtain ⟨v, hv⟩ := piV_form rs
        obtain ⟨se, hse⟩ : ∃ se, piE rs = se := ⟨_, rfl⟩
        have HVV := Lib.hid hv
        have HSE := Lib.hid hse
        have HP := Lib.hid (done1 v)
        have heq := arr_same v
        clear hv hse
        refine (Pieces_any rs P m d _ (HTB.out.below HACC.out (Nat.le_refl _)) (HR.out.h.below HACC.out (Nat.le_refl _)) HR.out.l HM.out).mono ?_
        rintro e w2 ⟨rfl, hb2⟩
        rw [HVV.out, HSE.out]
        have HO2 := Lib.hid (HO.out.past hb2)
        have HB2 : Hid (Below w.heap.size w w2) := Lib.hid (HACC.out.trans (hb2.mono HACC.out.size))
        clear hb2
        go_wp2_with (show wpList _ _ _ ({ dst := none, op := Op.store 25 (.tmp 9) _, type := _, pos := _, after := _, guard := none } :: _) _ _; go_must (refine wpList_store_arr (P := Tryd.prog) rfl 25 (.tmp 9) (.tmp 50) rfl (w2).heap.size ?c4 (darr (wbytes v)) ?c0 25 _ (z20_new w2 rfl) rfl HP.out (info20 v) ?_); (case c4 => rfl); (case c0 => rfl); intro w3 hR3 hb3 hz3; have HR3 := Lib.hid hR3; have hb23 : Below w2.heap.size w2 w3 := ((Below.refl _ _).alloc (Nat.le_refl _) _).trans hb3; have HO3 := Lib.hid (HO2.out.past hb23); have HB3 : Hid (Below w.heap.size w w3) := Lib.hid (HB2.out.trans (hb23.mono HB2.out.size)); clear hR3 hb3 hz3 hb23)
        refine (rPieces rs P m d _ (HR.out.h.below HB3.out (Nat.le_refl _)) HR.out.l HM.out HWL.out HBD.out).mono ?_
        rintro e w4 ⟨rfl, hb4⟩
        rw [HVV.out, HSE.out]
        have HO4 := Lib.hid (HO3.out.past hb4)
        have HR4 := Lib.hid ((liesA HR3.out).past hb4)
        have HB4 : Hid (Below w.heap.size w w4) := Lib.hid (HB3.out.trans (hb4.mono HB3.out.size))
        clear hb4
        go_wp2_with (first | (show wpList _ _ _ ({ dst := none, op := Op.store 25 (.tmp 11) _, type := _, pos := _, after := _, guard := none } :: _) _ _; go_must (refine wpList_store_arr (P := Tryd.prog) rfl 25 (.tmp 11) (.tmp 55) rfl (w4).heap.size ?c4 (darr (wbytes v)) ?c0 25 _ (z20_new w4 rfl) rfl HP.out (info20 v) ?_); (case c4 => rfl); (case c0 => rfl); intro w5 hR5 hb5 hz5; have HR5 := Lib.hid hR5; have hb45 : Below w4.heap.size w4 w5 := ((Below.refl _ _).alloc (Nat.le_refl _) _).trans hb5; have HO5 := Lib.hid (HO4.out.past hb45); have HR5' := Lib.hid (unA (HR4.out.past hb45)); have HB5 : Hid (Below w.heap.size w w5) := Lib.hid (HB4.out.trans (hb45.mono HB4.out.size)); clear hR5 hb5 hz5 hb45) | (show wpList _ _ _ ({ dst := _, op := Op.load _ (.tmp 9), type := _, pos := _, after := _, guard := _ } :: _) _ _; go_must (refine wpList_load_row_g (P := Tryd.prog) (by rfl) 25 (.tmp 9) rfl (w2).heap.size ?c5 25 (darr (wbytes v)) (0, 0) _ (HR5').out Tryd.underlying25 rfl (info20 v) ?_); (case c5 => rfl)) | (show wpList _ _ _ ({ dst := _, op := Op.load _ (.tmp 11), type := _, pos := _, after := _, guard := _ } :: _) _ _; go_must (refine wpList_load_row_g (P := Tryd.prog) (by rfl) 25 (.tmp 11) rfl (w4).heap.size ?c5 25 (darr (wbytes v)) (0, 0) _ (HR5).out Tryd.underlying25 rfl (info20 v) ?_); (case c5 => rfl)))
        refine (rWhole rs P m d _ (HR.out.h.below HB5.out (Nat.le_refl _)) HR.out.l HM.out HWL.out).mono ?_
        rintro e w6 ⟨A2, n2, c2, rfl, hn2, own2, hb6⟩
        have HN2 := Lib.hid hn2
        have HO6 := Lib.hid (HO5.out.past hb6)
        have HO7 := Lib.hid own2
        have HB6 : Hid (Below w.heap.size w w6) := Lib.hid (HB5.out.trans (hb6.mono HB5.out.size))
        have n92 : (n2 : Int) ≤ 2000000 := by have := HWL.out; omega
        clear hn2 own2 hb6
        go_wp2_with fail
        refine (same8_any A2 A n2 n c2 c (wholeL rs) (wholeL rs) _ HO7.out.has HN2.out.symm HO6.out.has HN.out.symm (by omega) (by omega)).mono ?_
        rintro e w7 ⟨rfl, hb7⟩
        rw [show decide (wholeL rs = wholeL rs) = true from decide_eq_true rfl]
        go_wp2_with fail
        go_ret
        exact ⟨rfl, HB6.out.trans (hb7.mono HB6.out.size)⟩
  · have HG := Lib.hid hg
    clear hg
    go_enter Tryd.func4, Tryd.ntmps4
    go_wp2_with fail
    refine (rLong rs P m d _ HR.out.h HR.out.l HM.out).mono ?_
    rintro e w' ⟨rfl, rfl⟩
    rw [HG.out]
    go_wp2_with fail
    go_ret
    exact ⟨rfl, Below.refl _ _⟩
end Go.Proofs.YtmlfajmkgkgegaaDoor.shL
