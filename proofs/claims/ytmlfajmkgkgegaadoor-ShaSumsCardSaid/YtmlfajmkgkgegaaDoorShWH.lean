/- The reference's Sum, Pieces, by walks. -/
import Derived.Test.YtmlfajmkgkgegaaDoorShWG
import Derived.Test.YtmlfajmkgkgegaaDoorShWB
import Derived.Test.YtmlfajmkgkgegaaDoorShWF
namespace Go.Proofs.YtmlfajmkgkgegaaDoor.shW
open Go.RowKit Go.Proofs.YtmlfajmkgkgegaaDoor.base Go.Proofs.YtmlfajmkgkgegaaDoor.shP
set_option linter.unusedVariables false
set_option linter.unusedSimpArgs false
set_option maxRecDepth 100000 in
set_option maxHeartbeats 2000000 in
theorem rSum (b : List Int) (A : Option Addr) (n d : Nat) (w : World) (hA : Has .u8 w A b) (hl : b.length = n) (hm : n ≤ 9223372036854775807) (hb : ∀ z ∈ b, 0 ≤ z ∧ z ≤ 255) :
    Calls Tryd.prog 16 #[.slice A n d] w fun e w' => e = .returned (.tuple #[.agg (darr (sumV b)), .int .i64 (sumE b)]) ∧ Below w.heap.size w w' := by
  have n9 : (n : Int) ≤ 9223372036854775807 := by omega
  have HA := Lib.hid hA
  have HL := Lib.hid hl
  have HB := Lib.hid hb
  have HZ0 := Lib.hid (z20_new w rfl)
  by_cases h : (n : Int) ≤ 20000
  · have HV : Hid (sumE b = 0 ∧ sumV b = digest b) := Lib.hid ⟨by rw [sumE, if_pos (by omega)], by rw [sumV, if_pos (by omega)]⟩
    have HN : Hid (n ≤ 100000) := Lib.hid (by omega)
    obtain ⟨v, hv⟩ := dg_form b
    have HVV := Lib.hid hv
    have HP := Lib.hid (done1 v)
    clear hA hl hb hm hv
    go_enter Tryd.func16, Tryd.ntmps16
    go_wp2_with fail
    refine (rOf b A n d _ (HA.out.below ((Below.refl _ _).alloc (Nat.le_refl _) _) (Nat.le_refl _)) HL.out HN.out HB.out).mono ?_
    rintro e w1 ⟨rfl, hb1⟩
    rw [HVV.out]
    have HZ1 := Lib.hid (HZ0.out.past hb1)
    have HB1 : Hid (Below w.heap.size w w1) := Lib.hid (by (repeat' (first | (with_reducible exact Below.refl _ _) | (with_reducible assumption) | (with_reducible refine below_drewN ?_ _) | (with_reducible refine below_new ?_ _) | (with_reducible refine Below.alloc ?_ ?_ _) | (with_reducible refine Below.drew ?_) | (with_reducible refine Below.setCell ?_ ?_ _) | (with_reducible apply below_at; (case k => (with_reducible assumption)); (case hB => omega)) | (with_reducible apply below_on; (with_reducible assumption)) | (go_size; done) | (with_reducible apply size_of))))
    clear hb1
    go_wp2_with (show wpList _ _ _ ({ dst := none, op := Op.store 25 _ _, type := _, pos := _, after := _, guard := none } :: _) _ _; go_must (refine wpList_store_arr (P := Tryd.prog) rfl 25 (.tmp 2) (.tmp 9) rfl w.heap.size ?c4 (darr (wbytes v)) ?c0 25 _ HZ1.out rfl HP.out (info20 v) ?_); (case c4 => rfl); (case c0 => rfl); intro w9 hR9 hb9 hz9)
    refine bodyPost_ret (results_cell_tmp (P := Tryd.prog) Tryd.results16 _ _ _ _ _ _ _ rfl hR9 Tryd.underlying25 rfl (info20 v)) rfl ⟨?_, ?_⟩
    · rw [HV.out.1, HV.out.2, HVV.out]; rfl
    · have := HB1.out; exact this.trans hb9
  · have HV : Hid (sumE b = 4 ∧ sumV b = zd) := Lib.hid ⟨by rw [sumE, if_neg (by omega)], by rw [sumV, if_neg (by omega)]⟩
    clear hA hl hb hm
    go_enter Tryd.func16, Tryd.ntmps16
    have HP := Lib.hid zd_one
    go_wp2_with (show wpList _ _ _ ({ dst := none, op := Op.store 25 _ _, type := _, pos := _, after := _, guard := none } :: _) _ _; go_must (refine wpList_store_arr (P := Tryd.prog) rfl 25 (.tmp 2) (.tmp 7) rfl w.heap.size ?c4 (darr zd) ?c0 25 _ HZ0.out rfl HP.out info20z ?_); (case c4 => rfl); (case c0 => rfl); intro w9 hR9 hb9 hz9)
    refine bodyPost_ret (results_cell_tmp (P := Tryd.prog) Tryd.results16 _ _ _ _ _ _ _ rfl hR9 Tryd.underlying25 rfl info20z) rfl ⟨?_, ?_⟩
    · rw [HV.out.1, HV.out.2]; rfl
    · exact Below.trans (by (repeat' (first | (with_reducible exact Below.refl _ _) | (with_reducible assumption) | (with_reducible refine below_drewN ?_ _) | (with_reducible refine below_new ?_ _) | (with_reducible refine Below.alloc ?_ ?_ _) | (with_reducible refine Below.drew ?_) | (with_reducible refine Below.setCell ?_ ?_ _) | (with_reducible apply below_at; (case k => (with_reducible assumption)); (case hB => omega)) | (with_reducible apply below_on; (with_reducible assumption)) | (go_size; done) | (with_reducible apply size_of)))) hb9
theorem sumV_form (b : List Int) : ∃ v : W5, sumV b = wbytes v := by
  unfold sumV
  split
  · exact dg_form b
  · exact ⟨⟨0, 0, 0, 0, 0⟩, rfl⟩
theorem piV_form (rs : List R8) : ∃ v : W5, piV rs = wbytes v := by
  unfold piV
  split
  · exact dg_form _
  · exact ⟨⟨0, 0, 0, 0, 0⟩, rfl⟩
theorem pi_sum {rs : List R8} (h : rs.length ≤ 20) : piE rs = sumE (wholeL rs) ∧ piV rs = sumV (wholeL rs) := by
  by_cases h2 : (wholeL rs).length ≤ 20000
  · obtain ⟨a, b⟩ := pi_yes h h2
    exact ⟨by rw [a, sumE, if_pos h2], by rw [b, sumV, if_pos h2]⟩
  · obtain ⟨a, b⟩ := pi_no (rs := rs) (fun hh => h2 hh.2)
    exact ⟨by rw [a, sumE, if_neg h2], by rw [b, sumV, if_neg h2]⟩
set_option maxRecDepth 100000 in
set_option maxHeartbeats 2000000 in
theorem rPieces (rs : List R8) (P : Option Addr) (m d : Nat) (w : World) (h : HasL w P rs) (hl : rs.length = m) (hm : m ≤ 9223372036854775807) (ht : (wholeL rs).length ≤ 2000000) (hbd : ∀ z ∈ wholeL rs, 0 ≤ z ∧ z ≤ 255) :
    Calls Tryd.prog 17 #[.slice P m d] w fun e w' => e = .returned (.tuple #[.agg (darr (piV rs)), .int .i64 (piE rs)]) ∧ Below w.heap.size w w' := by
  have n9 : (m : Int) ≤ 9223372036854775807 := by omega
  have H := Lib.hid h
  have HL := Lib.hid hl
  have HM := Lib.hid hm
  have HT := Lib.hid ht
  have HBD := Lib.hid hbd
  have HZ0 := Lib.hid (z20_new w rfl)
  by_cases c : (m : Int) ≤ 20
  · have HPS := Lib.hid (pi_sum (rs := rs) (by omega))
    obtain ⟨v, hv⟩ := sumV_form (wholeL rs)
    have HVV := Lib.hid hv
    have HP := Lib.hid (done1 v)
    clear h hl hm ht hbd hv
    go_enter Tryd.func17, Tryd.ntmps17
    go_wp2_with fail
    refine (rWhole rs P m d _ (H.out.below ((Below.refl _ _).alloc (Nat.le_refl _) _) (Nat.le_refl _)) HL.out HM.out HT.out).mono ?_
    rintro e w1 ⟨A, n, c1, rfl, hn, own, hb1⟩
    have HN := Lib.hid hn
    have HO := Lib.hid own
    have HZ1 := Lib.hid (HZ0.out.past hb1)
    have HB1 : Hid (Below w.heap.size w w1) := Lib.hid (by (repeat' (first | (with_reducible exact Below.refl _ _) | (with_reducible assumption) | (with_reducible refine below_drewN ?_ _) | (with_reducible refine below_new ?_ _) | (with_reducible refine Below.alloc ?_ ?_ _) | (with_reducible refine Below.drew ?_) | (with_reducible refine Below.setCell ?_ ?_ _) | (with_reducible apply below_at; (case k => (with_reducible assumption)); (case hB => omega)) | (with_reducible apply below_on; (with_reducible assumption)) | (go_size; done) | (with_reducible apply size_of))))
    clear hb1 hn own
    go_wp2_with fail
    refine (rSum (wholeL rs) A n c1 _ HO.out.has HN.out.symm (by have := HT.out; have := HN.out; omega) HBD.out).mono ?_
    rintro e w2 ⟨rfl, hb2⟩
    rw [HVV.out]
    have HZ2 := Lib.hid (HZ1.out.past hb2)
    have HB2 : Hid (Below w.heap.size w w2) := Lib.hid (HB1.out.trans (hb2.mono HB1.out.size))
    clear hb2
    go_wp2_with (show wpList _ _ _ ({ dst := none, op := Op.store 25 _ _, type := _, pos := _, after := _, guard := none } :: _) _ _; go_must (refine wpList_store_arr (P := Tryd.prog) rfl 25 (.tmp 2) (.tmp 11) rfl w.heap.size ?c4 (darr (wbytes v)) ?c0 25 _ HZ2.out rfl HP.out (info20 v) ?_); (case c4 => rfl); (case c0 => rfl); intro w9 hR9 hb9 hz9)
    refine bodyPost_ret (results_cell_tmp (P := Tryd.prog) Tryd.results17 _ _ _ _ _ _ _ rfl hR9 Tryd.underlying25 rfl (info20 v)) rfl ⟨?_, ?_⟩
    · rw [HPS.out.1, HPS.out.2, HVV.out]; rfl
    · have := HB2.out; exact this.trans hb9
  · have HV := Lib.hid (pi_no (rs := rs) (fun hh => c (by omega)))
    clear h hl hm ht hbd
    go_enter Tryd.func17, Tryd.ntmps17
    have HP := Lib.hid zd_one
    go_wp2_with (show wpList _ _ _ ({ dst := none, op := Op.store 25 _ _, type := _, pos := _, after := _, guard := none } :: _) _ _; go_must (refine wpList_store_arr (P := Tryd.prog) rfl 25 (.tmp 2) (.tmp 7) rfl w.heap.size ?c4 (darr zd) ?c0 25 _ HZ0.out rfl HP.out info20z ?_); (case c4 => rfl); (case c0 => rfl); intro w9 hR9 hb9 hz9)
    refine bodyPost_ret (results_cell_tmp (P := Tryd.prog) Tryd.results17 _ _ _ _ _ _ _ rfl hR9 Tryd.underlying25 rfl info20z) rfl ⟨?_, ?_⟩
    · rw [HV.out.1, HV.out.2]; rfl
    · exact Below.trans (by (repeat' (first | (with_reducible exact Below.refl _ _) | (with_reducible assumption) | (with_reducible refine below_drewN ?_ _) | (with_reducible refine below_new ?_ _) | (with_reducible refine Below.alloc ?_ ?_ _) | (with_reducible refine Below.drew ?_) | (with_reducible refine Below.setCell ?_ ?_ _) | (with_reducible apply below_at; (case k => (with_reducible assumption)); (case hB => omega)) | (with_reducible apply below_on; (with_reducible assumption)) | (go_size; done) | (with_reducible apply size_of)))) hb9
end Go.Proofs.YtmlfajmkgkgegaaDoor.shW
