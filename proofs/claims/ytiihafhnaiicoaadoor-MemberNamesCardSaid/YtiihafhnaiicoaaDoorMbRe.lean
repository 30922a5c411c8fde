/- Read, the program's. -/
import Derived.Test.YtiihafhnaiicoaaDoorMbTb
namespace Go.Proofs.YtiihafhnaiicoaaDoor.mbW
set_option maxRecDepth 100000
open Go.RowKit Go.Proofs.YtiihafhnaiicoaaDoor.base Go.Proofs.YtiihafhnaiicoaaDoor.shP Go.Proofs.YtiihafhnaiicoaaDoor.shW Go.Proofs.YtiihafhnaiicoaaDoor.ocP Go.Proofs.YtiihafhnaiicoaaDoor.ocW
open Go.Proofs.YtiihafhnaiicoaaDoor.trW (IsD sv zd_isD digest_isD z20_at)
set_option linter.unusedVariables false
set_option linter.unusedSimpArgs false
set_option maxRecDepth 100000
/-- What Read answers: the error, the records, how many bytes. -/
noncomputable def mrE (b : List Int) (q : Int) : Int := if q < 0 ∨ 16 < q then 2 else if 50000 < b.length then 4 else match rdS b q.toNat with
  | none => 18
  | some (l, _) => if vlE l = 0 then 0 else 12
noncomputable def mrL (b : List Int) (q : Int) : List Rc := if mrE b q = 0 then (match rdS b q.toNat with | none => [] | some (l, _) => l) else []
noncomputable def mrP (b : List Int) (q : Int) : Nat := if mrE b q = 0 then (match rdS b q.toNat with | none => 0 | some (_, p) => p) else 0
theorem mr_arg {b : List Int} {q : Int} (h : q < 0 ∨ 16 < q) : mrE b q = 2 := by unfold mrE; rw [if_pos h]
theorem mr_many {b : List Int} {q : Int} (h : ¬ (q < 0 ∨ 16 < q)) (h2 : 50000 < b.length) : mrE b q = 4 := by unfold mrE; rw [if_neg h, if_pos h2]
theorem mr_short {b : List Int} {q : Int} (h : ¬ (q < 0 ∨ 16 < q)) (h2 : ¬ 50000 < b.length) (h3 : rdS b q.toNat = none) : mrE b q = 18 := by unfold mrE; rw [if_neg h, if_neg h2, h3]
theorem mr_form {b : List Int} {q : Int} {l : List Rc} {p : Nat} (h : ¬ (q < 0 ∨ 16 < q)) (h2 : ¬ 50000 < b.length) (h3 : rdS b q.toNat = some (l, p)) (h4 : vlE l ≠ 0) : mrE b q = 12 := by unfold mrE; rw [if_neg h, if_neg h2, h3]; simp only; rw [if_neg h4]
theorem mr_ok {b : List Int} {q : Int} {l : List Rc} {p : Nat} (h : ¬ (q < 0 ∨ 16 < q)) (h2 : ¬ 50000 < b.length) (h3 : rdS b q.toNat = some (l, p)) (h4 : vlE l = 0) : mrE b q = 0 ∧ mrL b q = l ∧ mrP b q = p := by
  have e : mrE b q = 0 := by unfold mrE; rw [if_neg h, if_neg h2, h3]; simp only; rw [if_pos h4]
  refine ⟨e, ?_, ?_⟩
  · unfold mrL; rw [if_pos e, h3]
  · unfold mrP; rw [if_pos e, h3]
theorem mr_no {b : List Int} {q : Int} {e : Int} (h : mrE b q = e) (h0 : e ≠ 0) : mrE b q = e ∧ mrL b q = [] ∧ mrP b q = 0 := ⟨h, by unfold mrL; rw [if_neg (by rw [h]; exact h0)], by unfold mrP; rw [if_neg (by rw [h]; exact h0)]⟩
def RDP (b : List Int) (q : Int) (w : World) (e : Ending) (w' : World) : Prop := ∃ A m c, e = .returned (.tuple #[.slice A m c, .int .i64 (mrP b q : Int), .int .i64 (mrE b q)]) ∧ RE.Own w' w.heap.size (.slice A m c) (mrL b q) ∧ Below w.heap.size w w'
theorem rd_end {b : List Int} {q : Int} {e : Int} {w w' : World} (h : mrE b q = e ∧ mrL b q = [] ∧ mrP b q = 0) (hb : Below w.heap.size w w') : RDP b q w (.returned (.tuple #[.slice none 0 0, .int .i64 0, .int .i64 e])) w' :=
  ⟨none, 0, 0, by rw [h.1, h.2.2]; rfl, by rw [h.2.1]; exact Enc.Own.nil _ _, hb⟩
set_option maxHeartbeats 6400000 in
theorem Read_m (b : List Int) (A : Option Addr) (n d : Nat) (q : Int) (w : World) (hA : Has .u8 w A b) (eA : b.length = n) (hd : n ≤ d) (hm : d ≤ 9223372036854775807) (hb : Byt8 b) (hT : Tab w) (hH : Hnd w) (q1 : -9223372036854775808 ≤ q) (q2 : q ≤ 9223372036854775807) :
    Calls Tryd.prog 26 #[.slice A n d, .int .i64 q] w (RDP b q w) := by
  have n9 : (n : Int) ≤ 9223372036854775807 := by omega
  have HE := Lib.hid eA
  by_cases a1 : q < 0 ∨ 16 < q
  · have HM := Lib.hid (mr_no (mr_arg (b := b) a1) (by decide))
    rcases a1 with a1 | a1 <;>
    · clear hA hb hT hH eA
      go_enter Tryd.func26, Tryd.ntmps26
      go_wp2_with fail
      go_ret3
      exact rd_end HM.out (Below.refl _ _)
  by_cases a2 : 50000 < b.length
  · have HM := Lib.hid (mr_no (mr_many a1 a2) (by decide))
    have b1 : 0 ≤ q := by omega
    have b2 : q ≤ 16 := by omega
    have b3 : (50000 : Int) < n := by omega
    clear hA hb hT hH eA a1 a2
    go_enter Tryd.func26, Tryd.ntmps26
    go_wp2_with fail
    go_ret3
    exact rd_end HM.out (Below.refl _ _)
  have HA := Lib.hid hA
  have HD := Lib.hid (And.intro hd hm)
  have HB := Lib.hid hb
  have HT := Lib.hid hT
  have HH := Lib.hid hH
  have A12 := Lib.hid (And.intro a1 a2)
  obtain ⟨k, rfl⟩ : ∃ k : Nat, q = (k : Int) := ⟨q.toNat, by omega⟩
  have k16 : (k : Int) ≤ 16 := by omega
  have k0 : 0 ≤ (k : Int) := by omega
  have b3 : (n : Int) ≤ 50000 := by omega
  have HDD := Lib.hid hd
  clear hb hT hH a1 a2 hm q1 q2
  by_cases hc : n ≤ 4448
  · obtain ⟨bm, hbm⟩ : ∃ bm, b = bm := ⟨_, rfl⟩
    have HEM : Hid (bm.length = n) := Lib.hid (by rw [← hbm]; exact eA)
    have HBM : Hid (Byt8 bm) := Lib.hid (by rw [← hbm]; exact HB.out)
    have HRM : Hid (rdS bm k = rdS b k) := Lib.hid (by rw [hbm])
    have HTA : Hid (Has .u8 w A bm) := Lib.hid (by rw [← hbm]; exact HA.out)
    have HDM : Hid (n ≤ d ∧ n ≤ 4448) := Lib.hid ⟨hd, hc⟩
    have c1 : (n : Int) ≤ 4448 := by omega
    have c2 : (n : Int) ≤ (d : Int) := by omega
    clear hA eA hc hbm hd
    go_enter Tryd.func26, Tryd.ntmps26
    go_wp2_with fail
    refine (New_any bm A n d w HTA.out HEM.out HDM.out.1 HD.out.2).mono ?_
    rintro e w1 ⟨A1, n1, c1', rfl, hn1, ho1, hb1⟩
    have hnw : newB bm = bm ∧ newE bm = 0 := ⟨by rw [newB, if_pos (by have := HEM.out; have := HDM.out.2; omega)], by rw [newE, if_pos (by have := HEM.out; have := HDM.out.2; omega)]⟩
    rw [hnw.1] at hn1 ho1
    rw [hnw.2]
    have HL5 : Hid (bm.length ≤ 50000) := Lib.hid (by have := HEM.out; have := HDM.out.2; omega)
    have G1 := mb_new w1 (.cells #[.slice A1 n1 c1', .int .i64 0] 79)
    have S1 : (w1.alloc (.cells #[.slice A1 n1 c1', .int .i64 0] 79)).heap.size = w1.heap.size + 1 := by simp
    have G2 := mb_new (w1.alloc (.cells #[.slice A1 n1 c1', .int .i64 0] 79)) (.cells #[.slice A1 n1 c1', .int .i64 0] 83)
    have K2 := Lib.hid (Lies.fresh_at (t := 83) (cs := [.slice A1 n1 c1', .int .i64 0]) S1)
    have CI := Lib.hid (cu_of (p := 0) HBM.out (OwnZ.past ho1 (mb_bb G1 G2)) hn1 (Nat.zero_le _) HL5.out)
    have B2 := Lib.hid (mb_bb hb1 (mb_bb G1 G2))
    have HGE : Hid (w.heap.size ≤ w1.heap.size + 1) := Lib.hid (Nat.le_succ_of_le hb1.size)
    clear hnw hn1 ho1 hb1 G1 G2 S1
    go_wp2_with fail
    generalize ((w1.alloc (.cells #[.slice A1 n1 c1', .int .i64 0] 79)).alloc (.cells #[.slice A1 n1 c1', .int .i64 0] 83)) = w2 at *
    generalize w1.heap.size + 1 = g at *
    refine (table_any bm k g A1 n1 c1' w w2 HBM.out HL5.out (by omega) K2.out CI.out HT.out B2.out HGE.out).mono ?_
    rintro e w3 ⟨hb3, hh⟩
    have B3 := Lib.hid (B2.out.trans (hb3.mono HGE.out))
    have S3 := Lib.hid hb3.size
    rw [HRM.out] at hh
    have BN := Lib.hid (mb_new w3 (.cells #[.int .i64 0] 89))
    have HH3 := Lib.hid (HH.out.below (mb_bb B3.out BN.out) (Nat.le_refl _))
    rcases hh with ⟨l, p, X, c, Y, u, v, hr, hv, rfl, ho, K3⟩ | ⟨l, p, hr, hv, rfl⟩ | ⟨hr, rfl⟩
    · have HM := Lib.hid (mr_ok A12.out.1 A12.out.2 (by rw [Int.toNat_natCast]; exact hr) hv)
      have O4 := Lib.hid ((ho.past BN.out).mono B2.out.size)
      have K4 := Lib.hid (K3.past BN.out)
      have B4 := Lib.hid (mb_bb B3.out BN.out)
      clear hb3 hr hv ho K3 CI K2 B2 B3
      go_wp2_with fail
      refine (as_nil _ _).mono ?_
      rintro e w4 ⟨rfl, rfl⟩
      have x1 := K4.out.cell 1
      simp only [List.getElem?_cons_succ, List.getElem?_cons_zero] at x1
      have lt := K4.out.lt
      clear BN HH3
      generalize (w3.alloc (.cells #[.int .i64 0] 89)) = w5 at *
      go_upto_region 15 with fail
      go_quiet (fail)
      go_wp2_with fail
      go_ret3
      exact ⟨some X, k, c, by rw [HM.out.1, HM.out.2.2]; rfl, by rw [HM.out.2.1]; exact O4.out, by have := B4.out; (repeat' (first | (with_reducible exact Below.refl _ _) | (with_reducible assumption) | (with_reducible refine below_drewN ?_ _) | (with_reducible refine below_new ?_ _) | (with_reducible refine Below.alloc ?_ ?_ _) | (with_reducible refine Below.drew ?_) | (with_reducible refine Below.setCell ?_ ?_ _) | (with_reducible apply below_at; (case k => (with_reducible assumption)); (case hB => omega)) | (with_reducible apply below_on; (with_reducible assumption)) | (go_size; done) | (with_reducible apply size_of)))⟩
    · have HM := Lib.hid (mr_no (mr_form A12.out.1 A12.out.2 (by rw [Int.toNat_natCast]; exact hr) hv) (by decide))
      have B4 := Lib.hid (mb_bb B3.out BN.out)
      have HLT : Hid (w3.heap.size < (w3.alloc (.cells #[.int .i64 0] 89)).heap.size) := Lib.hid (by simp)
      clear hb3 hr hv CI K2 B2 B3
      go_wp2_with fail
      refine (as_form _ ⟨w3.heap.size, 0, none⟩ _ HH3.out HLT.out).mono ?_
      rintro e w4 ⟨rfl, hb4⟩
      have B5 := Lib.hid (mb_bb B4.out hb4)
      clear hb4 BN HH3
      go_wp2_with fail
      go_ret3
      exact rd_end HM.out B5.out
    · have HM := Lib.hid (mr_no (mr_short A12.out.1 A12.out.2 (by rw [Int.toNat_natCast]; exact hr)) (by decide))
      have B4 := Lib.hid (mb_bb B3.out BN.out)
      have HLB := Lib.hid B3.out.size
      have CC := Lib.hid (Lies.fresh w3 89 [.int .i64 0]).one
      clear hb3 hr CI K2 B2 B3
      go_wp2_with fail
      refine (as_hit 18 ⟨w3.heap.size, 0, none⟩ (.int .i64 0) _ HH3.out CC.out.1 CC.out.2).mono ?_
      rintro e w4 ⟨rfl, hb4⟩
      have B5 := Lib.hid (B4.out.trans (hb4 w.heap.size HLB.out))
      clear hb4 BN HH3 CC
      go_wp2_with fail
      go_ret3
      exact rd_end HM.out B5.out
  · obtain ⟨bm, hbm⟩ : ∃ bm, b.take 4448 = bm := ⟨_, rfl⟩
    have HEM : Hid (bm.length = 4448) := Lib.hid (by rw [← hbm, List.length_take]; omega)
    have HBM : Hid (Byt8 bm) := Lib.hid (by rw [← hbm]; exact fun z hz => HB.out z (List.mem_of_mem_take hz))
    have HRM : Hid (rdS bm k = rdS b k) := Lib.hid (by rw [← hbm]; exact rdS_take HB.out 4448 k (by omega))
    have HTA : Hid (Has .u8 w A bm) := Lib.hid (by
      rw [← hbm]
      rcases HA.out with h | ⟨bb, off, rfl, hx, hcc⟩
      · exact .inl (by rw [h]; rfl)
      · exact .inr ⟨bb, off, rfl, hx, fun i hi => by rw [getD_take (by rw [List.length_take] at hi; omega)]; exact hcc i (by rw [List.length_take] at hi; omega)⟩)
    have HDM : Hid (4448 ≤ d ∧ 4448 ≤ 4448) := Lib.hid ⟨by omega, Nat.le_refl _⟩
    have c1 : 4448 < (n : Int) := by omega
    have c2 : 4448 ≤ (d : Int) := by omega
    clear hA eA hc hbm hd
    go_enter Tryd.func26, Tryd.ntmps26
    go_wp2_with fail
    refine (New_any bm A 4448 d w HTA.out HEM.out HDM.out.1 HD.out.2).mono ?_
    rintro e w1 ⟨A1, n1, c1', rfl, hn1, ho1, hb1⟩
    have hnw : newB bm = bm ∧ newE bm = 0 := ⟨by rw [newB, if_pos (by have := HEM.out; have := HDM.out.2; omega)], by rw [newE, if_pos (by have := HEM.out; have := HDM.out.2; omega)]⟩
    rw [hnw.1] at hn1 ho1
    rw [hnw.2]
    have HL5 : Hid (bm.length ≤ 50000) := Lib.hid (by have := HEM.out; have := HDM.out.2; omega)
    have G1 := mb_new w1 (.cells #[.slice A1 n1 c1', .int .i64 0] 79)
    have S1 : (w1.alloc (.cells #[.slice A1 n1 c1', .int .i64 0] 79)).heap.size = w1.heap.size + 1 := by simp
    have G2 := mb_new (w1.alloc (.cells #[.slice A1 n1 c1', .int .i64 0] 79)) (.cells #[.slice A1 n1 c1', .int .i64 0] 83)
    have K2 := Lib.hid (Lies.fresh_at (t := 83) (cs := [.slice A1 n1 c1', .int .i64 0]) S1)
    have CI := Lib.hid (cu_of (p := 0) HBM.out (OwnZ.past ho1 (mb_bb G1 G2)) hn1 (Nat.zero_le _) HL5.out)
    have B2 := Lib.hid (mb_bb hb1 (mb_bb G1 G2))
    have HGE : Hid (w.heap.size ≤ w1.heap.size + 1) := Lib.hid (Nat.le_succ_of_le hb1.size)
    clear hnw hn1 ho1 hb1 G1 G2 S1
    go_wp2_with fail
    generalize ((w1.alloc (.cells #[.slice A1 n1 c1', .int .i64 0] 79)).alloc (.cells #[.slice A1 n1 c1', .int .i64 0] 83)) = w2 at *
    generalize w1.heap.size + 1 = g at *
    refine (table_any bm k g A1 n1 c1' w w2 HBM.out HL5.out (by omega) K2.out CI.out HT.out B2.out HGE.out).mono ?_
    rintro e w3 ⟨hb3, hh⟩
    have B3 := Lib.hid (B2.out.trans (hb3.mono HGE.out))
    have S3 := Lib.hid hb3.size
    rw [HRM.out] at hh
    have BN := Lib.hid (mb_new w3 (.cells #[.int .i64 0] 89))
    have HH3 := Lib.hid (HH.out.below (mb_bb B3.out BN.out) (Nat.le_refl _))
    rcases hh with ⟨l, p, X, c, Y, u, v, hr, hv, rfl, ho, K3⟩ | ⟨l, p, hr, hv, rfl⟩ | ⟨hr, rfl⟩
    · have HM := Lib.hid (mr_ok A12.out.1 A12.out.2 (by rw [Int.toNat_natCast]; exact hr) hv)
      have O4 := Lib.hid ((ho.past BN.out).mono B2.out.size)
      have K4 := Lib.hid (K3.past BN.out)
      have B4 := Lib.hid (mb_bb B3.out BN.out)
      clear hb3 hr hv ho K3 CI K2 B2 B3
      go_wp2_with fail
      refine (as_nil _ _).mono ?_
      rintro e w4 ⟨rfl, rfl⟩
      have x1 := K4.out.cell 1
      simp only [List.getElem?_cons_succ, List.getElem?_cons_zero] at x1
      have lt := K4.out.lt
      clear BN HH3
      generalize (w3.alloc (.cells #[.int .i64 0] 89)) = w5 at *
      go_upto_region 15 with fail
      go_quiet (fail)
      go_wp2_with fail
      go_ret3
      exact ⟨some X, k, c, by rw [HM.out.1, HM.out.2.2]; rfl, by rw [HM.out.2.1]; exact O4.out, by have := B4.out; (repeat' (first | (with_reducible exact Below.refl _ _) | (with_reducible assumption) | (with_reducible refine below_drewN ?_ _) | (with_reducible refine below_new ?_ _) | (with_reducible refine Below.alloc ?_ ?_ _) | (with_reducible refine Below.drew ?_) | (with_reducible refine Below.setCell ?_ ?_ _) | (with_reducible apply below_at; (case k => (with_reducible assumption)); (case hB => omega)) | (with_reducible apply below_on; (with_reducible assumption)) | (go_size; done) | (with_reducible apply size_of)))⟩
    · have HM := Lib.hid (mr_no (mr_form A12.out.1 A12.out.2 (by rw [Int.toNat_natCast]; exact hr) hv) (by decide))
      have B4 := Lib.hid (mb_bb B3.out BN.out)
      have HLT : Hid (w3.heap.size < (w3.alloc (.cells #[.int .i64 0] 89)).heap.size) := Lib.hid (by simp)
      clear hb3 hr hv CI K2 B2 B3
      go_wp2_with fail
      refine (as_form _ ⟨w3.heap.size, 0, none⟩ _ HH3.out HLT.out).mono ?_
      rintro e w4 ⟨rfl, hb4⟩
      have B5 := Lib.hid (mb_bb B4.out hb4)
      clear hb4 BN HH3
      go_wp2_with fail
      go_ret3
      exact rd_end HM.out B5.out
    · have HM := Lib.hid (mr_no (mr_short A12.out.1 A12.out.2 (by rw [Int.toNat_natCast]; exact hr)) (by decide))
      have B4 := Lib.hid (mb_bb B3.out BN.out)
      have HLB := Lib.hid B3.out.size
      have CC := Lib.hid (Lies.fresh w3 89 [.int .i64 0]).one
      clear hb3 hr CI K2 B2 B3
      go_wp2_with fail
      refine (as_hit 18 ⟨w3.heap.size, 0, none⟩ (.int .i64 0) _ HH3.out CC.out.1 CC.out.2).mono ?_
      rintro e w4 ⟨rfl, hb4⟩
      have B5 := Lib.hid (B4.out.trans (hb4 w.heap.size HLB.out))
      clear hb4 BN HH3 CC
      go_wp2_with fail
      go_ret3
      exact rd_end HM.out B5.out
end Go.Proofs.YtiihafhnaiicoaaDoor.mbW
