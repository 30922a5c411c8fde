/- AdaptNames, by a walk. -/
import Derived.Test.YtipbafcjmeibpaaAdL9
import Derived.Test.YtipbafcjmeibpaaAdMk
namespace Go.Proofs.Ytipbafcjmeibpaa.adL
open Go.RowKit Go.Proofs.Ytipbafcjmeibpaa.base Go.Proofs.Ytipbafcjmeibpaa.adP Go.Proofs.Ytipbafcjmeibpaa.adW Go.Proofs.Ytipbafcjmeibpaa.cntP Go.Proofs.Ytipbafcjmeibpaa.stP
set_option linter.unusedVariables false
set_option linter.unusedSimpArgs false

theorem Twin_at (m : Ad) (l : Int) (hl : m.l = l) (A B : Option Addr) (cp cn : Nat) (w : World) (h : AdIn w A B 193 193 m) :
    Calls Try.prog 10 #[.agg #[.int .i32 l, .slice A 193 cp, .slice B 193 cn]] w fun e w' => ∃ gp gn c d, e = .returned (.agg #[.int .i32 l, .slice (some ⟨gp, 0, none⟩) 193 c, .slice (some ⟨gn, 0, none⟩) 193 d]) ∧ AdOwn w' w.heap.size gp gn c d m ∧ Below w.heap.size w w' := by
  subst hl
  exact Twin_own m A B cp cn w h
theorem New_1000 (l : Int) (w : World) (h1 : 1 ≤ l) (h2 : l ≤ 1000) :
    Calls Try.prog 9 #[.int .i64 l] w fun e w' => ∃ gp gn, e = .returned (.tuple #[.agg #[.int .i32 l, .slice (some ⟨gp, 0, none⟩) 193 193, .slice (some ⟨gn, 0, none⟩) 193 193], .int .i64 0]) ∧ Below w.heap.size w w' := by
  refine (New_ok l w h1 h2).mono ?_
  rintro e w' ⟨gp, gn, rfl, _, hb⟩
  exact ⟨gp, gn, rfl, hb⟩
theorem New_m (l : Int) (m : Ad) (w : World) (h1 : 1 ≤ l) (h2 : l ≤ 1000) (hm : newA l = m) :
    Calls Try.prog 9 #[.int .i64 l] w fun e w' => ∃ gp gn, e = .returned (.tuple #[.agg #[.int .i32 m.l, .slice (some ⟨gp, 0, none⟩) 193 193, .slice (some ⟨gn, 0, none⟩) 193 193], .int .i64 0]) ∧ AdOwn w' w.heap.size gp gn 193 193 m ∧ Below w.heap.size w w' := by
  subst hm
  exact New_ok l w h1 h2
theorem New_no (l : Int) (w : World) (h : newOk l = false) :
    Calls Try.prog 9 #[.int .i64 l] w fun e w' => e = .returned (.tuple #[.agg #[.int .i32 0, .slice none 0 0, .slice none 0 0], .int .i64 2]) ∧ Below w.heap.size w w' := New_bad l w h
theorem name_world {P : Program} {f : FuncId} {args : Array Value} {w : World} {K : Ending → World → Prop} (h : ∀ wz, wz = w → Calls P f args wz K) : Calls P f args w K := h w rfl
set_option maxRecDepth 100000 in
set_option maxHeartbeats 100000000 in
theorem names (w : World) : Calls Try.prog 3 #[] w fun e w' => e = .returned (.bool true) ∧ Below w.heap.size w w' := by
  obtain ⟨m, hm⟩ : ∃ m, newA 5 = m := ⟨_, rfl⟩
  have HM := Lib.hid hm
  have HOK : Hid (adOk m = true) := Lib.hid (by rw [← hm]; exact newA_ok rfl)
  have HML : Hid (m.l = 5) := Lib.hid (by rw [← hm]; rfl)
  clear hm
  go_enter Try.func3, Try.ntmps3
  go_wp2_with fail
  refine (New_no 0 _ rfl).mono ?_
  rintro e w1 ⟨rfl, hb1⟩
  go_wp2_with fail
  refine (New_no 1001 _ rfl).mono ?_
  rintro e w2 ⟨rfl, hb2⟩
  go_wp2_with fail
  refine (New_1000 1000 _ (by omega) (by omega)).mono ?_
  rintro e w3 ⟨gp0, gn0, rfl, hb3⟩
  have HW3 : Hid (Below w.heap.size w w3) := Lib.hid (by (repeat' (first | (with_reducible exact Below.refl _ _) | (with_reducible assumption) | (with_reducible refine below_drewN ?_ _) | (with_reducible refine below_new ?_ _) | (with_reducible refine Below.alloc ?_ ?_ _) | (with_reducible refine Below.drew ?_) | (with_reducible refine Below.setCell ?_ ?_ _) | (with_reducible apply below_at; (case k => (with_reducible assumption)); (case hB => omega)) | (with_reducible apply below_on; (with_reducible assumption)) | (go_size; done) | (with_reducible apply size_of))))
  clear hb1 hb2 hb3
  go_wp2_with fail
  refine (New_m 5 m _ (by omega) (by omega) HM.out).mono ?_
  rintro e w4 ⟨gp, gn, rfl, O4, hb4⟩
  have HO4 := Lib.hid O4
  have HW4 : Hid (Below w.heap.size w w4) := Lib.hid (by have := HW3.out; (repeat' (first | (with_reducible exact Below.refl _ _) | (with_reducible assumption) | (with_reducible refine below_drewN ?_ _) | (with_reducible refine below_new ?_ _) | (with_reducible refine Below.alloc ?_ ?_ _) | (with_reducible refine Below.drew ?_) | (with_reducible refine Below.setCell ?_ ?_ _) | (with_reducible apply below_at; (case k => (with_reducible assumption)); (case hB => omega)) | (with_reducible apply below_on; (with_reducible assumption)) | (go_size; done) | (with_reducible apply size_of))))
  have J4 : Lies (w4) (w3.heap.size) 24 [.int .i32 (1000), .slice (some ⟨gp0, 0, none⟩) 193 (193), .slice (some ⟨gn0, 0, none⟩) 193 (193)] := (by (repeat' (first | (with_reducible assumption) | (with_reducible exact Lies.fresh _ _ _) | (with_reducible apply Lies.fresh_at; (first | (with_reducible rfl) | (simp; done))) | (with_reducible refine Lies.drew ?_) | (with_reducible refine Lies.drewN ?_ _) | (with_reducible refine Lies.alloc ?_ _) | (with_reducible apply Lies.past; case hb => (with_reducible assumption)) | (with_reducible apply Lies.keeps; (case k => (with_reducible assumption)); (case ht => decide)) | (with_reducible apply Lies.store3) | (with_reducible apply Lies.other; case hp => (first | omega | (simp; done) | (simp; omega))))))
  obtain ⟨a0, a1, a2, -, -, -⟩ := J4.three
  have lj4 := J4.lt
  clear J4 O4 hb4
  go_wp2_with fail
  have HK5 : Hid (Lies (w4.alloc (.cells #[.int .i32 m.l, .slice (some ⟨gp, 0, none⟩) 193 193, .slice (some ⟨gn, 0, none⟩) 193 193] 24)) (w4.heap.size) 24 [.int .i32 (m.l), .slice (some ⟨gp, 0, none⟩) 193 (193), .slice (some ⟨gn, 0, none⟩) 193 (193)]) := Lib.hid (Lies.fresh _ _ _)
  have HO5 : Hid (AdOwn (w4.alloc (.cells #[.int .i32 m.l, .slice (some ⟨gp, 0, none⟩) 193 193, .slice (some ⟨gn, 0, none⟩) 193 193] 24)) (w3.heap.size + 1) gp gn 193 193 m) := Lib.hid ((HO4.out.alloc _).mono (by simp))
  have HW5 : Hid (Below w.heap.size w (w4.alloc (.cells #[.int .i32 m.l, .slice (some ⟨gp, 0, none⟩) 193 193, .slice (some ⟨gn, 0, none⟩) 193 193] 24))) := Lib.hid (by have := HW4.out; (repeat' (first | (with_reducible exact Below.refl _ _) | (with_reducible assumption) | (with_reducible refine below_drewN ?_ _) | (with_reducible refine below_new ?_ _) | (with_reducible refine Below.alloc ?_ ?_ _) | (with_reducible refine Below.drew ?_) | (with_reducible refine Below.setCell ?_ ?_ _) | (with_reducible apply below_at; (case k => (with_reducible assumption)); (case hB => omega)) | (with_reducible apply below_on; (with_reducible assumption)) | (go_size; done) | (with_reducible apply size_of))))
  clear a0 a1 a2
  go_loopw [9] (fun i wr => ∃ q : Int, 0 ≤ q ∧ q ≤ 7 ∧ i = .int .i64 q ∧ (Lies (wr) (w4.heap.size) 24 [.int .i32 (m.l), .slice (some ⟨gp, 0, none⟩) 193 (193), .slice (some ⟨gn, 0, none⟩) 193 (193)]) ∧ AdOwn wr (w3.heap.size + 1) gp gn 193 193 m ∧ Below w.heap.size w wr) (fun i _ => 7 - (intOf i).toNat)
  case atStart => exact ⟨0, by omega, by omega, rfl, HK5.out, HO5.out, HW5.out⟩
  case round =>
    obtain ⟨q, q1, q2, rfl, K, O, W⟩ := hrel
    have HK := Lib.hid K
    have HO := Lib.hid O
    have HW := Lib.hid W
    obtain ⟨p0, p1, p2, -, -, -⟩ := K.three
    have lk := K.lt
    clear K O W
    by_cases hlt : q < 7
    · have hq : q = 0 ∨ q = 1 ∨ q = 2 ∨ q = 3 ∨ q = 4 ∨ q = 5 ∨ q = 6 := by omega
      clear q1 q2 hlt
      rcases hq with rfl | rfl | rfl | rfl | rfl | rfl | rfl
      · as_aux_lemma =>
          go_wp2_with fail
          refine (Twin_own m _ _ 193 193 _ (HO.out.inOk HOK.out)).mono ?_
          rintro e wt ⟨gp1, gn1, c1, d1, rfl, O1, hb1⟩
          have HO1 := Lib.hid O1
          have bp1 := O1.p.base_le
          have bn1 := O1.n.base_le
          have fp1 := O1.p.frozen
          have fn1 := O1.n.frozen
          have cp1 := O1.p.cell 0 (by rw [O1.lp]; omega)
          have cn1 := O1.n.cell 7 (by rw [O1.ln]; omega)
          have fp2 := fp1 0
          have fn2 := fn1 7
          have hcap := O1.capLe
          have hc1 : c1 ≠ 1 := by omega
          have hml := HML.out
          have hbt := hb1.size
          have hne1 : gp1 ≠ wt.heap.size := by omega
          have hne2 : gn1 ≠ wt.heap.size := by omega
          obtain ⟨gpl, gpr⟩ := bp1
          obtain ⟨gnl, gnr⟩ := bn1
          generalize m.p.getD 0 0 = xp at cp1
          generalize m.n.getD 7 0 = xn at cn1
          clear O1 fp1 fn1 hml hcap
          go_wp2_with fail
          refine name_world ?_
          intro wz hz
          have HBI : Hid (BadIn wz (0) (some ⟨gp1, 0, none⟩) (some ⟨gn1, 0, none⟩) 193 193 (c1) d1) := Lib.hid (by rw [hz]; exact bad_l (HO1.out.alloc _) HOK.out 0 (.inl (by omega)) (by omega) (by omega))
          have HKZ : Hid (Lies (wz) (wt.heap.size) 24 [.int .i32 (0), .slice (some ⟨gp1, 0, none⟩) (193) (c1), .slice ((some ⟨gn1, 0, none⟩)) (193) (d1)]) := Lib.hid (by rw [hz]; exact Lies.fresh _ _ _)
          have HWZ : Hid (Below wr.heap.size wr wz) := Lib.hid (by rw [hz]; exact hb1.alloc hbt _)
          clear hz cp1 cn1 fp2 fn2 p0 p1 p2
          refine (P_no HBI.out 255 (by omega) (by omega)).mono ?_
          rintro e w5 ⟨rfl, hb5⟩
          have K5 := HKZ.out.past hb5
          obtain ⟨p0, p1, p2, -, -, -⟩ := K5.three
          have lk5 := K5.lt
          go_wp2_with fail
          refine (Update_no (HBI.out.past hb5) 255 2 (by omega) (by omega)).mono ?_
          rintro e w6 ⟨rfl, hb6⟩
          have K6 := K5.past hb6
          clear p0 p1 p2
          obtain ⟨p0, p1, p2, -, -, -⟩ := K6.three
          have lk6 := K6.lt
          go_wp2_with fail
          refine (Run_no (((HBI.out.past hb5).past hb6).past ((Below.refl _ _).alloc (Nat.le_refl _) _)) 255 none 0 0 (by omega) (by omega)).mono ?_
          rintro e w7 ⟨rfl, hb7⟩
          have K7 := (K6.alloc (.cells #[.int .i32 0, .slice none 0 0, .slice none 0 0] 24)).past hb7
          clear p0 p1 p2
          obtain ⟨p0, p1, p2, -, -, -⟩ := K7.three
          have lk7 := K7.lt
          go_wp2_with fail
          refine (Check_no (((((HBI.out.past hb5).past hb6).past ((Below.refl _ _).alloc (Nat.le_refl _) _)).past hb7).past ((Below.refl _ _).alloc (Nat.le_refl _) _))).mono ?_
          rintro e w8 ⟨rfl, hb8⟩
          have HWR : Hid (Below wr.heap.size wr w8) := Lib.hid (by have := HWZ.out; (repeat' (first | (with_reducible exact Below.refl _ _) | (with_reducible assumption) | (with_reducible refine below_drewN ?_ _) | (with_reducible refine below_new ?_ _) | (with_reducible refine Below.alloc ?_ ?_ _) | (with_reducible refine Below.drew ?_) | (with_reducible refine Below.setCell ?_ ?_ _) | (with_reducible apply below_at; (case k => (with_reducible assumption)); (case hB => omega)) | (with_reducible apply below_on; (with_reducible assumption)) | (go_size; done) | (with_reducible apply size_of))))
          go_wp2_with fail
          go_roundw
          case rel => exact ⟨0 + 1, by omega, by omega, by first | rfl | go_num, HK.out.past HWR.out, HO.out.past HWR.out, by have := HW.out; have := HWR.out; (repeat' (first | (with_reducible exact Below.refl _ _) | (with_reducible assumption) | (with_reducible refine below_drewN ?_ _) | (with_reducible refine below_new ?_ _) | (with_reducible refine Below.alloc ?_ ?_ _) | (with_reducible refine Below.drew ?_) | (with_reducible refine Below.setCell ?_ ?_ _) | (with_reducible apply below_at; (case k => (with_reducible assumption)); (case hB => omega)) | (with_reducible apply below_on; (with_reducible assumption)) | (go_size; done) | (with_reducible apply size_of)))⟩
          case measure => simp [intOf]
      · as_aux_lemma =>
          go_wp2_with fail
          refine (Twin_own m _ _ 193 193 _ (HO.out.inOk HOK.out)).mono ?_
          rintro e wt ⟨gp1, gn1, c1, d1, rfl, O1, hb1⟩
          have HO1 := Lib.hid O1
          have bp1 := O1.p.base_le
          have bn1 := O1.n.base_le
          have fp1 := O1.p.frozen
          have fn1 := O1.n.frozen
          have cp1 := O1.p.cell 0 (by rw [O1.lp]; omega)
          have cn1 := O1.n.cell 7 (by rw [O1.ln]; omega)
          have fp2 := fp1 0
          have fn2 := fn1 7
          have hcap := O1.capLe
          have hc1 : c1 ≠ 1 := by omega
          have hml := HML.out
          have hbt := hb1.size
          have hne1 : gp1 ≠ wt.heap.size := by omega
          have hne2 : gn1 ≠ wt.heap.size := by omega
          obtain ⟨gpl, gpr⟩ := bp1
          obtain ⟨gnl, gnr⟩ := bn1
          generalize m.p.getD 0 0 = xp at cp1
          generalize m.n.getD 7 0 = xn at cn1
          clear O1 fp1 fn1 hml hcap
          go_wp2_with fail
          refine name_world ?_
          intro wz hz
          have HBI : Hid (BadIn wz (1001) (some ⟨gp1, 0, none⟩) (some ⟨gn1, 0, none⟩) 193 193 (c1) d1) := Lib.hid (by rw [hz]; exact bad_l (HO1.out.alloc _) HOK.out 1001 (.inr (by omega)) (by omega) (by omega))
          have HKZ : Hid (Lies (wz) (wt.heap.size) 24 [.int .i32 (1001), .slice (some ⟨gp1, 0, none⟩) (193) (c1), .slice ((some ⟨gn1, 0, none⟩)) (193) (d1)]) := Lib.hid (by rw [hz]; exact Lies.fresh _ _ _)
          have HWZ : Hid (Below wr.heap.size wr wz) := Lib.hid (by rw [hz]; exact hb1.alloc hbt _)
          clear hz cp1 cn1 fp2 fn2 p0 p1 p2
          refine (P_no HBI.out 255 (by omega) (by omega)).mono ?_
          rintro e w5 ⟨rfl, hb5⟩
          have K5 := HKZ.out.past hb5
          obtain ⟨p0, p1, p2, -, -, -⟩ := K5.three
          have lk5 := K5.lt
          go_wp2_with fail
          refine (Update_no (HBI.out.past hb5) 255 2 (by omega) (by omega)).mono ?_
          rintro e w6 ⟨rfl, hb6⟩
          have K6 := K5.past hb6
          clear p0 p1 p2
          obtain ⟨p0, p1, p2, -, -, -⟩ := K6.three
          have lk6 := K6.lt
          go_wp2_with fail
          refine (Run_no (((HBI.out.past hb5).past hb6).past ((Below.refl _ _).alloc (Nat.le_refl _) _)) 255 none 0 0 (by omega) (by omega)).mono ?_
          rintro e w7 ⟨rfl, hb7⟩
          have K7 := (K6.alloc (.cells #[.int .i32 0, .slice none 0 0, .slice none 0 0] 24)).past hb7
          clear p0 p1 p2
          obtain ⟨p0, p1, p2, -, -, -⟩ := K7.three
          have lk7 := K7.lt
          go_wp2_with fail
          refine (Check_no (((((HBI.out.past hb5).past hb6).past ((Below.refl _ _).alloc (Nat.le_refl _) _)).past hb7).past ((Below.refl _ _).alloc (Nat.le_refl _) _))).mono ?_
          rintro e w8 ⟨rfl, hb8⟩
          have HWR : Hid (Below wr.heap.size wr w8) := Lib.hid (by have := HWZ.out; (repeat' (first | (with_reducible exact Below.refl _ _) | (with_reducible assumption) | (with_reducible refine below_drewN ?_ _) | (with_reducible refine below_new ?_ _) | (with_reducible refine Below.alloc ?_ ?_ _) | (with_reducible refine Below.drew ?_) | (with_reducible refine Below.setCell ?_ ?_ _) | (with_reducible apply below_at; (case k => (with_reducible assumption)); (case hB => omega)) | (with_reducible apply below_on; (with_reducible assumption)) | (go_size; done) | (with_reducible apply size_of))))
          go_wp2_with fail
          go_roundw
          case rel => exact ⟨1 + 1, by omega, by omega, by first | rfl | go_num, HK.out.past HWR.out, HO.out.past HWR.out, by have := HW.out; have := HWR.out; (repeat' (first | (with_reducible exact Below.refl _ _) | (with_reducible assumption) | (with_reducible refine below_drewN ?_ _) | (with_reducible refine below_new ?_ _) | (with_reducible refine Below.alloc ?_ ?_ _) | (with_reducible refine Below.drew ?_) | (with_reducible refine Below.setCell ?_ ?_ _) | (with_reducible apply below_at; (case k => (with_reducible assumption)); (case hB => omega)) | (with_reducible apply below_on; (with_reducible assumption)) | (go_size; done) | (with_reducible apply size_of)))⟩
          case measure => simp [intOf]
      · as_aux_lemma =>
          go_wp2_with fail
          refine (Twin_own m _ _ 193 193 _ (HO.out.inOk HOK.out)).mono ?_
          rintro e wt ⟨gp1, gn1, c1, d1, rfl, O1, hb1⟩
          have HO1 := Lib.hid O1
          have bp1 := O1.p.base_le
          have bn1 := O1.n.base_le
          have fp1 := O1.p.frozen
          have fn1 := O1.n.frozen
          have cp1 := O1.p.cell 192 (by rw [O1.lp]; omega)
          have cn1 := O1.n.cell 7 (by rw [O1.ln]; omega)
          have fp2 := fp1 192
          have fn2 := fn1 7
          have hcap := O1.capLe
          have hc1 : c1 ≠ 1 := by omega
          have hml := HML.out
          have hbt := hb1.size
          have hne1 : gp1 ≠ wt.heap.size := by omega
          have hne2 : gn1 ≠ wt.heap.size := by omega
          obtain ⟨gpl, gpr⟩ := bp1
          obtain ⟨gnl, gnr⟩ := bn1
          generalize m.p.getD 192 0 = xp at cp1
          generalize m.n.getD 7 0 = xn at cn1
          clear O1 fp1 fn1 hml hcap
          go_wp2_with fail
          refine name_world ?_
          intro wz hz
          have HBI : Hid (BadIn wz (m.l) (some ⟨gp1, 0, none⟩) (some ⟨gn1, 0, none⟩) 193 193 (c1) d1) := Lib.hid (by rw [hz]; exact bad_p ((HO1.out.setP 192 65536).alloc _) HOK.out (by omega) (.inr (by omega)) (by omega) (by omega))
          have HKZ : Hid (Lies (wz) (wt.heap.size) 24 [.int .i32 (m.l), .slice (some ⟨gp1, 0, none⟩) (193) (c1), .slice ((some ⟨gn1, 0, none⟩)) (193) (d1)]) := Lib.hid (by rw [hz]; exact Lies.fresh_at (by first | rfl | (simp; done)))
          have HWZ : Hid (Below wr.heap.size wr wz) := Lib.hid (by rw [hz]; refine Below.alloc (Below.setCell hb1 ?_ _) ?_ _; (focus exact gpl); (focus (first | exact hbt | (simp; omega))))
          clear hz cp1 cn1 fp2 fn2 p0 p1 p2
          refine (P_no HBI.out 255 (by omega) (by omega)).mono ?_
          rintro e w5 ⟨rfl, hb5⟩
          have K5 := HKZ.out.past hb5
          obtain ⟨p0, p1, p2, -, -, -⟩ := K5.three
          have lk5 := K5.lt
          go_wp2_with fail
          refine (Update_no (HBI.out.past hb5) 255 2 (by omega) (by omega)).mono ?_
          rintro e w6 ⟨rfl, hb6⟩
          have K6 := K5.past hb6
          clear p0 p1 p2
          obtain ⟨p0, p1, p2, -, -, -⟩ := K6.three
          have lk6 := K6.lt
          go_wp2_with fail
          refine (Run_no (((HBI.out.past hb5).past hb6).past ((Below.refl _ _).alloc (Nat.le_refl _) _)) 255 none 0 0 (by omega) (by omega)).mono ?_
          rintro e w7 ⟨rfl, hb7⟩
          have K7 := (K6.alloc (.cells #[.int .i32 0, .slice none 0 0, .slice none 0 0] 24)).past hb7
          clear p0 p1 p2
          obtain ⟨p0, p1, p2, -, -, -⟩ := K7.three
          have lk7 := K7.lt
          go_wp2_with fail
          refine (Check_no (((((HBI.out.past hb5).past hb6).past ((Below.refl _ _).alloc (Nat.le_refl _) _)).past hb7).past ((Below.refl _ _).alloc (Nat.le_refl _) _))).mono ?_
          rintro e w8 ⟨rfl, hb8⟩
          have HWR : Hid (Below wr.heap.size wr w8) := Lib.hid (by have := HWZ.out; (repeat' (first | (with_reducible exact Below.refl _ _) | (with_reducible assumption) | (with_reducible refine below_drewN ?_ _) | (with_reducible refine below_new ?_ _) | (with_reducible refine Below.alloc ?_ ?_ _) | (with_reducible refine Below.drew ?_) | (with_reducible refine Below.setCell ?_ ?_ _) | (with_reducible apply below_at; (case k => (with_reducible assumption)); (case hB => omega)) | (with_reducible apply below_on; (with_reducible assumption)) | (go_size; done) | (with_reducible apply size_of))))
          go_wp2_with fail
          go_roundw
          case rel => exact ⟨2 + 1, by omega, by omega, by first | rfl | go_num, HK.out.past HWR.out, HO.out.past HWR.out, by have := HW.out; have := HWR.out; (repeat' (first | (with_reducible exact Below.refl _ _) | (with_reducible assumption) | (with_reducible refine below_drewN ?_ _) | (with_reducible refine below_new ?_ _) | (with_reducible refine Below.alloc ?_ ?_ _) | (with_reducible refine Below.drew ?_) | (with_reducible refine Below.setCell ?_ ?_ _) | (with_reducible apply below_at; (case k => (with_reducible assumption)); (case hB => omega)) | (with_reducible apply below_on; (with_reducible assumption)) | (go_size; done) | (with_reducible apply size_of)))⟩
          case measure => simp [intOf]
      · as_aux_lemma =>
          go_wp2_with fail
          refine (Twin_own m _ _ 193 193 _ (HO.out.inOk HOK.out)).mono ?_
          rintro e wt ⟨gp1, gn1, c1, d1, rfl, O1, hb1⟩
          have HO1 := Lib.hid O1
          have bp1 := O1.p.base_le
          have bn1 := O1.n.base_le
          have fp1 := O1.p.frozen
          have fn1 := O1.n.frozen
          have cp1 := O1.p.cell 0 (by rw [O1.lp]; omega)
          have cn1 := O1.n.cell 7 (by rw [O1.ln]; omega)
          have fp2 := fp1 0
          have fn2 := fn1 7
          have hcap := O1.capLe
          have hc1 : c1 ≠ 1 := by omega
          have hml := HML.out
          have hbt := hb1.size
          have hne1 : gp1 ≠ wt.heap.size := by omega
          have hne2 : gn1 ≠ wt.heap.size := by omega
          obtain ⟨gpl, gpr⟩ := bp1
          obtain ⟨gnl, gnr⟩ := bn1
          generalize m.p.getD 0 0 = xp at cp1
          generalize m.n.getD 7 0 = xn at cn1
          clear O1 fp1 fn1 hml hcap
          go_wp2_with fail
          refine name_world ?_
          intro wz hz
          have HBI : Hid (BadIn wz (m.l) (some ⟨gp1, 0, none⟩) (some ⟨gn1, 0, none⟩) 193 193 (c1) d1) := Lib.hid (by rw [hz]; exact bad_p ((HO1.out.setP 0 (-1)).alloc _) HOK.out (by omega) (.inl (by omega)) (by omega) (by omega))
          have HKZ : Hid (Lies (wz) (wt.heap.size) 24 [.int .i32 (m.l), .slice (some ⟨gp1, 0, none⟩) (193) (c1), .slice ((some ⟨gn1, 0, none⟩)) (193) (d1)]) := Lib.hid (by rw [hz]; exact Lies.fresh_at (by first | rfl | (simp; done)))
          have HWZ : Hid (Below wr.heap.size wr wz) := Lib.hid (by rw [hz]; refine Below.alloc (Below.setCell hb1 ?_ _) ?_ _; (focus exact gpl); (focus (first | exact hbt | (simp; omega))))
          clear hz cp1 cn1 fp2 fn2 p0 p1 p2
          refine (P_no HBI.out 255 (by omega) (by omega)).mono ?_
          rintro e w5 ⟨rfl, hb5⟩
          have K5 := HKZ.out.past hb5
          obtain ⟨p0, p1, p2, -, -, -⟩ := K5.three
          have lk5 := K5.lt
          go_wp2_with fail
          refine (Update_no (HBI.out.past hb5) 255 2 (by omega) (by omega)).mono ?_
          rintro e w6 ⟨rfl, hb6⟩
          have K6 := K5.past hb6
          clear p0 p1 p2
          obtain ⟨p0, p1, p2, -, -, -⟩ := K6.three
          have lk6 := K6.lt
          go_wp2_with fail
          refine (Run_no (((HBI.out.past hb5).past hb6).past ((Below.refl _ _).alloc (Nat.le_refl _) _)) 255 none 0 0 (by omega) (by omega)).mono ?_
          rintro e w7 ⟨rfl, hb7⟩
          have K7 := (K6.alloc (.cells #[.int .i32 0, .slice none 0 0, .slice none 0 0] 24)).past hb7
          clear p0 p1 p2
          obtain ⟨p0, p1, p2, -, -, -⟩ := K7.three
          have lk7 := K7.lt
          go_wp2_with fail
          refine (Check_no (((((HBI.out.past hb5).past hb6).past ((Below.refl _ _).alloc (Nat.le_refl _) _)).past hb7).past ((Below.refl _ _).alloc (Nat.le_refl _) _))).mono ?_
          rintro e w8 ⟨rfl, hb8⟩
          have HWR : Hid (Below wr.heap.size wr w8) := Lib.hid (by have := HWZ.out; (repeat' (first | (with_reducible exact Below.refl _ _) | (with_reducible assumption) | (with_reducible refine below_drewN ?_ _) | (with_reducible refine below_new ?_ _) | (with_reducible refine Below.alloc ?_ ?_ _) | (with_reducible refine Below.drew ?_) | (with_reducible refine Below.setCell ?_ ?_ _) | (with_reducible apply below_at; (case k => (with_reducible assumption)); (case hB => omega)) | (with_reducible apply below_on; (with_reducible assumption)) | (go_size; done) | (with_reducible apply size_of))))
          go_wp2_with fail
          go_roundw
          case rel => exact ⟨3 + 1, by omega, by omega, by first | rfl | go_num, HK.out.past HWR.out, HO.out.past HWR.out, by have := HW.out; have := HWR.out; (repeat' (first | (with_reducible exact Below.refl _ _) | (with_reducible assumption) | (with_reducible refine below_drewN ?_ _) | (with_reducible refine below_new ?_ _) | (with_reducible refine Below.alloc ?_ ?_ _) | (with_reducible refine Below.drew ?_) | (with_reducible refine Below.setCell ?_ ?_ _) | (with_reducible apply below_at; (case k => (with_reducible assumption)); (case hB => omega)) | (with_reducible apply below_on; (with_reducible assumption)) | (go_size; done) | (with_reducible apply size_of)))⟩
          case measure => simp [intOf]
      · as_aux_lemma =>
          go_wp2_with fail
          refine (Twin_own m _ _ 193 193 _ (HO.out.inOk HOK.out)).mono ?_
          rintro e wt ⟨gp1, gn1, c1, d1, rfl, O1, hb1⟩
          have HO1 := Lib.hid O1
          have bp1 := O1.p.base_le
          have bn1 := O1.n.base_le
          have fp1 := O1.p.frozen
          have fn1 := O1.n.frozen
          have cp1 := O1.p.cell 0 (by rw [O1.lp]; omega)
          have cn1 := O1.n.cell 7 (by rw [O1.ln]; omega)
          have fp2 := fp1 0
          have fn2 := fn1 7
          have hcap := O1.capLe
          have hc1 : c1 ≠ 1 := by omega
          have hml := HML.out
          have hbt := hb1.size
          have hne1 : gp1 ≠ wt.heap.size := by omega
          have hne2 : gn1 ≠ wt.heap.size := by omega
          obtain ⟨gpl, gpr⟩ := bp1
          obtain ⟨gnl, gnr⟩ := bn1
          generalize m.p.getD 0 0 = xp at cp1
          generalize m.n.getD 7 0 = xn at cn1
          clear O1 fp1 fn1 hml hcap
          go_wp2_with fail
          refine name_world ?_
          intro wz hz
          have HBI : Hid (BadIn wz (m.l) (some ⟨gp1, 0, none⟩) (some ⟨gn1, 0, none⟩) 193 193 (c1) d1) := Lib.hid (by rw [hz]; exact bad_n ((HO1.out.setN 7 6).alloc _) HOK.out (by omega) (.inr (by rw [HML.out]; omega)) (by omega) (by omega))
          have HKZ : Hid (Lies (wz) (wt.heap.size) 24 [.int .i32 (m.l), .slice (some ⟨gp1, 0, none⟩) (193) (c1), .slice ((some ⟨gn1, 0, none⟩)) (193) (d1)]) := Lib.hid (by rw [hz]; exact Lies.fresh_at (by first | rfl | (simp; done)))
          have HWZ : Hid (Below wr.heap.size wr wz) := Lib.hid (by rw [hz]; refine Below.alloc (Below.setCell hb1 ?_ _) ?_ _; (focus exact gnl); (focus (first | exact hbt | (simp; omega))))
          clear hz cp1 cn1 fp2 fn2 p0 p1 p2
          refine (P_no HBI.out 255 (by omega) (by omega)).mono ?_
          rintro e w5 ⟨rfl, hb5⟩
          have K5 := HKZ.out.past hb5
          obtain ⟨p0, p1, p2, -, -, -⟩ := K5.three
          have lk5 := K5.lt
          go_wp2_with fail
          refine (Update_no (HBI.out.past hb5) 255 2 (by omega) (by omega)).mono ?_
          rintro e w6 ⟨rfl, hb6⟩
          have K6 := K5.past hb6
          clear p0 p1 p2
          obtain ⟨p0, p1, p2, -, -, -⟩ := K6.three
          have lk6 := K6.lt
          go_wp2_with fail
          refine (Run_no (((HBI.out.past hb5).past hb6).past ((Below.refl _ _).alloc (Nat.le_refl _) _)) 255 none 0 0 (by omega) (by omega)).mono ?_
          rintro e w7 ⟨rfl, hb7⟩
          have K7 := (K6.alloc (.cells #[.int .i32 0, .slice none 0 0, .slice none 0 0] 24)).past hb7
          clear p0 p1 p2
          obtain ⟨p0, p1, p2, -, -, -⟩ := K7.three
          have lk7 := K7.lt
          go_wp2_with fail
          refine (Check_no (((((HBI.out.past hb5).past hb6).past ((Below.refl _ _).alloc (Nat.le_refl _) _)).past hb7).past ((Below.refl _ _).alloc (Nat.le_refl _) _))).mono ?_
          rintro e w8 ⟨rfl, hb8⟩
          have HWR : Hid (Below wr.heap.size wr w8) := Lib.hid (by have := HWZ.out; (repeat' (first | (with_reducible exact Below.refl _ _) | (with_reducible assumption) | (with_reducible refine below_drewN ?_ _) | (with_reducible refine below_new ?_ _) | (with_reducible refine Below.alloc ?_ ?_ _) | (with_reducible refine Below.drew ?_) | (with_reducible refine Below.setCell ?_ ?_ _) | (with_reducible apply below_at; (case k => (with_reducible assumption)); (case hB => omega)) | (with_reducible apply below_on; (with_reducible assumption)) | (go_size; done) | (with_reducible apply size_of))))
          go_wp2_with fail
          go_roundw
          case rel => exact ⟨4 + 1, by omega, by omega, by first | rfl | go_num, HK.out.past HWR.out, HO.out.past HWR.out, by have := HW.out; have := HWR.out; (repeat' (first | (with_reducible exact Below.refl _ _) | (with_reducible assumption) | (with_reducible refine below_drewN ?_ _) | (with_reducible refine below_new ?_ _) | (with_reducible refine Below.alloc ?_ ?_ _) | (with_reducible refine Below.drew ?_) | (with_reducible refine Below.setCell ?_ ?_ _) | (with_reducible apply below_at; (case k => (with_reducible assumption)); (case hB => omega)) | (with_reducible apply below_on; (with_reducible assumption)) | (go_size; done) | (with_reducible apply size_of)))⟩
          case measure => simp [intOf]
      · as_aux_lemma =>
          go_wp2_with fail
          refine (Twin_own m _ _ 193 193 _ (HO.out.inOk HOK.out)).mono ?_
          rintro e wt ⟨gp1, gn1, c1, d1, rfl, O1, hb1⟩
          have HO1 := Lib.hid O1
          have bp1 := O1.p.base_le
          have bn1 := O1.n.base_le
          have fp1 := O1.p.frozen
          have fn1 := O1.n.frozen
          have cp1 := O1.p.cell 0 (by rw [O1.lp]; omega)
          have cn1 := O1.n.cell 7 (by rw [O1.ln]; omega)
          have fp2 := fp1 0
          have fn2 := fn1 7
          have hcap := O1.capLe
          have hc1 : c1 ≠ 1 := by omega
          have hml := HML.out
          have hbt := hb1.size
          have hne1 : gp1 ≠ wt.heap.size := by omega
          have hne2 : gn1 ≠ wt.heap.size := by omega
          obtain ⟨gpl, gpr⟩ := bp1
          obtain ⟨gnl, gnr⟩ := bn1
          generalize m.p.getD 0 0 = xp at cp1
          generalize m.n.getD 7 0 = xn at cn1
          clear O1 fp1 fn1 hml hcap
          go_wp2_with fail
          refine name_world ?_
          intro wz hz
          have HBI : Hid (BadIn wz (m.l) (some ⟨gp1, 0, none⟩) (some ⟨gn1, 0, none⟩) 193 193 (c1) d1) := Lib.hid (by rw [hz]; exact bad_n ((HO1.out.setN 7 (-1)).alloc _) HOK.out (by omega) (.inl (by omega)) (by omega) (by omega))
          have HKZ : Hid (Lies (wz) (wt.heap.size) 24 [.int .i32 (m.l), .slice (some ⟨gp1, 0, none⟩) (193) (c1), .slice ((some ⟨gn1, 0, none⟩)) (193) (d1)]) := Lib.hid (by rw [hz]; exact Lies.fresh_at (by first | rfl | (simp; done)))
          have HWZ : Hid (Below wr.heap.size wr wz) := Lib.hid (by rw [hz]; refine Below.alloc (Below.setCell hb1 ?_ _) ?_ _; (focus exact gnl); (focus (first | exact hbt | (simp; omega))))
          clear hz cp1 cn1 fp2 fn2 p0 p1 p2
          refine (P_no HBI.out 255 (by omega) (by omega)).mono ?_
          rintro e w5 ⟨rfl, hb5⟩
          have K5 := HKZ.out.past hb5
          obtain ⟨p0, p1, p2, -, -, -⟩ := K5.three
          have lk5 := K5.lt
          go_wp2_with fail
          refine (Update_no (HBI.out.past hb5) 255 2 (by omega) (by omega)).mono ?_
          rintro e w6 ⟨rfl, hb6⟩
          have K6 := K5.past hb6
          clear p0 p1 p2
          obtain ⟨p0, p1, p2, -, -, -⟩ := K6.three
          have lk6 := K6.lt
          go_wp2_with fail
          refine (Run_no (((HBI.out.past hb5).past hb6).past ((Below.refl _ _).alloc (Nat.le_refl _) _)) 255 none 0 0 (by omega) (by omega)).mono ?_
          rintro e w7 ⟨rfl, hb7⟩
          have K7 := (K6.alloc (.cells #[.int .i32 0, .slice none 0 0, .slice none 0 0] 24)).past hb7
          clear p0 p1 p2
          obtain ⟨p0, p1, p2, -, -, -⟩ := K7.three
          have lk7 := K7.lt
          go_wp2_with fail
          refine (Check_no (((((HBI.out.past hb5).past hb6).past ((Below.refl _ _).alloc (Nat.le_refl _) _)).past hb7).past ((Below.refl _ _).alloc (Nat.le_refl _) _))).mono ?_
          rintro e w8 ⟨rfl, hb8⟩
          have HWR : Hid (Below wr.heap.size wr w8) := Lib.hid (by have := HWZ.out; (repeat' (first | (with_reducible exact Below.refl _ _) | (with_reducible assumption) | (with_reducible refine below_drewN ?_ _) | (with_reducible refine below_new ?_ _) | (with_reducible refine Below.alloc ?_ ?_ _) | (with_reducible refine Below.drew ?_) | (with_reducible refine Below.setCell ?_ ?_ _) | (with_reducible apply below_at; (case k => (with_reducible assumption)); (case hB => omega)) | (with_reducible apply below_on; (with_reducible assumption)) | (go_size; done) | (with_reducible apply size_of))))
          go_wp2_with fail
          go_roundw
          case rel => exact ⟨5 + 1, by omega, by omega, by first | rfl | go_num, HK.out.past HWR.out, HO.out.past HWR.out, by have := HW.out; have := HWR.out; (repeat' (first | (with_reducible exact Below.refl _ _) | (with_reducible assumption) | (with_reducible refine below_drewN ?_ _) | (with_reducible refine below_new ?_ _) | (with_reducible refine Below.alloc ?_ ?_ _) | (with_reducible refine Below.drew ?_) | (with_reducible refine Below.setCell ?_ ?_ _) | (with_reducible apply below_at; (case k => (with_reducible assumption)); (case hB => omega)) | (with_reducible apply below_on; (with_reducible assumption)) | (go_size; done) | (with_reducible apply size_of)))⟩
          case measure => simp [intOf]
      · as_aux_lemma =>
          go_wp2_with fail
          refine (Twin_own m _ _ 193 193 _ (HO.out.inOk HOK.out)).mono ?_
          rintro e wt ⟨gp1, gn1, c1, d1, rfl, O1, hb1⟩
          have HO1 := Lib.hid O1
          have bp1 := O1.p.base_le
          have bn1 := O1.n.base_le
          have fp1 := O1.p.frozen
          have fn1 := O1.n.frozen
          have cp1 := O1.p.cell 0 (by rw [O1.lp]; omega)
          have cn1 := O1.n.cell 7 (by rw [O1.ln]; omega)
          have fp2 := fp1 0
          have fn2 := fn1 7
          have hcap := O1.capLe
          have hc1 : c1 ≠ 1 := by omega
          have hml := HML.out
          have hbt := hb1.size
          have hne1 : gp1 ≠ wt.heap.size := by omega
          have hne2 : gn1 ≠ wt.heap.size := by omega
          obtain ⟨gpl, gpr⟩ := bp1
          obtain ⟨gnl, gnr⟩ := bn1
          generalize m.p.getD 0 0 = xp at cp1
          generalize m.n.getD 7 0 = xn at cn1
          clear O1 fp1 fn1 hml hcap
          go_wp2_with fail
          refine name_world ?_
          intro wz hz
          have HBI : Hid (BadIn wz (m.l) (some ⟨gp1, 1, none⟩) (some ⟨gn1, 0, none⟩) 192 193 (c1 - 1) d1) := Lib.hid (by rw [hz]; exact bad_cut (HO1.out.alloc _) HOK.out)
          have HKZ : Hid (Lies (wz) (wt.heap.size) 24 [.int .i32 (m.l), .slice (some ⟨gp1, 1, none⟩) (192) (c1 - 1), .slice ((some ⟨gn1, 0, none⟩)) (193) (d1)]) := Lib.hid (by rw [hz]; exact Lies.fresh _ _ _)
          have HWZ : Hid (Below wr.heap.size wr wz) := Lib.hid (by rw [hz]; exact hb1.alloc hbt _)
          clear hz cp1 cn1 fp2 fn2 p0 p1 p2
          refine (P_no HBI.out 255 (by omega) (by omega)).mono ?_
          rintro e w5 ⟨rfl, hb5⟩
          have K5 := HKZ.out.past hb5
          obtain ⟨p0, p1, p2, -, -, -⟩ := K5.three
          have lk5 := K5.lt
          go_wp2_with fail
          refine (Update_no (HBI.out.past hb5) 255 2 (by omega) (by omega)).mono ?_
          rintro e w6 ⟨rfl, hb6⟩
          have K6 := K5.past hb6
          clear p0 p1 p2
          obtain ⟨p0, p1, p2, -, -, -⟩ := K6.three
          have lk6 := K6.lt
          go_wp2_with fail
          refine (Run_no (((HBI.out.past hb5).past hb6).past ((Below.refl _ _).alloc (Nat.le_refl _) _)) 255 none 0 0 (by omega) (by omega)).mono ?_
          rintro e w7 ⟨rfl, hb7⟩
          have K7 := (K6.alloc (.cells #[.int .i32 0, .slice none 0 0, .slice none 0 0] 24)).past hb7
          clear p0 p1 p2
          obtain ⟨p0, p1, p2, -, -, -⟩ := K7.three
          have lk7 := K7.lt
          go_wp2_with fail
          refine (Check_no (((((HBI.out.past hb5).past hb6).past ((Below.refl _ _).alloc (Nat.le_refl _) _)).past hb7).past ((Below.refl _ _).alloc (Nat.le_refl _) _))).mono ?_
          rintro e w8 ⟨rfl, hb8⟩
          have HWR : Hid (Below wr.heap.size wr w8) := Lib.hid (by have := HWZ.out; (repeat' (first | (with_reducible exact Below.refl _ _) | (with_reducible assumption) | (with_reducible refine below_drewN ?_ _) | (with_reducible refine below_new ?_ _) | (with_reducible refine Below.alloc ?_ ?_ _) | (with_reducible refine Below.drew ?_) | (with_reducible refine Below.setCell ?_ ?_ _) | (with_reducible apply below_at; (case k => (with_reducible assumption)); (case hB => omega)) | (with_reducible apply below_on; (with_reducible assumption)) | (go_size; done) | (with_reducible apply size_of))))
          go_wp2_with fail
          go_roundw
          case rel => exact ⟨6 + 1, by omega, by omega, by first | rfl | go_num, HK.out.past HWR.out, HO.out.past HWR.out, by have := HW.out; have := HWR.out; (repeat' (first | (with_reducible exact Below.refl _ _) | (with_reducible assumption) | (with_reducible refine below_drewN ?_ _) | (with_reducible refine below_new ?_ _) | (with_reducible refine Below.alloc ?_ ?_ _) | (with_reducible refine Below.drew ?_) | (with_reducible refine Below.setCell ?_ ?_ _) | (with_reducible apply below_at; (case k => (with_reducible assumption)); (case hB => omega)) | (with_reducible apply below_on; (with_reducible assumption)) | (go_size; done) | (with_reducible apply size_of)))⟩
          case measure => simp [intOf]
    · as_aux_lemma =>
        have HAT : Hid (atE m 193 = 2) := Lib.hid (by unfold atE; rw [HOK.out]; rfl)
        have HAZ : Hid (atE m 0 = 0) := Lib.hid ((atE_zero m 0).2 ⟨HOK.out, by omega⟩)
        have HEQ : Hid (adEq m m = true) := Lib.hid ((adEq_iff _ _).2 rfl)
        have hm1 := m20001
        have HB02 : Hid (bitsB [0, 2] = false) := Lib.hid rfl
        go_wp2_with fail
        refine (P_any m (some ⟨gp, 0, none⟩) (some ⟨gn, 0, none⟩) 193 193 193 193 193 _ (HO.out.inOk HOK.out) (by omega) (by omega)).mono ?_
        rintro e w5 ⟨rfl, hb5⟩
        rw [HAT.out]
        have HX5 : Hid (Below wr.heap.size wr w5) := Lib.hid (by (repeat' (first | (with_reducible exact Below.refl _ _) | (with_reducible assumption) | (with_reducible refine below_drewN ?_ _) | (with_reducible refine below_new ?_ _) | (with_reducible refine Below.alloc ?_ ?_ _) | (with_reducible refine Below.drew ?_) | (with_reducible refine Below.setCell ?_ ?_ _) | (with_reducible apply below_at; (case k => (with_reducible assumption)); (case hB => omega)) | (with_reducible apply below_on; (with_reducible assumption)) | (go_size; done) | (with_reducible apply size_of))))
        clear p0 p1 p2
        obtain ⟨p0, p1, p2, -, -, -⟩ := (HK.out.past HX5.out).three
        have lk5 := (HK.out.past HX5.out).lt
        clear hb5
        go_wp2_with fail
        refine (Update_bad m (some ⟨gp, 0, none⟩) (some ⟨gn, 0, none⟩) 193 193 193 193 193 0 _ ((HO.out.past HX5.out).inOk HOK.out) (by omega) (by omega) (by rw [HAT.out]; decide)).mono ?_
        rintro e w6 ⟨rfl, hb6⟩
        rw [HAT.out]
        have HX6 : Hid (Below wr.heap.size wr w6) := Lib.hid (by have := HX5.out; (repeat' (first | (with_reducible exact Below.refl _ _) | (with_reducible assumption) | (with_reducible refine below_drewN ?_ _) | (with_reducible refine below_new ?_ _) | (with_reducible refine Below.alloc ?_ ?_ _) | (with_reducible refine Below.drew ?_) | (with_reducible refine Below.setCell ?_ ?_ _) | (with_reducible apply below_at; (case k => (with_reducible assumption)); (case hB => omega)) | (with_reducible apply below_on; (with_reducible assumption)) | (go_size; done) | (with_reducible apply size_of))))
        clear p0 p1 p2
        obtain ⟨p0, p1, p2, -, -, -⟩ := (HK.out.past HX6.out).three
        have lk6 := (HK.out.past HX6.out).lt
        clear hb6
        go_wp2_with fail
        refine (Update_bit m (some ⟨gp, 0, none⟩) (some ⟨gn, 0, none⟩) 193 193 193 193 0 2 _ (((HO.out.past HX6.out).alloc _).inOk HOK.out) (by omega) (by omega) HAZ.out (by omega)).mono ?_
        rintro e w7 ⟨rfl, hb7⟩
        have HX7 : Hid (Below wr.heap.size wr w7) := Lib.hid (by have := HX6.out; (repeat' (first | (with_reducible exact Below.refl _ _) | (with_reducible assumption) | (with_reducible refine below_drewN ?_ _) | (with_reducible refine below_new ?_ _) | (with_reducible refine Below.alloc ?_ ?_ _) | (with_reducible refine Below.drew ?_) | (with_reducible refine Below.setCell ?_ ?_ _) | (with_reducible apply below_at; (case k => (with_reducible assumption)); (case hB => omega)) | (with_reducible apply below_on; (with_reducible assumption)) | (go_size; done) | (with_reducible apply size_of))))
        clear p0 p1 p2
        obtain ⟨p0, p1, p2, -, -, -⟩ := (HK.out.past HX7.out).three
        have lk7 := (HK.out.past HX7.out).lt
        clear hb7
        have lk7b : w4.heap.size < w7.heap.size + 1 := by omega
        have lk7c : w4.heap.size < w7.heap.size + 1 + 1 := by omega
        have lk7d : w4.heap.size ≠ w7.heap.size := by omega
        have lk7e : w4.heap.size ≠ w7.heap.size + 1 := by omega
        have lk7f : w4.heap.size ≠ w7.heap.size + 1 + 1 := by omega
        go_upto_region 34 with fail
        go_cut [26] (fun s26 wx => s26 = .int .i64 2 ∧ Below wr.heap.size wr wx)
        case first => as_aux_lemma =>
          go_region_law (first | (go_simp; go_at_call 13; refine (Run_bad m (some ⟨gp, 0, none⟩) (some ⟨gn, 0, none⟩) 193 193 193 193 193 _ _ _ _ ((HO.out.past (by have := HX7.out; (repeat' (first | (with_reducible exact Below.refl _ _) | (with_reducible assumption) | (with_reducible refine below_drewN ?_ _) | (with_reducible refine below_new ?_ _) | (with_reducible refine Below.alloc ?_ ?_ _) | (with_reducible refine Below.drew ?_) | (with_reducible refine Below.setCell ?_ ?_ _) | (with_reducible apply below_at; (case k => (with_reducible assumption)); (case hB => omega)) | (with_reducible apply below_on; (with_reducible assumption)) | (go_size; done) | (with_reducible apply size_of))))).inOk HOK.out) (by omega) (by omega) (by rw [HAT.out]; decide)).mono ?_; rintro e w8 ⟨rfl, hb8⟩; rw [HAT.out]; (first | (refine lay (P := Lies (w8) (w7.heap.size + 1 + 1) 24 [.int .i32 0, .slice none 0 0, .slice none 0 0]) ?_ ?_; (focus (refine Lies.past ?_ hb8; refine Lies.drew ?_; refine Lies.fresh_at ?_; simp; done)); intro L8; obtain ⟨b0, b1, b2, g0, g1', g2⟩ := L8.three; have l8 := L8.lt) | (refine lay (P := Lies (w8) (w7.heap.size + 1) 24 [.int .i32 0, .slice none 0 0, .slice none 0 0]) ?_ ?_; (focus (refine Lies.past ?_ hb8; refine Lies.drew ?_; refine Lies.alloc ?_ _; refine Lies.fresh_at ?_; simp; done)); intro L9; obtain ⟨b0, b1, b2, g0, g1', g2⟩ := L9.three; have l9 := L9.lt) | skip)))
          all_goals
            go_wp2_with fail
            go_meet
            have z7 := HX7.out.size
            exact ⟨rfl, by have := HX7.out; (repeat' (first | (with_reducible exact Below.refl _ _) | (with_reducible assumption) | (with_reducible refine below_drewN ?_ _) | (with_reducible refine below_new ?_ _) | (with_reducible refine Below.alloc ?_ ?_ _) | (with_reducible refine Below.drew ?_) | (with_reducible refine Below.setCell ?_ ?_ _) | (with_reducible apply below_at; (case k => (with_reducible assumption)); (case hB => omega)) | (with_reducible apply below_on; (with_reducible assumption)) | (go_size; done) | (with_reducible apply size_of)))⟩
        case rest =>
          obtain ⟨rfl, W⟩ := hcut
          have HXa := Lib.hid W
          clear W p0 p1 p2 lk7b lk7c lk7d lk7e lk7f hm1
          obtain ⟨p0, p1, p2, -, -, -⟩ := (HK.out.past HXa.out).three
          have lka := (HK.out.past HXa.out).lt
          have lkb : w4.heap.size < wc.heap.size + 1 := by omega
          have lkd : w4.heap.size ≠ wc.heap.size := by omega
          have lke : w4.heap.size ≠ wc.heap.size + 1 := by omega
          have hm1 := m20001
          go_upto_region 35 with fail
          go_cut [29] (fun s29 wx => s29 = .int .i64 4 ∧ Below wr.heap.size wr wx)
          case first => as_aux_lemma =>
            go_region_law (first | (go_simp; go_at_call 13; refine (Run_many m (some ⟨gp, 0, none⟩) (some ⟨gn, 0, none⟩) 193 193 193 193 0 _ _ _ _ ((HO.out.past (by have := HXa.out; (repeat' (first | (with_reducible exact Below.refl _ _) | (with_reducible assumption) | (with_reducible refine below_drewN ?_ _) | (with_reducible refine below_new ?_ _) | (with_reducible refine Below.alloc ?_ ?_ _) | (with_reducible refine Below.drew ?_) | (with_reducible refine Below.setCell ?_ ?_ _) | (with_reducible apply below_at; (case k => (with_reducible assumption)); (case hB => omega)) | (with_reducible apply below_on; (with_reducible assumption)) | (go_size; done) | (with_reducible apply size_of))))).inOk HOK.out) (by omega) (by omega) HAZ.out (by omega) (by omega)).mono ?_; rintro e w8 ⟨rfl, hb8⟩; (first | (refine lay (P := Lies (w8) (wc.heap.size + 1) 24 [.int .i32 0, .slice none 0 0, .slice none 0 0]) ?_ ?_; (focus (refine Lies.past ?_ hb8; refine Lies.drew ?_; refine Lies.fresh_at ?_; simp; done)); intro L8; obtain ⟨b0, b1, b2, g0, g1', g2⟩ := L8.three; have l8 := L8.lt) | (refine lay (P := Lies (w8) (wc.heap.size) 24 [.int .i32 0, .slice none 0 0, .slice none 0 0]) ?_ ?_; (focus (refine Lies.past ?_ hb8; refine Lies.drew ?_; refine Lies.alloc ?_ _; exact Lies.fresh _ _ _)); intro L9; obtain ⟨b0, b1, b2, g0, g1', g2⟩ := L9.three; have l9 := L9.lt) | skip)))
            all_goals
              go_wp2_with fail
              go_meet
              have z7 := HXa.out.size
              exact ⟨rfl, by have := HXa.out; (repeat' (first | (with_reducible exact Below.refl _ _) | (with_reducible assumption) | (with_reducible refine below_drewN ?_ _) | (with_reducible refine below_new ?_ _) | (with_reducible refine Below.alloc ?_ ?_ _) | (with_reducible refine Below.drew ?_) | (with_reducible refine Below.setCell ?_ ?_ _) | (with_reducible apply below_at; (case k => (with_reducible assumption)); (case hB => omega)) | (with_reducible apply below_on; (with_reducible assumption)) | (go_size; done) | (with_reducible apply size_of)))⟩
          case rest =>
            as_aux_lemma =>
              obtain ⟨rfl, W⟩ := hcut
              have HXb := Lib.hid W
              clear W p0 p1 p2 lkb lkd lke lka hm1
              obtain ⟨p0, p1, p2, -, -, -⟩ := (HK.out.past HXb.out).three
              have lkb := (HK.out.past HXb.out).lt
              go_wp2_with fail
              refine (Run_ok m (some ⟨gp, 0, none⟩) (some ⟨gn, 0, none⟩) 193 193 0 _ _ _ [0, 2] _ ((HO.out.past (by have := HXb.out; (repeat' (first | (with_reducible exact Below.refl _ _) | (with_reducible assumption) | (with_reducible refine below_drewN ?_ _) | (with_reducible refine below_new ?_ _) | (with_reducible refine Below.alloc ?_ ?_ _) | (with_reducible refine Below.drew ?_) | (with_reducible refine Below.setCell ?_ ?_ _) | (with_reducible apply below_at; (case k => (with_reducible assumption)); (case hB => omega)) | (with_reducible apply below_on; (with_reducible assumption)) | (go_size; done) | (with_reducible apply size_of))))).inOk HOK.out) (by omega) (by omega) (by omega) (by omega) HOK.out (has_lit (zs := [0, 2]) rfl (by decide)) rfl (by simp) (by intro z hz; simp at hz; omega)).mono ?_
              rintro e w9 (⟨hb, _⟩ | ⟨_, rfl, hb9⟩)
              · rw [HB02.out] at hb; cases hb
              have HX9 : Hid (Below wr.heap.size wr w9) := Lib.hid (by have := HXb.out; (repeat' (first | (with_reducible exact Below.refl _ _) | (with_reducible assumption) | (with_reducible refine below_drewN ?_ _) | (with_reducible refine below_new ?_ _) | (with_reducible refine Below.alloc ?_ ?_ _) | (with_reducible refine Below.drew ?_) | (with_reducible refine Below.setCell ?_ ?_ _) | (with_reducible apply below_at; (case k => (with_reducible assumption)); (case hB => omega)) | (with_reducible apply below_on; (with_reducible assumption)) | (go_size; done) | (with_reducible apply size_of))))
              clear p0 p1 p2 hb9
              obtain ⟨p0, p1, p2, -, -, -⟩ := (HK.out.past HX9.out).three
              have lk9 := (HK.out.past HX9.out).lt
              go_wp2_with fail
              refine (Run_ok m (some ⟨gp, 0, none⟩) (some ⟨gn, 0, none⟩) 193 193 9 none 0 0 [] _ ((HO.out.past (by have := HX9.out; (repeat' (first | (with_reducible exact Below.refl _ _) | (with_reducible assumption) | (with_reducible refine below_drewN ?_ _) | (with_reducible refine below_new ?_ _) | (with_reducible refine Below.alloc ?_ ?_ _) | (with_reducible refine Below.drew ?_) | (with_reducible refine Below.setCell ?_ ?_ _) | (with_reducible apply below_at; (case k => (with_reducible assumption)); (case hB => omega)) | (with_reducible apply below_on; (with_reducible assumption)) | (go_size; done) | (with_reducible apply size_of))))).inOk HOK.out) (by omega) (by omega) (by omega) (by omega) HOK.out (.inl rfl) rfl (by omega) (by simp)).mono ?_
              rintro e w10 (⟨_, gp9, gn9, c9, d9, rfl, O9, hb10⟩ | ⟨hb, _⟩)
              · have HO9 := Lib.hid O9
                have HX10 : Hid (Below wr.heap.size wr w10) := Lib.hid (by have := HX9.out; (repeat' (first | (with_reducible exact Below.refl _ _) | (with_reducible assumption) | (with_reducible refine below_drewN ?_ _) | (with_reducible refine below_new ?_ _) | (with_reducible refine Below.alloc ?_ ?_ _) | (with_reducible refine Below.drew ?_) | (with_reducible refine Below.setCell ?_ ?_ _) | (with_reducible apply below_at; (case k => (with_reducible assumption)); (case hB => omega)) | (with_reducible apply below_on; (with_reducible assumption)) | (go_size; done) | (with_reducible apply size_of))))
                clear p0 p1 p2 hb10 O9
                obtain ⟨p0, p1, p2, -, -, -⟩ := (HK.out.past HX10.out).three
                have lk10 := (HK.out.past HX10.out).lt
                go_wp2_with fail
                refine (Same_any m m _ _ _ _ 193 193 193 193 c9 d9 193 193 _ ((HO9.out.alloc _).inOk HOK.out) (((HO.out.past HX10.out).alloc _).inOk HOK.out)).mono ?_
                rintro e w11 ⟨rfl, hb11⟩
                rw [HEQ.out]
                go_wp2_with (first | (go_at_call 16; refine (alive _).mono ?_; rintro e w12 ⟨rfl, hb12⟩))
                go_ret
                exact ⟨rfl, by have h1 := HW.out; have h2 := HX10.out; have h3 : Below w.heap.size w w10 := h1.trans (h2.mono h1.size); (repeat' (first | (with_reducible exact Below.refl _ _) | (with_reducible assumption) | (with_reducible refine below_drewN ?_ _) | (with_reducible refine below_new ?_ _) | (with_reducible refine Below.alloc ?_ ?_ _) | (with_reducible refine Below.drew ?_) | (with_reducible refine Below.setCell ?_ ?_ _) | (with_reducible apply below_at; (case k => (with_reducible assumption)); (case hB => omega)) | (with_reducible apply below_on; (with_reducible assumption)) | (go_size; done) | (with_reducible apply size_of)))⟩
              · cases hb
end Go.Proofs.Ytipbafcjmeibpaa.adL
