/- RingAgo, by a walk. -/
import Derived.Test.YtolpmllpnjnogaaRgL4
namespace Go.Proofs.Ytolpmllpnjnogaa.rgL
open Go.RowKit Go.Proofs.Ytolpmllpnjnogaa.base Go.Proofs.Ytolpmllpnjnogaa.rgP Go.Proofs.Ytolpmllpnjnogaa.rgW
set_option linter.unusedVariables false
set_option linter.unusedSimpArgs false

theorem put_new {l : Int} (hl : lvB l = true) (bs : List Int) (hm : bs.length ≤ 700) : newE l = 0 ∧ putE (newR l) bs = 0 ∧ rgOk (putR (newR l) bs) = true ∧ (putR (newR l) bs).n = bs.length ∧ (putR (newR l) bs).b.length = szOf l := by
  have h := newR_ok hl
  have en : (newR l).n = 0 := by unfold newR; rw [if_pos hl]
  have eb : (newR l).b.length = szOf l := by unfold newR; rw [if_pos hl]; simp
  have e1 : putE (newR l) bs = 0 := by rw [putE, if_pos h, if_neg (by omega), en, if_neg (by omega)]
  exact ⟨by unfold newE; rw [if_pos hl], e1, putR_ok bs h (by rw [en]; omega), by rw [putR_n, en]; omega, by rw [putR_len, eb]⟩
theorem ago_put {l : Int} (hl : lvB l = true) (bs : List Int) (k : Nat) (h1 : 1 ≤ k) (h2 : k ≤ szOf l) (h3 : k ≤ bs.length) : ago (putR (newR l) bs) k = bs.getD (bs.length - k) 0 := by
  have en : (newR l).n = 0 := by unfold newR; rw [if_pos hl]
  have eb : (newR l).b.length = szOf l := by unfold newR; rw [if_pos hl]; simp
  have hs := sz_bd hl
  have e := putR_get bs (newR l) (bs.length - k) (by rw [en]; omega) (by rw [eb]; omega) (by omega) (by rw [eb]; omega)
  rw [ago, putR_n, putR_len, en, if_neg (by omega), ← e, en]
  congr 1
  congr 1
  omega
theorem lastL_put {l : Int} (hl : lvB l = true) (bs : List Int) (k : Nat) (h2 : k ≤ szOf l) (h3 : k ≤ bs.length) : lastL (putR (newR l) bs) k = bs.drop (bs.length - k) := by
  apply List.ext_getElem
  · rw [lastL_len]; simp; omega
  · intro i i1 i2
    rw [lastL_len] at i1
    have h := lastL_at (putR (newR l) bs) k i i1
    rw [show (k : Int) - (i : Int) = ((k - i : Nat) : Int) by omega, ago_put hl bs (k - i) (by omega) (by omega) (by omega)] at h
    have e : (lastL (putR (newR l) bs) k).getD i 0 = (lastL (putR (newR l) bs) k)[i]'(by rw [lastL_len]; exact i1) := by rw [List.getD_eq_getElem?_getD, List.getElem?_eq_getElem (by rw [lastL_len]; exact i1)]; rfl
    rw [← e, ← h, List.getElem_drop, List.getD_eq_getElem?_getD, List.getElem?_eq_getElem (by omega)]
    simp only [Option.getD_some]
    congr 1
    omega
theorem has_tail {k : IntKind} {w : World} {b off : Nat} {zs : List Int} (h : ∀ i, i < zs.length → w.cell? ⟨b, off + i, none⟩ = some (.int k (zs.getD i 0))) (j : Nat) (hb : b < w.heap.size) : Has k w (some ⟨b, off + j, none⟩) (zs.drop j) := by
  refine .inr ⟨b, off + j, rfl, hb, fun i hi => ?_⟩
  have hi' : j + i < zs.length := by have : i < zs.length - j := by simpa using hi
                                     omega
  have e : (zs.drop j).getD i 0 = zs.getD (j + i) 0 := by simp only [List.getD_eq_getElem?_getD, List.getElem?_drop]
  rw [e, Nat.add_assoc]
  exact h _ hi'
set_option maxHeartbeats 8000000 in
theorem ago_law (l : Int) (A : Option Addr) (m d : Nat) (z : List Int) (k : Int) (w : World) (l1 : -9223372036854775808 ≤ l) (l2 : l ≤ 9223372036854775807) (hrow : IsRow .u8 w A m d z) (k1 : -9223372036854775808 ≤ k) (k2 : k ≤ 9223372036854775807) :
    Calls Try.prog 6 #[.int .i64 l, .slice A m d, .int .i64 k] w fun e w' => e = .returned (.bool true) ∧ Below w.heap.size w w' := by
  obtain ⟨hA, hL, hmm, hbb⟩ := has_of_row hrow
  have hmd := row_caps hrow
  unfold maxLen at hmm hmd
  obtain ⟨bs, hbs⟩ : ∃ bs, z.take m = bs := ⟨_, rfl⟩
  rw [hbs] at hA hL hbb
  have HBB : Hid (∀ y ∈ bs, 0 ≤ y ∧ y ≤ 255) := Lib.hid (fun y hy => bounds_u8 (hbb y hy))
  have HA := Lib.hid hA
  have HL := Lib.hid hL
  clear hrow hbs hbb hA hL
  cases hl : lvB l
  · have HLV := Lib.hid hl
    clear hl hmd
    go_enter Try.func6, Try.ntmps6
    go_wp2_with (first | (go_at_call 27; refine (rLevel_any l _).mono ?_; rintro e w1 ⟨rfl, rfl⟩; rw [HLV.out]) | (go_at_call 16; refine (alive _).mono ?_; rintro e wz ⟨rfl, hbz⟩))
    go_ret
    exact ⟨rfl, by (repeat' (first | (with_reducible exact Below.refl _ _) | (with_reducible assumption) | (with_reducible refine below_drewN ?_ _) | (with_reducible refine below_new ?_ _) | (with_reducible refine Below.alloc ?_ ?_ _) | (with_reducible refine Below.drew ?_) | (with_reducible refine Below.setCell ?_ ?_ _) | (with_reducible apply below_at; (case k => (with_reducible assumption)); (case hB => omega)) | (with_reducible apply below_on; (with_reducible assumption)) | (go_size; done) | (with_reducible apply size_of)))⟩
  · have HLV := Lib.hid hl
    obtain ⟨s, hs⟩ : ∃ s, szOf l = s := ⟨_, rfl⟩
    have HS := Lib.hid hs
    have hsb := sz_bd hl
    rw [hs] at hsb
    by_cases c1 : (700 : Int) < m
    · clear hl hs hsb hmd
      go_enter Try.func6, Try.ntmps6
      go_wp2_with (first | (go_at_call 27; refine (rLevel_any l _).mono ?_; rintro e w1 ⟨rfl, rfl⟩; rw [HLV.out]) | (go_at_call 16; refine (alive _).mono ?_; rintro e wz ⟨rfl, hbz⟩))
      go_ret
      exact ⟨rfl, by (repeat' (first | (with_reducible exact Below.refl _ _) | (with_reducible assumption) | (with_reducible refine below_drewN ?_ _) | (with_reducible refine below_new ?_ _) | (with_reducible refine Below.alloc ?_ ?_ _) | (with_reducible refine Below.drew ?_) | (with_reducible refine Below.setCell ?_ ?_ _) | (with_reducible apply below_at; (case k => (with_reducible assumption)); (case hB => omega)) | (with_reducible apply below_on; (with_reducible assumption)) | (go_size; done) | (with_reducible apply size_of)))⟩
    by_cases c2 : k < 1
    · clear hl hs hsb hmd
      go_enter Try.func6, Try.ntmps6
      go_wp2_with (first | (go_at_call 27; refine (rLevel_any l _).mono ?_; rintro e w1 ⟨rfl, rfl⟩; rw [HLV.out]) | (go_at_call 16; refine (alive _).mono ?_; rintro e wz ⟨rfl, hbz⟩))
      go_ret
      exact ⟨rfl, by (repeat' (first | (with_reducible exact Below.refl _ _) | (with_reducible assumption) | (with_reducible refine below_drewN ?_ _) | (with_reducible refine below_new ?_ _) | (with_reducible refine Below.alloc ?_ ?_ _) | (with_reducible refine Below.drew ?_) | (with_reducible refine Below.setCell ?_ ?_ _) | (with_reducible apply below_at; (case k => (with_reducible assumption)); (case hB => omega)) | (with_reducible apply below_on; (with_reducible assumption)) | (go_size; done) | (with_reducible apply size_of)))⟩
    by_cases c3 : (s : Int) < k
    · clear hl hs hsb hmd
      go_enter Try.func6, Try.ntmps6
      go_wp2_with (first | (go_at_call 27; refine (rLevel_any l _).mono ?_; rintro e w1 ⟨rfl, rfl⟩; rw [HLV.out]) | (go_at_call 28; refine (rSize_ok l _ HLV.out).mono ?_; rintro e w2 ⟨rfl, rfl⟩; rw [HS.out]) | (go_at_call 16; refine (alive _).mono ?_; rintro e wz ⟨rfl, hbz⟩))
      go_ret
      exact ⟨rfl, by (repeat' (first | (with_reducible exact Below.refl _ _) | (with_reducible assumption) | (with_reducible refine below_drewN ?_ _) | (with_reducible refine below_new ?_ _) | (with_reducible refine Below.alloc ?_ ?_ _) | (with_reducible refine Below.drew ?_) | (with_reducible refine Below.setCell ?_ ?_ _) | (with_reducible apply below_at; (case k => (with_reducible assumption)); (case hB => omega)) | (with_reducible apply below_on; (with_reducible assumption)) | (go_size; done) | (with_reducible apply size_of)))⟩
    obtain ⟨r0, hr0⟩ : ∃ r, newR l = r := ⟨_, rfl⟩
    obtain ⟨e1, e2, e3, e4, e5⟩ := put_new hl bs (by rw [HL.out]; omega)
    have el : (newR l).l = l := by unfold newR; rw [if_pos hl]
    obtain ⟨rb, hr1⟩ : ∃ rb, putR r0 bs = ⟨l, rb, (m : Int)⟩ := ⟨(putR r0 bs).b, by
      have h1 : (putR r0 bs).l = l := by rw [putR_l, ← hr0, el]
      have h2 : (putR r0 bs).n = m := by rw [← hr0, e4, HL.out]
      rw [← h1, ← h2]⟩
    have HR0 := Lib.hid hr0
    have HR1 : Hid (putV r0 bs = (Rg.mk l rb (m : Int))) := Lib.hid (by unfold putV; rw [← hr0, if_pos e2, hr0, hr1])
    obtain ⟨kk, rfl⟩ : ∃ kk : Nat, k = (kk : Int) := Int.eq_ofNat_of_zero_le (by omega)
    have eb : backE (Rg.mk l rb (m : Int)) kk = 0 := by rw [← hr1, ← hr0, backE, if_pos e3, if_pos ⟨by omega, by rw [e5, hs]; omega⟩]
    have hn1 : ((Rg.mk l rb (m : Int))).n = m := rfl
    by_cases c4 : (m : Int) < kk
    · have HV : Hid (newE l = 0 ∧ putE r0 bs = 0 ∧ backV (Rg.mk l rb (m : Int)) kk = 0 ∧ backE (Rg.mk l rb (m : Int)) kk = 0 ∧ lastE (Rg.mk l rb (m : Int)) kk = 18) := Lib.hid ⟨e1, by rw [← hr0]; exact e2, by rw [backV, if_pos eb, ago, if_pos (by omega)], eb, by rw [lastE, if_pos (by rw [← hr1, ← hr0]; exact e3), if_pos ⟨by omega, by rw [← hr1, ← hr0, e5, hs]; omega⟩, if_pos (by omega)]⟩
      have c5 : (0 : Int) = 0 := rfl
      clear hl hs hsb hmd hr0 hr1 e1 e2 e3 e4 e5 eb el hn1
      go_enter Try.func6, Try.ntmps6
      go_wp2_with (first | (go_at_call 27; refine (rLevel_any l _).mono ?_; rintro e w1 ⟨rfl, rfl⟩; rw [HLV.out]) | (go_at_call 28; refine (rSize_ok l _ HLV.out).mono ?_; rintro e w2 ⟨rfl, rfl⟩; rw [HS.out]) | (go_at_call 16; refine (alive _).mono ?_; rintro e wz ⟨rfl, hbz⟩) | (go_at_call 9; refine (New_any l _).mono ?_; rintro e w3 ⟨A0, n0, c0, rfl, i0, -, hb3⟩; rw [HR0.out] at i0 ⊢; rw [HV.out.1]; have I0 := Lib.hid i0) | (go_at_call 10; refine (Put_any r0 A0 _ n0 c0 m d bs _ (I0.out.below (by (repeat' (first | (with_reducible exact Below.refl _ _) | (with_reducible assumption) | (with_reducible refine below_drewN ?_ _) | (with_reducible refine below_new ?_ _) | (with_reducible refine Below.alloc ?_ ?_ _) | (with_reducible refine Below.drew ?_) | (with_reducible refine Below.setCell ?_ ?_ _) | (with_reducible apply below_at; (case k => (with_reducible assumption)); (case hB => omega)) | (with_reducible apply below_on; (with_reducible assumption)) | (go_size; done) | (with_reducible apply size_of))))) (HA.out.below (by (repeat' (first | (with_reducible exact Below.refl _ _) | (with_reducible assumption) | (with_reducible refine below_drewN ?_ _) | (with_reducible refine below_new ?_ _) | (with_reducible refine Below.alloc ?_ ?_ _) | (with_reducible refine Below.drew ?_) | (with_reducible refine Below.setCell ?_ ?_ _) | (with_reducible apply below_at; (case k => (with_reducible assumption)); (case hB => omega)) | (with_reducible apply below_on; (with_reducible assumption)) | (go_size; done) | (with_reducible apply size_of)))) (Nat.le_refl _)) HL.out (by omega) HBB.out).mono ?_; rintro e w4 ⟨A1, n1, c1, rfl, i1, -, hb4⟩; rw [HR1.out] at i1 ⊢; rw [HV.out.2.1]; have I1 := Lib.hid i1) | (go_at_call 11; refine (Back_any (Rg.mk l rb (m : Int)) A1 n1 c1 kk _ (I1.out.below (by (repeat' (first | (with_reducible exact Below.refl _ _) | (with_reducible assumption) | (with_reducible refine below_drewN ?_ _) | (with_reducible refine below_new ?_ _) | (with_reducible refine Below.alloc ?_ ?_ _) | (with_reducible refine Below.drew ?_) | (with_reducible refine Below.setCell ?_ ?_ _) | (with_reducible apply below_at; (case k => (with_reducible assumption)); (case hB => omega)) | (with_reducible apply below_on; (with_reducible assumption)) | (go_size; done) | (with_reducible apply size_of))))) (by omega) (by omega)).mono ?_; rintro e w5 ⟨rfl, hb5⟩; rw [HV.out.2.2.1, HV.out.2.2.2.1]; have K5 : Lies (w5) (w4.heap.size) 24 [.int .i64 ((Rg.mk l rb (m : Int))).l, .slice (A1) (n1) (c1), .int .i64 ((Rg.mk l rb (m : Int))).n] := (by (repeat' (first | (with_reducible assumption) | (with_reducible exact Lies.fresh _ _ _) | (with_reducible apply Lies.fresh_at; (first | (with_reducible rfl) | (simp; done))) | (with_reducible refine Lies.drew ?_) | (with_reducible refine Lies.drewN ?_ _) | (with_reducible refine Lies.alloc ?_ _) | (with_reducible apply Lies.past; case hb => (with_reducible assumption)) | (with_reducible apply Lies.keeps; (case k => (with_reducible assumption)); (case ht => decide)) | (with_reducible apply Lies.store3) | (with_reducible apply Lies.other; case hp => (first | omega | (simp; done) | (simp; omega)))))); obtain ⟨p0, p1, p2, -, -, -⟩ := K5.three) | (go_at_call 13; refine (Last_bad (Rg.mk l rb (m : Int)) A1 n1 c1 kk _ (I1.out.below (by (repeat' (first | (with_reducible exact Below.refl _ _) | (with_reducible assumption) | (with_reducible refine below_drewN ?_ _) | (with_reducible refine below_new ?_ _) | (with_reducible refine Below.alloc ?_ ?_ _) | (with_reducible refine Below.drew ?_) | (with_reducible refine Below.setCell ?_ ?_ _) | (with_reducible apply below_at; (case k => (with_reducible assumption)); (case hB => omega)) | (with_reducible apply below_on; (with_reducible assumption)) | (go_size; done) | (with_reducible apply size_of))))) (by rw [HV.out.2.2.2.2]; decide)).mono ?_; rintro e w6 ⟨rfl, hb6⟩; rw [HV.out.2.2.2.2]; have K6 : Lies (w6) (w4.heap.size) 24 [.int .i64 ((Rg.mk l rb (m : Int))).l, .slice (A1) (n1) (c1), .int .i64 ((Rg.mk l rb (m : Int))).n] := (by (repeat' (first | (with_reducible assumption) | (with_reducible exact Lies.fresh _ _ _) | (with_reducible apply Lies.fresh_at; (first | (with_reducible rfl) | (simp; done))) | (with_reducible refine Lies.drew ?_) | (with_reducible refine Lies.drewN ?_ _) | (with_reducible refine Lies.alloc ?_ _) | (with_reducible apply Lies.past; case hb => (with_reducible assumption)) | (with_reducible apply Lies.keeps; (case k => (with_reducible assumption)); (case ht => decide)) | (with_reducible apply Lies.store3) | (with_reducible apply Lies.other; case hp => (first | omega | (simp; done) | (simp; omega)))))); obtain ⟨q0, q1, q2, -, -, -⟩ := K6.three))
      go_ret
      exact ⟨rfl, by (repeat' (first | (with_reducible exact Below.refl _ _) | (with_reducible assumption) | (with_reducible refine below_drewN ?_ _) | (with_reducible refine below_new ?_ _) | (with_reducible refine Below.alloc ?_ ?_ _) | (with_reducible refine Below.drew ?_) | (with_reducible refine Below.setCell ?_ ?_ _) | (with_reducible apply below_at; (case k => (with_reducible assumption)); (case hB => omega)) | (with_reducible apply below_on; (with_reducible assumption)) | (go_size; done) | (with_reducible apply size_of)))⟩
    · obtain ⟨j, hj⟩ : ∃ j : Nat, (m : Int) - (kk : Int) = (j : Int) := ⟨m - kk, by omega⟩
      have hkm : kk ≤ m := by omega
      have hj2 : j = bs.length - kk := by rw [HL.out]; omega
      obtain ⟨v, hv⟩ : ∃ v, bs.getD j 0 = v := ⟨_, rfl⟩
      have ha : ago (Rg.mk l rb (m : Int)) kk = v := by rw [← hr1, ← hr0, ← hv, hj2]; exact ago_put hl bs kk (by omega) (by rw [hs]; omega) (by rw [HL.out]; exact hkm)
      have hok : rgOk (Rg.mk l rb (m : Int)) = true := by rw [← hr1, ← hr0]; exact e3
      have hb1 : (Rg.mk l rb (m : Int)).b.length = s := by rw [← hr1, ← hr0, e5, hs]
      have f1 : atE (Rg.mk l rb (m : Int)) j = 0 := by rw [atE, if_pos hok, if_pos (by omega)]
      have f2 : isB (Rg.mk l rb (m : Int)) j = true := by unfold isB; rw [hb1, hn1, decide_eq_true (by omega), decide_eq_true (by omega)]; rfl
      have f3 : lastE (Rg.mk l rb (m : Int)) kk = 0 := by rw [lastE, if_pos hok, if_pos ⟨by omega, by rw [hb1]; omega⟩, if_neg (by omega)]
      have f4 : lastL (Rg.mk l rb (m : Int)) kk = bs.drop j := by rw [← hr1, ← hr0, hj2]; exact lastL_put hl bs kk (by rw [hs]; omega) (by rw [HL.out]; exact hkm)
      have HV : Hid (newE l = 0 ∧ putE r0 bs = 0 ∧ backV (Rg.mk l rb (m : Int)) kk = v ∧ backE (Rg.mk l rb (m : Int)) kk = 0 ∧ lastE (Rg.mk l rb (m : Int)) kk = 0 ∧ lastL (Rg.mk l rb (m : Int)) kk = bs.drop j ∧ atE (Rg.mk l rb (m : Int)) j = 0 ∧ atB (Rg.mk l rb (m : Int)) j = true ∧ atV (Rg.mk l rb (m : Int)) j = v) := Lib.hid ⟨e1, by rw [← hr0]; exact e2, by rw [backV, if_pos eb, ha], eb, f3, f4, f1, by rw [atB, if_pos f1, f2], by rw [atV, if_pos f1, if_pos f2, show (Rg.mk l rb (m : Int)).n - (j : Int) = (kk : Int) by omega, ha]⟩
      obtain ⟨bb, off, rfl, hbb, hcb⟩ := has_some HA.out (by rw [HL.out]; omega)
      have HCB := Lib.hid (And.intro hbb hcb)
      have HVV := Lib.hid hv
      have HJL : Hid (j < bs.length ∧ (bs.drop j).length = kk) := Lib.hid (by have := HL.out; refine ⟨by omega, ?_⟩; rw [List.length_drop]; omega)
      have j0 : (0 : Int) ≤ (j : Int) := by omega
      have j1 : (j : Int) < m := by omega
      have hd1 : ¬ d = j := by omega
      have hd2 : (d == j) = false := by simpa using hd1
      have HKM : Hid (m - j = kk ∧ kk ≤ 700 ∧ j ≤ m ∧ m ≤ d) := Lib.hid ⟨by omega, by omega, by omega, hmd.1⟩
      have hmj : m - j = kk := HKM.out.1
      have j2 : j ≤ m := HKM.out.2.2.1
      have j3 : (m : Int) ≤ d := by omega
      clear hn1 hl hs hsb hr0 hr1 e1 e2 e3 e4 e5 eb ha hok hb1 f1 f2 f3 f4 hbb hcb hv hkm hj2 hmd hd1 el
      go_enter Try.func6, Try.ntmps6
      go_wp2_with (first | (go_at_call 27; refine (rLevel_any l _).mono ?_; rintro e w1 ⟨rfl, rfl⟩; rw [HLV.out]) | (go_at_call 28; refine (rSize_ok l _ HLV.out).mono ?_; rintro e w2 ⟨rfl, rfl⟩; rw [HS.out]) | (go_at_call 16; refine (alive _).mono ?_; rintro e wz ⟨rfl, hbz⟩) | (go_at_call 9; refine (New_any l _).mono ?_; rintro e w3 ⟨A0, n0, c0, rfl, i0, -, hb3⟩; rw [HR0.out] at i0 ⊢; rw [HV.out.1]; have I0 := Lib.hid i0) | (go_at_call 10; refine (Put_any r0 A0 _ n0 c0 m d bs _ (I0.out.below (by (repeat' (first | (with_reducible exact Below.refl _ _) | (with_reducible assumption) | (with_reducible refine below_drewN ?_ _) | (with_reducible refine below_new ?_ _) | (with_reducible refine Below.alloc ?_ ?_ _) | (with_reducible refine Below.drew ?_) | (with_reducible refine Below.setCell ?_ ?_ _) | (with_reducible apply below_at; (case k => (with_reducible assumption)); (case hB => omega)) | (with_reducible apply below_on; (with_reducible assumption)) | (go_size; done) | (with_reducible apply size_of))))) (HA.out.below (by (repeat' (first | (with_reducible exact Below.refl _ _) | (with_reducible assumption) | (with_reducible refine below_drewN ?_ _) | (with_reducible refine below_new ?_ _) | (with_reducible refine Below.alloc ?_ ?_ _) | (with_reducible refine Below.drew ?_) | (with_reducible refine Below.setCell ?_ ?_ _) | (with_reducible apply below_at; (case k => (with_reducible assumption)); (case hB => omega)) | (with_reducible apply below_on; (with_reducible assumption)) | (go_size; done) | (with_reducible apply size_of)))) (Nat.le_refl _)) HL.out (by omega) HBB.out).mono ?_; rintro e w4 ⟨A1, n1, c1, rfl, i1, -, hb4⟩; rw [HR1.out] at i1 ⊢; rw [HV.out.2.1]; have I1 := Lib.hid i1) | (go_at_call 11; refine (Back_any (Rg.mk l rb (m : Int)) A1 n1 c1 kk _ (I1.out.below (by (repeat' (first | (with_reducible exact Below.refl _ _) | (with_reducible assumption) | (with_reducible refine below_drewN ?_ _) | (with_reducible refine below_new ?_ _) | (with_reducible refine Below.alloc ?_ ?_ _) | (with_reducible refine Below.drew ?_) | (with_reducible refine Below.setCell ?_ ?_ _) | (with_reducible apply below_at; (case k => (with_reducible assumption)); (case hB => omega)) | (with_reducible apply below_on; (with_reducible assumption)) | (go_size; done) | (with_reducible apply size_of))))) (by omega) (by omega)).mono ?_; rintro e w5 ⟨rfl, hb5⟩; rw [HV.out.2.2.1, HV.out.2.2.2.1]; have K5 : Lies (w5) (w4.heap.size) 24 [.int .i64 ((Rg.mk l rb (m : Int))).l, .slice (A1) (n1) (c1), .int .i64 ((Rg.mk l rb (m : Int))).n] := (by (repeat' (first | (with_reducible assumption) | (with_reducible exact Lies.fresh _ _ _) | (with_reducible apply Lies.fresh_at; (first | (with_reducible rfl) | (simp; done))) | (with_reducible refine Lies.drew ?_) | (with_reducible refine Lies.drewN ?_ _) | (with_reducible refine Lies.alloc ?_ _) | (with_reducible apply Lies.past; case hb => (with_reducible assumption)) | (with_reducible apply Lies.keeps; (case k => (with_reducible assumption)); (case ht => decide)) | (with_reducible apply Lies.store3) | (with_reducible apply Lies.other; case hp => (first | omega | (simp; done) | (simp; omega)))))); obtain ⟨p0, p1, p2, -, -, -⟩ := K5.three) | (go_at_call 13; refine (Last_ok (Rg.mk l rb (m : Int)) A1 n1 c1 kk _ (I1.out.below (by (repeat' (first | (with_reducible exact Below.refl _ _) | (with_reducible assumption) | (with_reducible refine below_drewN ?_ _) | (with_reducible refine below_new ?_ _) | (with_reducible refine Below.alloc ?_ ?_ _) | (with_reducible refine Below.drew ?_) | (with_reducible refine Below.setCell ?_ ?_ _) | (with_reducible apply below_at; (case k => (with_reducible assumption)); (case hB => omega)) | (with_reducible apply below_on; (with_reducible assumption)) | (go_size; done) | (with_reducible apply size_of))))) HV.out.2.2.2.2.1).mono ?_; rintro e w6 ⟨B, d6, rfl, -, -, hB6, hb6⟩; rw [HV.out.2.2.2.2.2.1] at hB6; have HB6 := Lib.hid hB6; have K6 : Lies (w6) (w4.heap.size) 24 [.int .i64 ((Rg.mk l rb (m : Int))).l, .slice (A1) (n1) (c1), .int .i64 ((Rg.mk l rb (m : Int))).n] := (by (repeat' (first | (with_reducible assumption) | (with_reducible exact Lies.fresh _ _ _) | (with_reducible apply Lies.fresh_at; (first | (with_reducible rfl) | (simp; done))) | (with_reducible refine Lies.drew ?_) | (with_reducible refine Lies.drewN ?_ _) | (with_reducible refine Lies.alloc ?_ _) | (with_reducible apply Lies.past; case hb => (with_reducible assumption)) | (with_reducible apply Lies.keeps; (case k => (with_reducible assumption)); (case ht => decide)) | (with_reducible apply Lies.store3) | (with_reducible apply Lies.other; case hp => (first | omega | (simp; done) | (simp; omega)))))); obtain ⟨q0, q1, q2, -, -, -⟩ := K6.three) | (go_at_call 12; refine (At_any (Rg.mk l rb (m : Int)) A1 n1 c1 j _ (I1.out.below (by (repeat' (first | (with_reducible exact Below.refl _ _) | (with_reducible assumption) | (with_reducible refine below_drewN ?_ _) | (with_reducible refine below_new ?_ _) | (with_reducible refine Below.alloc ?_ ?_ _) | (with_reducible refine Below.drew ?_) | (with_reducible refine Below.setCell ?_ ?_ _) | (with_reducible apply below_at; (case k => (with_reducible assumption)); (case hB => omega)) | (with_reducible apply below_on; (with_reducible assumption)) | (go_size; done) | (with_reducible apply size_of))))) (by omega) (by omega)).mono ?_; rintro e w7 ⟨rfl, hb7⟩; rw [HV.out.2.2.2.2.2.2.1, HV.out.2.2.2.2.2.2.2.1, HV.out.2.2.2.2.2.2.2.2]; have c7 : w7.cell? ⟨bb, off + j, none⟩ = some (.int .u8 v) := (by have h := (bcell (show Below w.heap.size w w7 by (repeat' (first | (with_reducible exact Below.refl _ _) | (with_reducible assumption) | (with_reducible refine below_drewN ?_ _) | (with_reducible refine below_new ?_ _) | (with_reducible refine Below.alloc ?_ ?_ _) | (with_reducible refine Below.drew ?_) | (with_reducible refine Below.setCell ?_ ?_ _) | (with_reducible apply below_at; (case k => (with_reducible assumption)); (case hB => omega)) | (with_reducible apply below_on; (with_reducible assumption)) | (go_size; done) | (with_reducible apply size_of))))).1 bb (off + j) HCB.out.1; rw [h, ← HVV.out]; exact HCB.out.2 j HJL.out.1)))
      refine (same8_any B (some ⟨bb, off + j, none⟩) kk kk d6 (d - j) (bs.drop j) (bs.drop j) _ (HB6.out.below (B := w6.heap.size) (by (repeat' (first | (with_reducible exact Below.refl _ _) | (with_reducible assumption) | (with_reducible refine below_drewN ?_ _) | (with_reducible refine below_new ?_ _) | (with_reducible refine Below.alloc ?_ ?_ _) | (with_reducible refine Below.drew ?_) | (with_reducible refine Below.setCell ?_ ?_ _) | (with_reducible apply below_at; (case k => (with_reducible assumption)); (case hB => omega)) | (with_reducible apply below_on; (with_reducible assumption)) | (go_size; done) | (with_reducible apply size_of)))) (Nat.le_refl _)) HJL.out.2 (has_tail (fun i hi => by rw [(bcell (show Below w.heap.size w w7 by (repeat' (first | (with_reducible exact Below.refl _ _) | (with_reducible assumption) | (with_reducible refine below_drewN ?_ _) | (with_reducible refine below_new ?_ _) | (with_reducible refine Below.alloc ?_ ?_ _) | (with_reducible refine Below.drew ?_) | (with_reducible refine Below.setCell ?_ ?_ _) | (with_reducible apply below_at; (case k => (with_reducible assumption)); (case hB => omega)) | (with_reducible apply below_on; (with_reducible assumption)) | (go_size; done) | (with_reducible apply size_of))))).1 bb _ HCB.out.1]; exact HCB.out.2 i hi) j (by have := (show Below w.heap.size w w7 by (repeat' (first | (with_reducible exact Below.refl _ _) | (with_reducible assumption) | (with_reducible refine below_drewN ?_ _) | (with_reducible refine below_new ?_ _) | (with_reducible refine Below.alloc ?_ ?_ _) | (with_reducible refine Below.drew ?_) | (with_reducible refine Below.setCell ?_ ?_ _) | (with_reducible apply below_at; (case k => (with_reducible assumption)); (case hB => omega)) | (with_reducible apply below_on; (with_reducible assumption)) | (go_size; done) | (with_reducible apply size_of)))).size; have := HCB.out.1; omega)) HJL.out.2 (by have := HKM.out.2.1; omega) (by have := HKM.out.2.1; omega)).mono ?_
      rintro e w8 ⟨rfl, hb8⟩
      rw [decide_eq_true rfl]
      go_wp2_with (first | (go_at_call 16; refine (alive _).mono ?_; rintro e wz ⟨rfl, hbz⟩))
      go_ret
      exact ⟨rfl, by (repeat' (first | (with_reducible exact Below.refl _ _) | (with_reducible assumption) | (with_reducible refine below_drewN ?_ _) | (with_reducible refine below_new ?_ _) | (with_reducible refine Below.alloc ?_ ?_ _) | (with_reducible refine Below.drew ?_) | (with_reducible refine Below.setCell ?_ ?_ _) | (with_reducible apply below_at; (case k => (with_reducible assumption)); (case hB => omega)) | (with_reducible apply below_on; (with_reducible assumption)) | (go_size; done) | (with_reducible apply size_of)))⟩
end Go.Proofs.Ytolpmllpnjnogaa.rgL
