/- MemberBack, by a walk. -/
import Derived.Test.YtiihafhnaiicoaaDoorMbPe
import Derived.Test.YtiihafhnaiicoaaDoorPk3
namespace Go.Proofs.YtiihafhnaiicoaaDoor.mbW
set_option maxRecDepth 100000
open Go.RowKit Go.Proofs.YtiihafhnaiicoaaDoor.base Go.Proofs.YtiihafhnaiicoaaDoor.shP Go.Proofs.YtiihafhnaiicoaaDoor.shW Go.Proofs.YtiihafhnaiicoaaDoor.ocP Go.Proofs.YtiihafhnaiicoaaDoor.ocW
open Go.Proofs.YtiihafhnaiicoaaDoor.trW (IsD sv zd_isD digest_isD z20_at)
set_option linter.unusedVariables false
set_option linter.unusedSimpArgs false
set_option maxRecDepth 100000
theorem good_of {rs : List Rc} (h : vlE rs = 0) (hd : ∀ r ∈ rs, IsD r.sum) : GoodR rs := fun r hr => by
  obtain ⟨k, hk, rfl⟩ := List.mem_iff_getElem.1 hr
  have h1 := (vl_zero h).2.1 k hk
  rw [List.getD_eq_getElem?_getD, List.getElem?_eq_getElem hk] at h1
  have h2 := nm_size h1.1
  exact ⟨Nat.le_trans h2.2 (by decide), h1.2.1, Int.le_trans h1.2.2.1 (by decide), (hd _ hr).len⟩
theorem rcB_b {r : Rc} (h : IsD r.sum) : Byt8 (rcB r) := fun z hz => by
  unfold rcB at hz
  simp only [List.mem_append] at hz
  rcases hz with ((h1 | h1) | h1) | h1
  · exact digs_b _ _ z h1
  · exact bl_bd _ z h1
  · exact digs_b _ _ z h1
  · exact h.bd z h1
theorem tabB_b {rs : List Rc} (h : ∀ r ∈ rs, IsD r.sum) : Byt8 (tabB rs) := fun z hz => by
  unfold tabB at hz
  obtain ⟨l, hl, hz⟩ := List.mem_flatten.1 hz
  obtain ⟨r, hr, rfl⟩ := List.mem_map.1 hl
  exact rcB_b (h r hr) z hz
theorem tabB_len {rs : List Rc} (h : GoodR rs) : (tabB rs).length ≤ 278 * rs.length := by
  have : ∀ l : List Rc, GoodR l → (tabB l).length ≤ 278 * l.length := by
    intro l
    induction l with
    | nil => intro _; simp [tabB]
    | cons r l ih =>
      intro hg
      have h1 := ih (fun x hx => hg x (List.mem_cons_of_mem _ hx))
      have h2 := hg r (List.mem_cons_self ..)
      have h3 := rcB_len h2.2.2.2
      unfold tabB at h1 ⊢
      rw [List.map_cons, List.flatten_cons, List.length_append, h3, List.length_cons]
      omega
  exact this rs h
/-- The bytes that were written, others behind them, read. -/
theorem mr_back {rs : List Rc} {c : List Int} (h : vlE rs = 0) (hd : ∀ r ∈ rs, IsD r.sum) (hc : c.length ≤ 1500) : mrE (tabB rs ++ c) rs.length = 0 ∧ mrL (tabB rs ++ c) rs.length = rs ∧ mrP (tabB rs ++ c) rs.length = (tabB rs).length := by
  have hl := (vl_zero h).1
  have hg := good_of h hd
  have hb := tabB_len hg
  exact mr_ok (by omega) (by rw [List.length_append]; omega) (by rw [Int.toNat_natCast]; exact read_back hg c) h
theorem mr_part {rs : List Rc} {i : Nat} (h : vlE rs = 0) (hd : ∀ r ∈ rs, IsD r.sum) (hi : i < (tabB rs).length) : mrE ((tabB rs).take i) rs.length = 18 := by
  have hl := (vl_zero h).1
  have hg := good_of h hd
  have hb := tabB_len hg
  exact mr_short (by omega) (by rw [List.length_take]; omega) (by rw [Int.toNat_natCast]; exact read_part hg (tabB_b hd) hi)
theorem hasN {w : World} {A : Option Addr} {b : List Int} (h : Has .u8 w A b) (q : Nat) : Has .u8 (w.drewN q) A b := h.below (below_drewN (Below.refl _ _) q) (Nat.le_refl _)
theorem has_take {w : World} {A : Option Addr} {b : List Int} (h : Has .u8 w A b) (j : Nat) : Has .u8 w A (b.take j) := by
  rcases h with h | ⟨bb, off, e, hx, hcc⟩
  · exact .inl (by rw [h]; simp)
  · exact .inr ⟨bb, off, e, hx, fun i hi => by rw [List.length_take] at hi; rw [getD_take (by omega)]; exact hcc i (by omega)⟩
theorem mr_zero {b : List Int} {q : Int} (h : mrE b q = 0) : ∃ l p, (0 ≤ q ∧ q ≤ 16) ∧ rdS b q.toNat = some (l, p) ∧ vlE l = 0 ∧ mrL b q = l ∧ mrP b q = p := by
  have h0 := h
  unfold mrE at h
  split at h
  · omega
  · rename_i h1
    split at h
    · omega
    · rename_i h2
      rcases e : rdS b q.toNat with _ | ⟨l, p⟩
      · rw [e] at h; simp at h
      · rw [e] at h
        simp only at h
        split at h
        · rename_i hv
          exact ⟨l, p, by omega, rfl, hv, (mr_ok h1 h2 e hv).2.1, (mr_ok h1 h2 e hv).2.2⟩
        · omega
open Classical in
set_option maxHeartbeats 12800000 in
theorem backs (P : Option Addr) (m d : Nat) (rs : List Rc) (A : Option Addr) (n dd : Nat) (z : List Int) (q : Int) (w : World) (hR : RecsIn w P m d rs) (hr : IsRow .u8 w A n dd z) (q1 : -9223372036854775808 ≤ q) (q2 : q ≤ 9223372036854775807) (hT : TabH w) :
    Calls Tryd.prog 7 #[.slice P m d, .slice A n dd, .int .i64 q] w fun e w' => e = .returned (.bool true) ∧ Below w.heap.size w w' := by
  have HR := Lib.hid (recsB hR)
  have HT := Lib.hid hT
  have HL := Lib.hid hR.l
  obtain ⟨h1, h2, h3, h4⟩ := has_of_row hr
  have hc := row_caps hr
  unfold maxLen at hc h3
  generalize z.take n = b at *
  have HB : Hid (Byt8 b) := Lib.hid (fun x hx => bounds_u8 (h4 x hx))
  have HA := Lib.hid h1
  have HBL := Lib.hid h2
  have HC := Lib.hid hc
  have n9 : (n : Int) ≤ 9223372036854775807 := by omega
  have m9 : (m : Int) ≤ 9223372036854775807 := by have := hR.c1; have := hR.c2; omega
  have HQ := Lib.hid (And.intro q1 q2)
  clear hR hr hT h1 h2 h3 h4 q1 q2 hc
  go_enter Tryd.func7, Tryd.ntmps7
  go_wp2_with fail
  refine (alive_yes w HT.out.1).mono ?_
  rintro e w1 ⟨rfl, b1⟩
  have B1 := Lib.hid b1
  clear b1
  go_wp2_with fail
  refine (GreatR_any rs P m d w1 (HR.out.below B1.out (Nat.le_refl _))).mono ?_
  rintro e _ ⟨⟨gb, rfl, hb⟩, rfl⟩
  rename World => w1
  cases gb
  case true =>
    go_wp2_with fail
    go_ret
    exact ⟨rfl, B1.out⟩
  have HG := Lib.hid (hb rfl)
  clear hb
  by_cases c0 : (1500 : Int) < n
  · go_wp2_with fail
    go_ret
    exact ⟨rfl, B1.out⟩
  have HN := Lib.hid (show n ≤ 1500 by omega)
  go_wp2_with fail
  refine (rValid_any rs P m d w1 (HR.out.below B1.out (Nat.le_refl _))).mono ?_
  rintro e w2 ⟨rfl, b2⟩
  have B2 := Lib.hid (mb_bb B1.out b2)
  clear b2 B1
  rcases vl_cases rs with hv | hv
  case inr =>
    have hne : vlE rs ≠ 0 := by omega
    have hbq : (vlE rs == 0) = false := by simpa using hne
    have hbn : (vlE rs != 0) = true := by simpa using hne
    generalize vlE rs = ve at *
    have BX := Lib.hid B2.out
    clear hv hne B2
    go_wp2_with fail
    refine (Read_m b A n dd q w2 (HA.out.below BX.out (Nat.le_refl _)) HBL.out HC.out.1 (by have := HC.out.2; omega) HB.out (HT.out.1.below BX.out (Nat.le_refl _)) (HT.out.2.below BX.out (Nat.le_refl _)) HQ.out.1 HQ.out.2).mono ?_
    rintro e wy ⟨Ay, my, cy, rfl, oy, by'⟩
    have BY := Lib.hid (mb_bb BX.out by')
    have HOY := Lib.hid oy
    clear by' oy BX
    by_cases he : mrE b q = 0
    · obtain ⟨l, p, hq, hrd, hv, e2, e3⟩ := mr_zero he
      rw [e2] at HOY
      rw [he, e3]
      have HV := Lib.hid hv
      have HRD := Lib.hid hrd
      have HLL := Lib.hid (rdS_le HB.out hrd)
      have HOK := Lib.hid (rdS_ok HB.out hrd)
      have HMY : Hid ((my : Int) = q) := Lib.hid (by have h1 := HOY.out.len.1; have h2 := HLL.out.2.2; omega)
      have hmy := HMY.out
      subst hmy
      have p0 : 0 ≤ (p : Int) := by omega
      have p1 : (p : Int) ≤ n := by have := HLL.out.2.1; have := HBL.out; omega
      have p2 : (p : Int) ≤ dd := by have := HC.out.1; omega
      have HPD := Lib.hid (show p ≤ dd by omega)
      clear he hq hrd hv e2 e3
      go_wp2_with fail
      refine (Write_any l Ay my cy wy (HT.out.1.below BY.out (Nat.le_refl _)) ⟨HOY.out.has, HOY.out.len.1.symm, HOY.out.len.2.1, by have := HOY.out.len.2.2; unfold maxLen at this; omega, fun r hr => by have := (HOK.out r hr).1; omega, fun r hr => (HOK.out r hr).2⟩).mono ?_
      rintro e wz ⟨Az, nz, cz, rfl, hnz, hz1, hz2, hhz, bz⟩
      rw [HV.out]
      rw [wr_ok HV.out, tab_back HB.out HRD.out] at hhz hnz
      have BZ := Lib.hid (mb_bb BY.out bz)
      have cv1 := fun (qq : Nat) => conv8 (w := wz.drewN qq) (c := cz) (hasN hhz qq) hnz.symm
      have cv2 := fun (qq : Nat) => conv8 (w := wz.drewN qq) (n := p) (c := dd) (hasN (has_take (HA.out.below BZ.out (Nat.le_refl _)) p) qq) (by rw [List.length_take, HBL.out]; have := HLL.out.2.1; have := HBL.out; omega)
      clear hhz hnz hz1 hz2 bz HOY BY
      go_upto_region 19 with fail
      go_quiet (fail)
      go_wp2_with fail
      go_ret
      exact ⟨by simp, by have := BZ.out; (repeat' (first | (with_reducible exact Below.refl _ _) | (with_reducible assumption) | (with_reducible refine below_drewN ?_ _) | (with_reducible refine below_new ?_ _) | (with_reducible refine Below.alloc ?_ ?_ _) | (with_reducible refine Below.drew ?_) | (with_reducible refine Below.setCell ?_ ?_ _) | (with_reducible apply below_at; (case k => (with_reducible assumption)); (case hB => omega)) | (with_reducible apply below_on; (with_reducible assumption)) | (go_size; done) | (with_reducible apply size_of)))⟩
    · have HM := Lib.hid (mr_no (b := b) (q := q) rfl he)
      rw [HM.out.2.1] at HOY
      have hmy : my = 0 := by have := HOY.out.len.1; simpa using this
      subst hmy
      rw [HM.out.2.2]
      have hbn : (mrE b q != 0) = true := by simpa using he
      have hbq : (mrE b q == 0) = false := by simpa using he
      generalize mrE b q = ee at *
      clear HM HOY he
      go_wp2_with fail
      go_ret
      exact ⟨by simp, BY.out⟩
  case inl =>
    have HV := Lib.hid hv
    have HD : Hid (∀ r ∈ rs, IsD r.sum) := Lib.hid HR.out.d
    have HGD := Lib.hid (good_of hv HR.out.d)
    have HM16 : Hid (m ≤ 16) := Lib.hid (by have := (vl_zero hv).1; rw [HL.out] at this; exact this)
    have HTB := Lib.hid (tabB_b HR.out.d)
    have HTL : Hid ((tabB rs).length ≤ 4448) := Lib.hid (by have h1 := tabB_len HGD.out; have h2 := HM16.out; have h3 := HL.out; omega)
    rw [hv]
    clear hv
    go_wp2_with fail
    refine (Write_any rs P m d w2 (HT.out.1.below B2.out (Nat.le_refl _)) (HR.out.below B2.out (Nat.le_refl _))).mono ?_
    rintro e w3 ⟨A3, n3, c3, rfl, hn3, h31, h32, hh3, b3⟩
    rw [HV.out]
    rw [wr_ok HV.out] at hh3 hn3
    have B3 := Lib.hid (mb_bb B2.out b3)
    have HH3 := Lib.hid hh3
    have HN3 := Lib.hid hn3
    have HC3 := Lib.hid (And.intro h31 h32)
    have HBK := Lib.hid (mr_back (c := b) HV.out HD.out (by rw [HBL.out]; exact HN.out))
    have HPT := Lib.hid (fun (i : Nat) (h : i < (tabB rs).length) => mr_part (i := i) HV.out HD.out h)
    rw [HL.out] at HBK HPT
    obtain ⟨X, hX⟩ : ∃ X, tabB rs = X := ⟨_, rfl⟩
    rw [hX] at HH3 HN3 HBK HPT HTB HTL
    have G3 := mb_new w3 (.cells #[] 5)
    have HH3' := Lib.hid (HH3.out.below G3 (Nat.le_refl _))
    have B3' := Lib.hid (mb_bb B3.out G3)
    have BW3 := Lib.hid G3
    clear hn3 h31 h32 hh3 b3 hX B2 G3
    go_wp2_with (first | (at_builtin; refine app8z rfl _ _ rfl w3.heap.size _ [] rfl (.inr ⟨rfl, _, rfl⟩) A3 n3 c3 X rfl HN3.out.symm HH3'.out n3 (by simp) (by have := HTL.out; have := HN3.out; omega) (by simp) ?_; intro A4 c4 w4 ho4 hk4 hb4; rw [List.nil_append] at ho4; have HO4 := Lib.hid ho4; have BW4 := Lib.hid (BW3.out.trans hb4); have HSZ := Lib.hid hb4.size; clear ho4 hk4 hb4) | (at_builtin; refine app8z rfl _ _ rfl w3.heap.size _ X rfl HO4.out A n dd b rfl HBL.out (HA.out.below (B3.out.trans (BW4.out.mono B3.out.size)) (Nat.le_refl _)) (n3 + n) (by rw [HN3.out]) (by have := HTL.out; have := HN3.out; have := HN.out; omega) BW4.out.size ?_; intro A5 c5 w5 ho5 hk5 hb5; have HO5 := Lib.hid ho5; have BW5 := Lib.hid (BW4.out.trans hb5); clear ho5 hk5 hb5))
    have BT5 := Lib.hid (B3.out.trans (BW5.out.mono B3.out.size))
    have HB5 := Lib.hid (OwnZ.bounds HO5.out)
    refine (Read_m (X ++ b) A5 (n3 + n) c5 (m : Int) w5 (OwnZ.has HO5.out) (by rw [List.length_append, ← HN3.out, HBL.out]) HB5.out.2.1 HB5.out.2.2 (fun z hz => by rcases List.mem_append.1 hz with h | h; exact HTB.out z h; exact HB.out z h) (HT.out.1.below BT5.out (Nat.le_refl _)) (HT.out.2.below BT5.out (Nat.le_refl _)) (by omega) m9).mono ?_
    rintro e w6 ⟨A6, m6, c6, rfl, o6, b6⟩
    rw [HBK.out.1, HBK.out.2.2, ← HN3.out]
    rw [HBK.out.2.1] at o6
    have l6 := o6.len.1
    rw [HL.out] at l6
    subst l6
    have O6 := Lib.hid o6
    have BW6 := Lib.hid (BW5.out.trans (b6.mono BW5.out.size))
    have BT6 := Lib.hid (B3.out.trans (BW6.out.mono B3.out.size))
    clear o6 b6 HO5 HB5 BT5 BW5 HO4 BW4 HSZ HH3' B3'
    go_wp2_with fail
    refine (Same_any rs rs A6 P m6 m6 c6 d w6 O6.out.has (HR.out.below BT6.out (Nat.le_refl _)).h HL.out HL.out (by have := HM16.out; omega) (by have := HM16.out; omega) (fun r hr => ⟨by have := (HGD.out r hr).1; unfold maxLen; omega, by have := HGD.out r hr; omega, HD.out r hr⟩) (fun r hr => ⟨by have := (HGD.out r hr).1; unfold maxLen; omega, by have := HGD.out r hr; omega, HD.out r hr⟩)).mono ?_
    rintro e w7 ⟨rfl, b7⟩
    rw [show decide (rs = rs) = true from decide_eq_true rfl]
    have BW7 := Lib.hid (BW6.out.trans (b7.mono BW6.out.size))
    clear b7 O6 BW6 BT6
    go_wp2_with fail
    go_loopw [13] (fun iv wq => ∃ j : Nat, j ≤ n3 + 7 ∧ iv = .int .i64 (j : Int) ∧ Below w3.heap.size w3 wq) (fun iv _ => n3 + 7 - (intOf iv).toNat)
    case atStart => exact ⟨0, by omega, rfl, BW7.out⟩
    case round =>
      clear BW7
      obtain ⟨j, hj, rfl, acc⟩ := hrel
      rename World => wq
      have HACC := Lib.hid acc
      have BX := Lib.hid (B3.out.trans (acc.mono B3.out.size))
      have n34 : (n3 : Int) ≤ 4448 := by have := HTL.out; have := HN3.out; omega
      by_cases hlt : j < n3
      · have HLT := Lib.hid hlt
        have j1 : (j : Int) < n3 := by omega
        have j0 : 0 ≤ (j : Int) := by omega
        have j2 : (j : Int) ≤ c3 := by have := HC3.out.1; omega
        have hjc : j ≤ c3 := by have := HC3.out.1; omega
        have HJC := Lib.hid hjc
        clear hj hlt acc hjc
        go_wp2_with fail
        refine (Read_m (X.take j) A3 j c3 (m6 : Int) wq (has_take (HH3.out.below HACC.out (Nat.le_refl _)) j) (by rw [List.length_take]; have := HN3.out; have := HLT.out; omega) HJC.out HC3.out.2 (fun z hz => HTB.out z (List.mem_of_mem_take hz)) (HT.out.1.below BX.out (Nat.le_refl _)) (HT.out.2.below BX.out (Nat.le_refl _)) (by omega) m9).mono ?_
        rintro e w8 ⟨A8, m8, c8, rfl, o8, b8⟩
        rw [HPT.out j (by rw [← HN3.out]; exact HLT.out)]
        have B8 := Lib.hid (HACC.out.trans (b8.mono HACC.out.size))
        clear o8 b8
        go_wp2_with fail
        exact ⟨⟨j + 7, by have := HLT.out; omega, by go_num, B8.out⟩, by simp [intOf]; have := HLT.out; omega⟩
      · have j1 : ¬ (j : Int) < n3 := by omega
        clear hj hlt acc HACC
        go_wp2_with fail
        refine (Read_m b A n dd q wq (HA.out.below BX.out (Nat.le_refl _)) HBL.out HC.out.1 (by have := HC.out.2; omega) HB.out (HT.out.1.below BX.out (Nat.le_refl _)) (HT.out.2.below BX.out (Nat.le_refl _)) HQ.out.1 HQ.out.2).mono ?_
        rintro e wy ⟨Ay, my, cy, rfl, oy, by'⟩
        have BY := Lib.hid (mb_bb BX.out by')
        have HOY := Lib.hid oy
        clear by' oy BX
        by_cases he : mrE b q = 0
        · obtain ⟨l, p, hq, hrd, hv, e2, e3⟩ := mr_zero he
          rw [e2] at HOY
          rw [he, e3]
          have HV := Lib.hid hv
          have HRD := Lib.hid hrd
          have HLL := Lib.hid (rdS_le HB.out hrd)
          have HOK := Lib.hid (rdS_ok HB.out hrd)
          have HMY : Hid ((my : Int) = q) := Lib.hid (by have h1 := HOY.out.len.1; have h2 := HLL.out.2.2; omega)
          have hmy := HMY.out
          subst hmy
          have p0 : 0 ≤ (p : Int) := by omega
          have p1 : (p : Int) ≤ n := by have := HLL.out.2.1; have := HBL.out; omega
          have p2 : (p : Int) ≤ dd := by have := HC.out.1; omega
          have HPD := Lib.hid (show p ≤ dd by omega)
          clear he hq hrd hv e2 e3
          go_wp2_with fail
          refine (Write_any l Ay my cy wy (HT.out.1.below BY.out (Nat.le_refl _)) ⟨HOY.out.has, HOY.out.len.1.symm, HOY.out.len.2.1, by have := HOY.out.len.2.2; unfold maxLen at this; omega, fun r hr => by have := (HOK.out r hr).1; omega, fun r hr => (HOK.out r hr).2⟩).mono ?_
          rintro e wz ⟨Az, nz, cz, rfl, hnz, hz1, hz2, hhz, bz⟩
          rw [HV.out]
          rw [wr_ok HV.out, tab_back HB.out HRD.out] at hhz hnz
          have BZ := Lib.hid (mb_bb BY.out bz)
          have cv1 := fun (qq : Nat) => conv8 (w := wz.drewN qq) (c := cz) (hasN hhz qq) hnz.symm
          have cv2 := fun (qq : Nat) => conv8 (w := wz.drewN qq) (n := p) (c := dd) (hasN (has_take (HA.out.below BZ.out (Nat.le_refl _)) p) qq) (by rw [List.length_take, HBL.out]; have := HLL.out.2.1; have := HBL.out; omega)
          clear hhz hnz hz1 hz2 bz HOY BY
          go_upto_region 19 with fail
          go_quiet (fail)
          go_wp2_with fail
          go_ret
          exact ⟨by simp, by have := BZ.out; (repeat' (first | (with_reducible exact Below.refl _ _) | (with_reducible assumption) | (with_reducible refine below_drewN ?_ _) | (with_reducible refine below_new ?_ _) | (with_reducible refine Below.alloc ?_ ?_ _) | (with_reducible refine Below.drew ?_) | (with_reducible refine Below.setCell ?_ ?_ _) | (with_reducible apply below_at; (case k => (with_reducible assumption)); (case hB => omega)) | (with_reducible apply below_on; (with_reducible assumption)) | (go_size; done) | (with_reducible apply size_of)))⟩
        · have HM := Lib.hid (mr_no (b := b) (q := q) rfl he)
          rw [HM.out.2.1] at HOY
          have hmy : my = 0 := by have := HOY.out.len.1; simpa using this
          subst hmy
          rw [HM.out.2.2]
          have hbn : (mrE b q != 0) = true := by simpa using he
          have hbq : (mrE b q == 0) = false := by simpa using he
          generalize mrE b q = ee at *
          clear HM HOY he
          go_wp2_with fail
          go_ret
          exact ⟨by simp, BY.out⟩
end Go.Proofs.YtiihafhnaiicoaaDoor.mbW
