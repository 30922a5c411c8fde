/- SplitCuts, by a walk. -/
import Derived.Test.YthckpenindchlaaSpC6
import Derived.Test.YthckpenindchlaaSpC4
namespace Go.Proofs.Ythckpenindchlaa.spW
set_option maxRecDepth 100000
open Go.RowKit Go.Proofs.Ythckpenindchlaa.base Go.Proofs.Ythckpenindchlaa.mbW
set_option linter.unusedVariables false
set_option linter.unusedSimpArgs false
set_option maxRecDepth 100000
theorem zsIn3 {w : World} {A : Option Addr} {n d : Nat} {z : List Int} (h : IsRow .i64 w A n d z) : ZsB w A n d (z.take n) := by
  obtain ⟨h1, h2, h3, h4⟩ := has_of_row h
  rcases h with ⟨_, e1, e2, _⟩ | ⟨x, _, e1, e2, _⟩
  · exact ⟨h1, h2, by omega, by omega, fun x hx => bounds_i64 (h4 x hx)⟩
  · exact ⟨h1, h2, e1, by unfold maxLen at e2; omega, fun x hx => bounds_i64 (h4 x hx)⟩
theorem as_get {ms ts : List Mb} (h : spT.AsM ms ts) (hl : ts.length = ms.length) (j : Nat) : (ts.getD j mb0).nm = (ms.getD j mb0).nm ∧ (ts.getD j mb0).r.b = (ms.getD j mb0).r.b ∧ (ts.getD j mb0).r.n = (ms.getD j mb0).r.n := by
  rcases Nat.lt_or_ge j ts.length with hj | hj
  · exact h j hj
  · rw [List.getD_eq_getElem?_getD, List.getD_eq_getElem?_getD, List.getElem?_eq_none hj, List.getElem?_eq_none (by omega)]
    exact ⟨rfl, rfl, rfl⟩
theorem as_lens {ms ts : List Mb} (h : spT.AsM ms ts) (hl : ts.length = ms.length) : lensM ts = lensM ms := by
  apply List.ext_getElem (by rw [lens_len, lens_len, hl])
  intro j h1 h2
  rw [lens_len] at h1 h2
  have := (as_get h hl j).2.2
  simp only [lensM, List.getElem_map]
  rw [List.getD_eq_getElem?_getD, List.getD_eq_getElem?_getD, List.getElem?_eq_getElem h1, List.getElem?_eq_getElem h2] at this
  have e : ts[j].r.n = ms[j].r.n := by simpa using this
  rw [e]
theorem as_nms {ms ts : List Mb} (h : spT.AsM ms ts) (hl : ts.length = ms.length) : nms ts = nms ms := by
  apply List.ext_getElem (by rw [nms_len, nms_len, hl])
  intro j h1 h2
  rw [nms_len] at h1 h2
  have := (as_get h hl j).1
  simp only [nms, List.getElem_map]
  rw [List.getD_eq_getElem?_getD, List.getD_eq_getElem?_getD, List.getElem?_eq_getElem h1, List.getElem?_eq_getElem h2] at this
  simpa using this
theorem as_ck {ms ts : List Mb} (h : spT.AsM ms ts) (hl : ts.length = ms.length) : ckE ts = ckE ms := by
  have e1 := as_nms h hl
  have e2 : sumD ts = sumD ms := by
    have h1 := lens_sum ts
    have h2 := lens_sum ms
    rw [as_lens h hl] at h1
    omega
  unfold ckE
  rw [e1, e2, hl]
theorem as_ct {ms ts : List Mb} (h : spT.AsM ms ts) (hl : ts.length = ms.length) (b : Int) : ctE ts b = ctE ms b ∧ ctV ts b = ctV ms b := by
  have e : ctE ts b = ctE ms b := by unfold ctE; rw [as_ck h hl]
  exact ⟨e, by unfold ctV; rw [e, as_lens h hl, hl]⟩
theorem as_cut {ms ts : List Mb} (h : spT.AsM ms ts) (hl : ts.length = ms.length) (p : Pc) : cutB ts p = cutB ms p := by
  unfold cutB; rw [(as_get h hl _).2.1]
theorem pv_ok (zs : List Int) (b : Int) : (pieV zs b).length ≤ 527 ∧ ∀ p ∈ pieV zs b, PcOk p := by
  by_cases h : szE zs = 0
  · rcases hb : blB b with _ | _
    · rw [(pie_bl h hb).2]; simp
    · rw [(pie_ok h hb).2]
      exact ⟨pcs_small h ((blB_iff b).1 hb).1 (Nat.le_refl _), fun p hp => ok_smallC (wi_smallC h (pcs_wi hb _ (Nat.le_refl _) p hp))⟩
  · rw [(pie_sz b h).2]; simp
theorem map_at {cs ds : List Pt} (h : cs.map (·.p) = ds.map (·.p)) (k : Nat) : (cs.getD k pt0).p = (ds.getD k pt0).p := by
  have h1 : ∀ l : List Pt, (l.getD k pt0).p = (l.map (·.p)).getD k pc0 := by
    intro l
    rw [List.getD_eq_getElem?_getD, List.getD_eq_getElem?_getD, List.getElem?_map]
    rcases l[k]? with _ | v <;> rfl
  rw [h1, h1, h]
theorem mem_at {l : List Pt} {k : Nat} (h : k < l.length) : l.getD k pt0 ∈ l := by
  rw [List.getD_eq_getElem?_getD, List.getElem?_eq_getElem h]; exact List.getElem_mem _
open Classical in
set_option maxHeartbeats 12800000 in
theorem cuts (A : Option Addr) (m d : Nat) (z : List Int) (P : Option Addr) (n c : Nat) (ms : List Mb) (b : Int) (w : World) (hr : IsRow .i64 w A m d z) (hM : MemB w P n c ms) (hb1 : -9223372036854775808 ≤ b) (hb2 : b ≤ 9223372036854775807) :
    Calls Try.prog 3 #[.slice A m d, .slice P n c, .int .i64 b] w fun e w' => e = .returned (.bool true) ∧ Below w.heap.size w w' := by
  have hZ := zsIn3 hr
  generalize z.take m = zs at *
  have HZ := Lib.hid hZ
  have HM := Lib.hid hM
  have HML := Lib.hid hM.l
  have HBB := Lib.hid (And.intro hb1 hb2)
  clear hr hZ hM hb1 hb2
  go_enter Try.func3, Try.ntmps3
  go_wp2_with fail
  refine (GreatSizes_any zs A m d w).mono ?_
  rintro e _ ⟨rfl, rfl⟩
  rename World => w
  by_cases c0 : 30 < m
  · rw [decide_eq_true c0]
    go_wp2_with fail
    go_ret
    exact ⟨rfl, Below.refl _ _⟩
  rw [decide_eq_false c0]
  go_wp2_with fail
  refine (spT.Great_any ms P n c w HM.out).mono ?_
  rintro e _ ⟨⟨g, rfl, hg⟩, rfl⟩
  rename World => w
  rcases g with _ | _
  case true =>
    clear hg
    go_wp2_with fail
    go_ret
    exact ⟨rfl, Below.refl _ _⟩
  have HG := Lib.hid (hg rfl)
  clear hg c0
  go_wp2_with fail
  refine (spT.Twin_any ms P n c w HM.out HG.out.1 (fun k hk => (HG.out.2 k hk).2)).mono ?_
  rintro e w1 ⟨TA, tc, ts, rfl, htl, htc, htm, hts, has, b1⟩
  have HT : Hid (MemB w1 TA n tc ts) := Lib.hid ⟨htl, htc, by unfold maxLen at htm; omega, hts⟩
  have HAS := Lib.hid has
  have HTL : Hid (ts.length = ms.length) := Lib.hid (by rw [htl, HML.out])
  have B1 := Lib.hid b1
  clear b1 htl htc htm hts has
  go_wp2_with fail
  refine (Pieces_any zs A m d b w1 (HZ.out.past B1.out) HBB.out.1 HBB.out.2).mono ?_
  rintro e w2 ⟨X, q, xc, rfl, hq, ho, b2⟩
  have HX := Lib.hid ho.has
  have HQ := Lib.hid hq
  have K2 := Lib.hid b2
  have B2 := Lib.hid (mb_bb B1.out b2)
  clear ho hq b2
  go_wp2_with fail
  refine (rPieces_any zs A m d b w2 (HZ.out.past B2.out) HBB.out.1 HBB.out.2).mono ?_
  rintro e w3 ⟨Y, r, yc, rfl, hr, ho, b3⟩
  have HY := Lib.hid ho.has
  have HRR := Lib.hid hr
  have K3 := Lib.hid b3
  have B3 := Lib.hid (mb_bb B2.out b3)
  clear ho hr b3
  go_wp2_with fail
  refine (Cut_any ms P n c b w3 (HM.out.below B3.out (Nat.le_refl _)) HBB.out.1 HBB.out.2).mono ?_
  rintro e w4 ⟨CA, cn, cc, cs, rfl, hc1, hc2, hc3, hc4, hc5, b4⟩
  have HC := Lib.hid (And.intro hc1 (And.intro hc2 (And.intro hc3 (And.intro hc4 hc5))))
  have K4 := Lib.hid b4
  have B4 := Lib.hid (mb_bb B3.out b4)
  clear hc1 hc2 hc3 hc4 hc5 b4
  go_wp2_with fail
  refine (rCut_any ts TA n tc b w4 (HT.out.below (mb_bb K2.out (mb_bb K3.out K4.out)) (Nat.le_refl _)) (fun k hk => by rw [(as_get HAS.out HTL.out k).2.2]; exact (HG.out.2 k hk).2)).mono ?_
  rintro e w5 ⟨DA, dn, dc, ds, rfl, hd1, hd2, hd3, hd4, hd5, b5⟩
  rw [(as_ct HAS.out HTL.out b).1]
  rw [(as_ct HAS.out HTL.out b).2, ← HC.out.2.2.2.2] at hd5
  have hdn : dn = cn := by
    have h := congrArg List.length hd5
    rw [List.length_map, List.length_map, hd1, HC.out.1] at h
    exact h
  subst hdn
  have HD := Lib.hid (And.intro hd1 (And.intro hd2 (And.intro hd3 (And.intro hd4 hd5))))
  have K5 := Lib.hid b5
  have B5 := Lib.hid (mb_bb B4.out b5)
  clear hd1 hd2 hd3 hd4 hd5 b5
  have K35 := Lib.hid (mb_bb K3.out (mb_bb K4.out K5.out))
  have HPV := Lib.hid (pv_ok zs b)
  have hrq : r = q := by rw [HRR.out, HQ.out]
  subst hrq
  go_wp2_with fail
  refine (Same_any (pieV zs b) (pieV zs b) X Y r r xc yc w5 (HX.out.past K35.out) (HY.out.past (mb_bb K4.out K5.out)) HQ.out.symm HQ.out.symm (by have := HPV.out.1; have := HQ.out; omega) (by have := HPV.out.1; have := HQ.out; omega) HPV.out.2 HPV.out.2).mono ?_
  rintro e w6 ⟨rfl, b6⟩
  rw [decide_eq_true rfl]
  have B6 := Lib.hid (mb_bb B5.out b6)
  have K6 := Lib.hid b6
  clear b6
  go_wp2_with fail
  refine (SameParts_any cs ds CA DA dn cc dc w6 (HC.out.2.2.1.past (mb_bb K5.out K6.out)) (HD.out.2.2.1.past K6.out) HC.out.1 HD.out.1 (by have := HC.out.2.1; omega) (fun t ht => (HC.out.2.2.2.1 t ht).1.below (mb_bb K5.out K6.out) (Nat.le_refl _)) (fun t ht => (HD.out.2.2.2.1 t ht).1.below K6.out (Nat.le_refl _)) (fun t ht => (HC.out.2.2.2.1 t ht).2.2) (fun k hk => ⟨map_at HD.out.2.2.2.2.symm k, by
    rw [(HC.out.2.2.2.1 _ (mem_at (by rw [HC.out.1]; exact hk))).2.1, (HD.out.2.2.2.1 _ (mem_at (by rw [HD.out.1]; exact hk))).2.1, as_cut HAS.out HTL.out, map_at HD.out.2.2.2.2 k]⟩)).mono ?_
  rintro e w7 ⟨rfl, b7⟩
  have B7 := Lib.hid (mb_bb B6.out b7)
  have K7 := Lib.hid (mb_bb K6.out b7)
  clear b7
  go_wp2_with fail
  refine (spT.SameMembers_any ms ts P TA n c tc w7 (HM.out.below B7.out (Nat.le_refl _)) (HT.out.below (mb_bb K2.out (mb_bb K35.out K7.out)) (Nat.le_refl _)) HAS.out HG.out.1).mono ?_
  rintro e w8 ⟨rfl, b8⟩
  have B8 := Lib.hid (mb_bb B7.out b8)
  clear b8
  go_wp2_with fail
  go_ret
  exact ⟨by simp, B8.out⟩
end Go.Proofs.Ythckpenindchlaa.spW
