/- Repair, by walks. -/
import Derived.Test.YtacllaeccdgnmaaPaW5
import Derived.Test.YtacllaeccdgnmaaPaCount
import Derived.Test.YtacllaeccdgnmaaPaPlain4
import Derived.BigQuiet
namespace Go.Proofs.Ytacllaeccdgnmaa.paW
set_option maxRecDepth 100000
open Go.RowKit Go.Proofs.Ytacllaeccdgnmaa.base Go.Proofs.Ytacllaeccdgnmaa.paP
set_option linter.unusedVariables false
set_option linter.unusedSimpArgs false
set_option maxRecDepth 100000
theorem bs_oth (rs : List R8) (k : Int) : bs (othR rs k) = oth (bs rs) k := othR_map R8.b rs k
set_option maxHeartbeats 4000000 in
theorem Repair_any (P A : Option Addr) (m d n c : Nat) (k : Int) (rs : List R8) (p : List Int) (w : World) (hr : RowsB w P m d rs) (hm : m ≤ 100000) (hk : -9223372036854775808 ≤ k ∧ k ≤ 9223372036854775807)
    (hp : Has .u8 w A p) (hn : p.length = n) (hc : n ≤ c) (hc2 : c ≤ 9223372036854775807) (bp : Byt p) :
    Calls Try.prog 15 #[.slice P m d, .int .i64 k, .slice A n c] w fun e w' => ∃ A c, e = .returned (.tuple #[.slice A (repV (bs rs) k p).length c, .int .i64 (repE (bs rs) k p)]) ∧ OwnZ w' w.heap.size (.slice A (repV (bs rs) k p).length c) (repV (bs rs) k p) ∧ Below w.heap.size w w' := by
  have HR := Lib.hid hr
  have HM := Lib.hid hm
  have HBL := Lib.hid (bs_len hr)
  have HP := Lib.hid hp
  have HN := Lib.hid (And.intro hn (And.intro hc (And.intro hc2 bp)))
  have m1 : (m : Int) ≤ 100000 := by omega
  have n1 : (n : Int) ≤ 9223372036854775807 := by omega
  have n0 : 0 ≤ (n : Int) := by omega
  have k1 := hk.1
  have k2 := hk.2
  have hvn : ∀ x, repE (bs rs) k p = x → x ≠ 0 → repV (bs rs) k p = [] := fun x h hx => by unfold repV; rw [if_neg (by rw [h]; exact hx)]
  have HVN := Lib.hid hvn
  clear hr hm hp hn hc hc2 bp hvn hk
  rcases gE_cases (oth (bs rs) k) with ⟨e0, e1, e2⟩ | e4
  · have HE := Lib.hid e0
    have HE1 := Lib.hid (And.intro e1 e2)
    clear e0 e1 e2
    by_cases hk : k < 0 ∨ (m : Int) ≤ k
    · have HX : Hid (repE (bs rs) k p = 2) := Lib.hid (by unfold repE; rw [HE.out, if_neg (by simp), HBL.out, if_pos hk])
      rw [HVN.out 2 HX.out (by omega), HX.out]
      by_cases hk0 : k < 0
      · clear hk
        go_enter Try.func15, Try.ntmps15
        go_wp2_with (first | (go_at_call 31; refine (Without_any P m d k rs _ HR.out HM.out).mono ?_; rintro e w2 ⟨A2, c2, n2, rfl, hr2, hb2⟩; have HB2 := Lib.hid hb2; have HR2 := Lib.hid hr2; clear hb2 hr2) | (go_at_call 28; refine (checkG_any A2 n2 c2 _ _ HR2.out).mono ?_; rw [bs_oth, HE.out]; rintro e w3 ⟨rfl, hb3⟩; have HB3 := Lib.hid (HB2.out.trans (hb3.mono HB2.out.size)); have HR3 := Lib.hid (HR2.out.below hb3 (Nat.le_refl _)); clear hb3))
        go_ret2
        exact ⟨none, 0, rfl, .inr ⟨rfl, none, rfl⟩, HB3.out⟩
      · have hk1 : (m : Int) ≤ k := by omega
        clear hk
        go_enter Try.func15, Try.ntmps15
        go_wp2_with (first | (go_at_call 31; refine (Without_any P m d k rs _ HR.out HM.out).mono ?_; rintro e w2 ⟨A2, c2, n2, rfl, hr2, hb2⟩; have HB2 := Lib.hid hb2; have HR2 := Lib.hid hr2; clear hb2 hr2) | (go_at_call 28; refine (checkG_any A2 n2 c2 _ _ HR2.out).mono ?_; rw [bs_oth, HE.out]; rintro e w3 ⟨rfl, hb3⟩; have HB3 := Lib.hid (HB2.out.trans (hb3.mono HB2.out.size)); have HR3 := Lib.hid (HR2.out.below hb3 (Nat.le_refl _)); clear hb3))
        go_ret2
        exact ⟨none, 0, rfl, .inr ⟨rfl, none, rfl⟩, HB3.out⟩
    · have k3 : ¬ k < 0 := by omega
      have k4 : ¬ (m : Int) ≤ k := by omega
      have HK : Hid (∀ x, (if p.length < 2 ∨ 5002 < p.length ∨ p.length - 2 < wd (oth (bs rs) k) then (12 : Int)
          else if p.length - 2 < lenP (madeP (bs rs) k p) then 12
          else if allz ((madeP (bs rs) k p).drop (2 + lenP (madeP (bs rs) k p))) = true then 0 else 12) = x → repE (bs rs) k p = x) := Lib.hid (fun x h => by
        unfold repE; rw [HE.out, if_neg (by simp), HBL.out, if_neg hk]; exact h)
      obtain ⟨v, hv⟩ : ∃ v, wd (oth (bs rs) k) = v := ⟨_, rfl⟩
      have HV := Lib.hid hv
      have v1 : (v : Int) ≤ 5000 := by have := HE1.out.2; omega
      have v0 : 0 ≤ (v : Int) := by omega
      rw [hv] at HK
      clear hk hv
      have nw : IntKind.i64.wrap ((n : Int) - 2) = (n : Int) - 2 := IntWalk.i64_in _ (by omega)
      by_cases hn2 : n < 2
      · have f2 : (n : Int) - 2 < 0 := by omega
        have HX := Lib.hid (HK.out 12 (by rw [if_pos (by have := HN.out.1; omega)]))
        rw [HVN.out 12 HX.out (by omega), HX.out]
        clear hn2
        go_enter Try.func15, Try.ntmps15
        go_wp2_with (first | (go_at_call 31; refine (Without_any P m d k rs _ HR.out HM.out).mono ?_; rintro e w2 ⟨A2, c2, n2, rfl, hr2, hb2⟩; have HB2 := Lib.hid hb2; have HR2 := Lib.hid hr2; clear hb2 hr2) | (go_at_call 28; refine (checkG_any A2 n2 c2 _ _ HR2.out).mono ?_; rw [bs_oth, HE.out]; rintro e w3 ⟨rfl, hb3⟩; have HB3 := Lib.hid (HB2.out.trans (hb3.mono HB2.out.size)); have HR3 := Lib.hid (HR2.out.below hb3 (Nat.le_refl _)); clear hb3))
        go_ret2
        exact ⟨none, 0, rfl, .inr ⟨rfl, none, rfl⟩, HB3.out⟩
      · have f2 : ¬ (n : Int) - 2 < 0 := by omega
        by_cases hn3 : 5002 < n
        · have f3 : (5000 : Int) < (n : Int) - 2 := by omega
          have HX := Lib.hid (HK.out 12 (by rw [if_pos (by have := HN.out.1; omega)]))
          rw [HVN.out 12 HX.out (by omega), HX.out]
          clear hn2 hn3
          go_enter Try.func15, Try.ntmps15
          go_wp2_with (first | (go_at_call 31; refine (Without_any P m d k rs _ HR.out HM.out).mono ?_; rintro e w2 ⟨A2, c2, n2, rfl, hr2, hb2⟩; have HB2 := Lib.hid hb2; have HR2 := Lib.hid hr2; clear hb2 hr2) | (go_at_call 28; refine (checkG_any A2 n2 c2 _ _ HR2.out).mono ?_; rw [bs_oth, HE.out]; rintro e w3 ⟨rfl, hb3⟩; have HB3 := Lib.hid (HB2.out.trans (hb3.mono HB2.out.size)); have HR3 := Lib.hid (HR2.out.below hb3 (Nat.le_refl _)); clear hb3))
          go_ret2
          exact ⟨none, 0, rfl, .inr ⟨rfl, none, rfl⟩, HB3.out⟩
        · obtain ⟨W, hW⟩ : ∃ W, n = W + 2 := ⟨n - 2, by omega⟩
          have HW := Lib.hid (And.intro hW (show W ≤ 5000 by omega))
          have f4 : (n : Int) - 2 = (W : Int) := by omega
          have f5 : (W : Int) ≤ 5000 := by omega
          have f6 : 0 ≤ (W : Int) := by omega
          have nw2 : IntKind.i64.wrap ((n : Int) - 2) = (W : Int) := by rw [f4]; exact IntWalk.i64_in _ (by omega)
          clear nw
          clear f2 hn2 hn3 f4 hW
          by_cases hvW : W < v
          · have f7 : (W : Int) < v := by omega
            have HX := Lib.hid (HK.out 12 (by rw [if_pos (by have := HN.out.1; have := HW.out.1; omega)]))
            rw [HVN.out 12 HX.out (by omega), HX.out]
            clear hvW
            go_enter Try.func15, Try.ntmps15
            go_wp2_with (first | (go_at_call 31; refine (Without_any P m d k rs _ HR.out HM.out).mono ?_; rintro e w2 ⟨A2, c2, n2, rfl, hr2, hb2⟩; have HB2 := Lib.hid hb2; have HR2 := Lib.hid hr2; clear hb2 hr2) | (go_at_call 28; refine (checkG_any A2 n2 c2 _ _ HR2.out).mono ?_; rw [bs_oth, HE.out]; rintro e w3 ⟨rfl, hb3⟩; have HB3 := Lib.hid (HB2.out.trans (hb3.mono HB2.out.size)); have HR3 := Lib.hid (HR2.out.below hb3 (Nat.le_refl _)); clear hb3) | (go_at_call 30; refine (Widest_any A2 n2 c2 _ _ HR3.out).mono ?_; rw [bs_oth, HV.out]; rintro e w4 ⟨rfl, hb4⟩; have HB4 := Lib.hid (HB3.out.trans (hb4.mono HB3.out.size)); have HR4 := Lib.hid (HR3.out.below hb4 (Nat.le_refl _)); clear hb4))
            go_ret2
            exact ⟨none, 0, rfl, .inr ⟨rfl, none, rfl⟩, HB4.out⟩
          · have f7 : ¬ (W : Int) < v := by omega
            have HK2 : Hid (∀ x, (if W < lenP (madeP (bs rs) k p) then (12 : Int) else if allz ((madeP (bs rs) k p).drop (2 + lenP (madeP (bs rs) k p))) = true then 0 else 12) = x → repE (bs rs) k p = x) := Lib.hid (fun x h => HK.out x (by
              have h1 := HN.out.1; have h2 := HW.out
              rw [if_neg (by omega), show p.length - 2 = W by omega]; exact h))
            have hw : ∀ s ∈ oth (bs rs) k, s.length ≤ W := fun s hs => by have h1 := wd_le hs; rw [HV.out] at h1; omega
            have HWO := Lib.hid hw
            have hb : ∀ s ∈ oth (bs rs) k, Byt s := fun s hs => bs_byt HR.out s (othR_mem hs)
            have hmd : madeP (bs rs) k p = mixL W p (oth (bs rs) k) := by unfold madeP; rw [show p.length - 2 = W by have h1 := HN.out.1; have h2 := HW.out; omega]
            have hml : (mixL W p (oth (bs rs) k)).length = W + 2 := mixL_len (by have h1 := HN.out.1; have h2 := HW.out; omega) hw
            have hmb : Byt (mixL W p (oth (bs rs) k)) := mixL_byt (by have h2 := HW.out; omega) HN.out.2.2.2 fun s hs => ⟨hb s hs, hw s hs⟩
            rw [← hmd] at hml hmb
            obtain ⟨M, hM⟩ : ∃ M, madeP (bs rs) k p = M := ⟨_, rfl⟩
            have HMM := Lib.hid hmd
            rw [hM] at HMM hml hmb HK2
            obtain ⟨a, b, ha, hb0, a1, b1, hab⟩ := front_bytes hmb
            obtain ⟨q, hq⟩ : ∃ q, lenP M = q := ⟨_, rfl⟩
            have HQ := Lib.hid hq
            have g1 : bits .or .i64 ((a : Int) * 256) (b : Int) = (q : Int) := by rw [or_bytes a b a1 b1, ← hab, hq]
            have g2 : IntKind.i64.wrap ((a : Int) * 256) = (a : Int) * 256 := IntWalk.i64_in _ (by omega)
            have g3 : (a : Int) ≤ 255 := by omega
            have g4 : 0 ≤ (a : Int) := by omega
            have g5 : (b : Int) ≤ 255 := by omega
            have g6 : 0 ≤ (b : Int) := by omega
            have g7 : (q : Int) ≤ 65535 := by omega
            have g8 : 0 ≤ (q : Int) := by omega
            have HFR := Lib.hid (And.intro ha hb0)
            have HML := Lib.hid (And.intro hml hmb)
            rw [hq] at HK2
            have n3 : (n : Int) ≤ 5002 := by have h2 := HW.out; omega
            have n4 : (0 : Int) < n := by have h2 := HW.out; omega
            have n5 : (1 : Int) < n := by have h2 := HW.out; omega
            have HMD := Lib.hid hM
            clear hvW hw hb hmd hml hmb hM ha hb0 a1 b1 hab hq n1
            obtain ⟨rv, hrv⟩ : ∃ rv, repV (bs rs) k p = rv := ⟨_, rfl⟩
            obtain ⟨re, hre⟩ : ∃ re, repE (bs rs) k p = re := ⟨_, rfl⟩
            have HRV := Lib.hid hrv
            have HRE := Lib.hid hre
            rw [hrv, hre]
            clear hrv hre
            go_enter Try.func15, Try.ntmps15
            go_upto_region 11 with (first | (go_at_call 31; refine (Without_any P m d k rs _ HR.out HM.out).mono ?_; rintro e w2 ⟨A2, c2, n2, rfl, hr2, hb2⟩; have HB2 := Lib.hid hb2; have HR2 := Lib.hid hr2; clear hb2 hr2) | (go_at_call 28; refine (checkG_any A2 n2 c2 _ _ HR2.out).mono ?_; rw [bs_oth, HE.out]; rintro e w3 ⟨rfl, hb3⟩; have HB3 := Lib.hid (HB2.out.trans (hb3.mono HB2.out.size)); have HR3 := Lib.hid (HR2.out.below hb3 (Nat.le_refl _)); clear hb3) | (go_at_call 30; refine (Widest_any A2 n2 c2 _ _ HR3.out).mono ?_; rw [bs_oth, HV.out]; rintro e w4 ⟨rfl, hb4⟩; have HB4 := Lib.hid (HB3.out.trans (hb4.mono HB3.out.size)); have HR4 := Lib.hid (HR3.out.below hb4 (Nat.le_refl _)); clear hb4) | (go_at_call 29; refine (Combined_any A2 A n2 c2 n c W _ p _ HR4.out (by rw [bs_oth]; exact HWO.out) (HP.out.below HB4.out (Nat.le_refl _)) (by rw [HN.out.1]; exact HW.out.1) HW.out.1 HN.out.2.1 HW.out.2 HN.out.2.2.2).mono ?_; rw [bs_oth, ← HMM.out]; rintro e w6 ⟨g, c6, rfl, ho6, hb6⟩; have HO6 := Lib.hid ho6; have HB6 := Lib.hid (HB4.out.trans (hb6.mono HB4.out.size)); clear ho6 hb6))
            have HO6' := HO6.out
            have y0 := HO6'.cell 0 (by rw [HML.out.1]; omega)
            have y1 := HO6'.cell 1 (by rw [HML.out.1]; omega)
            rw [HFR.out.1] at y0
            rw [HFR.out.2] at y1
            clear HO6'
            go_quiet (fail)
            rename Nat => nq1
            have c6n : n ≤ c6 := by
              obtain ⟨A', cap', e, _, h3, _⟩ := HO6.out.val
              injection e with _ e2 e3
              rw [e3, e2]; exact h3
            have HC6 := Lib.hid c6n
            by_cases hqW : W < q
            · have f8 : (W : Int) < q := by omega
              have HX := Lib.hid (HK2.out 12 (by rw [if_pos hqW]))
              clear hqW y0 y1
              go_wp2_with fail
              go_ret2
              rw [show rv = [] by rw [← HRV.out]; exact HVN.out 12 HX.out (by omega), show re = 12 by rw [← HRE.out]; exact HX.out]
              exact ⟨none, 0, rfl, .inr ⟨rfl, none, rfl⟩, below_drewN HB6.out _⟩
            · have f8 : ¬ (W : Int) < q := by omega
              obtain ⟨j, hj⟩ : ∃ j, 2 + q = j := ⟨_, rfl⟩
              have jw : IntKind.i64.wrap (2 + (q : Int)) = (j : Int) := by rw [show (2 : Int) + q = j by omega]; exact IntWalk.i64_in _ (by omega)
              have HJ := Lib.hid (And.intro hj (show q ≤ W by omega))
              have j1 : (j : Int) ≤ n := by have := HW.out; omega
              have j2 : (2 : Int) ≤ j := by omega
              have j3 : (n : Int) ≤ c6 := by omega
              have j5 : j ≤ n := by omega
              have j6 : n ≤ c6 := c6n
              have j7 : 2 ≤ j := by omega
              have j8 : j ≤ c6 := by omega
              have j9 : (j : Int) ≤ c6 := by omega
              obtain ⟨A3, hA3⟩ : ∃ A3, (if c6 = 2 then some (⟨g, 0, none⟩ : Addr) else some ⟨g, 2, none⟩) = A3 := ⟨_, rfl⟩
              obtain ⟨A4, hA4⟩ : ∃ A4, (if c6 = j then some (⟨g, 0, none⟩ : Addr) else some ⟨g, j, none⟩) = A4 := ⟨_, rfl⟩
              have hq2 : j - 2 = q := by omega
              obtain ⟨t, ht⟩ : ∃ t, n - j = t := ⟨_, rfl⟩
              obtain ⟨c4, hc4⟩ : ∃ t, c6 - j = t := ⟨_, rfl⟩
              obtain ⟨c3, hc3⟩ : ∃ t, c6 - 2 = t := ⟨_, rfl⟩
              have HQC : Hid (q ≤ c3 ∧ q ≤ 5000) := Lib.hid (by have := HW.out; omega)
              have h0 := HO6.out.has
              have HA3 : Hid (Has .u8 w6 A3 ((M.drop 2).take q) ∧ ((M.drop 2).take q).length = q) := Lib.hid (by
                have hl : ((M.drop 2).take q).length = q := by rw [List.length_take, List.length_drop]; have h2 := HML.out.1; have h3 := HW.out; omega
                refine ⟨?_, hl⟩
                rw [← hA3]
                split
                · exact .inl (List.eq_nil_of_length_eq_zero (by have h3 := HW.out; omega))
                · have h5 := (h0.dropAt 2).front q
                  exact h5)
              have HA4 : Hid (Has .u8 w6 A4 (M.drop j) ∧ (M.drop j).length = t ∧ Byt (M.drop j)) := Lib.hid (by
                have hl : (M.drop j).length = t := by rw [List.length_drop]; have h2 := HML.out.1; have h3 := HW.out; omega
                refine ⟨?_, hl, fun z hz => HML.out.2 z (List.mem_of_mem_drop hz)⟩
                rw [← hA4]
                split
                · exact .inl (List.eq_nil_of_length_eq_zero (by have h3 := HW.out; omega))
                · have h5 := h0.dropAt j
                  rw [Nat.zero_add] at h5
                  exact h5)
              have HVQ : Hid (repE (bs rs) k p = 0 → repV (bs rs) k p = (M.drop 2).take q) := Lib.hid (fun h => by unfold repV; rw [if_pos h, HMD.out, HQ.out])
              obtain ⟨z, hz⟩ : ∃ z, zeros (M.drop j) = z := ⟨_, rfl⟩
              have HZ := Lib.hid hz
              have hzt : allz (M.drop j) = true ↔ z = t := by rw [allz_iff, ← zeros_all HA4.out.2.2, hz, HA4.out.2.1]
              rw [hj] at HK2
              clear hqW y0 y1 hj c6n h0 hz
              go_upto_region 14 with fail
              go_quiet (fail)
              rename Nat => nq2
              clear hA3 hA4 hq2 ht hc4 hc3 jw
              have HB7 : Hid (Below w.heap.size w ((w6.drewN nq1).drewN nq2)) := Lib.hid (below_drewN (below_drewN HB6.out _) _)
              have HA3' : Hid (Has .u8 ((w6.drewN nq1).drewN nq2) A3 ((M.drop 2).take q)) := Lib.hid HA3.out.1
              have HA4' : Hid (Has .u8 ((w6.drewN nq1).drewN nq2) A4 (M.drop j)) := Lib.hid HA4.out.1
              generalize (w6.drewN nq1).drewN nq2 = w7 at *
              have hx : ∀ v, (w7.alloc (.cells #[v] 5)).cell? ⟨w7.heap.size, 0, none⟩ = some v := fun v => (Lies.fresh w7 _ [v]).one.1
              have hbx : Below w7.heap.size w7 (w7.alloc (.cells #[.int .u8 0] 5)) := (Below.refl _ _).alloc (Nat.le_refl _) _
              have HBX := Lib.hid hbx
              have HX7 := Lib.hid (hx (.int .u8 0))
              clear hbx hx
              by_cases hze : z = t
              · have ez : ((z : Int) == (t : Int)) = true := by simp [hze]
                have ez2 : ((z : Int) != (t : Int)) = false := by simp [hze]
                have HX := Lib.hid (HK2.out 0 (by rw [if_neg (by have := HJ.out; omega), if_pos (hzt.2 hze)]))
                clear hze hzt
                go_wp2_with (first
                  | (go_at_call 32; refine (Count_any A4 t c4 _ 1 (M.drop j) _ (HA4'.out.below HBX.out (Nat.le_refl _)) HA4.out.2.1 HX7.out).mono ?_; rw [HZ.out]; rintro e w8 ⟨rfl, rfl⟩)
                  | (go_at_call 24; refine (Clone8 (HA3'.out.below HBX.out (Nat.le_refl _)) HA3.out.2 HQC.out.1 (by have := HQC.out; omega)).mono ?_; rintro e w9 ⟨A9, c9, rfl, hh9, ho9, hb9⟩))
                go_ret2
                rw [show rv = (M.drop 2).take q by rw [← HRV.out]; exact HVQ.out HX.out, show re = 0 by rw [← HRE.out]; exact HX.out, HA3.out.2]
                have hb8 := HB7.out.trans (HBX.out.mono HB7.out.size)
                exact ⟨A9, c9, rfl, ho9.mono hb8.size, hb8.trans (hb9.mono hb8.size)⟩
              · have ez : ((z : Int) == (t : Int)) = false := by simp; omega
                have ez2 : ((z : Int) != (t : Int)) = true := by simp; omega
                have HX := Lib.hid (HK2.out 12 (by rw [if_neg (by have := HJ.out; omega), if_neg (fun h => hze (hzt.1 h))]))
                clear hze hzt
                go_wp2_with (first
                  | (go_at_call 32; refine (Count_any A4 t c4 _ 1 (M.drop j) _ (HA4'.out.below HBX.out (Nat.le_refl _)) HA4.out.2.1 HX7.out).mono ?_; rw [HZ.out]; rintro e w8 ⟨rfl, rfl⟩))
                go_ret2
                rw [show rv = [] by rw [← HRV.out]; exact HVN.out 12 HX.out (by omega), show re = 12 by rw [← HRE.out]; exact HX.out]
                exact ⟨none, 0, rfl, .inr ⟨rfl, none, rfl⟩, HB7.out.trans (HBX.out.mono HB7.out.size)⟩
  · have HE := Lib.hid e4
    have HX : Hid (repE (bs rs) k p = 4) := Lib.hid (by unfold repE; rw [HE.out, if_pos (by simp)])
    rw [HVN.out 4 HX.out (by omega), HX.out]
    clear e4
    go_enter Try.func15, Try.ntmps15
    go_wp2_with (first | (go_at_call 31; refine (Without_any P m d k rs _ HR.out HM.out).mono ?_; rintro e w2 ⟨A2, c2, n2, rfl, hr2, hb2⟩; have HB2 := Lib.hid hb2; have HR2 := Lib.hid hr2; clear hb2 hr2) | (go_at_call 28; refine (checkG_any A2 n2 c2 _ _ HR2.out).mono ?_; rw [bs_oth, HE.out]; rintro e w3 ⟨rfl, hb3⟩; have HB3 := Lib.hid (HB2.out.trans (hb3.mono HB2.out.size)); have HR3 := Lib.hid (HR2.out.below hb3 (Nat.le_refl _)); clear hb3))
    go_ret2
    exact ⟨none, 0, rfl, .inr ⟨rfl, none, rfl⟩, HB3.out⟩
end Go.Proofs.Ytacllaeccdgnmaa.paW
