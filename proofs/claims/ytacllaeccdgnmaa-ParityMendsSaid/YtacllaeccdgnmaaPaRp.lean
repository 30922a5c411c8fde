/- The reference's Repair, by walks. -/
import Derived.Test.YtacllaeccdgnmaaPaR3
import Derived.Test.YtacllaeccdgnmaaPaW6
import Derived.Test.YtacllaeccdgnmaaPaPlain5
namespace Go.Proofs.Ytacllaeccdgnmaa.paW
set_option maxRecDepth 100000
open Go.RowKit Go.Proofs.Ytacllaeccdgnmaa.base Go.Proofs.Ytacllaeccdgnmaa.paP
set_option linter.unusedVariables false
set_option linter.unusedSimpArgs false
set_option maxRecDepth 100000
theorem oth_take_mem {rs : List R8} {k : Int} {q : Nat} {s : List Int} (h : s ∈ oth (bs (rs.take q)) k) : s ∈ bs rs := bs_take_mem (othR_mem h)
theorem allz_drop {l : List Int} {j : Nat} : allz (l.drop j) = true ↔ ∀ i, j ≤ i → i < l.length → l.getD i 0 = 0 := by
  rw [allz_iff]
  constructor
  · intro h i h1 h2
    have : l.getD i 0 = (l.drop j).getD (i - j) 0 := by simp [List.getD_eq_getElem?_getD, List.getElem?_drop, show j + (i - j) = i by omega]
    rw [this]
    refine h _ ?_
    rw [List.getD_eq_getElem?_getD, List.getElem?_eq_getElem (by rw [List.length_drop]; omega)]
    exact List.getElem_mem _
  · intro h z hz
    obtain ⟨i, hi, rfl⟩ := List.mem_iff_getElem.1 hz
    rw [List.length_drop] at hi
    have := h (j + i) (by omega) (by omega)
    rw [List.getD_eq_getElem?_getD, List.getElem?_eq_getElem (by omega)] at this
    rw [List.getElem_drop]
    exact this
set_option maxHeartbeats 4000000 in
theorem rRepair_any (P A : Option Addr) (m d n c : Nat) (k : Int) (rs : List R8) (p : List Int) (w : World) (hr : RowsB w P m d rs) (hm : m ≤ 16) (hk : -9223372036854775808 ≤ k ∧ k ≤ 9223372036854775807)
    (hp : Has .u8 w A p) (hn : p.length = n) (hc : n ≤ c) (hc2 : c ≤ 9223372036854775807) (bp : Byt p) :
    Calls Try.prog 27 #[.slice P m d, .int .i64 k, .slice A n c] w fun e w' => ∃ A c, e = .returned (.tuple #[.slice A (repV (bs rs) k p).length c, .int .i64 (repE (bs rs) k p)]) ∧ OwnZ w' w.heap.size (.slice A (repV (bs rs) k p).length c) (repV (bs rs) k p) ∧ Below w.heap.size w w' := by
  have HR := Lib.hid hr
  have HM := Lib.hid hm
  have HBL := Lib.hid (bs_len hr)
  have HP := Lib.hid hp
  have HN := Lib.hid (And.intro hn (And.intro hc (And.intro hc2 bp)))
  have m1 : (m : Int) ≤ 16 := by omega
  have n1 : (n : Int) ≤ 9223372036854775807 := by omega
  have n0 : 0 ≤ (n : Int) := by omega
  have k1 := hk.1
  have k2 := hk.2
  have hvn : ∀ x, repE (bs rs) k p = x → x ≠ 0 → repV (bs rs) k p = [] := fun x h hx => by unfold repV; rw [if_neg (by rw [h]; exact hx)]
  have HVN := Lib.hid hvn
  have hol := oth_len (bs rs) k
  rw [HBL.out] at hol
  have c16 : ¬ (16 : Int) < m := by omega
  clear hr hp hn hc hc2 bp hvn hk
  by_cases e5 : 5000 < wd (oth (bs rs) k)
  · have HLG : Hid (decide (5000 < wd (oth (bs rs) k)) = true) := Lib.hid (decide_eq_true e5)
    have HX : Hid (repE (bs rs) k p = 4) := Lib.hid (by unfold repE; rw [if_pos (by unfold gE; rw [if_pos (.inr e5)]; simp)])
    rw [HVN.out 4 HX.out (by omega), HX.out]
    clear e5 hol hm
    go_enter Try.func27, Try.ntmps27
    go_wp2_with (go_at_call 34; refine (long_any P m d k rs _ HR.out).mono ?_; rw [HLG.out]; rintro e w2 ⟨rfl, rfl⟩)
    go_ret2
    exact ⟨none, 0, rfl, .inr ⟨rfl, none, rfl⟩, Below.refl _ _⟩
  have HLG : Hid (decide (5000 < wd (oth (bs rs) k)) = false) := Lib.hid (decide_eq_false e5)
  have HE : Hid (gE (oth (bs rs) k) = 0) := Lib.hid (by unfold gE; rw [if_neg (by omega)])
  clear e5 hol
  by_cases hk : k < 0 ∨ (m : Int) ≤ k
  · have HX : Hid (repE (bs rs) k p = 2) := Lib.hid (by unfold repE; rw [HE.out, if_neg (by simp), HBL.out, if_pos hk])
    rw [HVN.out 2 HX.out (by omega), HX.out]
    by_cases hk0 : k < 0
    · clear hk hm
      go_enter Try.func27, Try.ntmps27
      go_wp2_with (go_at_call 34; refine (long_any P m d k rs _ HR.out).mono ?_; rw [HLG.out]; rintro e w2 ⟨rfl, rfl⟩)
      go_ret2
      exact ⟨none, 0, rfl, .inr ⟨rfl, none, rfl⟩, Below.refl _ _⟩
    · have hk1 : (m : Int) ≤ k := by omega
      clear hk hm
      go_enter Try.func27, Try.ntmps27
      go_wp2_with (go_at_call 34; refine (long_any P m d k rs _ HR.out).mono ?_; rw [HLG.out]; rintro e w2 ⟨rfl, rfl⟩)
      go_ret2
      exact ⟨none, 0, rfl, .inr ⟨rfl, none, rfl⟩, Below.refl _ _⟩
  have k3 : ¬ k < 0 := by omega
  have k4 : ¬ (m : Int) ≤ k := by omega
  have HK : Hid (∀ x, (if p.length < 2 ∨ 5002 < p.length ∨ p.length - 2 < wd (oth (bs rs) k) then (12 : Int)
      else if p.length - 2 < lenP (madeP (bs rs) k p) then 12
      else if allz ((madeP (bs rs) k p).drop (2 + lenP (madeP (bs rs) k p))) = true then 0 else 12) = x → repE (bs rs) k p = x) := Lib.hid (fun x h => by
    unfold repE; rw [HE.out, if_neg (by simp), HBL.out, if_neg hk]; exact h)
  clear hk
  by_cases hn2 : n < 2
  · have n2 : (n : Int) < 2 := by omega
    have HX := Lib.hid (HK.out 12 (by rw [if_pos (by have := HN.out.1; omega)]))
    rw [HVN.out 12 HX.out (by omega), HX.out]
    clear hn2 hm
    go_enter Try.func27, Try.ntmps27
    go_wp2_with (go_at_call 34; refine (long_any P m d k rs _ HR.out).mono ?_; rw [HLG.out]; rintro e w2 ⟨rfl, rfl⟩)
    go_ret2
    exact ⟨none, 0, rfl, .inr ⟨rfl, none, rfl⟩, Below.refl _ _⟩
  have n2 : ¬ (n : Int) < 2 := by omega
  by_cases hn3 : 5002 < n
  · have n3 : (5002 : Int) < n := by omega
    have HX := Lib.hid (HK.out 12 (by rw [if_pos (by have := HN.out.1; omega)]))
    rw [HVN.out 12 HX.out (by omega), HX.out]
    clear hn2 hn3 hm
    go_enter Try.func27, Try.ntmps27
    go_wp2_with (go_at_call 34; refine (long_any P m d k rs _ HR.out).mono ?_; rw [HLG.out]; rintro e w2 ⟨rfl, rfl⟩)
    go_ret2
    exact ⟨none, 0, rfl, .inr ⟨rfl, none, rfl⟩, Below.refl _ _⟩
  have n3 : ¬ (5002 : Int) < n := by omega
  obtain ⟨W, hW⟩ : ∃ W, n = W + 2 := ⟨n - 2, by omega⟩
  have HW := Lib.hid (And.intro hW (show W ≤ 5000 by omega))
  have nw : IntKind.i64.wrap ((n : Int) - 2) = (W : Int) := by rw [show (n : Int) - 2 = W by omega]; exact IntWalk.i64_in _ (by omega)
  have f5 : (W : Int) ≤ 5000 := by omega
  have f6 : 0 ≤ (W : Int) := by omega
  have HK2 : Hid (∀ x, (if W < wd (oth (bs rs) k) then (12 : Int) else if W < lenP (madeP (bs rs) k p) then (12 : Int) else if allz ((madeP (bs rs) k p).drop (2 + lenP (madeP (bs rs) k p))) = true then 0 else 12) = x → repE (bs rs) k p = x) := Lib.hid (fun x h => HK.out x (by
    have h1 := HN.out.1
    have e : p.length - 2 = W := by omega
    rw [e]
    by_cases hh : W < wd (oth (bs rs) k)
    · rw [if_pos (by omega)]; rw [if_pos hh] at h; exact h
    · rw [if_neg (by omega)]; rw [if_neg hh] at h; exact h))
  obtain ⟨rv, hrv⟩ : ∃ rv, repV (bs rs) k p = rv := ⟨_, rfl⟩
  obtain ⟨re, hre⟩ : ∃ re, repE (bs rs) k p = re := ⟨_, rfl⟩
  have HRV := Lib.hid hrv
  have HRE := Lib.hid hre
  rw [hrv, hre]
  have HE3 : Hid (Below w.heap.size w (w.alloc (.cells #[] 5))) := Lib.hid ((Below.refl _ _).alloc (Nat.le_refl _) _)
  have HN5 : Hid (n ≤ 5002 ∧ 2 ≤ n) := Lib.hid (by omega)
  clear hn2 hn3 hm hW hrv hre
  go_enter Try.func27, Try.ntmps27
  go_wp2_with (first | (go_at_call 34; refine (long_any P m d k rs _ HR.out).mono ?_; rw [HLG.out]; rintro e w2 ⟨rfl, rfl⟩) | (at_builtin; go_loud (refine clone8 rfl _ _ rfl (some ⟨w2.heap.size, 0, none⟩) rfl A _ _ p rfl HN.out.1 (HP.out.below HE3.out (Nat.le_refl _)) (by have := HN5.out; omega) ?_); intro A3 c3 w3 hh3 hb3 ho3))
  have HO3 : Hid (OwnI w3 w2.heap.size 5 .u8 (.slice A3 n c3) p ∧ Below w2.heap.size w2 w3) := Lib.hid (by
    rcases ho3 with ⟨h1, _⟩ | h1
    · have h2 := HN.out.1; have h3 := HN5.out.2; rw [h1] at h2; simp at h2; omega
    · exact ⟨h1.mono HE3.out.size, HE3.out.trans (hb3.mono HE3.out.size)⟩)
  clear hh3 hb3 ho3
  go_loopw [8, 9] (fun a i wr => ∃ (q c' : Nat) (A' : Option Addr), q ≤ m ∧ i = .int .i64 (q : Int) ∧ a = .slice A' n c' ∧ OwnI wr w2.heap.size 5 .u8 (.slice A' n c') (mixL W p (oth (bs (rs.take q)) k)) ∧ (∀ s ∈ oth (bs (rs.take q)) k, s.length ≤ W) ∧ Below w2.heap.size w2 wr) (fun _ i _ => m - (intOf i).toNat)
  case atStart => exact ⟨0, c3, A3, Nat.zero_le _, rfl, rfl, by rw [List.take_zero, show oth (bs ([] : List R8)) k = [] by show othR [] k = []; unfold othR; split <;> simp]; exact HO3.out.1, by rw [List.take_zero, show oth (bs ([] : List R8)) k = [] by show othR [] k = []; unfold othR; split <;> simp]; simp, HO3.out.2⟩
  case round =>
    obtain ⟨q, c', A', hq, rfl, rfl, own, hall, acc⟩ := hrel
    have HO := Lib.hid own
    have HAL := Lib.hid hall
    have HA := Lib.hid acc
    by_cases hlt : q < m
    · have q1 : (q : Int) < m := by omega
      have q0 : 0 ≤ (q : Int) := by omega
      have HQ := Lib.hid hlt
      have hqr : q < rs.length := by rw [HR.out.l]; exact hlt
      have hS := bs_oth' rs k q hqr
      obtain ⟨b, off, rfl, hb, hc⟩ := rb_cell HR.out hlt
      have c1 : wr.cell? ⟨b, off + q, none⟩ = some (.slice (rs.getD q r80).A (rs.getD q r80).n (rs.getD q r80).c) := by rw [acc.cell (p := ⟨b, off + q, none⟩) hb]; exact hc q hlt
      have hin := HR.out.h.get q hqr
      obtain ⟨r, hrr⟩ : ∃ r, rs.getD q r80 = r := ⟨_, rfl⟩
      rw [hrr] at c1 hin hS
      obtain ⟨rA, rn, rc, rb⟩ := r
      dsimp only at c1 hS
      have HI := Lib.hid hin
      have HRN : Hid (rb.length = rn) := Lib.hid hin.e
      have HML : Hid ((mixL W p (oth (bs (rs.take q)) k)).length = n ∧ Byt (mixL W p (oth (bs (rs.take q)) k))) := Lib.hid
        ⟨by rw [HW.out.1]; exact mixL_len (by rw [HN.out.1, HW.out.1]) hall, mixL_byt (by have := HW.out; omega) HN.out.2.2.2 fun s hs => ⟨bs_byt HR.out s (oth_take_mem hs), hall s hs⟩⟩
      have hot := oth_take_le (bs rs) k (q + 1)
      rw [← bs_take', hS] at hot
      have HOT := Lib.hid hot
      have HS := Lib.hid hS
      clear hlt hq hqr hS hc hb hin hrr own hall acc hot
      by_cases hqk : (q : Int) = k
      · have e1 : ((q : Int) == k) = true := by simpa using hqk
        have HS2 : Hid (oth (bs (rs.take (q + 1))) k = oth (bs (rs.take q)) k) := Lib.hid (by rw [HS.out, if_pos hqk])
        clear hqk
        go_wp2_with fail
        go_roundw
        case rel => exact ⟨q + 1, c', A', HQ.out, by go_num, rfl, by rw [HS2.out]; exact HO.out, by rw [HS2.out]; exact HAL.out, HA.out⟩
        case measure => simp [intOf]; have := HQ.out; omega
      · have e1 : ((q : Int) == k) = false := by simpa using hqk
        have HS2 : Hid (oth (bs (rs.take (q + 1))) k = oth (bs (rs.take q)) k ++ [rb]) := Lib.hid (by rw [HS.out, if_neg hqk])
        have hot2 := HOT.out
        rw [if_neg hqk, wd_snoc] at hot2
        by_cases hrW : W < rn
        · have f7 : (W : Int) < rn := by omega
          have HX := Lib.hid (HK2.out 12 (by rw [if_pos (by have := HRN.out; omega)]))
          clear hqk hrW hot2
          go_wp2_with fail
          go_ret2
          rw [show rv = [] by rw [← HRV.out]; exact HVN.out 12 HX.out (by omega), show re = 12 by rw [← HRE.out]; exact HX.out]
          exact ⟨none, 0, rfl, .inr ⟨rfl, none, rfl⟩, HA.out⟩
        · have f7 : ¬ (W : Int) < rn := by omega
          have HWL : Hid (rb.length ≤ W) := Lib.hid (by have := HRN.out; omega)
          clear hqk hrW hot2
          go_wp2_with (first
            | (go_at_call 37; refine (framed_any rA rn rc W rb wr (HI.out.h.below HA.out (Nat.le_refl _)) HRN.out HI.out.c1 (by have := HWL.out; have := HW.out; have := HRN.out; omega) (by have := HW.out; omega)).mono ?_; rw [fr_len HWL.out, ← HW.out.1]; rintro e w6 ⟨g6, c6, rfl, ho6, hb6⟩; have HO6 := Lib.hid ho6; have HB6 := Lib.hid hb6; clear ho6 hb6)
            | (go_at_call 36; refine (mixed_any A' _ n c' c6 _ (fr rb W) w6 (HO.out.has.below HB6.out (Nat.le_refl _)) HO6.out.has HML.out.1 (by rw [fr_len HWL.out, ← HW.out.1]) (by have := HN5.out; omega) HML.out.2 (fr_byt HI.out.b (by have h1 := HWL.out; have := HW.out; show rb.length ≤ 65535; omega))).mono ?_; rintro e w7 ⟨A7, c7, rfl, ho7, hb7⟩; have HO7 := Lib.hid ho7; have HB7 := Lib.hid hb7; clear ho7 hb7))
          go_roundw
          case rel =>
            have hb6 : Below w2.heap.size w2 w6 := HA.out.trans (HB6.out.mono HA.out.size)
            exact ⟨q + 1, c7, A7, HQ.out, by go_num, rfl, by rw [HS2.out, mixL_snoc]; exact HO7.out.mono hb6.size, by
              rw [HS2.out]
              intro s hs
              rcases List.mem_append.1 hs with hs | hs
              · exact HAL.out s hs
              · rw [List.mem_singleton.1 hs]; exact HWL.out, hb6.trans (HB7.out.mono hb6.size)⟩
          case measure => simp [intOf]; have := HQ.out; omega
    · obtain rfl : q = m := by omega
      have q1 : ¬ (q : Int) < q := by omega
      have hE : rs.take q = rs := List.take_of_length_le (by rw [HR.out.l]; exact Nat.le_refl _)
      rw [hE] at own hall
      have hmd : mixL W p (oth (bs rs) k) = madeP (bs rs) k p := by unfold madeP; rw [show p.length - 2 = W by have h1 := HN.out.1; have h2 := HW.out; omega]
      have hml : (mixL W p (oth (bs rs) k)).length = W + 2 := mixL_len (by have h1 := HN.out.1; have h2 := HW.out; omega) hall
      have hmb : Byt (mixL W p (oth (bs rs) k)) := mixL_byt (by have h2 := HW.out; omega) HN.out.2.2.2 fun s hs => ⟨bs_byt HR.out s (othR_mem hs), hall s hs⟩
      have hww : ¬ W < wd (oth (bs rs) k) := by have := wd_most hall; omega
      have HK3 : Hid (∀ x, (if W < lenP (madeP (bs rs) k p) then (12 : Int) else if allz ((madeP (bs rs) k p).drop (2 + lenP (madeP (bs rs) k p))) = true then 0 else 12) = x → repE (bs rs) k p = x) := Lib.hid (fun x h => HK2.out x (by rw [if_neg hww]; exact h))
      rw [hmd] at own hml hmb
      obtain ⟨M, hM⟩ : ∃ M, madeP (bs rs) k p = M := ⟨_, rfl⟩
      rw [hM] at own hml hmb HK3
      have HO2 := Lib.hid own
      have HA2 := Lib.hid acc
      have HMD := Lib.hid hM
      have HML := Lib.hid (And.intro hml hmb)
      obtain ⟨a, b, ha, hb0, a1, b1, hab⟩ := front_bytes hmb
      obtain ⟨u, hu⟩ : ∃ u, lenP M = u := ⟨_, rfl⟩
      rw [hu] at HK3
      have HU := Lib.hid hu
      have g2 : IntKind.i64.wrap (256 * (a : Int)) = 256 * (a : Int) := IntWalk.i64_in _ (by omega)
      have g1 : IntKind.i64.wrap (256 * (a : Int) + (b : Int)) = (u : Int) := by rw [show 256 * (a : Int) + (b : Int) = (u : Int) by omega]; exact IntWalk.i64_in _ (by omega)
      have g3 : (a : Int) ≤ 255 := by omega
      have g4 : 0 ≤ (a : Int) := by omega
      have g5 : (b : Int) ≤ 255 := by omega
      have g6 : 0 ≤ (b : Int) := by omega
      have g7 : (u : Int) ≤ 65535 := by omega
      have g8 : 0 ≤ (u : Int) := by omega
      have n4 : (0 : Int) < n := by have h2 := HW.out; omega
      have n5 : (1 : Int) < n := by have h2 := HW.out; omega
      obtain ⟨g, rfl, -, -, -⟩ := own.form (by intro e; rw [e] at hml; simp at hml)
      have y0 := own.cell 0 (by omega)
      have y1 := own.cell 1 (by omega)
      rw [ha] at y0
      rw [hb0] at y1
      clear hlt hq own hall acc hE hmd hml hmb hww hM ha hb0 a1 b1 hab hu HO HAL HA HK HK2
      go_upto_region 15 with fail
      go_quiet (fail)
      rename Nat => nq1
      by_cases huW : W < u
      · have f8 : (W : Int) < u := by omega
        have HX := Lib.hid (HK3.out 12 (by rw [if_pos huW]))
        clear huW y0 y1
        go_wp2_with fail
        go_ret2
        rw [show rv = [] by rw [← HRV.out]; exact HVN.out 12 HX.out (by omega), show re = 12 by rw [← HRE.out]; exact HX.out]
        exact ⟨none, 0, rfl, .inr ⟨rfl, none, rfl⟩, below_drewN HA2.out _⟩
      · have f8 : ¬ (W : Int) < u := by omega
        obtain ⟨j, hj⟩ : ∃ j, 2 + u = j := ⟨_, rfl⟩
        have jw : IntKind.i64.wrap ((u : Int) + 2) = (j : Int) := by rw [show (u : Int) + 2 = j by omega]; exact IntWalk.i64_in _ (by omega)
        have HJ := Lib.hid (And.intro hj (show u ≤ W by omega))
        rw [hj] at HK3
        have HO7 : Hid (OwnI (wr.drewN nq1) w2.heap.size 5 .u8 (.slice (some ⟨g, 0, none⟩) n c') M) := Lib.hid HO2.out
        have HA7 : Hid (Below w2.heap.size w2 (wr.drewN nq1)) := Lib.hid (below_drewN HA2.out _)
        have HC6 : Hid (n ≤ c') := Lib.hid (by
          obtain ⟨A', cap', e, _, h3, _⟩ := HO2.out.val
          injection e with _ e2 e3
          rw [e3, e2]; exact h3)
        have HVQ : Hid (repE (bs rs) k p = 0 → repV (bs rs) k p = (M.drop 2).take u) := Lib.hid (fun h => by unfold repV; rw [if_pos h, HMD.out, HU.out])
        clear huW y0 y1 hj
        generalize wr.drewN nq1 = w7 at *
        go_upto_region 19 with fail
        go_loopw [11] (fun i wz => ∃ x : Nat, j ≤ x ∧ x ≤ n ∧ i = .int .i64 (x : Int) ∧ (∀ y, j ≤ y → y < x → M.getD y 0 = 0) ∧ wz = w7) (fun i _ => n - (intOf i).toNat)
        case atStart => exact ⟨j, Nat.le_refl _, by have := HJ.out; have := HW.out; omega, rfl, fun y h1 h2 => by omega, rfl⟩
        case round =>
          obtain ⟨x, hx1, hx2, rfl, hz, hwz⟩ := hrel
          rename World => wz
          subst hwz
          have HZ := Lib.hid (And.intro hx1 hz)
          by_cases hlt : x < n
          · have q1 : (x : Int) < n := by omega
            have q0 : 0 ≤ (x : Int) := by omega
            have HL := Lib.hid hlt
            have y2 := HO7.out.cell x (by rw [HML.out.1]; have := HW.out; omega)
            obtain ⟨v, hv⟩ : ∃ v, M.getD x 0 = v := ⟨_, rfl⟩
            rw [hv] at y2
            have HVV := Lib.hid hv
            clear hlt hx1 hx2 hz hv
            by_cases hv0 : v = 0
            · subst hv0
              go_wp2_with fail
              go_roundw
              case rel => exact ⟨x + 1, by have := HZ.out.1; omega, HL.out, by go_num, fun y h1 h2 => by
                rcases Nat.lt_or_ge y x with h | h
                · exact HZ.out.2 y h1 h
                · obtain rfl : y = x := by omega
                  exact HVV.out, by trivial⟩
              case measure => simp [intOf]; have := HL.out; omega
            · have v1 : (v == 0) = false := by simpa using hv0
              have v2 : (v != 0) = true := by simp [bne, v1]
              have HX := Lib.hid (HK3.out 12 (by
                rw [if_neg (by have := HJ.out; omega), if_neg]
                intro h
                have h1 := allz_drop.1 h x HZ.out.1 (by rw [HML.out.1]; have := HW.out; have := HL.out; omega)
                rw [HVV.out] at h1
                exact hv0 h1))
              clear hv0
              go_wp2_with fail
              go_ret2
              rw [show rv = [] by rw [← HRV.out]; exact HVN.out 12 HX.out (by omega), show re = 12 by rw [← HRE.out]; exact HX.out]
              exact ⟨none, 0, rfl, .inr ⟨rfl, none, rfl⟩, HA7.out⟩
          · obtain rfl : x = n := by omega
            have q1 : ¬ (x : Int) < x := by omega
            have HX := Lib.hid (HK3.out 0 (by
              rw [if_neg (by have := HJ.out; omega), if_pos]
              exact allz_drop.2 fun y h1 h2 => hz y h1 (by rw [HML.out.1] at h2; have := HW.out; omega)))
            obtain ⟨A3, hA3⟩ : ∃ A3, (if c' = 2 then some (⟨g, 0, none⟩ : Addr) else some ⟨g, 2, none⟩) = A3 := ⟨_, rfl⟩
            have hq2 : j - 2 = u := by have := HJ.out; omega
            have j1 : (j : Int) ≤ c' := by have := HC6.out; omega
            have j2 : (2 : Int) ≤ j := by have := HJ.out; omega
            have j3 : j ≤ c' := by have := HC6.out; omega
            have j4 : 2 ≤ j := by have := HJ.out; omega
            have HA3 : Hid (Has .u8 wz A3 ((M.drop 2).take u) ∧ ((M.drop 2).take u).length = u) := Lib.hid (by
              have hl : ((M.drop 2).take u).length = u := by rw [List.length_take, List.length_drop, HML.out.1]; have := HJ.out; omega
              refine ⟨?_, hl⟩
              rw [← hA3]
              split
              · exact .inl (List.eq_nil_of_length_eq_zero (by have := HC6.out; have := HW.out; have := HJ.out; omega))
              · exact (HO7.out.has.dropAt 2).front u)
            have HE7 : Hid (Below wz.heap.size wz (wz.alloc (.cells #[] 5))) := Lib.hid ((Below.refl _ _).alloc (Nat.le_refl _) _)
            clear hlt hx1 hx2 hz
            go_wp2_with (at_builtin; go_loud (refine clone8 rfl _ _ rfl (some ⟨wz.heap.size, 0, none⟩) rfl A3 _ _ ((M.drop 2).take u) rfl HA3.out.2 (HA3.out.1.below HE7.out (Nat.le_refl _)) (by have := HJ.out; have := HW.out; omega) ?_); intro A9 c9 w9 hh9 hb9 ho9)
            go_ret2
            rw [show rv = (M.drop 2).take u by rw [← HRV.out]; exact HVQ.out HX.out, show re = 0 by rw [← HRE.out]; exact HX.out, HA3.out.2]
            have hb8 := HA7.out.trans (HE7.out.mono HA7.out.size)
            refine ⟨A9, c9, rfl, ?_, hb8.trans (hb9.mono hb8.size)⟩
            rcases ho9 with ⟨h1, rfl, rfl, rfl⟩ | h1
            · exact .inr ⟨h1, _, by rw [← HA3.out.2, h1]; rfl⟩
            · exact .inl (h1.mono hb8.size)
end Go.Proofs.Ytacllaeccdgnmaa.paW
