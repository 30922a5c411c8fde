/- ParityTells, by a walk. -/
import Derived.Test.YtacllaeccdgnmaaPaA
import Derived.Test.YtacllaeccdgnmaaPaPlain5
import Derived.BigQuiet
namespace Go.Proofs.Ytacllaeccdgnmaa.paL
set_option maxRecDepth 100000
open Go.RowKit Go.Proofs.Ytacllaeccdgnmaa.base Go.Proofs.Ytacllaeccdgnmaa.paP Go.Proofs.Ytacllaeccdgnmaa.paW
set_option linter.unusedVariables false
set_option linter.unusedSimpArgs false
set_option maxRecDepth 100000
theorem inr_of {w : World} {a : Option Addr} {len cap : Nat} {z : List Int} (h : IsRow .u8 w a len cap z) : InR w ⟨a, len, cap, z.take len⟩ := by
  obtain ⟨q1, q2, q3, q4⟩ := has_of_row h
  have q5 := h
  refine ⟨q1, q2, ?_, ?_, fun z hz => bounds_u8 (q4 z hz)⟩
  · show len ≤ cap
    rcases h with ⟨_, rfl, rfl, _⟩ | ⟨x, _, h, _⟩
    · exact Nat.le_refl _
    · exact h
  · show cap ≤ 9223372036854775807
    rcases h with ⟨_, rfl, rfl, _⟩ | ⟨x, _, _, h, _⟩
    · omega
    · unfold maxLen at h; omega
theorem bs_set (rs : List R8) (k : Nat) (r : R8) : bs (rs.set k r) = (bs rs).set k r.b := by unfold bs; rw [List.map_set]
set_option maxHeartbeats 4000000 in
theorem tells (P : Option Addr) (m d : Nat) (rs : List R8) (k : Int) (a : Option Addr) (len cap : Nat) (z : List Int) (w : World) (hr : RowsB w P m d rs) (hk1 : -9223372036854775808 ≤ k) (hk2 : k ≤ 9223372036854775807) (hz : IsRow .u8 w a len cap z) :
    Calls Try.prog 7 #[.slice P m d, .int .i64 k, .slice a len cap] w fun e w' => e = .returned (.bool true) ∧ Below w.heap.size w w' := by
  have hin := inr_of hz
  obtain ⟨p, hp⟩ : ∃ p, z.take len = p := ⟨_, rfl⟩
  rw [hp] at hin
  have HIN := Lib.hid hin
  have HR := Lib.hid hr
  have m1 : (m : Int) ≤ 9223372036854775807 := by have := hr.c1; have := hr.c2; omega
  have l1 : (len : Int) ≤ 9223372036854775807 := by have h1 := hin.c1; have h2 := hin.c2; dsimp only at h1 h2; omega
  have HK := Lib.hid (And.intro hk1 hk2)
  clear hz hp hin hr z
  go_enter Try.func7, Try.ntmps7
  go_wp2_with (go_at_call 17; refine (alive_yes _).mono ?_; rintro e w1 ⟨rfl, hb1⟩; have HB1 := Lib.hid hb1; clear hb1)
  refine (fit_any P m d rs w1 (HR.out.below HB1.out (Nat.le_refl _))).mono ?_
  rintro e w2 ⟨⟨b, rfl, hb⟩, hb2⟩
  have HB2 := Lib.hid (HB1.out.trans (hb2.mono HB1.out.size))
  clear hb2
  rcases b with _ | _
  · go_wp2_with fail
    go_ret
    exact ⟨rfl, HB2.out⟩
  have HG := Lib.hid (hb rfl)
  clear hb
  by_cases k0 : k < 0
  · go_wp2_with fail
    go_ret
    exact ⟨rfl, HB2.out⟩
  by_cases k1 : (m : Int) ≤ k
  · go_wp2_with fail
    go_ret
    exact ⟨rfl, HB2.out⟩
  by_cases l6 : 600 < (len : Int)
  · go_wp2_with fail
    go_ret
    exact ⟨rfl, HB2.out⟩
  obtain ⟨q, rfl⟩ := Int.eq_ofNat_of_zero_le (by omega : 0 ≤ k)
  have HQ : Hid (q < m ∧ m ≤ 16 ∧ len ≤ 600 ∧ p.length = len) := Lib.hid (by
    have h1 := HG.out
    have h2 := bs_len HR.out
    have h3 := HIN.out.e
    dsimp only at h3
    unfold gE at h1
    split at h1
    · omega
    · exact ⟨by omega, by omega, by omega, h3⟩)
  have HBL := Lib.hid (bs_len HR.out)
  go_wp2_with fail
  refine (Repair_any P a m d len cap (q : Int) rs p w2 (HR.out.below HB2.out (Nat.le_refl _)) (by have := HQ.out; omega) HK.out (HIN.out.h.below HB2.out (Nat.le_refl _)) HIN.out.e HIN.out.c1 HIN.out.c2 HIN.out.b).mono ?_
  obtain ⟨rv, hrv⟩ : ∃ rv, repV (bs rs) (q : Int) p = rv := ⟨_, rfl⟩
  obtain ⟨re, hre⟩ : ∃ re, repE (bs rs) (q : Int) p = re := ⟨_, rfl⟩
  rw [hrv, hre]
  rintro e w3 ⟨A3, c3, rfl, ho3, hb3⟩
  have HB3 := Lib.hid (HB2.out.trans (hb3.mono HB2.out.size))
  have HO3 := Lib.hid (And.intro ho3.has (OwnZ.bounds ho3))
  clear hb3 ho3
  rcases repE_two p (by rw [HBL.out]; exact HQ.out.1) HG.out with e0 | e12
  rotate_left
  · obtain rfl : re = 12 := by rw [← hre]; exact e12
    obtain rfl : rv = [] := by rw [← hrv]; unfold repV; rw [if_neg (by omega)]
    clear hrv hre e12
    go_wp2_with fail
    go_ret
    exact ⟨rfl, HB3.out⟩
  obtain rfl : re = 0 := by rw [← hre]; exact e0
  obtain ⟨s, h1, h2, h3, h4, h5, h6⟩ := tells_at (p := p) (by rw [HBL.out]; exact HQ.out.1) HIN.out.b (bs_byt HR.out) e0
  obtain rfl : rv = s := by rw [← hrv]; exact h1
  have HS : Hid (Byt rv ∧ rv.length ≤ 5000) := Lib.hid ⟨h2, by have := HQ.out; omega⟩
  obtain ⟨l', hl'⟩ : ∃ l', (bs rs).set q rv = l' := ⟨_, rfl⟩
  rw [hl'] at h5 h6
  have HL' := Lib.hid hl'
  have HGS : Hid (gE l' = 0) := Lib.hid (by rw [← hl']; exact gE_set HG.out HS.out.2)
  have HT := Lib.hid (And.intro h3 (And.intro h5 h6))
  clear hrv hre e0 h1 h2 h3 h4 h5 h6 hl'
  obtain ⟨t, ht⟩ : ∃ t, rv.length = t := ⟨_, rfl⟩
  have HTL := Lib.hid ht
  rw [ht] at HO3 ⊢
  clear ht
  have HE3 : Hid (Below w3.heap.size w3 (w3.alloc (.cells #[] 36))) := Lib.hid ((Below.refl _ _).alloc (Nat.le_refl _) _)
  go_upto_region 8 with (at_builtin; go_loud (refine appZV rfl _ _ rfl (some ⟨w3.heap.size, 0, none⟩) rfl P m d rs rfl ((HR.out.below HB3.out (Nat.le_refl _)).below HE3.out (Nat.le_refl _)) (by have := HQ.out; omega) (by have := HQ.out; omega) ?_); intro A4 c4 w4 ho4 hb4)
  have HF := Lib.hid (ho4.form (by rw [HR.out.l]; have := HQ.out; omega))
  obtain ⟨g4, rfl, hg1, hg2, -, hg3, hg4⟩ := HF.out
  have hs4 := ho4.store q ⟨A3, t, c3, rv⟩
  have hb5 : Below w3.heap.size w3 (w4.setCell ⟨g4, q, none⟩ (.slice A3 t c3)) := Below.setCell (HE3.out.trans (hb4.mono HE3.out.size)) (Nat.le_trans HE3.out.size hg1) _
  have hq0 : (q : Int) < m := by have := HQ.out; omega
  have hq1 : 0 ≤ (q : Int) := by omega
  have hq2 := hg4 q (by rw [HR.out.l]; exact HQ.out.1)
  have hq3 := hg3 q
  have HR5 : Hid (RowsB (w4.setCell ⟨g4, q, none⟩ (.slice A3 t c3)) (some ⟨g4, 0, none⟩) m c4 (rs.set q ⟨A3, t, c3, rv⟩)) := Lib.hid (by
    refine OwnV.rows hs4 fun r hr => ?_
    rcases List.mem_or_eq_of_mem_set hr with hr | rfl
    · exact ((HR.out.h.all r hr).below HB3.out (Nat.le_refl _)).below hb5 (Nat.le_refl _)
    · have h1 := HO3.out.2
      exact ⟨HO3.out.1.below hb5 (Nat.le_refl _), HTL.out, h1.2.1, h1.2.2, HS.out.1⟩)
  have HB5 := Lib.hid (HB3.out.trans (hb5.mono HB3.out.size))
  have HBS : Hid (bs (rs.set q ⟨A3, t, c3, rv⟩) = l') := Lib.hid (by rw [bs_set]; exact HL'.out)
  clear hs4 hb5 hg1 hg2 hg3 hg4 ho4 hb4
  go_upto_region 9 with fail
  clear hq2 hq3
  generalize w4.setCell ⟨g4, q, none⟩ (.slice A3 t c3) = w5 at *
  go_wp2_with fail
  refine (Of_any _ m c4 _ _ HR5.out).mono ?_
  rw [HBS.out, HGS.out, show ofV l' = parP l' from (by unfold ofV; rw [if_pos HGS.out])]
  obtain ⟨Q, hQ⟩ : ∃ Q, parP l' = Q := ⟨_, rfl⟩
  have hQl : Q.length = wd l' + 2 := by rw [← hQ]; exact parP_len l'
  obtain ⟨n, hn⟩ : ∃ n, Q.length = n := ⟨_, rfl⟩
  have HT2 : Hid (p = Q ++ List.replicate (len - n) 0 ∧ n ≤ len ∧ 2 ≤ n) := Lib.hid (by
    have h1 := HT.out
    have h2 := HQ.out.2.2.2
    rw [hQ] at h1
    refine ⟨?_, by omega, by omega⟩
    have e : p.length - 2 - wd l' = len - n := by omega
    rw [← e]; exact h1.2.2)
  rw [hQ, hn]
  have HNL := Lib.hid hn
  clear hn hQl hQ
  rintro e w6 ⟨A6, c6, rfl, ho6, hb6⟩
  have HB6 := Lib.hid (HB5.out.trans (hb6.mono HB5.out.size))
  have HO6 := Lib.hid ho6.has
  have n2 : (n : Int) ≤ len := by have := HT2.out.2.1; omega
  have n3 : ¬ (n : Int) < 2 := by have := HT2.out.2.2; omega
  have n4 : ¬ (len : Int) < n := by omega
  have d1 : decide ((len : Int) < n) = false := decide_eq_false n4
  have d2 : decide ((n : Int) < 2) = false := decide_eq_false n3
  have d3 : decide (len < n) = false := decide_eq_false (by omega)
  have d4 : decide (n < 2) = false := decide_eq_false (by omega)
  clear ho6 hb6 n2
  go_wp2_with fail
  go_loopw [13] (fun i wr => ∃ j : Nat, j ≤ len ∧ i = .int .i64 (j : Int) ∧ Below w6.heap.size w6 wr) (fun i _ => len - (intOf i).toNat)
  case atStart => exact ⟨0, Nat.zero_le _, rfl, Below.refl _ _⟩
  case round =>
    obtain ⟨j, hj, rfl, acc⟩ := hrel
    have HA := Lib.hid acc
    by_cases hlt : j < len
    · have j1 : (j : Int) < len := by omega
      have j0 : 0 ≤ (j : Int) := by omega
      have HJ := Lib.hid hlt
      have hPL := HQ.out.2.2.2
      obtain ⟨b, off, rfl, hb, hc⟩ := has_some (zs := p) (HIN.out.h.below (HB6.out.trans (acc.mono HB6.out.size)) (Nat.le_refl _)) (by omega)
      have c1 := hc j (by omega)
      by_cases hjn : j < n
      · have j2 : (j : Int) < n := by omega
        have j3 : ¬ (n : Int) ≤ j := by omega
        have j4 : decide ((j : Int) < n) = true := decide_eq_true j2
        have j5 : decide ((n : Int) ≤ j) = false := decide_eq_false j3
        have j6 : decide (n ≤ j) = false := decide_eq_false (by omega)
        have j7 : decide (j < n) = true := decide_eq_true (by omega)
        obtain ⟨b2, off2, rfl, hb2, hc2⟩ := has_some (zs := Q) (HO6.out.below acc (Nat.le_refl _)) (by rw [HNL.out]; omega)
        have c2 := hc2 j (by rw [HNL.out]; exact hjn)
        have e : p.getD j 0 = Q.getD j 0 := by rw [HT2.out.1]; exact getD_app_l (by rw [HNL.out]; exact hjn)
        rw [e] at c1
        obtain ⟨x, hx⟩ : ∃ x, Q.getD j 0 = x := ⟨_, rfl⟩
        rw [hx] at c1 c2
        have x1 : (x == x) = true := by simp
        have x2 : (x != x) = false := by simp
        clear hj acc hlt hc hc2 hb hb2 hjn e hx hPL
        go_wp2_with fail
        go_quiet (fail)
        go_wp2_with fail
        go_roundw
        case rel => exact ⟨j + 1, HJ.out, by go_num, below_drewN HA.out _⟩
        case measure => simp [intOf]; have := HJ.out; omega
      · have j2 : ¬ (j : Int) < n := by omega
        have j3 : (n : Int) ≤ j := by omega
        have j4 : decide ((j : Int) < n) = false := decide_eq_false j2
        have j5 : decide ((n : Int) ≤ j) = true := decide_eq_true j3
        have j6 : decide (n ≤ j) = true := decide_eq_true (by omega)
        have j7 : decide (j < n) = false := decide_eq_false (by omega)
        have e : p.getD j 0 = 0 := by rw [HT2.out.1]; exact getD_app_z (by rw [HNL.out]; omega)
        rw [e] at c1
        clear hj acc hlt hc hb hjn e hPL
        go_wp2_with fail
        go_quiet (fail)
        go_wp2_with fail
        go_roundw
        case rel => exact ⟨j + 1, HJ.out, by go_num, below_drewN HA.out _⟩
        case measure => simp [intOf]; have := HJ.out; omega
    · obtain rfl : j = len := by omega
      have j1 : ¬ (j : Int) < j := by omega
      clear hj acc hlt
      go_wp2_with fail
      go_ret
      exact ⟨rfl, HB6.out.trans (HA.out.mono HB6.out.size)⟩
end Go.Proofs.Ytacllaeccdgnmaa.paL
