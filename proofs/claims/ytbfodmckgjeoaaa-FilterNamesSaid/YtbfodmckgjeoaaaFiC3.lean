/- Filters: Apply of the program, Undo of the reference, by walks. -/
import Derived.Test.YtbfodmckgjeoaaaFiC2
namespace Go.Proofs.Ytbfodmckgjeoaaa.fiW
set_option maxRecDepth 100000
open Go.RowKit Go.Proofs.Ytbfodmckgjeoaaa.base Go.Proofs.Ytbfodmckgjeoaaa.fiP
set_option linter.unusedVariables false
set_option linter.unusedSimpArgs false
set_option maxRecDepth 100000
set_option maxHeartbeats 2000000 in
theorem Apply_any (fs : List (Int × Int)) (A A2 : Option Addr) (n c m d : Nat) (b : List Int) (w : World) (h : InF w A n c fs) (hb : Ib w A2 m d b) :
    Calls Try.prog 17 #[.slice A n c, .slice A2 m d] w fun e w' => Res w' w.heap.size (appO fs b) (appE fs) e ∧ Below w.heap.size w w' := by
  (have HH := Lib.hid h; have HB := Lib.hid hb; have HN := Lib.hid h.e; have HM := Lib.hid hb.e; have m9 : (m : Int) ≤ 9223372036854775807 := (by have := hb.c1; have := hb.c2; omega); clear h hb)
  rcases chE_cases fs with h0 | h0
  · have HC := Lib.hid h0
    obtain ⟨hl4, hok⟩ := chE_zero h0
    have HL4 : Hid (n ≤ 4) := Lib.hid (by rw [← HN.out]; exact hl4)
    have n4 : (n : Int) ≤ 4 := by have := HL4.out; omega
    have HOK := Lib.hid hok
    by_cases hm : m ≤ 2000
    · have HO : Hid (appO fs b = some (appF fs b)) := Lib.hid (if_pos ⟨h0, by rw [HM.out]; exact hm⟩)
      have HML := Lib.hid hm
      have m8 : (m : Int) ≤ 2000 := by omega
      clear h0 hl4 hok hm
      go_enter Try.func17, Try.ntmps17
      (go_wp2_with fail; refine (checkChain_any fs A n c _ HH.out).mono ?_; rintro e w1 ⟨rfl, b1⟩; have HB1 := Lib.hid b1; clear b1)
      rw [HC.out]
      have HBI := Lib.hid (HB.out.below HB1.out)
      go_wp2_with fail
      refine (Clone8 (zs := b) HBI.out.h HM.out HBI.out.c1 (by have := HML.out; omega)).mono ?_
      rintro e w2 ⟨A3, c3, rfl, -, o3, b3⟩
      have HO3 := Lib.hid (OwnZ.le o3 HB1.out.size)
      have HB3 := Lib.hid (HB1.out.trans (b3.mono HB1.out.size))
      clear o3 b3
      go_wp2_with fail
      go_loopw [7, 24] (fun v j wr => ∃ (k t : Nat) (B : Option Addr) (e : Nat), k ≤ n ∧ j = .int .i64 k ∧ v = .slice B t e ∧ (appF (fs.take k) b).length = t ∧ OwnZ wr w.heap.size (.slice B t e) (appF (fs.take k) b) ∧ Below w.heap.size w wr) (fun _ j _ => n - (intOf j).toNat)
      case atStart => exact ⟨0, m, A3, c3, Nat.zero_le _, rfl, rfl, HM.out, HO3.out, HB3.out⟩
      case round =>
        obtain ⟨k, t, B, e, hk, rfl, rfl, ht, oz, acc⟩ := hrel
        have HT := Lib.hid ht
        have HZ := Lib.hid oz
        have HACC := Lib.hid acc
        by_cases hlt : k < n
        · (have hp := HH.out.below acc; obtain ⟨bb, off, rfl, hbb, hc⟩ := hp.at_ hlt; obtain ⟨p0, p1⟩ := hc k hlt; have HOKF := Lib.hid (okC_at (k := k) (by rw [HN.out]; exact hlt) HOK.out))
          have k1 : (k : Int) < n := by omega
          have k2 : k < n := hlt
          have HLT := Lib.hid hlt
          have HS := Lib.hid (app_step (b := b) (by rw [HN.out]; exact hlt))
          have HTL : Hid (t ≤ 10125) := Lib.hid (by rw [← ht]; exact appF_take_short k (by rw [HN.out]; exact HL4.out) (by rw [HM.out]; exact HML.out))
          have HIB := Lib.hid (ib_ownz oz ht (appF_bd HB.out.bd))
          have e5 : fs.getD k (0, 0) = ((fs.getD k (0, 0)).1, (fs.getD k (0, 0)).2) := rfl
          rw [e5] at HOKF HS
          generalize (fs.getD k (0, 0)).1 = q at *
          generalize (fs.getD k (0, 0)).2 = u at *
          have HONE : Hid (oneO (q, u) (appF (fs.take k) b) = some (appF (fs.take (k + 1)) b)) := Lib.hid (by rw [HS.out]; exact if_pos ⟨HOKF.out, by rw [HT.out]; exact HTL.out⟩)
          clear hk ht oz acc hlt hc hbb hp e5
          go_wp2_with fail
          refine (One_any q u (appF (fs.take k) b) B t e _ (HIB.out.below (fi_box wr q u))).mono ?_
          rintro e3 w3 ⟨⟨s, A4, c4, hs, rfl, o4⟩ | ⟨hs, rfl⟩, b4⟩
          · rw [HONE.out] at hs
            injection hs with hs
            subst hs
            obtain ⟨t4, ht4⟩ : ∃ t4, (appF (fs.take (k + 1)) b).length = t4 := ⟨_, rfl⟩
            rw [ht4] at o4 ⊢
            have HT4 := Lib.hid ht4
            have HO4 := Lib.hid (OwnZ.le o4 (show w.heap.size ≤ (wr.alloc (.cells #[.int .u8 q, .int .i64 u] 23)).heap.size by have := HACC.out.size; simp; omega))
            have HB4 := Lib.hid (HACC.out.trans (((fi_box wr q u).trans (b4.mono (by simp))).mono HACC.out.size))
            clear ht4 o4 b4 p0 p1
            go_wp2_with fail
            go_roundw
            case rel => exact ⟨k + 1, t4, A4, c4, HLT.out, by go_num, rfl, HT4.out, HO4.out, HB4.out⟩
            case measure => simp [intOf]; have := HLT.out; omega
          · rw [HONE.out] at hs; cases hs
        · obtain rfl : k = n := by omega
          have k1 : ¬ (k : Int) < k := by omega
          have e6 : fs.take k = fs := List.take_of_length_le (by rw [HN.out]; omega)
          rw [e6] at HT HZ
          clear hk ht oz acc hlt e6
          go_wp2_with fail
          go_ret2
          exact ⟨Res.some HO.out HT.out HZ.out, HACC.out⟩
    · have HO : Hid (appO fs b = none) := Lib.hid (if_neg (fun hh => hm (by rw [← HM.out]; exact hh.2)))
      have HE : Hid (4 = appE fs) := Lib.hid (by unfold appE; rw [if_pos h0])
      have m8 : (2000 : Int) < m := by omega
      clear h0 hl4 hok hm
      go_enter Try.func17, Try.ntmps17
      (go_wp2_with fail; refine (checkChain_any fs A n c _ HH.out).mono ?_; rintro e w1 ⟨rfl, b1⟩; have HB1 := Lib.hid b1; clear b1)
      rw [HC.out]
      go_wp2_with fail
      go_ret2
      exact ⟨Res.none HO.out HE.out, HB1.out⟩
  · have HO : Hid (appO fs b = none) := Lib.hid (if_neg (fun hh => by omega))
    have HE : Hid (chE fs = appE fs) := Lib.hid (by unfold appE; rw [if_neg (by omega)])
    obtain ⟨v, hv⟩ : ∃ v, chE fs = v := ⟨_, rfl⟩
    rw [hv] at h0 HE
    have hne : (v != 0) = true := by simpa using (show v ≠ 0 by omega)
    have HV := Lib.hid hv
    clear h0 hv
    go_enter Try.func17, Try.ntmps17
    (go_wp2_with fail; refine (checkChain_any fs A n c _ HH.out).mono ?_; rintro e w1 ⟨rfl, b1⟩; have HB1 := Lib.hid b1; clear b1)
    rw [HV.out]
    go_wp2_with fail
    go_ret2
    exact ⟨Res.none HO.out HE.out, HB1.out⟩
theorem und_get {fs : List (Int × Int)} {b s : List Int} (h : undF fs b = some s) (h0 : chE fs = 0) (hm : b.length ≤ 10125) : undO fs b = if s.length ≤ 2000 then some s else none := by
  unfold undO
  rw [if_pos ⟨h0, hm⟩, h]; rfl
theorem und_nil {fs : List (Int × Int)} {b : List Int} (h : undF fs b = none) : undO fs b = none := by
  unfold undO
  split
  · rw [h]; rfl
  · rfl
set_option maxHeartbeats 4000000 in
theorem rUndo (fs : List (Int × Int)) (A A2 : Option Addr) (n c m d : Nat) (b : List Int) (w : World) (h : InF w A n c fs) (hb : Ib w A2 m d b) :
    Calls Try.prog 20 #[.slice A n c, .slice A2 m d] w fun e w' => Res w' w.heap.size (undO fs b) (undE fs b) e ∧ Below w.heap.size w w' := by
  (have HH := Lib.hid h; have HB := Lib.hid hb; have HN := Lib.hid h.e; have HM := Lib.hid hb.e; have m9 : (m : Int) ≤ 9223372036854775807 := (by have := hb.c1; have := hb.c2; omega); clear h hb)
  rcases chE_cases fs with h0 | h0
  · have HC := Lib.hid h0
    obtain ⟨hl4, hok⟩ := chE_zero h0
    have HL4 : Hid (n ≤ 4) := Lib.hid (by rw [← HN.out]; exact hl4)
    have n4 : (n : Int) ≤ 4 := by have := HL4.out; omega
    have HOK := Lib.hid hok
    by_cases hm : m ≤ 10125
    · have HE : Hid (undE fs b = 12) := Lib.hid (by unfold undE; rw [if_pos h0, if_pos (by rw [HM.out]; exact hm)])
      have HML := Lib.hid hm
      have m8 : (m : Int) ≤ 10125 := by omega
      clear h0 hl4 hok hm
      go_enter Try.func20, Try.ntmps20
      (go_wp2_with fail; refine (rChain fs A n c _ HH.out).mono ?_; rintro e w1 ⟨rfl, b1⟩; have HB1 := Lib.hid b1; clear b1)
      rw [HC.out]
      have HBI := Lib.hid (HB.out.below HB1.out)
      have w1' : IntKind.i64.wrap ((n : Int) - 1) = (n : Int) - 1 := IntWalk.i64_in _ (by omega)
      go_wp2_with (at_builtin; refine clone8 rfl _ _ rfl (some ⟨_, 0, none⟩) rfl A2 m d b rfl HM.out (HBI.out.h.below ((Below.refl _ _).alloc (Nat.le_refl _) _) (Nat.le_refl _)) (by have := HML.out; omega) ?_; intro A3 c3 w3 h3 b3 o3; have HO3 := Lib.hid o3; have HB3 := Lib.hid (HB1.out.trans ((((Below.refl w1.heap.size w1).alloc (Nat.le_refl _) _).trans (b3.mono (by simp))).mono HB1.out.size)); clear h3 b3 o3)
      clear w1'
      go_loopw [7, 8] (fun v j wr => ∃ (k t : Nat) (B : Option Addr) (e : Nat) (s : List Int), k ≤ n ∧ j = .int .i64 ((k : Int) - 1) ∧ v = .slice B t e ∧ s.length = t ∧ undF (fs.drop k) b = some s ∧ OwnZ wr w.heap.size (.slice B t e) s ∧ Below w.heap.size w wr) (fun _ j _ => (intOf j + 1).toNat)
      case atStart =>
        refine ⟨n, m, A3, c3, b, Nat.le_refl _, rfl, rfl, HM.out, by rw [List.drop_eq_nil_of_le (by rw [HN.out]; omega)]; rfl, ?_, HB3.out⟩
        rcases HO3.out with ⟨e1, e2, e3, e4⟩ | o
        · right
          have hm0 : m = 0 := by rw [← HM.out, e1]; rfl
          exact ⟨e1, A3, by rw [hm0, e3]⟩
        · exact .inl (o.mono (by have := HB1.out.size; simp; omega))
      case round =>
        obtain ⟨k, t, B, e, s, hk, rfl, rfl, ht, hu, oz, acc⟩ := hrel
        have HT := Lib.hid ht
        have HU := Lib.hid hu
        have HZ := Lib.hid oz
        have HACC := Lib.hid acc
        have HTL : Hid (t ≤ 10125) := Lib.hid (by rw [← ht]; exact undF_len (by rw [HM.out]; exact HML.out) hu)
        have HIB := Lib.hid (ib_ownz oz ht (undF_bd HB.out.bd hu))
        have t9 : (t : Int) ≤ 10125 := by have := HTL.out; omega
        rcases Nat.eq_zero_or_pos k with rfl | hp
        · have k1 : ¬ (0 : Int) ≤ ((0 : Nat) : Int) - 1 := by omega
          rw [List.drop_zero] at hu
          have HO := Lib.hid (und_get hu HC.out (by rw [HM.out]; exact HML.out))
          by_cases hs : t ≤ 2000
          · have HO2 : Hid (undO fs b = some s) := Lib.hid (by rw [HO.out, if_pos (by rw [HT.out]; exact hs)])
            have t8 : (t : Int) ≤ 2000 := by omega
            clear hk ht hu oz acc hs
            go_wp2_with fail
            go_ret2
            exact ⟨Res.some HO2.out HT.out HZ.out, HACC.out⟩
          · have HO2 : Hid (undO fs b = none) := Lib.hid (by rw [HO.out, if_neg (by rw [HT.out]; exact hs)])
            have t8 : (2000 : Int) < t := by omega
            clear hk ht hu oz acc hs
            go_wp2_with fail
            go_ret2
            exact ⟨Res.none HO2.out HE.out.symm, HACC.out⟩
        · obtain ⟨i, rfl⟩ : ∃ i, k = i + 1 := ⟨k - 1, by omega⟩
          have e8 : ((i + 1 : Nat) : Int) - 1 = i := by omega
          rw [e8]
          have hlt : i < n := by omega
          have hp2 := HH.out.below acc
          obtain ⟨bb, off, rfl, hbb, hc⟩ := hp2.at_ hlt
          obtain ⟨p0, p1⟩ := hc i hlt
          have HOKF := Lib.hid (okC_at (k := i) (by rw [HN.out]; exact hlt) HOK.out)
          have k1 : (i : Int) < n := by omega
          have k2 : i < n := hlt
          have k3 : (0 : Int) ≤ i := by omega
          have w2' : IntKind.i64.wrap ((i : Int) - 1) = (i : Int) - 1 := IntWalk.i64_in _ (by omega)
          have HLT := Lib.hid hlt
          have HS := Lib.hid (und_step (b := b) (k := i) (by rw [HN.out]; exact hlt))
          rw [HU.out, Option.bind_some] at HS
          have e5 : fs.getD i (0, 0) = ((fs.getD i (0, 0)).1, (fs.getD i (0, 0)).2) := rfl
          rw [e5] at HOKF HS
          generalize (fs.getD i (0, 0)).1 = q at *
          generalize (fs.getD i (0, 0)).2 = u at *
          clear hk ht hu oz acc hlt hc hbb hp2 e5 e8 hp
          go_wp2_with fail
          refine (rUnmade q u s B t e _ HIB.out HOKF.out HTL.out).mono ?_
          rintro e3 w3 ⟨A4, t4, c4, s4, ok, rfl, ht4, o4, hv, b4⟩
          have HT4 := Lib.hid ht4
          have HO4 := Lib.hid (o4.mono HACC.out.size)
          have HB4 := Lib.hid (HACC.out.trans (b4.mono HACC.out.size))
          rw [hv] at HS
          clear ht4 o4 b4 p0 p1 hv
          cases ok
          · have HO2 := Lib.hid (und_nil (und_none (k := i) HS.out))
            clear w2'
            go_wp2_with fail
            go_ret2
            exact ⟨Res.none HO2.out HE.out.symm, HB4.out⟩
          · go_wp2_with fail
            go_roundw
            case rel => exact ⟨i, t4, A4, c4, s4, by have := HLT.out; omega, rfl, rfl, HT4.out, HS.out, .inl HO4.out, HB4.out⟩
            case measure => simp [intOf]
    · have HO : Hid (undO fs b = none) := Lib.hid (if_neg (fun hh => hm (by rw [← HM.out]; exact hh.2)))
      have HE : Hid (4 = undE fs b) := Lib.hid (by unfold undE; rw [if_pos h0, if_neg (by rw [HM.out]; exact hm)])
      have m8 : (10125 : Int) < m := by omega
      clear h0 hl4 hok hm
      go_enter Try.func20, Try.ntmps20
      (go_wp2_with fail; refine (rChain fs A n c _ HH.out).mono ?_; rintro e w1 ⟨rfl, b1⟩; have HB1 := Lib.hid b1; clear b1)
      rw [HC.out]
      go_wp2_with fail
      go_ret2
      exact ⟨Res.none HO.out HE.out, HB1.out⟩
  · have HO : Hid (undO fs b = none) := Lib.hid (if_neg (fun hh => by omega))
    have HE : Hid (chE fs = undE fs b) := Lib.hid (by unfold undE; rw [if_neg (by omega)])
    obtain ⟨v, hv⟩ : ∃ v, chE fs = v := ⟨_, rfl⟩
    rw [hv] at h0 HE
    have hne : (v != 0) = true := by simpa using (show v ≠ 0 by omega)
    have HV := Lib.hid hv
    clear h0 hv
    go_enter Try.func20, Try.ntmps20
    (go_wp2_with fail; refine (rChain fs A n c _ HH.out).mono ?_; rintro e w1 ⟨rfl, b1⟩; have HB1 := Lib.hid b1; clear b1)
    rw [HV.out]
    go_wp2_with fail
    go_ret2
    exact ⟨Res.none HO.out HE.out, HB1.out⟩
end Go.Proofs.Ytbfodmckgjeoaaa.fiW
