/- Filters: Made and Apply of both, Undo of the reference, by walks. -/
import Derived.Test.YtbfodmckgjeoaaaFiC
namespace Go.Proofs.Ytbfodmckgjeoaaa.fiW
set_option maxRecDepth 100000
open Go.RowKit Go.Proofs.Ytbfodmckgjeoaaa.base Go.Proofs.Ytbfodmckgjeoaaa.fiP
set_option linter.unusedVariables false
set_option linter.unusedSimpArgs false
set_option maxRecDepth 100000
theorem app_step {fs : List (Int × Int)} {b : List Int} {k : Nat} (h : k < fs.length) : appF (fs.take (k + 1)) b = oneF (fs.getD k (0, 0)) (appF (fs.take k) b) := by
  have e : fs[k] = fs.getD k (0, 0) := by simp [List.getD_eq_getElem?_getD, List.getElem?_eq_getElem h]
  rw [List.take_succ_eq_append_getElem h, appF_append, e]; rfl
theorem und_step {fs : List (Int × Int)} {b : List Int} {k : Nat} (h : k < fs.length) : undF (fs.drop k) b = (undF (fs.drop (k + 1)) b).bind (backF (fs.getD k (0, 0))) := by
  have e : fs[k] = fs.getD k (0, 0) := by simp [List.getD_eq_getElem?_getD, List.getElem?_eq_getElem h]
  rw [List.drop_eq_getElem_cons h, undF, e]
theorem und_none {fs : List (Int × Int)} {b : List Int} {k : Nat} (h : undF (fs.drop k) b = none) : undF fs b = none := by
  have := undF_append (fs.take k) (fs.drop k) b
  rw [List.take_append_drop, h] at this
  rw [this]; rfl
theorem ownz_has' {w : World} {B n c : Nat} {A : Option Addr} {zs : List Int} (h : OwnZ w B (.slice A n c) zs) : Has .u8 w A zs := by
  obtain ⟨A', c', e, h1, _⟩ := h.val
  injection e with e1 _ _
  rw [e1]; exact h1
theorem ib_ownz {w : World} {B : Nat} {A : Option Addr} {n c : Nat} {zs : List Int} (h : OwnZ w B (.slice A n c) zs) (hn : zs.length = n) (hb : Byt zs) : Ib w A n c zs := by
  refine ⟨ownz_has' h, hn, ?_, ?_, hb⟩
  · rcases h with h | ⟨rfl, D, e⟩
    · exact (own_cap h).1
    · injection e with _ e1 e2; omega
  · rcases h with h | ⟨rfl, D, e⟩
    · exact (own_cap h).2
    · injection e with _ e1 e2; omega
def MdPost (fs : List (Int × Int)) (b : List Int) (w w' : World) (e : Ending) : Prop := ∃ A t c, e = .returned (.slice A t c) ∧ (appF fs b).length = t ∧ OwnZ w' w.heap.size (.slice A t c) (appF fs b) ∧ Below w.heap.size w w'
theorem appF_take_short {fs : List (Int × Int)} {b : List Int} (k : Nat) (h4 : fs.length ≤ 4) (hb : b.length ≤ 2000) : (appF (fs.take k) b).length ≤ 10125 := appF_short (by rw [List.length_take]; omega) hb
set_option maxHeartbeats 2000000 in
theorem rMadeC (fs : List (Int × Int)) (A A2 : Option Addr) (n c m d : Nat) (b : List Int) (w : World) (h : InF w A n c fs) (hb : Ib w A2 m d b) (hok : okC fs = true) (h4 : n ≤ 4) (hm : m ≤ 2000) :
    Calls Try.prog 36 #[.slice A n c, .slice A2 m d] w fun e w' => MdPost fs b w w' e := by
  have HH := Lib.hid h
  have HB := Lib.hid hb
  have HN := Lib.hid h.e
  have HM := Lib.hid hb.e
  have HOK := Lib.hid hok
  have H4 := Lib.hid (And.intro h4 hm)
  have n4 : (n : Int) ≤ 4 := by omega
  clear h hb hok h4 hm
  go_enter Try.func36, Try.ntmps36
  go_wp2_with (at_builtin; refine clone8 rfl _ _ rfl (some ⟨_, 0, none⟩) rfl A2 m d b rfl HM.out (HB.out.h.below ((Below.refl _ _).alloc (Nat.le_refl _) _) (Nat.le_refl _)) (by have := H4.out; omega) ?_; intro A1 c1 w1 h1 b1 o1; have H1 := Lib.hid h1; have HO1 := Lib.hid o1; have HB1 := Lib.hid (((Below.refl w.heap.size w).alloc (Nat.le_refl _) _).trans (b1.mono (by simp))); clear h1 b1 o1)
  go_loopw [5, 6] (fun v j wr => ∃ (k t : Nat) (B : Option Addr) (e : Nat), k ≤ n ∧ j = .int .i64 k ∧ v = .slice B t e ∧ (appF (fs.take k) b).length = t ∧ OwnZ wr w.heap.size (.slice B t e) (appF (fs.take k) b) ∧ Below w.heap.size w wr) (fun _ j _ => n - (intOf j).toNat)
  case atStart =>
    refine ⟨0, m, A1, c1, Nat.zero_le _, rfl, rfl, HM.out, ?_, HB1.out⟩
    rcases HO1.out with ⟨e1, e2, e3, e4⟩ | o
    · right
      have hm0 : m = 0 := by rw [← HM.out, e1]; rfl
      exact ⟨e1, A1, by rw [hm0, e3]⟩
    · exact .inl (o.mono (by simp))
  case round =>
    obtain ⟨k, t, B, e, hk, rfl, rfl, ht, oz, acc⟩ := hrel
    have HT := Lib.hid ht
    have HO := Lib.hid oz
    have HACC := Lib.hid acc
    by_cases hlt : k < n
    · (have hp := HH.out.below acc; obtain ⟨bb, off, rfl, hbb, hc⟩ := hp.at_ hlt; obtain ⟨p0, p1⟩ := hc k hlt; have HOKF := Lib.hid (okC_at (k := k) (by rw [HN.out]; exact hlt) HOK.out))
      have k1 : (k : Int) < n := by omega
      have k2 : k < n := hlt
      have HLT := Lib.hid hlt
      have HS := Lib.hid (app_step (b := b) (by rw [HN.out]; exact hlt))
      have HTL : Hid (t ≤ 10125) := Lib.hid (by rw [← ht]; exact appF_take_short k (by rw [HN.out]; exact H4.out.1) (by rw [HM.out]; exact H4.out.2))
      have HIB := Lib.hid (ib_ownz oz ht (appF_bd HB.out.bd))
      have e5 : fs.getD k (0, 0) = ((fs.getD k (0, 0)).1, (fs.getD k (0, 0)).2) := rfl
      rw [e5] at HOKF HS
      generalize (fs.getD k (0, 0)).1 = q at *
      generalize (fs.getD k (0, 0)).2 = u at *
      clear hk ht oz acc hlt hc hbb hp e5
      go_wp2_with fail
      refine (rMade q u _ B t e _ HIB.out HOKF.out HTL.out).mono ?_
      rintro e3 w3 ⟨A3, t3, c3, rfl, ht3, o3, b3⟩
      rw [← HS.out] at ht3 o3
      have HT3 := Lib.hid ht3
      have HO3 := Lib.hid (o3.mono (HACC.out.size))
      have HB3 := Lib.hid (HACC.out.trans (b3.mono HACC.out.size))
      clear ht3 o3 b3 p0 p1
      go_wp2_with fail
      go_roundw
      case rel => exact ⟨k + 1, t3, A3, c3, HLT.out, by go_num, rfl, HT3.out, .inl HO3.out, HB3.out⟩
      case measure => simp [intOf]; have := HLT.out; omega
    · obtain rfl : k = n := by omega
      have k1 : ¬ (k : Int) < k := by omega
      have e6 : fs.take k = fs := List.take_of_length_le (by rw [HN.out]; omega)
      rw [e6] at HT HO
      clear hk ht oz acc hlt e6
      go_wp2_with fail
      go_ret
      exact ⟨B, t, e, rfl, HT.out, HO.out, HACC.out⟩
def appO (fs : List (Int × Int)) (b : List Int) : Option (List Int) := if chE fs = 0 ∧ b.length ≤ 2000 then some (appF fs b) else none
def appE (fs : List (Int × Int)) : Int := if chE fs = 0 then 4 else chE fs
def undO (fs : List (Int × Int)) (b : List Int) : Option (List Int) := if chE fs = 0 ∧ b.length ≤ 10125 then (undF fs b).bind (fun s => if s.length ≤ 2000 then some s else none) else none
def undE (fs : List (Int × Int)) (b : List Int) : Int := if chE fs = 0 then (if b.length ≤ 10125 then 12 else 4) else chE fs
theorem chE_zero {fs : List (Int × Int)} (h : chE fs = 0) : fs.length ≤ 4 ∧ okC fs = true := by
  unfold chE at h
  split at h
  · omega
  · split at h
    · exact ⟨by omega, by assumption⟩
    · omega
theorem chE_cases (fs : List (Int × Int)) : chE fs = 0 ∨ chE fs = 4 ∨ chE fs = 8 := by
  unfold chE
  split
  · exact .inr (.inl rfl)
  · split
    · exact .inl rfl
    · exact .inr (.inr rfl)
set_option maxHeartbeats 2000000 in
theorem rApply (fs : List (Int × Int)) (A A2 : Option Addr) (n c m d : Nat) (b : List Int) (w : World) (h : InF w A n c fs) (hb : Ib w A2 m d b) :
    Calls Try.prog 18 #[.slice A n c, .slice A2 m d] w fun e w' => Res w' w.heap.size (appO fs b) (appE fs) e ∧ Below w.heap.size w w' := by
  (have HH := Lib.hid h; have HB := Lib.hid hb; have HN := Lib.hid h.e; have HM := Lib.hid hb.e; have m9 : (m : Int) ≤ 9223372036854775807 := (by have := hb.c1; have := hb.c2; omega); clear h hb)
  rcases chE_cases fs with h0 | h0
  · have HC := Lib.hid h0
    obtain ⟨hl4, hok⟩ := chE_zero h0
    have HL4 : Hid (n ≤ 4) := Lib.hid (by rw [← HN.out]; exact hl4)
    have HOK := Lib.hid hok
    by_cases hm : m ≤ 2000
    · have HO : Hid (appO fs b = some (appF fs b)) := Lib.hid (if_pos ⟨h0, by rw [HM.out]; exact hm⟩)
      have HML := Lib.hid hm
      have m8 : (m : Int) ≤ 2000 := by omega
      clear h0 hl4 hok hm
      go_enter Try.func18, Try.ntmps18
      (go_wp2_with fail; refine (rChain fs A n c _ HH.out).mono ?_; rintro e w1 ⟨rfl, b1⟩; have HB1 := Lib.hid b1; clear b1)
      rw [HC.out]
      go_wp2_with fail
      refine (rMadeC fs A A2 n c m d b _ (HH.out.below HB1.out) (HB.out.below HB1.out) HOK.out HL4.out HML.out).mono ?_
      rintro e w2 ⟨A3, t3, c3, rfl, ht3, o3, b3⟩
      have HT3 := Lib.hid ht3
      have HO3 := Lib.hid o3
      have HB3 := Lib.hid b3
      clear ht3 o3 b3
      go_wp2_with fail
      go_ret2
      exact ⟨Res.some HO.out HT3.out (OwnZ.le HO3.out HB1.out.size), HB1.out.trans (HB3.out.mono HB1.out.size)⟩
    · have HO : Hid (appO fs b = none) := Lib.hid (if_neg (fun hh => hm (by rw [← HM.out]; exact hh.2)))
      have HE : Hid (4 = appE fs) := Lib.hid (by unfold appE; rw [if_pos h0])
      have m8 : (2000 : Int) < m := by omega
      clear h0 hl4 hok hm
      go_enter Try.func18, Try.ntmps18
      (go_wp2_with fail; refine (rChain fs A n c _ HH.out).mono ?_; rintro e w1 ⟨rfl, b1⟩; have HB1 := Lib.hid b1; clear b1)
      rw [HC.out]
      go_wp2_with fail
      go_ret2
      exact ⟨Res.none HO.out HE.out, HB1.out⟩
  · have HO : Hid (appO fs b = none) := Lib.hid (if_neg (fun hh => by omega))
    have HE : Hid (chE fs = appE fs) := Lib.hid (by unfold appE; rw [if_neg (by omega)])
    obtain ⟨v, hv⟩ : ∃ v, chE fs = v := ⟨_, rfl⟩
    rw [hv] at h0 HE
    have hne : (v != 0) = true := by simpa using (show v ≠ 0 by omega)
    have HV := Lib.hid hv
    clear h0 hv
    go_enter Try.func18, Try.ntmps18
    (go_wp2_with fail; refine (rChain fs A n c _ HH.out).mono ?_; rintro e w1 ⟨rfl, b1⟩; have HB1 := Lib.hid b1; clear b1)
    rw [HV.out]
    go_wp2_with fail
    go_ret2
    exact ⟨Res.none HO.out HE.out, HB1.out⟩
end Go.Proofs.Ytbfodmckgjeoaaa.fiW
