/- Several texts as one: FdW, FdW2, FdW3, FdW4, FdW5, FdW6. -/
import Derived.Test.YtemiecghdmagnaaGL
import Derived.Test.YtemiecghdmagnaaGE
import Derived.Test.YtemiecghdmagnaaGG
import Derived.Test.YtemiecghdmagnaaGC
import Derived.Deep.RegionLaw
import Derived.Deep.RegionHeld3
import Derived.BigQuiet
import Derived.BigRegion
import Derived.Deep.DeepCutAuto
import Derived.WalkMore
import Derived.Laws.MakeOwn
namespace Go.Proofs.Ytemiecghdmagnaa.fdW
set_option maxRecDepth 100000
open Go.RowKit Go.Proofs.Ytemiecghdmagnaa.base Go.Proofs.Ytemiecghdmagnaa.rgP Go.Proofs.Ytemiecghdmagnaa.rgW Go.Proofs.Ytemiecghdmagnaa.fdP
set_option linter.unusedVariables false
set_option linter.unusedSimpArgs false

set_option maxHeartbeats 400000 in
theorem isLevel_any (l : Int) (w : World) : Calls Try.prog 50 #[.int .i64 l] w fun e w' => e = .returned (.bool (lvB l)) ∧ w = w' := by
  by_cases h1 : 0 ≤ l
  · go_enter Try.func50, Try.ntmps50
    go_wp2
    go_ret
    exact ⟨retb (by simp [lvB]; omega), rfl⟩
  · go_enter Try.func50, Try.ntmps50
    go_wp2
    go_ret
    exact ⟨retb (by simp [lvB]; omega), rfl⟩
set_option maxHeartbeats 1000000 in
theorem places_ok (l : Int) (w : World) (h : lvB l = true) : Calls Try.prog 51 #[.int .i64 l] w fun e w' => e = .returned (.int .i64 (szOf l : Int)) ∧ w = w' := by
  rcases lv_cases h with rfl | rfl | rfl | rfl | rfl | rfl | rfl | rfl
  all_goals
    go_enter Try.func51, Try.ntmps51
    go_wp2
    go_ret
    exact ⟨ret1 (by decide +kernel), rfl⟩
/-- All numbers before a place are numbers of a finder. -/
def nums (s : List Int) (k : Nat) : Prop := ∀ j, j < k → -1 ≤ s.getD j 0 ∧ s.getD j 0 ≤ 1073741824
theorem nums_all {s : List Int} (h : nums s s.length) : ∀ x ∈ s, -1 ≤ x ∧ x ≤ 1073741824 := by
  intro x hx
  obtain ⟨i, hi, e⟩ := List.mem_iff_getElem.1 hx
  have := h i hi
  rw [List.getD_eq_getElem?_getD, List.getElem?_eq_getElem hi] at this
  rw [← e]; exact this
theorem nums_bad {f : Fnd} {k : Nat} (hk : k < f.s.length) (h : ¬ (-1 ≤ f.s.getD k 0 ∧ f.s.getD k 0 ≤ 1073741824)) : fdE f = 8 := by
  apply fdE_no
  cases h' : fdOk f
  · rfl
  · refine absurd (((fdOk_iff f).1 h').2 (f.s.getD k 0) ?_) h
    rw [List.getD_eq_getElem?_getD, List.getElem?_eq_getElem hk]
    exact List.getElem_mem hk
set_option maxHeartbeats 4000000 in
theorem Check_any (f : Fnd) (A : Option Addr) (n c : Nat) (w : World) (h : FdIn w A n c f) :
    Calls Try.prog 39 #[.agg #[.int .i64 (f).l, .slice A n c]] w fun e w' => e = .returned (.int .i64 (fdE f)) ∧ Below w.heap.size w w' := by
  have he := h.e
  have h9 : (n : Int) ≤ 9223372036854775807 := by have := h.c1; have := h.c2; omega
  have HF := Lib.hid h
  have HEN := Lib.hid he
  clear h
  cases hl : lvB f.l
  · have HV : Hid (fdE f = 8) := Lib.hid (fdE_no (by
      cases h' : fdOk f
      · rfl
      · have := ((fdOk_iff f).1 h').1.1; rw [hl] at this; cases this))
    have HLV : Hid (∀ w : World, Calls Try.prog 50 #[.int .i64 f.l] w fun e w' => e = .returned (.bool false) ∧ w = w') := Lib.hid (fun w => by have := isLevel_any f.l w; rwa [hl] at this)
    clear hl he
    generalize f.l = l at *
    go_enter Try.func39, Try.ntmps39
    go_wp2_with fail
    go_quiet ((first | (go_at_call 50; exact Calls.quiet_of_same (turned (HLV.out _)))))
    go_wp2
    go_ret
    exact ⟨ret1 HV.out.symm, by (repeat' (first | (with_reducible exact Below.refl _ _) | (with_reducible assumption) | (with_reducible refine below_drewN ?_ _) | (with_reducible refine below_new ?_ _) | (with_reducible refine Below.alloc ?_ ?_ _) | (with_reducible refine Below.drew ?_) | (with_reducible refine Below.setCell ?_ ?_ _) | (with_reducible apply below_at; (case k => (with_reducible assumption)); (case hB => omega)) | (with_reducible apply below_on; (with_reducible assumption)) | (go_size; done) | (with_reducible apply size_of)))⟩
  · have HLV : Hid (∀ w : World, Calls Try.prog 50 #[.int .i64 f.l] w fun e w' => e = .returned (.bool true) ∧ w = w') := Lib.hid (fun w => by have := isLevel_any f.l w; rwa [hl] at this)
    have HPL : Hid (∀ w : World, Calls Try.prog 51 #[.int .i64 f.l] w fun e w' => e = .returned (.int .i64 (szOf f.l : Int)) ∧ w = w') := Lib.hid (fun w => places_ok f.l w hl)
    have hsz := sz_bd hl
    have hz1 : (64 : Int) ≤ (szOf f.l : Int) := by omega
    have hz2 : (szOf f.l : Int) ≤ 8192 := by omega
    by_cases hln : (n : Int) = (szOf f.l : Int)
    · have hbe : ((n : Int) != (n : Int)) = false := by simp
      have hn8 : (n : Int) ≤ 8192 := by omega
      rw [← hln] at HPL
      have HYES : Hid (nums f.s n → fdE f = 0) := Lib.hid (fun hu => fdE_yes ((fdOk_iff f).2 ⟨⟨hl, by omega⟩, nums_all (by rw [he]; exact hu)⟩))
      obtain ⟨b, off, rfl, hb, hc⟩ := has_some HF.out.h (by rw [he]; omega)
      have HCE := Lib.hid hc
      clear hl hln hsz hz1 hz2 hc he
      generalize hll : f.l = l at *
      clear hll
      go_enter Try.func39, Try.ntmps39
      go_wp2_with fail
      go_quiet ((first | (go_at_call 50; exact Calls.quiet_of_same (turned (HLV.out _))) | (go_at_call 51; exact Calls.quiet_of_same (turned (HPL.out _)))))
      go_wp2_with fail
      go_loopw [21] (fun i wr => ∃ q : Nat, q ≤ n ∧ i = .int .i64 (q : Int) ∧ nums f.s q ∧ Below w.heap.size w wr) (fun i _ => n - (intOf i).toNat)
      case atStart => exact ⟨0, Nat.zero_le _, rfl, fun j hj => by omega, by (repeat' (first | (with_reducible exact Below.refl _ _) | (with_reducible assumption) | (with_reducible refine below_drewN ?_ _) | (with_reducible refine below_new ?_ _) | (with_reducible refine Below.alloc ?_ ?_ _) | (with_reducible refine Below.drew ?_) | (with_reducible refine Below.setCell ?_ ?_ _) | (with_reducible apply below_at; (case k => (with_reducible assumption)); (case hB => omega)) | (with_reducible apply below_on; (with_reducible assumption)) | (go_size; done) | (with_reducible apply size_of)))⟩
      case round =>
        obtain ⟨q, hq, rfl, hall, acc⟩ := hrel
        have HA := Lib.hid hall
        have HACC := Lib.hid acc
        by_cases hlt : q < n
        · have hcell : wr.cell? ⟨b, off + q, none⟩ = some (.int .i64 (f.s.getD q 0)) := by rw [(bcell acc).1 b _ hb]; exact HCE.out q (by rw [HEN.out]; exact hlt)
          have HX : Hid (¬ (-1 ≤ f.s.getD q 0 ∧ f.s.getD q 0 ≤ 1073741824) → fdE f = 8) := Lib.hid (nums_bad (by rw [HEN.out]; exact hlt))
          have HNX : Hid (-1 ≤ f.s.getD q 0 ∧ f.s.getD q 0 ≤ 1073741824 → nums f.s (q + 1)) := Lib.hid (fun e j h1 => by
            rcases Nat.lt_or_ge j q with h3 | h3
            · exact HA.out j h3
            · rw [show j = q by omega]; exact e)
          have k1 : (q : Int) < n := by omega
          have k0 : (0 : Int) ≤ q := by omega
          have HLT := Lib.hid hlt
          clear hall acc hlt hq
          generalize f.s.getD q 0 = x at *
          by_cases hx : -1 ≤ x
          · by_cases hy : x ≤ 1073741824
            · go_wp2_with fail
              go_roundw
              case rel => exact ⟨q + 1, HLT.out, by go_num, HNX.out ⟨hx, hy⟩, by have := HACC.out; (repeat' (first | (with_reducible exact Below.refl _ _) | (with_reducible assumption) | (with_reducible refine below_drewN ?_ _) | (with_reducible refine below_new ?_ _) | (with_reducible refine Below.alloc ?_ ?_ _) | (with_reducible refine Below.drew ?_) | (with_reducible refine Below.setCell ?_ ?_ _) | (with_reducible apply below_at; (case k => (with_reducible assumption)); (case hB => omega)) | (with_reducible apply below_on; (with_reducible assumption)) | (go_size; done) | (with_reducible apply size_of)))⟩
              case measure => simp [intOf]; have := HLT.out; omega
            · go_wp2_with fail
              go_ret
              exact ⟨ret1 (HX.out (by omega)).symm, by have := HACC.out; (repeat' (first | (with_reducible exact Below.refl _ _) | (with_reducible assumption) | (with_reducible refine below_drewN ?_ _) | (with_reducible refine below_new ?_ _) | (with_reducible refine Below.alloc ?_ ?_ _) | (with_reducible refine Below.drew ?_) | (with_reducible refine Below.setCell ?_ ?_ _) | (with_reducible apply below_at; (case k => (with_reducible assumption)); (case hB => omega)) | (with_reducible apply below_on; (with_reducible assumption)) | (go_size; done) | (with_reducible apply size_of)))⟩
          · go_wp2_with fail
            go_ret
            exact ⟨ret1 (HX.out (by omega)).symm, by have := HACC.out; (repeat' (first | (with_reducible exact Below.refl _ _) | (with_reducible assumption) | (with_reducible refine below_drewN ?_ _) | (with_reducible refine below_new ?_ _) | (with_reducible refine Below.alloc ?_ ?_ _) | (with_reducible refine Below.drew ?_) | (with_reducible refine Below.setCell ?_ ?_ _) | (with_reducible apply below_at; (case k => (with_reducible assumption)); (case hB => omega)) | (with_reducible apply below_on; (with_reducible assumption)) | (go_size; done) | (with_reducible apply size_of)))⟩
        · have he : q = n := by omega
          subst he
          have HG := Lib.hid (HYES.out hall)
          clear hall acc hq hlt
          go_wp2_with fail
          go_ret
          exact ⟨ret1 HG.out.symm, by have := HACC.out; (repeat' (first | (with_reducible exact Below.refl _ _) | (with_reducible assumption) | (with_reducible refine below_drewN ?_ _) | (with_reducible refine below_new ?_ _) | (with_reducible refine Below.alloc ?_ ?_ _) | (with_reducible refine Below.drew ?_) | (with_reducible refine Below.setCell ?_ ?_ _) | (with_reducible apply below_at; (case k => (with_reducible assumption)); (case hB => omega)) | (with_reducible apply below_on; (with_reducible assumption)) | (go_size; done) | (with_reducible apply size_of)))⟩
    · have hbe : ((n : Int) != (szOf f.l : Int)) = true := by simpa using hln
      have HV : Hid (fdE f = 8) := Lib.hid (fdE_no (by
        cases h' : fdOk f
        · rfl
        · have := ((fdOk_iff f).1 h').1.2; omega))
      clear hl hln hsz he
      generalize (szOf f.l : Int) = sz at *
      generalize f.l = l at *
      go_enter Try.func39, Try.ntmps39
      go_wp2_with fail
      go_quiet ((first | (go_at_call 50; exact Calls.quiet_of_same (turned (HLV.out _))) | (go_at_call 51; exact Calls.quiet_of_same (turned (HPL.out _)))))
      go_wp2
      go_ret
      exact ⟨ret1 HV.out.symm, by (repeat' (first | (with_reducible exact Below.refl _ _) | (with_reducible assumption) | (with_reducible refine below_drewN ?_ _) | (with_reducible refine below_new ?_ _) | (with_reducible refine Below.alloc ?_ ?_ _) | (with_reducible refine Below.drew ?_) | (with_reducible refine Below.setCell ?_ ?_ _) | (with_reducible apply below_at; (case k => (with_reducible assumption)); (case hB => omega)) | (with_reducible apply below_on; (with_reducible assumption)) | (go_size; done) | (with_reducible apply size_of)))⟩
end Go.Proofs.Ytemiecghdmagnaa.fdW

namespace Go.Proofs.Ytemiecghdmagnaa.fdW
set_option maxRecDepth 100000
open Go.RowKit Go.Proofs.Ytemiecghdmagnaa.base Go.Proofs.Ytemiecghdmagnaa.rgP Go.Proofs.Ytemiecghdmagnaa.rgW Go.Proofs.Ytemiecghdmagnaa.fdP Go.Proofs.Ytemiecghdmagnaa.hashW
set_option linter.unusedVariables false
set_option linter.unusedSimpArgs false

set_option maxHeartbeats 4000000 in
theorem rCheck_any (f : Fnd) (A : Option Addr) (n c : Nat) (w : World) (h : FdIn w A n c f) :
    Calls Try.prog 45 #[.agg #[.int .i64 (f).l, .slice A n c]] w fun e w' => e = .returned (.int .i64 (fdE f)) ∧ Below w.heap.size w w' := by
  have he := h.e
  have h9 : (n : Int) ≤ 9223372036854775807 := by have := h.c1; have := h.c2; omega
  have HF := Lib.hid h
  have HEN := Lib.hid he
  clear h
  cases hl : lvB f.l
  · have HV : Hid (fdE f = 8) := Lib.hid (fdE_no (by
      cases h' : fdOk f
      · rfl
      · have := ((fdOk_iff f).1 h').1.1; rw [hl] at this; cases this))
    have HLV : Hid (∀ w : World, Calls Try.prog 52 #[.int .i64 f.l] w fun e w' => e = .returned (.bool false) ∧ w = w') := Lib.hid (fun w => by have := rLevel_any f.l w; rwa [hl] at this)
    clear hl he
    generalize f.l = l at *
    go_enter Try.func45, Try.ntmps45
    go_wp2_with fail
    go_quiet ((first | (go_at_call 52; exact Calls.quiet_of_same (turned (HLV.out _)))))
    go_wp2
    go_ret
    exact ⟨ret1 HV.out.symm, by (repeat' (first | (with_reducible exact Below.refl _ _) | (with_reducible assumption) | (with_reducible refine below_drewN ?_ _) | (with_reducible refine below_new ?_ _) | (with_reducible refine Below.alloc ?_ ?_ _) | (with_reducible refine Below.drew ?_) | (with_reducible refine Below.setCell ?_ ?_ _) | (with_reducible apply below_at; (case k => (with_reducible assumption)); (case hB => omega)) | (with_reducible apply below_on; (with_reducible assumption)) | (go_size; done) | (with_reducible apply size_of)))⟩
  · have HLV : Hid (∀ w : World, Calls Try.prog 52 #[.int .i64 f.l] w fun e w' => e = .returned (.bool true) ∧ w = w') := Lib.hid (fun w => by have := rLevel_any f.l w; rwa [hl] at this)
    have HPL : Hid (∀ w : World, Calls Try.prog 53 #[.int .i64 f.l] w fun e w' => e = .returned (.int .i64 (szOf f.l : Int)) ∧ w = w') := Lib.hid (fun w => rSize_ok f.l w hl)
    have hsz := sz_bd hl
    have hz1 : (64 : Int) ≤ (szOf f.l : Int) := by omega
    have hz2 : (szOf f.l : Int) ≤ 8192 := by omega
    by_cases hln : (n : Int) = (szOf f.l : Int)
    · have hbe : ((n : Int) != (n : Int)) = false := by simp
      have hn8 : (n : Int) ≤ 8192 := by omega
      rw [← hln] at HPL
      have HYES : Hid (nums f.s n → fdE f = 0) := Lib.hid (fun hu => fdE_yes ((fdOk_iff f).2 ⟨⟨hl, by omega⟩, nums_all (by rw [he]; exact hu)⟩))
      obtain ⟨b, off, rfl, hb, hc⟩ := has_some HF.out.h (by rw [he]; omega)
      have HCE := Lib.hid hc
      clear hl hln hsz hz1 hz2 hc he
      generalize hll : f.l = l at *
      clear hll
      have LL := Lib.hid (Lies.fresh w 29 [.int .i64 l, .slice (some ⟨b, off, none⟩) n c])
      go_enter Try.func45, Try.ntmps45
      go_wp2_with fail
      go_quiet ((first | (go_at_call 52; exact Calls.quiet_of_same (turned (HLV.out _))) | (go_at_call 53; exact Calls.quiet_of_same (turned (HPL.out _)))))
      go_wp2_with fail
      go_loopw [3] (fun i wr => ∃ q : Nat, q ≤ n ∧ i = .int .i64 (q : Int) ∧ nums f.s q ∧ Lies wr w.heap.size 29 [.int .i64 l, .slice (some ⟨b, off, none⟩) n c] ∧ Below w.heap.size w wr) (fun i _ => n - (intOf i).toNat)
      case atStart => exact ⟨0, Nat.zero_le _, rfl, fun j hj => by omega, by have := LL.out; (repeat' (first | (with_reducible assumption) | (with_reducible exact Lies.fresh _ _ _) | (with_reducible apply Lies.fresh_at; (first | (with_reducible rfl) | (simp; done))) | (with_reducible refine Lies.drew ?_) | (with_reducible refine Lies.drewN ?_ _) | (with_reducible refine Lies.alloc ?_ _) | (with_reducible apply Lies.past; case hb => (with_reducible assumption)) | (with_reducible apply Lies.keeps; (case k => (with_reducible assumption)); (case ht => decide)) | (with_reducible apply Lies.store3) | (with_reducible apply Lies.other; case hp => (first | omega | (simp; done) | (simp; omega))))), by (repeat' (first | (with_reducible exact Below.refl _ _) | (with_reducible assumption) | (with_reducible refine below_drewN ?_ _) | (with_reducible refine below_new ?_ _) | (with_reducible refine Below.alloc ?_ ?_ _) | (with_reducible refine Below.drew ?_) | (with_reducible refine Below.setCell ?_ ?_ _) | (with_reducible apply below_at; (case k => (with_reducible assumption)); (case hB => omega)) | (with_reducible apply below_on; (with_reducible assumption)) | (go_size; done) | (with_reducible apply size_of)))⟩
      case round =>
        obtain ⟨q, hq, rfl, hall, K, acc⟩ := hrel
        have HA := Lib.hid hall
        have HACC := Lib.hid acc
        have HK := Lib.hid K
        obtain ⟨p0, p1, -, -⟩ := K.two
        by_cases hlt : q < n
        · have hcell : wr.cell? ⟨b, off + q, none⟩ = some (.int .i64 (f.s.getD q 0)) := by rw [(bcell acc).1 b _ hb]; exact HCE.out q (by rw [HEN.out]; exact hlt)
          have HX : Hid (¬ (-1 ≤ f.s.getD q 0 ∧ f.s.getD q 0 ≤ 1073741824) → fdE f = 8) := Lib.hid (nums_bad (by rw [HEN.out]; exact hlt))
          have HNX : Hid (-1 ≤ f.s.getD q 0 ∧ f.s.getD q 0 ≤ 1073741824 → nums f.s (q + 1)) := Lib.hid (fun e j h1 => by
            rcases Nat.lt_or_ge j q with h3 | h3
            · exact HA.out j h3
            · rw [show j = q by omega]; exact e)
          have k1 : (q : Int) < n := by omega
          have k0 : (0 : Int) ≤ q := by omega
          have HLT := Lib.hid hlt
          clear hall acc hlt hq K
          generalize f.s.getD q 0 = x at *
          by_cases hx : -1 ≤ x
          · by_cases hy : x ≤ 1073741824
            · go_wp2_with fail
              go_roundw
              case rel => exact ⟨q + 1, HLT.out, by go_num, HNX.out ⟨hx, hy⟩, by have := HK.out; (repeat' (first | (with_reducible assumption) | (with_reducible exact Lies.fresh _ _ _) | (with_reducible apply Lies.fresh_at; (first | (with_reducible rfl) | (simp; done))) | (with_reducible refine Lies.drew ?_) | (with_reducible refine Lies.drewN ?_ _) | (with_reducible refine Lies.alloc ?_ _) | (with_reducible apply Lies.past; case hb => (with_reducible assumption)) | (with_reducible apply Lies.keeps; (case k => (with_reducible assumption)); (case ht => decide)) | (with_reducible apply Lies.store3) | (with_reducible apply Lies.other; case hp => (first | omega | (simp; done) | (simp; omega))))), by have := HACC.out; (repeat' (first | (with_reducible exact Below.refl _ _) | (with_reducible assumption) | (with_reducible refine below_drewN ?_ _) | (with_reducible refine below_new ?_ _) | (with_reducible refine Below.alloc ?_ ?_ _) | (with_reducible refine Below.drew ?_) | (with_reducible refine Below.setCell ?_ ?_ _) | (with_reducible apply below_at; (case k => (with_reducible assumption)); (case hB => omega)) | (with_reducible apply below_on; (with_reducible assumption)) | (go_size; done) | (with_reducible apply size_of)))⟩
              case measure => simp [intOf]; have := HLT.out; omega
            · go_wp2_with fail
              go_ret
              exact ⟨ret1 (HX.out (by omega)).symm, by have := HACC.out; (repeat' (first | (with_reducible exact Below.refl _ _) | (with_reducible assumption) | (with_reducible refine below_drewN ?_ _) | (with_reducible refine below_new ?_ _) | (with_reducible refine Below.alloc ?_ ?_ _) | (with_reducible refine Below.drew ?_) | (with_reducible refine Below.setCell ?_ ?_ _) | (with_reducible apply below_at; (case k => (with_reducible assumption)); (case hB => omega)) | (with_reducible apply below_on; (with_reducible assumption)) | (go_size; done) | (with_reducible apply size_of)))⟩
          · go_wp2_with fail
            go_ret
            exact ⟨ret1 (HX.out (by omega)).symm, by have := HACC.out; (repeat' (first | (with_reducible exact Below.refl _ _) | (with_reducible assumption) | (with_reducible refine below_drewN ?_ _) | (with_reducible refine below_new ?_ _) | (with_reducible refine Below.alloc ?_ ?_ _) | (with_reducible refine Below.drew ?_) | (with_reducible refine Below.setCell ?_ ?_ _) | (with_reducible apply below_at; (case k => (with_reducible assumption)); (case hB => omega)) | (with_reducible apply below_on; (with_reducible assumption)) | (go_size; done) | (with_reducible apply size_of)))⟩
        · have he : q = n := by omega
          subst he
          have HG := Lib.hid (HYES.out hall)
          clear hall acc hq hlt K
          go_wp2_with fail
          go_ret
          exact ⟨ret1 HG.out.symm, by have := HACC.out; (repeat' (first | (with_reducible exact Below.refl _ _) | (with_reducible assumption) | (with_reducible refine below_drewN ?_ _) | (with_reducible refine below_new ?_ _) | (with_reducible refine Below.alloc ?_ ?_ _) | (with_reducible refine Below.drew ?_) | (with_reducible refine Below.setCell ?_ ?_ _) | (with_reducible apply below_at; (case k => (with_reducible assumption)); (case hB => omega)) | (with_reducible apply below_on; (with_reducible assumption)) | (go_size; done) | (with_reducible apply size_of)))⟩
    · have hbe : ((n : Int) != (szOf f.l : Int)) = true := by simpa using hln
      have HV : Hid (fdE f = 8) := Lib.hid (fdE_no (by
        cases h' : fdOk f
        · rfl
        · have := ((fdOk_iff f).1 h').1.2; omega))
      clear hl hln hsz he
      generalize (szOf f.l : Int) = sz at *
      generalize f.l = l at *
      go_enter Try.func45, Try.ntmps45
      go_wp2_with fail
      go_quiet ((first | (go_at_call 52; exact Calls.quiet_of_same (turned (HLV.out _))) | (go_at_call 53; exact Calls.quiet_of_same (turned (HPL.out _)))))
      go_wp2
      go_ret
      exact ⟨ret1 HV.out.symm, by (repeat' (first | (with_reducible exact Below.refl _ _) | (with_reducible assumption) | (with_reducible refine below_drewN ?_ _) | (with_reducible refine below_new ?_ _) | (with_reducible refine Below.alloc ?_ ?_ _) | (with_reducible refine Below.drew ?_) | (with_reducible refine Below.setCell ?_ ?_ _) | (with_reducible apply below_at; (case k => (with_reducible assumption)); (case hB => omega)) | (with_reducible apply below_on; (with_reducible assumption)) | (go_size; done) | (with_reducible apply size_of)))⟩
theorem fd_place {f : Fnd} (h : fdOk f = true) (x : Int) : placeV x (f.s.length : Int) = (plc f x : Int) ∧ placeE (f.s.length : Int) = 0 := by
  have h1 := (fdOk_iff f).1 h
  have hs : sizeB (f.s.length : Int) = true := by
    obtain ⟨k, hk, e⟩ := szOf_pow h1.1.1
    exact (sizeB_iff _).2 ⟨k, hk, by rw [h1.1.2]; exact e⟩
  exact ⟨by rw [placeV, if_pos hs, plc_int h], by rw [placeE, if_pos hs]⟩
def plE (f : Fnd) : Int := fdE f
def plV (f : Fnd) (x : Int) : Int := if fdOk f then (plc f x : Int) else 0
set_option maxHeartbeats 1000000 in
theorem placeOf_any (f : Fnd) (A : Option Addr) (n c : Nat) (x : Int) (w : World) (h : FdIn w A n c f) (h1 : 0 ≤ x) (h2 : x ≤ 4294967295) :
    Calls Try.prog 68 #[.agg #[.int .i64 (f).l, .slice A n c], .int .u32 x] w fun e w' => e = .returned (.tuple #[.int .i64 (plV f x), .int .i64 (fdE f)]) ∧ Below w.heap.size w w' := by
  have H := Lib.hid h
  have hn : (n : Int) ≤ 9223372036854775807 := by have := h.c1; have := h.c2; omega
  cases hok : fdOk f
  · have e1 := fdE_no hok
    have HV : Hid (plV f x = 0 ∧ fdE f = 8) := Lib.hid ⟨by rw [plV, if_neg (by rw [hok]; decide)], e1⟩
    clear h hok
    go_enter Try.func68, Try.ntmps68
    go_wp2_with (first | (go_at_call 39; refine (Check_any f A n c _ (H.out.below (by (repeat' (first | (with_reducible exact Below.refl _ _) | (with_reducible assumption) | (with_reducible refine below_drewN ?_ _) | (with_reducible refine below_new ?_ _) | (with_reducible refine Below.alloc ?_ ?_ _) | (with_reducible refine Below.drew ?_) | (with_reducible refine Below.setCell ?_ ?_ _) | (with_reducible apply below_at; (case k => (with_reducible assumption)); (case hB => omega)) | (with_reducible apply below_on; (with_reducible assumption)) | (go_size; done) | (with_reducible apply size_of)))))).mono ?_; rintro e w1 ⟨rfl, hb1⟩; rw [e1]; have K1 : Lies (w1) (w.heap.size) 29 [.int .i64 (f).l, .slice (A) (n) (c)] := (by (repeat' (first | (with_reducible assumption) | (with_reducible exact Lies.fresh _ _ _) | (with_reducible apply Lies.fresh_at; (first | (with_reducible rfl) | (simp; done))) | (with_reducible refine Lies.drew ?_) | (with_reducible refine Lies.drewN ?_ _) | (with_reducible refine Lies.alloc ?_ _) | (with_reducible apply Lies.past; case hb => (with_reducible assumption)) | (with_reducible apply Lies.keeps; (case k => (with_reducible assumption)); (case ht => decide)) | (with_reducible apply Lies.store3) | (with_reducible apply Lies.other; case hp => (first | omega | (simp; done) | (simp; omega)))))); obtain ⟨p0, p1, -, -⟩ := K1.two))
    go_ret2
    exact ⟨ret2 HV.out.1.symm HV.out.2.symm, by (repeat' (first | (with_reducible exact Below.refl _ _) | (with_reducible assumption) | (with_reducible refine below_drewN ?_ _) | (with_reducible refine below_new ?_ _) | (with_reducible refine Below.alloc ?_ ?_ _) | (with_reducible refine Below.drew ?_) | (with_reducible refine Below.setCell ?_ ?_ _) | (with_reducible apply below_at; (case k => (with_reducible assumption)); (case hB => omega)) | (with_reducible apply below_on; (with_reducible assumption)) | (go_size; done) | (with_reducible apply size_of)))⟩
  · have e1 := fdE_yes hok
    have HV : Hid (plV f x = (plc f x : Int) ∧ fdE f = 0 ∧ placeV x (n : Int) = (plc f x : Int) ∧ placeE (n : Int) = 0) := Lib.hid ⟨by rw [plV, if_pos hok], e1, by rw [← h.e]; exact (fd_place hok x).1, by rw [← h.e]; exact (fd_place hok x).2⟩
    clear h hok
    go_enter Try.func68, Try.ntmps68
    go_wp2_with (first | (go_at_call 39; refine (Check_any f A n c _ (H.out.below (by (repeat' (first | (with_reducible exact Below.refl _ _) | (with_reducible assumption) | (with_reducible refine below_drewN ?_ _) | (with_reducible refine below_new ?_ _) | (with_reducible refine Below.alloc ?_ ?_ _) | (with_reducible refine Below.drew ?_) | (with_reducible refine Below.setCell ?_ ?_ _) | (with_reducible apply below_at; (case k => (with_reducible assumption)); (case hB => omega)) | (with_reducible apply below_on; (with_reducible assumption)) | (go_size; done) | (with_reducible apply size_of)))))).mono ?_; rintro e w1 ⟨rfl, hb1⟩; rw [e1]; have K1 : Lies (w1) (w.heap.size) 29 [.int .i64 (f).l, .slice (A) (n) (c)] := (by (repeat' (first | (with_reducible assumption) | (with_reducible exact Lies.fresh _ _ _) | (with_reducible apply Lies.fresh_at; (first | (with_reducible rfl) | (simp; done))) | (with_reducible refine Lies.drew ?_) | (with_reducible refine Lies.drewN ?_ _) | (with_reducible refine Lies.alloc ?_ _) | (with_reducible apply Lies.past; case hb => (with_reducible assumption)) | (with_reducible apply Lies.keeps; (case k => (with_reducible assumption)); (case ht => decide)) | (with_reducible apply Lies.store3) | (with_reducible apply Lies.other; case hp => (first | omega | (simp; done) | (simp; omega)))))); obtain ⟨p0, p1, -, -⟩ := K1.two) | (go_at_call 84; refine (place_any x (n : Int) _ h1 h2).mono ?_; rintro e w2 ⟨rfl, rfl⟩; rw [HV.out.2.2.1, HV.out.2.2.2]))
    go_ret2
    exact ⟨ret2 HV.out.1.symm HV.out.2.1.symm, by (repeat' (first | (with_reducible exact Below.refl _ _) | (with_reducible assumption) | (with_reducible refine below_drewN ?_ _) | (with_reducible refine below_new ?_ _) | (with_reducible refine Below.alloc ?_ ?_ _) | (with_reducible refine Below.drew ?_) | (with_reducible refine Below.setCell ?_ ?_ _) | (with_reducible apply below_at; (case k => (with_reducible assumption)); (case hB => omega)) | (with_reducible apply below_on; (with_reducible assumption)) | (go_size; done) | (with_reducible apply size_of)))⟩
end Go.Proofs.Ytemiecghdmagnaa.fdW

namespace Go.Proofs.Ytemiecghdmagnaa.fdW
set_option maxRecDepth 100000
open Go.RowKit Go.Proofs.Ytemiecghdmagnaa.base Go.Proofs.Ytemiecghdmagnaa.rgP Go.Proofs.Ytemiecghdmagnaa.rgW Go.Proofs.Ytemiecghdmagnaa.fdP Go.Proofs.Ytemiecghdmagnaa.hashW
set_option linter.unusedVariables false
set_option linter.unusedSimpArgs false

theorem fd_parts {f : Fnd} {w : World} {A : Option Addr} {n c : Nat} (h : FdIn w A n c f) (hok : fdOk f = true) (x : Int) : 64 ≤ n ∧ n ≤ 8192 ∧ plc f x < n := by
  have h1 := fd_len hok
  have h2 := plc_lt hok x
  have := h.e
  omega
set_option maxHeartbeats 1000000 in
theorem Find_any (f : Fnd) (A : Option Addr) (n c : Nat) (x : Int) (w : World) (h : FdIn w A n c f) (h1 : 0 ≤ x) (h2 : x ≤ 4294967295) :
    Calls Try.prog 66 #[.agg #[.int .i64 (f).l, .slice A n c], .int .u32 x] w fun e w' => e = .returned (.tuple #[.int .i64 (findV f x), .int .i64 (fdE f)]) ∧ Below w.heap.size w w' := by
  have H := Lib.hid h
  cases hok : fdOk f
  · have HV : Hid (plV f x = 0 ∧ fdE f = 8 ∧ findV f x = 0) := Lib.hid ⟨by rw [plV, if_neg (by rw [hok]; decide)], fdE_no hok, by rw [findV, if_neg (by rw [hok]; decide)]⟩
    clear h hok
    go_enter Try.func66, Try.ntmps66
    go_wp2_with (first | (go_at_call 68; refine (placeOf_any f A n c x _ (H.out.below (by (repeat' (first | (with_reducible exact Below.refl _ _) | (with_reducible assumption) | (with_reducible refine below_drewN ?_ _) | (with_reducible refine below_new ?_ _) | (with_reducible refine Below.alloc ?_ ?_ _) | (with_reducible refine Below.drew ?_) | (with_reducible refine Below.setCell ?_ ?_ _) | (with_reducible apply below_at; (case k => (with_reducible assumption)); (case hB => omega)) | (with_reducible apply below_on; (with_reducible assumption)) | (go_size; done) | (with_reducible apply size_of))))) h1 h2).mono ?_; rintro e w1 ⟨rfl, hb1⟩; rw [HV.out.1, HV.out.2.1]; have K1 : Lies (w1) (w.heap.size) 29 [.int .i64 (f).l, .slice (A) (n) (c)] := (by (repeat' (first | (with_reducible assumption) | (with_reducible exact Lies.fresh _ _ _) | (with_reducible apply Lies.fresh_at; (first | (with_reducible rfl) | (simp; done))) | (with_reducible refine Lies.drew ?_) | (with_reducible refine Lies.drewN ?_ _) | (with_reducible refine Lies.alloc ?_ _) | (with_reducible apply Lies.past; case hb => (with_reducible assumption)) | (with_reducible apply Lies.keeps; (case k => (with_reducible assumption)); (case ht => decide)) | (with_reducible apply Lies.store3) | (with_reducible apply Lies.other; case hp => (first | omega | (simp; done) | (simp; omega)))))); obtain ⟨p0, p1, -, -⟩ := K1.two))
    go_ret2
    exact ⟨ret2 HV.out.2.2.symm HV.out.2.1.symm, by (repeat' (first | (with_reducible exact Below.refl _ _) | (with_reducible assumption) | (with_reducible refine below_drewN ?_ _) | (with_reducible refine below_new ?_ _) | (with_reducible refine Below.alloc ?_ ?_ _) | (with_reducible refine Below.drew ?_) | (with_reducible refine Below.setCell ?_ ?_ _) | (with_reducible apply below_at; (case k => (with_reducible assumption)); (case hB => omega)) | (with_reducible apply below_on; (with_reducible assumption)) | (go_size; done) | (with_reducible apply size_of)))⟩
  · obtain ⟨p, hp⟩ : ∃ p, plc f x = p := ⟨_, rfl⟩
    obtain ⟨b, off, rfl, hb, hc⟩ := has_some h.h (by have := (fd_parts h hok x).1; have := h.e; omega)
    have HV : Hid (plV f x = (p : Int) ∧ fdE f = 0 ∧ findV f x = f.s.getD p 0) := Lib.hid ⟨by rw [plV, if_pos hok, hp], fdE_yes hok, by rw [findV, if_pos hok, hp]⟩
    have hpn : p < n := by rw [← hp]; exact (fd_parts h hok x).2.2
    have q1 : (p : Int) < n := by omega
    have q0 : (0 : Int) ≤ p := by omega
    have HC := Lib.hid (And.intro hb (hc p (by rw [h.e]; exact hpn)))
    clear h hok hc hb hp hpn
    generalize f.s.getD p 0 = y at *
    generalize hA : (some ⟨b, off, none⟩ : Option Addr) = A at H
    go_enter Try.func66, Try.ntmps66
    subst hA
    go_wp2_with (first | (go_at_call 68; refine (placeOf_any f _ n c x _ (H.out.below (by (repeat' (first | (with_reducible exact Below.refl _ _) | (with_reducible assumption) | (with_reducible refine below_drewN ?_ _) | (with_reducible refine below_new ?_ _) | (with_reducible refine Below.alloc ?_ ?_ _) | (with_reducible refine Below.drew ?_) | (with_reducible refine Below.setCell ?_ ?_ _) | (with_reducible apply below_at; (case k => (with_reducible assumption)); (case hB => omega)) | (with_reducible apply below_on; (with_reducible assumption)) | (go_size; done) | (with_reducible apply size_of))))) h1 h2).mono ?_; rintro e w1 ⟨rfl, hb1⟩; rw [HV.out.1, HV.out.2.1]; have K1 : Lies (w1) (w.heap.size) 29 [.int .i64 (f).l, .slice ((some ⟨b, off, none⟩)) (n) (c)] := (by (repeat' (first | (with_reducible assumption) | (with_reducible exact Lies.fresh _ _ _) | (with_reducible apply Lies.fresh_at; (first | (with_reducible rfl) | (simp; done))) | (with_reducible refine Lies.drew ?_) | (with_reducible refine Lies.drewN ?_ _) | (with_reducible refine Lies.alloc ?_ _) | (with_reducible apply Lies.past; case hb => (with_reducible assumption)) | (with_reducible apply Lies.keeps; (case k => (with_reducible assumption)); (case ht => decide)) | (with_reducible apply Lies.store3) | (with_reducible apply Lies.other; case hp => (first | omega | (simp; done) | (simp; omega)))))); obtain ⟨p0, p1, -, -⟩ := K1.two; have c1 : w1.cell? ⟨b, off + p, none⟩ = some (.int .i64 y) := (by rw [(bcell (show Below w.heap.size w w1 by (repeat' (first | (with_reducible exact Below.refl _ _) | (with_reducible assumption) | (with_reducible refine below_drewN ?_ _) | (with_reducible refine below_new ?_ _) | (with_reducible refine Below.alloc ?_ ?_ _) | (with_reducible refine Below.drew ?_) | (with_reducible refine Below.setCell ?_ ?_ _) | (with_reducible apply below_at; (case k => (with_reducible assumption)); (case hB => omega)) | (with_reducible apply below_on; (with_reducible assumption)) | (go_size; done) | (with_reducible apply size_of))))).1 b _ HC.out.1]; exact HC.out.2)))
    go_ret2
    exact ⟨ret2 HV.out.2.2.symm HV.out.2.1.symm, by (repeat' (first | (with_reducible exact Below.refl _ _) | (with_reducible assumption) | (with_reducible refine below_drewN ?_ _) | (with_reducible refine below_new ?_ _) | (with_reducible refine Below.alloc ?_ ?_ _) | (with_reducible refine Below.drew ?_) | (with_reducible refine Below.setCell ?_ ?_ _) | (with_reducible apply below_at; (case k => (with_reducible assumption)); (case hB => omega)) | (with_reducible apply below_on; (with_reducible assumption)) | (go_size; done) | (with_reducible apply size_of)))⟩
set_option maxHeartbeats 1000000 in
theorem rPlace_ok (f : Fnd) (A : Option Addr) (n c : Nat) (x : Int) (w : World) (he : f.s.length = n) (n1 : 64 ≤ n) (n2 : n ≤ 8192) (h1 : 0 ≤ x) (h2 : x ≤ 4294967295) :
    Calls Try.prog 72 #[.agg #[.int .i64 (f).l, .slice A n c], .int .u32 x] w fun e w' => e = .returned (.int .i64 (plc f x : Int)) ∧ Below w.heap.size w w' := by
  have a1 : (64 : Int) ≤ n := by omega
  have a2 : (n : Int) ≤ 8192 := by omega
  have hw : IntKind.u32.wrap (n : Int) = (n : Int) := by rw [IntKind.wrap_u32]; omega
  have a3 : ¬ ((n : Int) = 0) := by omega
  have a4 : ((n : Int) == 0) = false := by simpa using a3
  obtain ⟨r, hr⟩ : ∃ r, Int.tmod x (n : Int) = r := ⟨_, rfl⟩
  have hr2 : x % (n : Int) = r := by rw [← hr, Int.tmod_eq_emod_of_nonneg h1]
  have r1 : 0 ≤ r := by rw [← hr2]; exact Int.emod_nonneg _ a3
  have r2 : r < n := by rw [← hr2]; exact Int.emod_lt_of_pos _ (by omega)
  have HV : Hid ((plc f x : Int) = r) := Lib.hid (by unfold plc; rw [he, hr2]; omega)
  have hw2 : IntKind.u32.wrap r = r := by rw [IntKind.wrap_u32]; omega
  have n0 : ¬ n = 0 := by omega
  have n00 : (n == 0) = false := by simpa using n0
  clear he hr2
  generalize f.l = l at *
  go_enter Try.func72, Try.ntmps72
  go_wp2_with fail
  go_ret
  exact ⟨ret1 HV.out.symm, by (repeat' (first | (with_reducible exact Below.refl _ _) | (with_reducible assumption) | (with_reducible refine below_drewN ?_ _) | (with_reducible refine below_new ?_ _) | (with_reducible refine Below.alloc ?_ ?_ _) | (with_reducible refine Below.drew ?_) | (with_reducible refine Below.setCell ?_ ?_ _) | (with_reducible apply below_at; (case k => (with_reducible assumption)); (case hB => omega)) | (with_reducible apply below_on; (with_reducible assumption)) | (go_size; done) | (with_reducible apply size_of)))⟩
set_option maxHeartbeats 400000 in
theorem rGreat_any (f : Fnd) (A : Option Addr) (n c : Nat) (w : World) (m1 : n ≤ 9223372036854775807) :
    Calls Try.prog 9 #[.agg #[.int .i64 (f).l, .slice A n c]] w fun e w' => e = .returned (.bool (decide (8300 < n))) ∧ Below w.heap.size w w' := by
  generalize f.l = l
  by_cases h1 : 8300 < n
  · have g : ((8300 : Int) < (n : Int)) := by omega
    go_enter Try.func9, Try.ntmps9
    go_wp2
    go_ret
    exact ⟨retb (by simp [h1]), by (repeat' (first | (with_reducible exact Below.refl _ _) | (with_reducible assumption) | (with_reducible refine below_drewN ?_ _) | (with_reducible refine below_new ?_ _) | (with_reducible refine Below.alloc ?_ ?_ _) | (with_reducible refine Below.drew ?_) | (with_reducible refine Below.setCell ?_ ?_ _) | (with_reducible apply below_at; (case k => (with_reducible assumption)); (case hB => omega)) | (with_reducible apply below_on; (with_reducible assumption)) | (go_size; done) | (with_reducible apply size_of)))⟩
  · have g : ¬ ((8300 : Int) < (n : Int)) := by omega
    go_enter Try.func9, Try.ntmps9
    go_wp2
    go_ret
    exact ⟨retb (by simp [h1]), by (repeat' (first | (with_reducible exact Below.refl _ _) | (with_reducible assumption) | (with_reducible refine below_drewN ?_ _) | (with_reducible refine below_new ?_ _) | (with_reducible refine Below.alloc ?_ ?_ _) | (with_reducible refine Below.drew ?_) | (with_reducible refine Below.setCell ?_ ?_ _) | (with_reducible apply below_at; (case k => (with_reducible assumption)); (case hB => omega)) | (with_reducible apply below_on; (with_reducible assumption)) | (go_size; done) | (with_reducible apply size_of)))⟩
end Go.Proofs.Ytemiecghdmagnaa.fdW

namespace Go.Proofs.Ytemiecghdmagnaa.fdW
set_option maxRecDepth 100000
open Go.RowKit Go.Proofs.Ytemiecghdmagnaa.base Go.Proofs.Ytemiecghdmagnaa.rgP Go.Proofs.Ytemiecghdmagnaa.rgW Go.Proofs.Ytemiecghdmagnaa.fdP Go.Proofs.Ytemiecghdmagnaa.hashW
set_option linter.unusedVariables false
set_option linter.unusedSimpArgs false

def sameF (a b : Fnd) : Bool := decide (a.l = b.l) && decide (a.s = b.s)
theorem sameF_refl (a : Fnd) : sameF a a = true := by unfold sameF; rw [decide_eq_true rfl, decide_eq_true rfl]; rfl
set_option maxHeartbeats 4000000 in
theorem rSame_any (a b : Fnd) (A B : Option Addr) (n m c d : Nat) (w : World) (hA : Has .i64 w A a.s) (eA : a.s.length = n) (hB : Has .i64 w B b.s) (eB : b.s.length = m) (m1 : n ≤ 9223372036854775807) (m2 : m ≤ 9223372036854775807) :
    Calls Try.prog 22 #[.agg #[.int .i64 (a).l, .slice A n c], .agg #[.int .i64 (b).l, .slice B m d]] w fun e w' => e = .returned (.bool (sameF a b)) ∧ Below w.heap.size w w' := by
  by_cases h1 : a.l = b.l
  · by_cases hl : n = m
    · subst hl
      have HV : Hid (sameF a b = decide (a.s = b.s)) := Lib.hid (by unfold sameF; rw [decide_eq_true h1]; simp)
      have HA := Lib.hid hA
      have HB := Lib.hid hB
      have HE := Lib.hid (And.intro eA eB)
      have n9 : (n : Int) ≤ 9223372036854775807 := by omega
      clear hA hB eA eB m1 m2
      generalize a.l = la at *
      generalize b.l = lb at *
      subst h1
      have LL : Hid (Lies ((w.alloc (.cells #[.int .i64 la, .slice A n c] 29)).alloc (.cells #[.int .i64 la, .slice B n d] 29)) w.heap.size 29 [.int .i64 la, .slice A n c] ∧ Lies ((w.alloc (.cells #[.int .i64 la, .slice A n c] 29)).alloc (.cells #[.int .i64 la, .slice B n d] 29)) (w.heap.size + 1) 29 [.int .i64 la, .slice B n d]) := Lib.hid ⟨by (repeat' (first | (with_reducible assumption) | (with_reducible exact Lies.fresh _ _ _) | (with_reducible apply Lies.fresh_at; (first | (with_reducible rfl) | (simp; done))) | (with_reducible refine Lies.drew ?_) | (with_reducible refine Lies.drewN ?_ _) | (with_reducible refine Lies.alloc ?_ _) | (with_reducible apply Lies.past; case hb => (with_reducible assumption)) | (with_reducible apply Lies.keeps; (case k => (with_reducible assumption)); (case ht => decide)) | (with_reducible apply Lies.store3) | (with_reducible apply Lies.other; case hp => (first | omega | (simp; done) | (simp; omega))))), by (repeat' (first | (with_reducible assumption) | (with_reducible exact Lies.fresh _ _ _) | (with_reducible apply Lies.fresh_at; (first | (with_reducible rfl) | (simp; done))) | (with_reducible refine Lies.drew ?_) | (with_reducible refine Lies.drewN ?_ _) | (with_reducible refine Lies.alloc ?_ _) | (with_reducible apply Lies.past; case hb => (with_reducible assumption)) | (with_reducible apply Lies.keeps; (case k => (with_reducible assumption)); (case ht => decide)) | (with_reducible apply Lies.store3) | (with_reducible apply Lies.other; case hp => (first | omega | (simp; done) | (simp; omega)))))⟩
      go_enter Try.func22, Try.ntmps22
      go_wp2_with fail
      go_loopw [5] (fun i wr => ∃ k : Nat, k ≤ n ∧ i = .int .i64 k ∧ a.s.take k = b.s.take k ∧ Lies wr w.heap.size 29 [.int .i64 la, .slice A n c] ∧ Lies wr (w.heap.size + 1) 29 [.int .i64 la, .slice B n d] ∧ Below w.heap.size w wr) (fun i _ => n - (intOf i).toNat)
      case atStart => exact ⟨0, Nat.zero_le _, rfl, rfl, LL.out.1, LL.out.2, by (repeat' (first | (with_reducible exact Below.refl _ _) | (with_reducible assumption) | (with_reducible refine below_drewN ?_ _) | (with_reducible refine below_new ?_ _) | (with_reducible refine Below.alloc ?_ ?_ _) | (with_reducible refine Below.drew ?_) | (with_reducible refine Below.setCell ?_ ?_ _) | (with_reducible apply below_at; (case k => (with_reducible assumption)); (case hB => omega)) | (with_reducible apply below_on; (with_reducible assumption)) | (go_size; done) | (with_reducible apply size_of)))⟩
      case round =>
        obtain ⟨k, hk, rfl, hall, K, M, acc⟩ := hrel
        have HL := Lib.hid hall
        have HK := Lib.hid K
        have HM := Lib.hid M
        have HACC := Lib.hid acc
        obtain ⟨p0, p1, -, -⟩ := K.two
        obtain ⟨q0, q1, -, -⟩ := M.two
        by_cases hlt : k < n
        · obtain ⟨b1, o1, rfl, hb1, hc1⟩ := has_some HA.out (by rw [HE.out.1]; omega)
          obtain ⟨b2, o2, rfl, hb2, hc2⟩ := has_some HB.out (by rw [HE.out.2]; omega)
          have hca : wr.cell? ⟨b1, o1 + k, none⟩ = some (.int .i64 (a.s.getD k 0)) := by rw [(bcell acc).1 b1 _ hb1]; exact hc1 k (by rw [HE.out.1]; exact hlt)
          have hcb : wr.cell? ⟨b2, o2 + k, none⟩ = some (.int .i64 (b.s.getD k 0)) := by rw [(bcell acc).1 b2 _ hb2]; exact hc2 k (by rw [HE.out.2]; exact hlt)
          have G1 := Lib.hid (take_snoc 0 a.s k (by rw [HE.out.1]; exact hlt))
          have G2 := Lib.hid (take_snoc 0 b.s k (by rw [HE.out.2]; exact hlt))
          have HNE : Hid (a.s.getD k 0 ≠ b.s.getD k 0 → sameF a b = false) := Lib.hid fun h => by rw [HV.out]; exact decide_eq_false (fun e => h (by rw [e]))
          have k1 : (k : Int) < n := by omega
          have k0 : (0 : Int) ≤ k := by omega
          have HLT := Lib.hid hlt
          clear K M acc hall hlt hk hc1 hc2
          generalize a.s.getD k 0 = x at *
          generalize b.s.getD k 0 = y at *
          by_cases hxy : x = y
          · subst hxy
            go_wp2_with fail
            go_quiet (fail)
            go_wp2_with fail
            go_roundw
            case rel => exact ⟨k + 1, HLT.out, by go_num, by rw [G1.out, G2.out, HL.out], by have := HK.out; (repeat' (first | (with_reducible assumption) | (with_reducible exact Lies.fresh _ _ _) | (with_reducible apply Lies.fresh_at; (first | (with_reducible rfl) | (simp; done))) | (with_reducible refine Lies.drew ?_) | (with_reducible refine Lies.drewN ?_ _) | (with_reducible refine Lies.alloc ?_ _) | (with_reducible apply Lies.past; case hb => (with_reducible assumption)) | (with_reducible apply Lies.keeps; (case k => (with_reducible assumption)); (case ht => decide)) | (with_reducible apply Lies.store3) | (with_reducible apply Lies.other; case hp => (first | omega | (simp; done) | (simp; omega))))), by have := HM.out; (repeat' (first | (with_reducible assumption) | (with_reducible exact Lies.fresh _ _ _) | (with_reducible apply Lies.fresh_at; (first | (with_reducible rfl) | (simp; done))) | (with_reducible refine Lies.drew ?_) | (with_reducible refine Lies.drewN ?_ _) | (with_reducible refine Lies.alloc ?_ _) | (with_reducible apply Lies.past; case hb => (with_reducible assumption)) | (with_reducible apply Lies.keeps; (case k => (with_reducible assumption)); (case ht => decide)) | (with_reducible apply Lies.store3) | (with_reducible apply Lies.other; case hp => (first | omega | (simp; done) | (simp; omega))))), by have := HACC.out; (repeat' (first | (with_reducible exact Below.refl _ _) | (with_reducible assumption) | (with_reducible refine below_drewN ?_ _) | (with_reducible refine below_new ?_ _) | (with_reducible refine Below.alloc ?_ ?_ _) | (with_reducible refine Below.drew ?_) | (with_reducible refine Below.setCell ?_ ?_ _) | (with_reducible apply below_at; (case k => (with_reducible assumption)); (case hB => omega)) | (with_reducible apply below_on; (with_reducible assumption)) | (go_size; done) | (with_reducible apply size_of)))⟩
            case measure => simp [intOf]; have := HLT.out; omega
          · have hne : (x == y) = false := by simpa using hxy
            go_wp2_with fail
            go_quiet (fail)
            go_wp2_with fail
            go_ret
            exact ⟨retb (HNE.out hxy).symm, by have := HACC.out; (repeat' (first | (with_reducible exact Below.refl _ _) | (with_reducible assumption) | (with_reducible refine below_drewN ?_ _) | (with_reducible refine below_new ?_ _) | (with_reducible refine Below.alloc ?_ ?_ _) | (with_reducible refine Below.drew ?_) | (with_reducible refine Below.setCell ?_ ?_ _) | (with_reducible apply below_at; (case k => (with_reducible assumption)); (case hB => omega)) | (with_reducible apply below_on; (with_reducible assumption)) | (go_size; done) | (with_reducible apply size_of)))⟩
        · have HG : Hid (sameF a b = true) := Lib.hid (by
            rw [HV.out]
            have h := HL.out
            rw [List.take_of_length_le (by rw [HE.out.1]; omega), List.take_of_length_le (by rw [HE.out.2]; omega)] at h
            exact decide_eq_true h)
          clear K M acc hall
          go_wp2_with fail
          go_ret
          exact ⟨retb HG.out.symm, by have := HACC.out; (repeat' (first | (with_reducible exact Below.refl _ _) | (with_reducible assumption) | (with_reducible refine below_drewN ?_ _) | (with_reducible refine below_new ?_ _) | (with_reducible refine Below.alloc ?_ ?_ _) | (with_reducible refine Below.drew ?_) | (with_reducible refine Below.setCell ?_ ?_ _) | (with_reducible apply below_at; (case k => (with_reducible assumption)); (case hB => omega)) | (with_reducible apply below_on; (with_reducible assumption)) | (go_size; done) | (with_reducible apply size_of)))⟩
    · have HV : Hid (sameF a b = false) := Lib.hid (by unfold sameF; rw [decide_eq_false (p := a.s = b.s) (fun e => hl (by rw [← eA, ← eB, e])), Bool.and_false])
      have hl1 : ¬ (n : Int) = (m : Int) := by omega
      have hl2 : ((n : Int) == (m : Int)) = false := by simpa using hl1
      generalize a.l = la at *
      generalize b.l = lb at *
      subst h1
      clear hA hB eA eB hl
      go_enter Try.func22, Try.ntmps22
      go_wp2
      go_ret
      exact ⟨retb HV.out.symm, by (repeat' (first | (with_reducible exact Below.refl _ _) | (with_reducible assumption) | (with_reducible refine below_drewN ?_ _) | (with_reducible refine below_new ?_ _) | (with_reducible refine Below.alloc ?_ ?_ _) | (with_reducible refine Below.drew ?_) | (with_reducible refine Below.setCell ?_ ?_ _) | (with_reducible apply below_at; (case k => (with_reducible assumption)); (case hB => omega)) | (with_reducible apply below_on; (with_reducible assumption)) | (go_size; done) | (with_reducible apply size_of)))⟩
  · have HV : Hid (sameF a b = false) := Lib.hid (by unfold sameF; rw [decide_eq_false h1]; simp)
    have h3 : (a.l == b.l) = false := by simpa using h1
    clear hA hB eA eB
    go_enter Try.func22, Try.ntmps22
    go_wp2
    go_ret
    exact ⟨retb HV.out.symm, by (repeat' (first | (with_reducible exact Below.refl _ _) | (with_reducible assumption) | (with_reducible refine below_drewN ?_ _) | (with_reducible refine below_new ?_ _) | (with_reducible refine Below.alloc ?_ ?_ _) | (with_reducible refine Below.drew ?_) | (with_reducible refine Below.setCell ?_ ?_ _) | (with_reducible apply below_at; (case k => (with_reducible assumption)); (case hB => omega)) | (with_reducible apply below_on; (with_reducible assumption)) | (go_size; done) | (with_reducible apply size_of)))⟩
end Go.Proofs.Ytemiecghdmagnaa.fdW

namespace Go.Proofs.Ytemiecghdmagnaa.fdW
set_option maxRecDepth 100000
open Go.RowKit Go.Proofs.Ytemiecghdmagnaa.base Go.Proofs.Ytemiecghdmagnaa.rgP Go.Proofs.Ytemiecghdmagnaa.rgW Go.Proofs.Ytemiecghdmagnaa.fdP Go.Proofs.Ytemiecghdmagnaa.hashW
set_option linter.unusedVariables false
set_option linter.unusedSimpArgs false

theorem lies_store2 {w : World} {g : Nat} {t : TypeId} {x y a b : Value} (h : Lies w g t [x, y]) : Lies ((w.setCell ⟨g, 0, none⟩ a).setCell ⟨g, 1, none⟩ b) g t [a, b] := (h.set 0 a).set 1 b
theorem below_store2 {w w' : World} {g : Nat} {a b : Value} (h : Below w.heap.size w w') (hg : w.heap.size ≤ g) : Below w.heap.size w ((w'.setCell ⟨g, 0, none⟩ a).setCell ⟨g, 1, none⟩ b) := Below.setCell (Below.setCell h hg _) hg _
theorem OwnV.store2 {w : World} {B g : Nat} {v : Value} {zs : List Int} {t : TypeId} {x y a b : Value} (h : OwnV w B v zs) (K : Lies w g t [x, y]) (ht : t ≠ 3) : OwnV ((w.setCell ⟨g, 0, none⟩ a).setCell ⟨g, 1, none⟩ b) B v zs :=
  (h.other K ht _ _).other (K.set 0 _) ht _ _
theorem own_store2 {w : World} {B g : Nat} {v : Value} {zs : List Int} {x y a b : Value} {t : TypeId} (h : OwnI w B 3 .i64 v zs) (K : Lies w g t [x, y]) (ht : t ≠ 3) : OwnI ((w.setCell ⟨g, 0, none⟩ a).setCell ⟨g, 1, none⟩ b) B 3 .i64 v zs :=
  own_set (own_set h (own_ne h K ht) a) (own_ne h K ht) b
theorem OwnV.head {w : World} {B : Nat} {A : Option Addr} {n c : Nat} {zs : List Int} (h : OwnV w B (.slice A n c) zs) (hp : zs ≠ []) : ∃ g, A = some ⟨g, 0, none⟩ ∧ B ≤ g ∧ g < w.heap.size ∧ OwnI w B 3 .i64 (.slice (some ⟨g, 0, none⟩) n c) zs := by
  rcases h with h | ⟨h, _⟩
  · obtain ⟨g, rfl, h1, h2, _⟩ := h.form hp
    exact ⟨g, rfl, h1, h2, h⟩
  · exact absurd h hp
theorem two_of {w : World} {g g' : Nat} {t : TypeId} {a b a' b' : Value} (h : Lies w g t [a, b]) (k : Lies w g' t [a', b']) : w.cell? ⟨g, 0, none⟩ = some a ∧ w.cell? ⟨g, 1, none⟩ = some b ∧ w.cell? ⟨g', 0, none⟩ = some (cellOr w g' 0) ∧ w.cell? ⟨g', 1, none⟩ = some (cellOr w g' 1) ∧ w.frozen? ⟨g', 0, none⟩ = false ∧ w.frozen? ⟨g', 1, none⟩ = false := ⟨h.two.1, h.two.2.1, cellOr_of k.two.1, cellOr_of k.two.2.1, k.two.2.2⟩
set_option maxHeartbeats 4000000 in
theorem Twin_any (f : Fnd) (A : Option Addr) (n c : Nat) (w : World) (hA : Has .i64 w A f.s) (eA : f.s.length = n) (h1 : n ≤ 8300) :
    Calls Try.prog 11 #[.agg #[.int .i64 (f).l, .slice A n c]] w fun e w' => ∃ A' c', e = .returned (.agg #[.int .i64 (f).l, .slice A' n c']) ∧ OwnV w' w.heap.size (.slice A' n c') f.s ∧ Below w.heap.size w w' := by
  have HP := Lib.hid hA
  have EP := Lib.hid eA
  clear hA eA
  generalize f.l = l at *
  go_enter Try.func11, Try.ntmps11
  go_wp2_with fail
  have HZ0 : Hid (Lies ((w.alloc (.cells #[.int .i64 l, .slice A n c] 29)).alloc (.cells #[.int .i64 0, .slice none 0 0] 29)) w.heap.size 29 [.int .i64 l, .slice A n c] ∧ Lies ((w.alloc (.cells #[.int .i64 l, .slice A n c] 29)).alloc (.cells #[.int .i64 0, .slice none 0 0] 29)) (w.heap.size + 1) 29 [.int .i64 0, .slice none 0 0]) := Lib.hid ⟨by (repeat' (first | (with_reducible assumption) | (with_reducible exact Lies.fresh _ _ _) | (with_reducible apply Lies.fresh_at; (first | (with_reducible rfl) | (simp; done))) | (with_reducible refine Lies.drew ?_) | (with_reducible refine Lies.drewN ?_ _) | (with_reducible refine Lies.alloc ?_ _) | (with_reducible apply Lies.past; case hb => (with_reducible assumption)) | (with_reducible apply Lies.keeps; (case k => (with_reducible assumption)); (case ht => decide)) | (with_reducible apply Lies.store3) | (with_reducible apply Lies.other; case hp => (first | omega | (simp; done) | (simp; omega))))), by (repeat' (first | (with_reducible assumption) | (with_reducible exact Lies.fresh _ _ _) | (with_reducible apply Lies.fresh_at; (first | (with_reducible rfl) | (simp; done))) | (with_reducible refine Lies.drew ?_) | (with_reducible refine Lies.drewN ?_ _) | (with_reducible refine Lies.alloc ?_ _) | (with_reducible apply Lies.past; case hb => (with_reducible assumption)) | (with_reducible apply Lies.keeps; (case k => (with_reducible assumption)); (case ht => decide)) | (with_reducible apply Lies.store3) | (with_reducible apply Lies.other; case hp => (first | omega | (simp; done) | (simp; omega)))))⟩
  go_region_held3 (fun x' => x'.cell? ⟨w.heap.size, 0, none⟩ = some (.int .i64 l) ∧ x'.cell? ⟨w.heap.size, 1, none⟩ = some (.slice A n c) ∧ x'.cell? ⟨w.heap.size + 1, 0, none⟩ = some (cellOr x' (w.heap.size + 1) 0) ∧ x'.cell? ⟨w.heap.size + 1, 1, none⟩ = some (cellOr x' (w.heap.size + 1) 1) ∧ x'.frozen? ⟨w.heap.size + 1, 0, none⟩ = false ∧ x'.frozen? ⟨w.heap.size + 1, 1, none⟩ = false)
    ((apply two_of (t := 29); (focus (have KZ := HZ0.out.1; (repeat' (first | (with_reducible assumption) | (with_reducible refine Lies.drew ?_) | (with_reducible refine Lies.drewN ?_ _) | (with_reducible refine Lies.alloc ?_ _) | (with_reducible apply lies_store2) | (with_reducible refine Lies.other ?_ (by simp) _) | (with_reducible apply Lies.past; case hb => (with_reducible assumption)))))); (focus (have KZ := HZ0.out.2; (repeat' (first | (with_reducible assumption) | (with_reducible refine Lies.drew ?_) | (with_reducible refine Lies.drewN ?_ _) | (with_reducible refine Lies.alloc ?_ _) | (with_reducible apply lies_store2) | (with_reducible refine Lies.other ?_ (by simp) _) | (with_reducible apply Lies.past; case hb => (with_reducible assumption))))))))
    (first | (refine step_appIg (by rfl) _ _ (by rfl) _ _ [] (by rfl) (.inr ⟨rfl, _, rfl⟩) A n c f.s (by rfl) EP.out (HP.out.below (by (repeat' (first | (with_reducible exact Below.refl _ _) | (with_reducible assumption) | (with_reducible refine below_drewN ?_ _) | (with_reducible refine below_new ?_ _) | (with_reducible refine Below.alloc ?_ ?_ _) | (with_reducible refine Below.drew ?_) | (with_reducible refine Below.setCell ?_ ?_ _) | (with_reducible apply below_at; (case k => (with_reducible assumption)); (case hB => omega)) | (with_reducible apply below_on; (with_reducible assumption)) | (go_size; done) | (with_reducible apply size_of)))) (Nat.le_refl _)) n (by simp) (by omega) (Nat.le_refl _) ?_; intro A3 c3 w3 ho3 hk3 hb3; rw [List.nil_append] at ho3))
  all_goals
    go_wp2_with fail
    have z3 := hb3.size
    simp at z3
    have hr3 : Lies (w3) (w.heap.size + 1) 29 [.int .i64 0, .slice none 0 0] := (by have KZ := HZ0.out.2; (repeat' (first | (with_reducible assumption) | (with_reducible refine Lies.drew ?_) | (with_reducible refine Lies.drewN ?_ _) | (with_reducible refine Lies.alloc ?_ _) | (with_reducible apply lies_store2) | (with_reducible refine Lies.other ?_ (by simp) _) | (with_reducible apply Lies.past; case hb => (with_reducible assumption)))))
    obtain ⟨t0, t1, -, -⟩ := (lies_store2 hr3 (a := .int .i64 l) (b := .slice A3 n c3)).two
    refine bodyPost_ret (by simp [results, Try.results11, go_sem, t0, t1]; try rfl) rfl ?_
    exact ⟨A3, c3, rfl, OwnV.store2 (OwnV.mono ho3 (by simp; try omega)) hr3 (by decide), by (repeat' (first | (with_reducible exact Below.refl _ _) | (with_reducible assumption) | (with_reducible refine below_drewN ?_ _) | (with_reducible refine below_new ?_ _) | (with_reducible refine Below.alloc ?_ ?_ _) | (with_reducible refine Below.drew ?_) | (with_reducible refine Below.setCell ?_ ?_ _) | (with_reducible apply below_at; (case k => (with_reducible assumption)); (case hB => omega)) | (with_reducible apply below_on; (with_reducible assumption)) | (go_size; done) | (with_reducible apply size_of)))⟩
theorem put_kinds {f : Fnd} {n : Int} (h : fputE f n ≠ 0) : fdOk f = false ∧ fputE f n = 8 ∨ fdOk f = true ∧ fputE f n = 2 ∧ (n < 0 ∨ ¬ n < 0 ∧ 1073741824 < n) := by
  unfold fputE at *
  cases hok : fdOk f
  · left; simp
  · right
    rw [hok] at h
    simp only [if_true] at h ⊢
    by_cases c1 : 0 ≤ n ∧ n ≤ 1073741824
    · rw [if_pos c1] at h; exact absurd rfl h
    · rw [if_neg c1]
      exact ⟨by trivial, by trivial, by omega⟩
set_option maxHeartbeats 2000000 in
theorem Put_bad (f : Fnd) (A : Option Addr) (n c : Nat) (x k : Int) (w : World) (h : FdIn w A n c f) (h1 : 0 ≤ x) (h2 : x ≤ 4294967295) (hk : fputE f k ≠ 0) :
    Calls Try.prog 44 #[.agg #[.int .i64 (f).l, .slice A n c], .int .u32 x, .int .i64 k] w fun e w' => e = .returned (.tuple #[.agg #[.int .i64 0, .slice none 0 0], .int .i64 (fputE f k)]) ∧ Below w.heap.size w w' := by
  have H := Lib.hid h
  rcases put_kinds hk with ⟨a1, a2⟩ | ⟨a1, a2, a3 | ⟨a3, a4⟩⟩
  · have HV : Hid (plV f x = 0 ∧ fdE f = 8) := Lib.hid ⟨by rw [plV, if_neg (by rw [a1]; decide)], fdE_no a1⟩
    rw [a2]; clear h hk a1 a2
    go_enter Try.func44, Try.ntmps44
    go_wp2_with (first | (go_at_call 68; refine (placeOf_any f A n c x _ (H.out.below (by (repeat' (first | (with_reducible exact Below.refl _ _) | (with_reducible assumption) | (with_reducible refine below_drewN ?_ _) | (with_reducible refine below_new ?_ _) | (with_reducible refine Below.alloc ?_ ?_ _) | (with_reducible refine Below.drew ?_) | (with_reducible refine Below.setCell ?_ ?_ _) | (with_reducible apply below_at; (case k => (with_reducible assumption)); (case hB => omega)) | (with_reducible apply below_on; (with_reducible assumption)) | (go_size; done) | (with_reducible apply size_of))))) h1 h2).mono ?_; rintro e w1 ⟨rfl, hb1⟩; rw [HV.out.1, HV.out.2]; have K1 : Lies (w1) (w.heap.size) 29 [.int .i64 (f).l, .slice (A) (n) (c)] := (by (repeat' (first | (with_reducible assumption) | (with_reducible exact Lies.fresh _ _ _) | (with_reducible apply Lies.fresh_at; (first | (with_reducible rfl) | (simp; done))) | (with_reducible refine Lies.drew ?_) | (with_reducible refine Lies.drewN ?_ _) | (with_reducible refine Lies.alloc ?_ _) | (with_reducible apply Lies.past; case hb => (with_reducible assumption)) | (with_reducible apply Lies.keeps; (case k => (with_reducible assumption)); (case ht => decide)) | (with_reducible apply Lies.store3) | (with_reducible apply Lies.other; case hp => (first | omega | (simp; done) | (simp; omega)))))); have Z1 : Lies (w1) (w.heap.size + 1) 29 [.int .i64 0, .slice none 0 0] := (by (repeat' (first | (with_reducible assumption) | (with_reducible exact Lies.fresh _ _ _) | (with_reducible apply Lies.fresh_at; (first | (with_reducible rfl) | (simp; done))) | (with_reducible refine Lies.drew ?_) | (with_reducible refine Lies.drewN ?_ _) | (with_reducible refine Lies.alloc ?_ _) | (with_reducible apply Lies.past; case hb => (with_reducible assumption)) | (with_reducible apply Lies.keeps; (case k => (with_reducible assumption)); (case ht => decide)) | (with_reducible apply Lies.store3) | (with_reducible apply Lies.other; case hp => (first | omega | (simp; done) | (simp; omega)))))); obtain ⟨p0, p1, -, -⟩ := K1.two; obtain ⟨z0, z1, y0, y1⟩ := Z1.two; have HZ1 := Lib.hid Z1; have HK1 := Lib.hid K1; have HB1 := Lib.hid hb1; have lt1 := Z1.lt; have lt0 := K1.lt))
    obtain ⟨t0, t1, -, -⟩ := (lies_store2 HZ1.out (a := .int .i64 0) (b := .slice none 0 0)).two
    refine bodyPost_ret (by simp [results, Try.results44, go_sem, t0, t1]; try rfl) rfl ?_
    exact ⟨rfl, below_store2 (by have := HB1.out; (repeat' (first | (with_reducible exact Below.refl _ _) | (with_reducible assumption) | (with_reducible refine below_drewN ?_ _) | (with_reducible refine below_new ?_ _) | (with_reducible refine Below.alloc ?_ ?_ _) | (with_reducible refine Below.drew ?_) | (with_reducible refine Below.setCell ?_ ?_ _) | (with_reducible apply below_at; (case k => (with_reducible assumption)); (case hB => omega)) | (with_reducible apply below_on; (with_reducible assumption)) | (go_size; done) | (with_reducible apply size_of)))) (Nat.le_succ _)⟩
  all_goals
    have HV : Hid (plV f x = (plc f x : Int) ∧ fdE f = 0) := Lib.hid ⟨by rw [plV, if_pos a1], fdE_yes a1⟩
    rw [a2]; clear h hk a1 a2
    go_enter Try.func44, Try.ntmps44
    go_wp2_with (first | (go_at_call 68; refine (placeOf_any f A n c x _ (H.out.below (by (repeat' (first | (with_reducible exact Below.refl _ _) | (with_reducible assumption) | (with_reducible refine below_drewN ?_ _) | (with_reducible refine below_new ?_ _) | (with_reducible refine Below.alloc ?_ ?_ _) | (with_reducible refine Below.drew ?_) | (with_reducible refine Below.setCell ?_ ?_ _) | (with_reducible apply below_at; (case k => (with_reducible assumption)); (case hB => omega)) | (with_reducible apply below_on; (with_reducible assumption)) | (go_size; done) | (with_reducible apply size_of))))) h1 h2).mono ?_; rintro e w1 ⟨rfl, hb1⟩; rw [HV.out.1, HV.out.2]; have K1 : Lies (w1) (w.heap.size) 29 [.int .i64 (f).l, .slice (A) (n) (c)] := (by (repeat' (first | (with_reducible assumption) | (with_reducible exact Lies.fresh _ _ _) | (with_reducible apply Lies.fresh_at; (first | (with_reducible rfl) | (simp; done))) | (with_reducible refine Lies.drew ?_) | (with_reducible refine Lies.drewN ?_ _) | (with_reducible refine Lies.alloc ?_ _) | (with_reducible apply Lies.past; case hb => (with_reducible assumption)) | (with_reducible apply Lies.keeps; (case k => (with_reducible assumption)); (case ht => decide)) | (with_reducible apply Lies.store3) | (with_reducible apply Lies.other; case hp => (first | omega | (simp; done) | (simp; omega)))))); have Z1 : Lies (w1) (w.heap.size + 1) 29 [.int .i64 0, .slice none 0 0] := (by (repeat' (first | (with_reducible assumption) | (with_reducible exact Lies.fresh _ _ _) | (with_reducible apply Lies.fresh_at; (first | (with_reducible rfl) | (simp; done))) | (with_reducible refine Lies.drew ?_) | (with_reducible refine Lies.drewN ?_ _) | (with_reducible refine Lies.alloc ?_ _) | (with_reducible apply Lies.past; case hb => (with_reducible assumption)) | (with_reducible apply Lies.keeps; (case k => (with_reducible assumption)); (case ht => decide)) | (with_reducible apply Lies.store3) | (with_reducible apply Lies.other; case hp => (first | omega | (simp; done) | (simp; omega)))))); obtain ⟨p0, p1, -, -⟩ := K1.two; obtain ⟨z0, z1, y0, y1⟩ := Z1.two; have HZ1 := Lib.hid Z1; have HK1 := Lib.hid K1; have HB1 := Lib.hid hb1; have lt1 := Z1.lt; have lt0 := K1.lt))
    obtain ⟨t0, t1, -, -⟩ := (lies_store2 HZ1.out (a := .int .i64 0) (b := .slice none 0 0)).two
    refine bodyPost_ret (by simp [results, Try.results44, go_sem, t0, t1]; try rfl) rfl ?_
    exact ⟨rfl, below_store2 (by have := HB1.out; (repeat' (first | (with_reducible exact Below.refl _ _) | (with_reducible assumption) | (with_reducible refine below_drewN ?_ _) | (with_reducible refine below_new ?_ _) | (with_reducible refine Below.alloc ?_ ?_ _) | (with_reducible refine Below.drew ?_) | (with_reducible refine Below.setCell ?_ ?_ _) | (with_reducible apply below_at; (case k => (with_reducible assumption)); (case hB => omega)) | (with_reducible apply below_on; (with_reducible assumption)) | (go_size; done) | (with_reducible apply size_of)))) (Nat.le_succ _)⟩
end Go.Proofs.Ytemiecghdmagnaa.fdW

namespace Go.Proofs.Ytemiecghdmagnaa.fdW
set_option maxRecDepth 100000
open Go.RowKit Go.Proofs.Ytemiecghdmagnaa.base Go.Proofs.Ytemiecghdmagnaa.rgP Go.Proofs.Ytemiecghdmagnaa.rgW Go.Proofs.Ytemiecghdmagnaa.fdP Go.Proofs.Ytemiecghdmagnaa.hashW
set_option linter.unusedVariables false
set_option linter.unusedSimpArgs false

theorem fput_parts {f : Fnd} {k : Int} (h : fputE f k = 0) : fdOk f = true ∧ 0 ≤ k ∧ k ≤ 1073741824 := by
  unfold fputE at h
  cases hok : fdOk f
  · rw [hok] at h; simp at h
  · rw [hok] at h
    simp only [if_true] at h
    by_cases c1 : 0 ≤ k ∧ k ≤ 1073741824
    · exact ⟨by trivial, c1⟩
    · rw [if_neg c1] at h; simp at h
set_option maxHeartbeats 4000000 in
theorem Put_ok (f : Fnd) (A : Option Addr) (n c : Nat) (x k : Int) (w : World) (h : FdIn w A n c f) (h1 : 0 ≤ x) (h2 : x ≤ 4294967295) (hk : fputE f k = 0) :
    Calls Try.prog 44 #[.agg #[.int .i64 (f).l, .slice A n c], .int .u32 x, .int .i64 k] w fun e w' => ∃ g c', e = .returned (.tuple #[.agg #[.int .i64 f.l, .slice (some ⟨g, 0, none⟩) n c'], .int .i64 0]) ∧ OwnI w' w.heap.size 3 .i64 (.slice (some ⟨g, 0, none⟩) n c') (fput f x k).s ∧ Below w.heap.size w w' := by
  have H := Lib.hid h
  obtain ⟨a1, a2, a3⟩ := fput_parts hk
  obtain ⟨b1, b2, b3⟩ := fd_parts h a1 x
  obtain ⟨p, hp⟩ : ∃ p, plc f x = p := ⟨_, rfl⟩
  have HV : Hid (plV f x = (p : Int) ∧ fdE f = 0) := Lib.hid ⟨by rw [plV, if_pos a1, hp], fdE_yes a1⟩
  have HP := Lib.hid hp
  rw [hp] at b3
  have HBD := Lib.hid (And.intro b1 (And.intro b2 b3))
  have HNE : Hid (f.s ≠ []) := Lib.hid (fun e => by have := h.e; rw [e] at this; simp at this; omega)
  have q1 : (p : Int) < n := by omega
  have q0 : (0 : Int) ≤ p := by omega
  clear h hk a1 hp b1 b2 b3
  go_enter Try.func44, Try.ntmps44
  go_upto_region 6 with (first | (go_at_call 68; refine (placeOf_any f A n c x _ (H.out.below (by (repeat' (first | (with_reducible exact Below.refl _ _) | (with_reducible assumption) | (with_reducible refine below_drewN ?_ _) | (with_reducible refine below_new ?_ _) | (with_reducible refine Below.alloc ?_ ?_ _) | (with_reducible refine Below.drew ?_) | (with_reducible refine Below.setCell ?_ ?_ _) | (with_reducible apply below_at; (case k => (with_reducible assumption)); (case hB => omega)) | (with_reducible apply below_on; (with_reducible assumption)) | (go_size; done) | (with_reducible apply size_of))))) h1 h2).mono ?_; rintro e w1 ⟨rfl, hb1⟩; rw [HV.out.1, HV.out.2]; have K1 : Lies (w1) (w.heap.size) 29 [.int .i64 (f).l, .slice (A) (n) (c)] := (by (repeat' (first | (with_reducible assumption) | (with_reducible exact Lies.fresh _ _ _) | (with_reducible apply Lies.fresh_at; (first | (with_reducible rfl) | (simp; done))) | (with_reducible refine Lies.drew ?_) | (with_reducible refine Lies.drewN ?_ _) | (with_reducible refine Lies.alloc ?_ _) | (with_reducible apply Lies.past; case hb => (with_reducible assumption)) | (with_reducible apply Lies.keeps; (case k => (with_reducible assumption)); (case ht => decide)) | (with_reducible apply Lies.store3) | (with_reducible apply Lies.other; case hp => (first | omega | (simp; done) | (simp; omega)))))); have Z1 : Lies (w1) (w.heap.size + 1) 29 [.int .i64 0, .slice none 0 0] := (by (repeat' (first | (with_reducible assumption) | (with_reducible exact Lies.fresh _ _ _) | (with_reducible apply Lies.fresh_at; (first | (with_reducible rfl) | (simp; done))) | (with_reducible refine Lies.drew ?_) | (with_reducible refine Lies.drewN ?_ _) | (with_reducible refine Lies.alloc ?_ _) | (with_reducible apply Lies.past; case hb => (with_reducible assumption)) | (with_reducible apply Lies.keeps; (case k => (with_reducible assumption)); (case ht => decide)) | (with_reducible apply Lies.store3) | (with_reducible apply Lies.other; case hp => (first | omega | (simp; done) | (simp; omega)))))); obtain ⟨p0, p1, -, -⟩ := K1.two; obtain ⟨z0, z1, y0, y1⟩ := Z1.two; have HZ1 := Lib.hid Z1; have HK1 := Lib.hid K1; have HB1 := Lib.hid hb1; have lt1 := Z1.lt; have lt0 := K1.lt))
  go_cut [10] (fun s10 wx => ∃ g G c', s10 = .pointer (some ⟨G, 0, none⟩) ∧ (Lies (wx) (G) 29 [.int .i64 (f).l, .slice ((some ⟨g, 0, none⟩)) (n) (c')]) ∧ OwnI wx (w.heap.size + 2) 3 .i64 (.slice (some ⟨g, 0, none⟩) n c') f.s ∧ (Lies (wx) (w.heap.size + 1) 29 [.int .i64 0, .slice none 0 0]) ∧ Below w.heap.size w wx ∧ w.heap.size + 1 < G)
  case first =>
    go_region_law (first | (go_simp; go_at_call 69; refine (CloneI (A := A) (n := n) (c := c) (zs := f.s) (H.out.h.below (by have := HB1.out; (repeat' (first | (with_reducible exact Below.refl _ _) | (with_reducible assumption) | (with_reducible refine below_drewN ?_ _) | (with_reducible refine below_new ?_ _) | (with_reducible refine Below.alloc ?_ ?_ _) | (with_reducible refine Below.drew ?_) | (with_reducible refine Below.setCell ?_ ?_ _) | (with_reducible apply below_at; (case k => (with_reducible assumption)); (case hB => omega)) | (with_reducible apply below_on; (with_reducible assumption)) | (go_size; done) | (with_reducible apply size_of)))) (Nat.le_refl _)) H.out.e H.out.c1 (by have := HBD.out; omega)).mono ?_; rintro e w2 ⟨A2, c2, rfl, hh2, o2, hb2⟩; obtain ⟨g, rfl, g1, g2, O2⟩ := OwnV.head o2 HNE.out; have K2 : Lies (w2) (w.heap.size) 29 [.int .i64 (f).l, .slice (A) (n) (c)] := (by have := HK1.out; (repeat' (first | (with_reducible assumption) | (with_reducible exact Lies.fresh _ _ _) | (with_reducible apply Lies.fresh_at; (first | (with_reducible rfl) | (simp; done))) | (with_reducible refine Lies.drew ?_) | (with_reducible refine Lies.drewN ?_ _) | (with_reducible refine Lies.alloc ?_ _) | (with_reducible apply Lies.past; case hb => (with_reducible assumption)) | (with_reducible apply Lies.keeps; (case k => (with_reducible assumption)); (case ht => decide)) | (with_reducible apply Lies.store3) | (with_reducible apply Lies.other; case hp => (first | omega | (simp; done) | (simp; omega)))))); obtain ⟨m0, m1, -, -⟩ := K2.two; have lt2 := K2.lt; (first | (refine lay (P := Lies (w2) (w1.heap.size) 29 [.int .i64 0, .slice none 0 0]) ?_ ?_; (focus ((repeat' (first | (with_reducible assumption) | (with_reducible exact Lies.fresh _ _ _) | (with_reducible apply Lies.fresh_at; (first | (with_reducible rfl) | (simp; done))) | (with_reducible refine Lies.drew ?_) | (with_reducible refine Lies.drewN ?_ _) | (with_reducible refine Lies.alloc ?_ _) | (with_reducible apply Lies.past; case hb => (with_reducible assumption)) | (with_reducible apply Lies.keeps; (case k => (with_reducible assumption)); (case ht => decide)) | (with_reducible apply Lies.store3) | (with_reducible apply Lies.other; case hp => (first | omega | (simp; done) | (simp; omega))))); done)); intro L9; obtain ⟨b0, b1, k0, k1⟩ := L9.two) | skip)))
    all_goals
      go_wp2_with fail
      go_meet
      have h3 := HZ1.out
      have h4 := HK1.out
      have s2 := hb2.size
      simp at s2
      refine ⟨g, _, _, rfl, by first | exact lies_store2 (by (repeat' (first | (with_reducible assumption) | (with_reducible exact Lies.fresh _ _ _) | (with_reducible apply Lies.fresh_at; (first | (with_reducible rfl) | (simp; done))) | (with_reducible refine Lies.drew ?_) | (with_reducible refine Lies.drewN ?_ _) | (with_reducible refine Lies.alloc ?_ _) | (with_reducible apply Lies.past; case hb => (with_reducible assumption)) | (with_reducible apply Lies.keeps; (case k => (with_reducible assumption)); (case ht => decide)) | (with_reducible apply Lies.store3) | (with_reducible apply Lies.other; case hp => (first | omega | (simp; done) | (simp; omega)))))) | (repeat' (first | (with_reducible assumption) | (with_reducible exact Lies.fresh _ _ _) | (with_reducible apply Lies.fresh_at; (first | (with_reducible rfl) | (simp; done))) | (with_reducible refine Lies.drew ?_) | (with_reducible refine Lies.drewN ?_ _) | (with_reducible refine Lies.alloc ?_ _) | (with_reducible apply Lies.past; case hb => (with_reducible assumption)) | (with_reducible apply Lies.keeps; (case k => (with_reducible assumption)); (case ht => decide)) | (with_reducible apply Lies.store3) | (with_reducible apply Lies.other; case hp => (first | omega | (simp; done) | (simp; omega))))), ?_, by first | ((repeat' (first | (with_reducible assumption) | (with_reducible exact Lies.fresh _ _ _) | (with_reducible apply Lies.fresh_at; (first | (with_reducible rfl) | (simp; done))) | (with_reducible refine Lies.drew ?_) | (with_reducible refine Lies.drewN ?_ _) | (with_reducible refine Lies.alloc ?_ _) | (with_reducible apply Lies.past; case hb => (with_reducible assumption)) | (with_reducible apply Lies.keeps; (case k => (with_reducible assumption)); (case ht => decide)) | (with_reducible apply Lies.store3) | (with_reducible apply Lies.other; case hp => (first | omega | (simp; done) | (simp; omega))))); done) | exact (Lies.other (Lies.other (by (repeat' (first | (with_reducible assumption) | (with_reducible exact Lies.fresh _ _ _) | (with_reducible apply Lies.fresh_at; (first | (with_reducible rfl) | (simp; done))) | (with_reducible refine Lies.drew ?_) | (with_reducible refine Lies.drewN ?_ _) | (with_reducible refine Lies.alloc ?_ _) | (with_reducible apply Lies.past; case hb => (with_reducible assumption)) | (with_reducible apply Lies.keeps; (case k => (with_reducible assumption)); (case ht => decide)) | (with_reducible apply Lies.store3) | (with_reducible apply Lies.other; case hp => (first | omega | (simp; done) | (simp; omega)))))) (by simp; omega) _) (by simp; omega) _), by have := HB1.out; (repeat' (first | (with_reducible exact Below.refl _ _) | (with_reducible assumption) | (with_reducible refine below_drewN ?_ _) | (with_reducible refine below_new ?_ _) | (with_reducible refine Below.alloc ?_ ?_ _) | (with_reducible refine Below.drew ?_) | (with_reducible refine Below.setCell ?_ ?_ _) | (with_reducible apply below_at; (case k => (with_reducible assumption)); (case hB => omega)) | (with_reducible apply below_on; (with_reducible assumption)) | (go_size; done) | (with_reducible apply size_of))), by first | omega | (simp; omega)⟩
      first
        | exact own_alloc (O2.mono (by first | omega | (simp; omega))) _
        | exact own_store2 (O2.mono (by first | omega | (simp; omega))) L9 (by decide)
        | exact (O2.mono (by first | omega | (simp; omega)))
  case rest =>
    obtain ⟨g, G, c2, rfl, KG, O, Z2, W2, ltG⟩ := hcut
    have HKG := Lib.hid KG
    have HO := Lib.hid O
    have HZ2 := Lib.hid Z2
    have HW2 := Lib.hid W2
    have HNG : Hid (g ≠ G ∧ g ≠ w.heap.size + 1) := Lib.hid ⟨fun e => own_ne O KG (by decide) (by rw [e]; rfl), by have := O.base_le; omega⟩
    have hc := O.cell p (by rw [H.out.e]; exact HBD.out.2.2)
    have hf := O.frozen p
    generalize f.s.getD p 0 = y at hc
    obtain ⟨q0', q1', -, -⟩ := KG.two
    have K3 := KG.other (p := ⟨g, p, none⟩) HNG.out.1 (.int .i64 k)
    have HK3 := Lib.hid K3
    obtain ⟨r0, r1, -, -⟩ := K3.two
    have Z3 := Z2.other (p := ⟨g, p, none⟩) HNG.out.2 (.int .i64 k)
    obtain ⟨z0', z1', v0, v1⟩ := Z3.two
    have HZ3 := Lib.hid Z3
    have HLG := Lib.hid ltG
    clear p0 p1 z0 z1 y0 y1 K1 Z1 hb1 lt1 lt0 KG O Z2 W2 ltG K3 Z3
    go_wp2_with fail
    obtain ⟨t0, t1, -, -⟩ := (lies_store2 HZ3.out (a := .int .i64 f.l) (b := .slice (some ⟨g, 0, none⟩) n c2)).two
    refine bodyPost_ret (by simp [results, Try.results44, go_sem, t0, t1]; try rfl) rfl ?_
    refine ⟨g, c2, rfl, ?_, below_store2 (Below.setCell HW2.out (by have := HO.out.base_le; show w.heap.size ≤ g; omega) _) (Nat.le_succ _)⟩
    have h3 := own_store2 (a := .int .i64 f.l) (b := .slice (some ⟨g, 0, none⟩) n c2) (HO.out.store p k) HZ3.out (by decide)
    rw [show (fput f x k).s = f.s.set p k by unfold fput; rw [HP.out]]
    exact h3.mono (by omega)
end Go.Proofs.Ytemiecghdmagnaa.fdW
