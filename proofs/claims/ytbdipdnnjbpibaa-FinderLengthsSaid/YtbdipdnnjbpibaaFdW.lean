/- Levels, places and checks of finders, by walks. -/
import Derived.Test.YtbdipdnnjbpibaaRgL3
import Derived.Test.YtbdipdnnjbpibaaFdBase
import Derived.Test.YtbdipdnnjbpibaaOwnV
import Derived.Test.YtbdipdnnjbpibaaHashW
namespace Go.Proofs.Ytbdipdnnjbpibaa.fdW
open Go.RowKit Go.Proofs.Ytbdipdnnjbpibaa.base Go.Proofs.Ytbdipdnnjbpibaa.rgP Go.Proofs.Ytbdipdnnjbpibaa.rgW Go.Proofs.Ytbdipdnnjbpibaa.fdP
set_option linter.unusedVariables false
set_option linter.unusedSimpArgs false

set_option maxHeartbeats 400000 in
theorem isLevel_any (l : Int) (w : World) : Calls Try.prog 32 #[.int .i64 l] w fun e w' => e = .returned (.bool (lvB l)) ∧ w = w' := by
  by_cases h1 : 0 ≤ l
  · go_enter Try.func32, Try.ntmps32
    go_wp2
    go_ret
    exact ⟨retb (by simp [lvB]; omega), rfl⟩
  · go_enter Try.func32, Try.ntmps32
    go_wp2
    go_ret
    exact ⟨retb (by simp [lvB]; omega), rfl⟩
set_option maxHeartbeats 1000000 in
theorem places_ok (l : Int) (w : World) (h : lvB l = true) : Calls Try.prog 33 #[.int .i64 l] w fun e w' => e = .returned (.int .i64 (szOf l : Int)) ∧ w = w' := by
  rcases lv_cases h with rfl | rfl | rfl | rfl | rfl | rfl | rfl | rfl
  all_goals
    go_enter Try.func33, Try.ntmps33
    go_wp2
    go_ret
    exact ⟨ret1 (by decide +kernel), rfl⟩
/-- All numbers before a place are numbers of a finder. -/
def nums (s : List Int) (k : Nat) : Prop := ∀ j, j < k → -1 ≤ s.getD j 0 ∧ s.getD j 0 ≤ 1073741824
theorem nums_all {s : List Int} (h : nums s s.length) : ∀ x ∈ s, -1 ≤ x ∧ x ≤ 1073741824 := by
  intro x hx
  obtain ⟨i, hi, e⟩ := List.mem_iff_getElem.1 hx
  have := h i hi
  rw [List.getD_eq_getElem?_getD, List.getElem?_eq_getElem hi] at this
  rw [← e]; exact this
theorem nums_bad {f : Fnd} {k : Nat} (hk : k < f.s.length) (h : ¬ (-1 ≤ f.s.getD k 0 ∧ f.s.getD k 0 ≤ 1073741824)) : fdE f = 8 := by
  apply fdE_no
  cases h' : fdOk f
  · rfl
  · refine absurd (((fdOk_iff f).1 h').2 (f.s.getD k 0) ?_) h
    rw [List.getD_eq_getElem?_getD, List.getElem?_eq_getElem hk]
    exact List.getElem_mem hk
set_option maxHeartbeats 4000000 in
theorem Check_any (f : Fnd) (A : Option Addr) (n c : Nat) (w : World) (h : FdIn w A n c f) :
    Calls Try.prog 13 #[.agg #[.int .i64 (f).l, .slice A n c]] w fun e w' => e = .returned (.int .i64 (fdE f)) ∧ Below w.heap.size w w' := by
  have he := h.e
  have h9 : (n : Int) ≤ 9223372036854775807 := by have := h.c1; have := h.c2; omega
  have HF := Lib.hid h
  have HEN := Lib.hid he
  clear h
  cases hl : lvB f.l
  · have HV : Hid (fdE f = 8) := Lib.hid (fdE_no (by
      cases h' : fdOk f
      · rfl
      · have := ((fdOk_iff f).1 h').1.1; rw [hl] at this; cases this))
    have HLV : Hid (∀ w : World, Calls Try.prog 32 #[.int .i64 f.l] w fun e w' => e = .returned (.bool false) ∧ w = w') := Lib.hid (fun w => by have := isLevel_any f.l w; rwa [hl] at this)
    clear hl he
    generalize f.l = l at *
    go_enter Try.func13, Try.ntmps13
    go_wp2_with fail
    go_quiet ((first | (go_at_call 32; exact Calls.quiet_of_same (turned (HLV.out _)))))
    go_wp2
    go_ret
    exact ⟨ret1 HV.out.symm, by (repeat' (first | (with_reducible exact Below.refl _ _) | (with_reducible assumption) | (with_reducible refine below_drewN ?_ _) | (with_reducible refine below_new ?_ _) | (with_reducible refine Below.alloc ?_ ?_ _) | (with_reducible refine Below.drew ?_) | (with_reducible refine Below.setCell ?_ ?_ _) | (with_reducible apply below_at; (case k => (with_reducible assumption)); (case hB => omega)) | (with_reducible apply below_on; (with_reducible assumption)) | (go_size; done) | (with_reducible apply size_of)))⟩
  · have HLV : Hid (∀ w : World, Calls Try.prog 32 #[.int .i64 f.l] w fun e w' => e = .returned (.bool true) ∧ w = w') := Lib.hid (fun w => by have := isLevel_any f.l w; rwa [hl] at this)
    have HPL : Hid (∀ w : World, Calls Try.prog 33 #[.int .i64 f.l] w fun e w' => e = .returned (.int .i64 (szOf f.l : Int)) ∧ w = w') := Lib.hid (fun w => places_ok f.l w hl)
    have hsz := sz_bd hl
    have hz1 : (64 : Int) ≤ (szOf f.l : Int) := by omega
    have hz2 : (szOf f.l : Int) ≤ 8192 := by omega
    by_cases hln : (n : Int) = (szOf f.l : Int)
    · have hbe : ((n : Int) != (n : Int)) = false := by simp
      have hn8 : (n : Int) ≤ 8192 := by omega
      rw [← hln] at HPL
      have HYES : Hid (nums f.s n → fdE f = 0) := Lib.hid (fun hu => fdE_yes ((fdOk_iff f).2 ⟨⟨hl, by omega⟩, nums_all (by rw [he]; exact hu)⟩))
      obtain ⟨b, off, rfl, hb, hc⟩ := has_some HF.out.h (by rw [he]; omega)
      have HCE := Lib.hid hc
      clear hl hln hsz hz1 hz2 hc he
      generalize hll : f.l = l at *
      clear hll
      go_enter Try.func13, Try.ntmps13
      go_wp2_with fail
      go_quiet ((first | (go_at_call 32; exact Calls.quiet_of_same (turned (HLV.out _))) | (go_at_call 33; exact Calls.quiet_of_same (turned (HPL.out _)))))
      go_wp2_with fail
      go_loopw [21] (fun i wr => ∃ q : Nat, q ≤ n ∧ i = .int .i64 (q : Int) ∧ nums f.s q ∧ Below w.heap.size w wr) (fun i _ => n - (intOf i).toNat)
      case atStart => exact ⟨0, Nat.zero_le _, rfl, fun j hj => by omega, by (repeat' (first | (with_reducible exact Below.refl _ _) | (with_reducible assumption) | (with_reducible refine below_drewN ?_ _) | (with_reducible refine below_new ?_ _) | (with_reducible refine Below.alloc ?_ ?_ _) | (with_reducible refine Below.drew ?_) | (with_reducible refine Below.setCell ?_ ?_ _) | (with_reducible apply below_at; (case k => (with_reducible assumption)); (case hB => omega)) | (with_reducible apply below_on; (with_reducible assumption)) | (go_size; done) | (with_reducible apply size_of)))⟩
      case round =>
        obtain ⟨q, hq, rfl, hall, acc⟩ := hrel
        have HA := Lib.hid hall
        have HACC := Lib.hid acc
        by_cases hlt : q < n
        · have hcell : wr.cell? ⟨b, off + q, none⟩ = some (.int .i64 (f.s.getD q 0)) := by rw [(bcell acc).1 b _ hb]; exact HCE.out q (by rw [HEN.out]; exact hlt)
          have HX : Hid (¬ (-1 ≤ f.s.getD q 0 ∧ f.s.getD q 0 ≤ 1073741824) → fdE f = 8) := Lib.hid (nums_bad (by rw [HEN.out]; exact hlt))
          have HNX : Hid (-1 ≤ f.s.getD q 0 ∧ f.s.getD q 0 ≤ 1073741824 → nums f.s (q + 1)) := Lib.hid (fun e j h1 => by
            rcases Nat.lt_or_ge j q with h3 | h3
            · exact HA.out j h3
            · rw [show j = q by omega]; exact e)
          have k1 : (q : Int) < n := by omega
          have k0 : (0 : Int) ≤ q := by omega
          have HLT := Lib.hid hlt
          clear hall acc hlt hq
          generalize f.s.getD q 0 = x at *
          by_cases hx : -1 ≤ x
          · by_cases hy : x ≤ 1073741824
            · go_wp2_with fail
              go_roundw
              case rel => exact ⟨q + 1, HLT.out, by go_num, HNX.out ⟨hx, hy⟩, by have := HACC.out; (repeat' (first | (with_reducible exact Below.refl _ _) | (with_reducible assumption) | (with_reducible refine below_drewN ?_ _) | (with_reducible refine below_new ?_ _) | (with_reducible refine Below.alloc ?_ ?_ _) | (with_reducible refine Below.drew ?_) | (with_reducible refine Below.setCell ?_ ?_ _) | (with_reducible apply below_at; (case k => (with_reducible assumption)); (case hB => omega)) | (with_reducible apply below_on; (with_reducible assumption)) | (go_size; done) | (with_reducible apply size_of)))⟩
              case measure => simp [intOf]; have := HLT.out; omega
            · go_wp2_with fail
              go_ret
              exact ⟨ret1 (HX.out (by omega)).symm, by have := HACC.out; (repeat' (first | (with_reducible exact Below.refl _ _) | (with_reducible assumption) | (with_reducible refine below_drewN ?_ _) | (with_reducible refine below_new ?_ _) | (with_reducible refine Below.alloc ?_ ?_ _) | (with_reducible refine Below.drew ?_) | (with_reducible refine Below.setCell ?_ ?_ _) | (with_reducible apply below_at; (case k => (with_reducible assumption)); (case hB => omega)) | (with_reducible apply below_on; (with_reducible assumption)) | (go_size; done) | (with_reducible apply size_of)))⟩
          · go_wp2_with fail
            go_ret
            exact ⟨ret1 (HX.out (by omega)).symm, by have := HACC.out; (repeat' (first | (with_reducible exact Below.refl _ _) | (with_reducible assumption) | (with_reducible refine below_drewN ?_ _) | (with_reducible refine below_new ?_ _) | (with_reducible refine Below.alloc ?_ ?_ _) | (with_reducible refine Below.drew ?_) | (with_reducible refine Below.setCell ?_ ?_ _) | (with_reducible apply below_at; (case k => (with_reducible assumption)); (case hB => omega)) | (with_reducible apply below_on; (with_reducible assumption)) | (go_size; done) | (with_reducible apply size_of)))⟩
        · have he : q = n := by omega
          subst he
          have HG := Lib.hid (HYES.out hall)
          clear hall acc hq hlt
          go_wp2_with fail
          go_ret
          exact ⟨ret1 HG.out.symm, by have := HACC.out; (repeat' (first | (with_reducible exact Below.refl _ _) | (with_reducible assumption) | (with_reducible refine below_drewN ?_ _) | (with_reducible refine below_new ?_ _) | (with_reducible refine Below.alloc ?_ ?_ _) | (with_reducible refine Below.drew ?_) | (with_reducible refine Below.setCell ?_ ?_ _) | (with_reducible apply below_at; (case k => (with_reducible assumption)); (case hB => omega)) | (with_reducible apply below_on; (with_reducible assumption)) | (go_size; done) | (with_reducible apply size_of)))⟩
    · have hbe : ((n : Int) != (szOf f.l : Int)) = true := by simpa using hln
      have HV : Hid (fdE f = 8) := Lib.hid (fdE_no (by
        cases h' : fdOk f
        · rfl
        · have := ((fdOk_iff f).1 h').1.2; omega))
      clear hl hln hsz he
      generalize (szOf f.l : Int) = sz at *
      generalize f.l = l at *
      go_enter Try.func13, Try.ntmps13
      go_wp2_with fail
      go_quiet ((first | (go_at_call 32; exact Calls.quiet_of_same (turned (HLV.out _))) | (go_at_call 33; exact Calls.quiet_of_same (turned (HPL.out _)))))
      go_wp2
      go_ret
      exact ⟨ret1 HV.out.symm, by (repeat' (first | (with_reducible exact Below.refl _ _) | (with_reducible assumption) | (with_reducible refine below_drewN ?_ _) | (with_reducible refine below_new ?_ _) | (with_reducible refine Below.alloc ?_ ?_ _) | (with_reducible refine Below.drew ?_) | (with_reducible refine Below.setCell ?_ ?_ _) | (with_reducible apply below_at; (case k => (with_reducible assumption)); (case hB => omega)) | (with_reducible apply below_on; (with_reducible assumption)) | (go_size; done) | (with_reducible apply size_of)))⟩
end Go.Proofs.Ytbdipdnnjbpibaa.fdW
