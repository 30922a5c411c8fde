/- Filters: chains of both, by walks (all but the program's Undo). -/
import Derived.Test.YtbfodmckgjeoaaaFiIn
namespace Go.Proofs.Ytbfodmckgjeoaaa.fiW
set_option maxRecDepth 100000
open Go.RowKit Go.Proofs.Ytbfodmckgjeoaaa.base Go.Proofs.Ytbfodmckgjeoaaa.fiP
set_option linter.unusedVariables false
set_option linter.unusedSimpArgs false
set_option maxRecDepth 100000
/-- The error of a chain. -/
def chE (fs : List (Int × Int)) : Int := if 4 < fs.length then 4 else if okC fs = true then 0 else 8
theorem okC_take {fs : List (Int × Int)} {k : Nat} (h : k < fs.length) (hk : okC (fs.take k) = true) (hf : okF (fs.getD k (0, 0)) = true) : okC (fs.take (k + 1)) = true := by
  rw [List.take_succ_eq_append_getElem h, okC, List.all_append]
  have e : fs[k] = fs.getD k (0, 0) := by simp [List.getD_eq_getElem?_getD, List.getElem?_eq_getElem h]
  have hk' : (fs.take k).all okF = true := hk
  rw [hk', e, List.all_cons, hf]; rfl
theorem okC_not {fs : List (Int × Int)} {k : Nat} (h : k < fs.length) (hf : okF (fs.getD k (0, 0)) = false) : okC fs = false := by
  have e : fs[k] = fs.getD k (0, 0) := by simp [List.getD_eq_getElem?_getD, List.getElem?_eq_getElem h]
  unfold okC
  rw [List.all_eq_false]
  exact ⟨fs[k], List.getElem_mem h, by rw [e, hf]; decide⟩
theorem okC_at {fs : List (Int × Int)} {k : Nat} (h : k < fs.length) (hf : okC fs = true) : okF (fs.getD k (0, 0)) = true := by
  have e : fs.getD k (0, 0) = fs[k] := by simp [List.getD_eq_getElem?_getD, List.getElem?_eq_getElem h]
  rw [e]
  exact List.all_eq_true.1 hf _ (List.getElem_mem h)
theorem fs_at {fs : List (Int × Int)} {k : Nat} : fs.getD k (0, 0) = ((fs.getD k (0, 0)).1, (fs.getD k (0, 0)).2) := rfl
set_option maxHeartbeats 2000000 in
theorem rChain (fs : List (Int × Int)) (A : Option Addr) (n c : Nat) (w : World) (h : InF w A n c fs) : Calls Try.prog 25 #[.slice A n c] w fun e w' => e = .returned (.int .i64 (chE fs)) ∧ Below w.heap.size w w' := by
  (have HH := Lib.hid h; have n9 : (n : Int) ≤ 9223372036854775807 := (by have := h.c1; have := h.c2; omega); have HN := Lib.hid h.e; clear h; by_cases h4 : 4 < n; (case pos => ((have i4 : (4 : Int) < n := (by omega)); (have HV : Hid (chE fs = 4) := Lib.hid (by unfold chE; rw [if_pos (by rw [HN.out]; exact h4)])); clear h4; go_enter Try.func25, Try.ntmps25; go_wp2_with fail; go_ret; exact ⟨by rw [HV.out]; try rfl, by (repeat' (first | (with_reducible exact Below.refl _ _) | (with_reducible assumption) | (with_reducible refine below_drewN ?_ _) | (with_reducible refine below_new ?_ _) | (with_reducible refine Below.alloc ?_ ?_ _) | (with_reducible refine Below.drew ?_) | (with_reducible refine Below.setCell ?_ ?_ _) | (with_reducible apply below_at; (case k => (with_reducible assumption)); (case hB => omega)) | (with_reducible apply below_on; (with_reducible assumption)) | (go_size; done) | (with_reducible apply size_of)))⟩)); (have i4 : ¬ (4 : Int) < n := (by omega)); (have HV : Hid (chE fs = if okC fs = true then 0 else 8) := Lib.hid (by unfold chE; rw [if_neg (by rw [HN.out]; exact h4)])); clear h4; go_enter Try.func25, Try.ntmps25; go_wp2_with fail)
  go_loopw [3] (fun v wr => ∃ k : Nat, k ≤ n ∧ v = .int .i64 k ∧ okC (fs.take k) = true ∧ Below w.heap.size w wr) (fun v _ => n - (intOf v).toNat)
  case atStart => exact ⟨0, Nat.zero_le _, rfl, rfl, Below.refl _ _⟩
  case round =>
    obtain ⟨k, hk, rfl, hok, acc⟩ := hrel
    have HK := Lib.hid hk
    have HOK := Lib.hid hok
    have HACC := Lib.hid acc
    by_cases hlt : k < n
    · obtain ⟨b, off, rfl, hb, hc⟩ := (HH.out.below acc).at_ hlt
      obtain ⟨p0, p1⟩ := hc k hlt
      have k1 : (k : Int) < n := by omega
      have k2 : k < n := hlt
      have HLT := Lib.hid hlt
      by_cases hf : okF (fs.getD k (0, 0)) = true
      · have HCK : Hid (ckF ((fs.getD k (0, 0)).1, (fs.getD k (0, 0)).2) = 0) := Lib.hid (if_pos hf)
        have HT := Lib.hid (okC_take (by rw [HN.out]; exact hlt) hok hf)
        generalize (fs.getD k (0, 0)).1 = q at *
        generalize (fs.getD k (0, 0)).2 = u at *
        clear hk hok acc hlt hc hf hb
        go_wp2_with fail
        refine (rCheck q u _).mono ?_
        rintro e w1 ⟨rfl, hb1⟩
        rw [HCK.out]
        have HB1 := Lib.hid (HACC.out.trans (hb1.mono HACC.out.size))
        clear hb1 p0 p1
        go_wp2_with fail
        go_roundw
        case rel => exact ⟨k + 1, HLT.out, by go_num, HT.out, HB1.out⟩
        case measure => simp [intOf]; have := HLT.out; omega
      · have hf' : okF (fs.getD k (0, 0)) = false := by simpa using hf
        have HCK : Hid (ckF ((fs.getD k (0, 0)).1, (fs.getD k (0, 0)).2) = 8) := Lib.hid (if_neg hf)
        have HW : Hid (chE fs = 8) := Lib.hid (by rw [HV.out, okC_not (by rw [HN.out]; exact hlt) hf']; rfl)
        generalize (fs.getD k (0, 0)).1 = q at *
        generalize (fs.getD k (0, 0)).2 = u at *
        clear hk hok acc hlt hc hf hf' hb
        go_wp2_with fail
        refine (rCheck q u _).mono ?_
        rintro e w1 ⟨rfl, hb1⟩
        rw [HCK.out]
        have HB1 := Lib.hid (HACC.out.trans (hb1.mono HACC.out.size))
        clear hb1 p0 p1
        go_wp2_with fail
        go_ret
        exact ⟨by rw [HW.out]; try rfl, HB1.out⟩
    · obtain rfl : k = n := by omega
      have k1 : ¬ (k : Int) < k := by omega
      have HW : Hid (chE fs = 0) := Lib.hid (by
        have : okC fs = true := by rw [List.take_of_length_le (by rw [HN.out]; omega)] at hok; exact hok
        rw [HV.out, if_pos this])
      clear hk hok acc hlt
      go_wp2_with fail
      go_ret
      exact ⟨by rw [HW.out]; try rfl, HACC.out⟩
set_option maxHeartbeats 2000000 in
theorem checkChain_any (fs : List (Int × Int)) (A : Option Addr) (n c : Nat) (w : World) (h : InF w A n c fs) : Calls Try.prog 34 #[.slice A n c] w fun e w' => e = .returned (.int .i64 (chE fs)) ∧ Below w.heap.size w w' := by
  (have HH := Lib.hid h; have n9 : (n : Int) ≤ 9223372036854775807 := (by have := h.c1; have := h.c2; omega); have HN := Lib.hid h.e; clear h; by_cases h4 : 4 < n; (case pos => ((have i4 : (4 : Int) < n := (by omega)); (have HV : Hid (chE fs = 4) := Lib.hid (by unfold chE; rw [if_pos (by rw [HN.out]; exact h4)])); clear h4; go_enter Try.func34, Try.ntmps34; go_wp2_with fail; go_ret; exact ⟨by rw [HV.out]; try rfl, by (repeat' (first | (with_reducible exact Below.refl _ _) | (with_reducible assumption) | (with_reducible refine below_drewN ?_ _) | (with_reducible refine below_new ?_ _) | (with_reducible refine Below.alloc ?_ ?_ _) | (with_reducible refine Below.drew ?_) | (with_reducible refine Below.setCell ?_ ?_ _) | (with_reducible apply below_at; (case k => (with_reducible assumption)); (case hB => omega)) | (with_reducible apply below_on; (with_reducible assumption)) | (go_size; done) | (with_reducible apply size_of)))⟩)); (have i4 : ¬ (4 : Int) < n := (by omega)); (have HV : Hid (chE fs = if okC fs = true then 0 else 8) := Lib.hid (by unfold chE; rw [if_neg (by rw [HN.out]; exact h4)])); clear h4; go_enter Try.func34, Try.ntmps34; go_wp2_with fail)
  go_loopw [11] (fun v wr => ∃ k : Nat, k ≤ n ∧ v = .int .i64 k ∧ okC (fs.take k) = true ∧ Below w.heap.size w wr) (fun v _ => n - (intOf v).toNat)
  case atStart => exact ⟨0, Nat.zero_le _, rfl, rfl, Below.refl _ _⟩
  case round =>
    obtain ⟨k, hk, rfl, hok, acc⟩ := hrel
    have HK := Lib.hid hk
    have HOK := Lib.hid hok
    have HACC := Lib.hid acc
    by_cases hlt : k < n
    · obtain ⟨b, off, rfl, hb, hc⟩ := (HH.out.below acc).at_ hlt
      obtain ⟨p0, p1⟩ := hc k hlt
      have k1 : (k : Int) < n := by omega
      have k2 : k < n := hlt
      have HLT := Lib.hid hlt
      by_cases hf : okF (fs.getD k (0, 0)) = true
      · have HCK : Hid (ckF ((fs.getD k (0, 0)).1, (fs.getD k (0, 0)).2) = 0) := Lib.hid (if_pos hf)
        have HT := Lib.hid (okC_take (by rw [HN.out]; exact hlt) hok hf)
        generalize (fs.getD k (0, 0)).1 = q at *
        generalize (fs.getD k (0, 0)).2 = u at *
        clear hk hok acc hlt hc hf hb
        go_wp2_with fail
        refine (Check_any q u _).mono ?_
        rintro e w1 ⟨rfl, hb1⟩
        rw [HCK.out]
        have HB1 := Lib.hid (HACC.out.trans (((fi_box wr q u).trans (hb1.mono (by simp))).mono HACC.out.size))
        clear hb1 p0 p1
        go_wp2_with fail
        go_roundw
        case rel => exact ⟨k + 1, HLT.out, by go_num, HT.out, HB1.out⟩
        case measure => simp [intOf]; have := HLT.out; omega
      · have hf' : okF (fs.getD k (0, 0)) = false := by simpa using hf
        have HCK : Hid (ckF ((fs.getD k (0, 0)).1, (fs.getD k (0, 0)).2) = 8) := Lib.hid (if_neg hf)
        have HW : Hid (chE fs = 8) := Lib.hid (by rw [HV.out, okC_not (by rw [HN.out]; exact hlt) hf']; rfl)
        generalize (fs.getD k (0, 0)).1 = q at *
        generalize (fs.getD k (0, 0)).2 = u at *
        clear hk hok acc hlt hc hf hf' hb
        go_wp2_with fail
        refine (Check_any q u _).mono ?_
        rintro e w1 ⟨rfl, hb1⟩
        rw [HCK.out]
        have HB1 := Lib.hid (HACC.out.trans (((fi_box wr q u).trans (hb1.mono (by simp))).mono HACC.out.size))
        clear hb1 p0 p1
        go_wp2_with fail
        go_ret
        exact ⟨by rw [HW.out]; try rfl, HB1.out⟩
    · obtain rfl : k = n := by omega
      have k1 : ¬ (k : Int) < k := by omega
      have HW : Hid (chE fs = 0) := Lib.hid (by
        have : okC fs = true := by rw [List.take_of_length_le (by rw [HN.out]; omega)] at hok; exact hok
        rw [HV.out, if_pos this])
      clear hk hok acc hlt
      go_wp2_with fail
      go_ret
      exact ⟨by rw [HW.out]; try rfl, HACC.out⟩
end Go.Proofs.Ytbfodmckgjeoaaa.fiW
