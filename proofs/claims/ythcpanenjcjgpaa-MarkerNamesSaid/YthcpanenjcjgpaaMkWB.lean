/- Markers: Partial of the reference, by a walk. -/
import Derived.Test.YthcpanenjcjgpaaMkWA
import Derived.BigQuiet
namespace Go.Proofs.Ythcpanenjcjgpaa.mkW
open Go.RowKit Go.Proofs.Ythcpanenjcjgpaa.base Go.Proofs.Ythcpanenjcjgpaa.mkP
set_option linter.unusedVariables false
set_option linter.unusedSimpArgs false
set_option maxHeartbeats 4000000 in
theorem rPartial (b : List Int) (A : Option Addr) (n c : Nat) (w : World) (h : InR w ⟨A, n, c, b⟩) :
    Calls Try.prog 19 #[.slice A n c] w fun e w' => e = .returned (.tuple #[.int .i64 (paV b), .int .i64 (chE b)]) ∧ Below w.heap.size w w' := by
  have HH := Lib.hid h
  have hn : b.length = n := h.e
  have HN := Lib.hid hn
  have n9 : (n : Int) ≤ 9223372036854775807 := by have h1 : n ≤ c := h.c1; have h2 : c ≤ 9223372036854775807 := h.c2; omega
  have c9 : (c : Int) ≤ 9223372036854775807 := by have h2 : c ≤ 9223372036854775807 := h.c2; omega
  have hcn : n ≤ c := h.c1
  have HCN := Lib.hid hcn
  by_cases c1 : (n : Int) ≤ 50000
  · have HC := Lib.hid (chE_yes (b := b) (by omega))
    have HV : Hid (paV b = par b) := Lib.hid (by rw [paV, if_pos (by omega)])
    clear h hn hcn
    go_enter Try.func19, Try.ntmps19
    go_wp2_with (first | (go_at_call 28; refine (rCheck b A n c _ HH.out).mono ?_; rintro e w' ⟨rfl, rfl⟩; rw [HC.out]) | (go_at_call 23; refine (rBytes _).mono ?_; rintro e w1 ⟨rfl, ho1, hb1⟩; have HO1 := Lib.hid ho1; have HB1 := Lib.hid hb1; clear ho1 hb1))
    go_loopw [5] (fun j wr => ∃ k : Nat, k ≤ 12 ∧ j = .int .i64 k ∧ par b = parF b k ∧ Below w1.heap.size w1 wr) (fun j _ => (intOf j).toNat)
    case atStart => exact ⟨12, Nat.le_refl _, rfl, rfl, Below.refl _ _⟩
    case round =>
      obtain ⟨k, h12, rfl, hp, acc⟩ := hrel
      have HP := Lib.hid hp
      have HACC := Lib.hid acc
      have HACC2 : Hid (Below w.heap.size w wr) := Lib.hid (HB1.out.trans (acc.mono HB1.out.size))
      rcases k with _ | k
      · clear h12 hp acc
        go_wp2_with fail
        go_ret2
        exact ⟨by rw [HC.out, HV.out, HP.out]; rfl, HACC2.out⟩
      · have HK : Hid (k ≤ 11) := Lib.hid (by omega)
        have k0 : (0 : Int) < (k : Int) + 1 := by omega
        have k2 : (k : Int) + 1 ≤ 12 := by omega
        have k5 : (k : Int) ≤ 11 := by omega
        have k9 : (k : Int) + 1 ≤ 13 := by omega
        have k10 : 0 ≤ (k : Int) + 1 := by omega
        by_cases hkn : k + 1 ≤ n
        · obtain ⟨j, hj⟩ : ∃ j, n - (k + 1) = j := ⟨_, rfl⟩
          obtain ⟨A', hif, hcv⟩ := tail_conv (HH.out.below HACC2.out (Nat.le_refl _)) (j := j) (by omega)
          have ej : IntKind.i64.wrap ((n : Int) - ((k : Int) + 1)) = (j : Int) := by
            have : (n : Int) - ((k : Int) + 1) = j := by omega
            rw [this]; exact IntWalk.i64_in _ (by omega)
          have k1 : (k : Int) + 1 ≤ n := by omega
          have k6 : (k : Int) < n := by omega
          have k7 : k < n := by omega
          have k3 : (j : Int) ≤ n := by omega
          have k4 : (j : Int) ≤ c := by have := HCN.out; omega
          have k8 : ((k : Int) + 1).toNat = k + 1 := by omega
          have hcv2 : ∀ q, (convert 22 9 (.slice (some ⟨w.heap.size, 0, none⟩) (k + 1) 13)).run Try.prog (wr.drewN q) = .ok (.string (bstr (mk.take (k + 1)))) (wr.drewN q) := fun q => by
            have h1 : Has .u8 (wr.drewN q) (some ⟨w.heap.size, 0, none⟩) mk := (HO1.out.below HACC.out (Nat.le_refl _)).has.below (below_drewN (Below.refl wr.heap.size wr) q) (Nat.le_refl _)
            refine conv8 (h1.front (k + 1)) ?_
            have hm : mk.length = 13 := rfl
            rw [List.length_take, hm]; omega
          have HB := Lib.hid (parF_yes (b := b) (n := k))
          have HB2 := Lib.hid (parF_no (b := b) (n := k))
          have hb1 : ∀ z ∈ b.drop j, 0 ≤ z ∧ z ≤ 255 := fun z hz => HH.out.b z (List.mem_of_mem_drop hz)
          have hb2 : ∀ z ∈ mk.take (k + 1), 0 ≤ z ∧ z ≤ 255 := fun z hz => mk_bd z (List.mem_of_mem_take hz)
          have HE : Hid (parB b (k + 1) = decide (b.drop j = mk.take (k + 1))) := Lib.hid (by rw [parB, decide_eq_true (by rw [HN.out]; omega), Bool.true_and, HN.out, hj])
          by_cases heq : b.drop j = mk.take (k + 1)
          · rw [← heq] at hcv2
            have HR := Lib.hid (HB.out (by rw [HE.out]; exact decide_eq_true heq))
            generalize bstr (b.drop j) = s at *
            clear h12 hp acc hj hb1 hb2 heq hkn
            go_wp2_with fail
            go_quiet (fail)
            go_wp2_with fail
            go_ret2
            exact ⟨by rw [HC.out, HV.out, HP.out, HR.out]; rfl, by have := HACC2.out; (repeat' (first | (with_reducible exact Below.refl _ _) | (with_reducible assumption) | (with_reducible refine below_drewN ?_ _) | (with_reducible refine below_new ?_ _) | (with_reducible refine Below.alloc ?_ ?_ _) | (with_reducible refine Below.drew ?_) | (with_reducible refine Below.setCell ?_ ?_ _) | (with_reducible apply below_at; (case k => (with_reducible assumption)); (case hB => omega)) | (with_reducible apply below_on; (with_reducible assumption)) | (go_size; done) | (with_reducible apply size_of)))⟩
          · have hbb := bstr_ne hb1 hb2 heq
            have HR := Lib.hid (HB2.out (by rw [HE.out]; exact decide_eq_false heq))
            generalize bstr (b.drop j) = s at *
            generalize bstr (mk.take (k + 1)) = t at *
            clear h12 hp acc hj hb1 hb2 heq hkn
            go_wp2_with fail
            go_quiet (fail)
            go_wp2_with fail
            go_roundw
            case rel => exact ⟨k, by have := HK.out; omega, by go_num, by rw [HP.out, HR.out], by have := HACC.out; (repeat' (first | (with_reducible exact Below.refl _ _) | (with_reducible assumption) | (with_reducible refine below_drewN ?_ _) | (with_reducible refine below_new ?_ _) | (with_reducible refine Below.alloc ?_ ?_ _) | (with_reducible refine Below.drew ?_) | (with_reducible refine Below.setCell ?_ ?_ _) | (with_reducible apply below_at; (case k => (with_reducible assumption)); (case hB => omega)) | (with_reducible apply below_on; (with_reducible assumption)) | (go_size; done) | (with_reducible apply size_of)))⟩
            case measure => simp [intOf]
        · have HR := Lib.hid (parF_no (b := b) (n := k) (by
            have : ¬ k + 1 ≤ b.length := by rw [HN.out]; exact hkn
            simp [parB, this]))
          have k1 : (n : Int) < (k : Int) + 1 := by omega
          have d1 : decide ((k : Int) + 1 ≤ n) = false := decide_eq_false (by omega)
          clear h12 hp acc hkn
          go_wp2_with fail
          go_quiet (fail)
          go_wp2_with fail
          go_roundw
          case rel => exact ⟨k, by have := HK.out; omega, by go_num, by rw [HP.out, HR.out], by have := HACC.out; (repeat' (first | (with_reducible exact Below.refl _ _) | (with_reducible assumption) | (with_reducible refine below_drewN ?_ _) | (with_reducible refine below_new ?_ _) | (with_reducible refine Below.alloc ?_ ?_ _) | (with_reducible refine Below.drew ?_) | (with_reducible refine Below.setCell ?_ ?_ _) | (with_reducible apply below_at; (case k => (with_reducible assumption)); (case hB => omega)) | (with_reducible apply below_on; (with_reducible assumption)) | (go_size; done) | (with_reducible apply size_of)))⟩
          case measure => simp [intOf]
  · have HC := Lib.hid (chE_no (b := b) (by omega))
    have HV : Hid (paV b = 0) := Lib.hid (by rw [paV, if_neg (by omega)])
    clear h hn hcn
    go_enter Try.func19, Try.ntmps19
    go_wp2_with (go_at_call 28; refine (rCheck b A n c _ HH.out).mono ?_; rintro e w' ⟨rfl, rfl⟩; rw [HC.out])
    go_ret2
    exact ⟨by rw [HC.out, HV.out]; rfl, Below.refl _ _⟩
end Go.Proofs.Ythcpanenjcjgpaa.mkW
