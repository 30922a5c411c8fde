/- Markers: Partial of the program, by a walk. -/
import Derived.Test.YthcpanenjcjgpaaMkW6
namespace Go.Proofs.Ythcpanenjcjgpaa.mkW
open Go.RowKit Go.Proofs.Ythcpanenjcjgpaa.base Go.Proofs.Ythcpanenjcjgpaa.mkP
set_option linter.unusedVariables false
set_option linter.unusedSimpArgs false
def paV (b : List Int) : Int := if b.length ≤ 50000 then (par b : Int) else 0
theorem mk_take (k : Nat) (hk : k ≤ 13) : (⟨#[183, 98, 105, 116, 108, 111, 102, 116, 32, 98, 108, 107, 10]⟩ : ByteArray).extract 0 k = bstr (mk.take k) := by
  have : ∀ k, k < 14 → (⟨#[183, 98, 105, 116, 108, 111, 102, 116, 32, 98, 108, 107, 10]⟩ : ByteArray).extract 0 k = bstr (mk.take k) := by decide +kernel
  exact this k (by omega)
/-- The end of a slice, made a string, in any world that reads alike. -/
theorem tail_conv {w : World} {b : List Int} {A : Option Addr} {n c j : Nat} (h : InR w ⟨A, n, c, b⟩) (hj : j ≤ n) :
    ∃ A', (if c = j then A else Option.map (fun x => x.add j) A) = A' ∧ ∀ q, (convert 22 9 (.slice A' (n - j) (c - j))).run Try.prog (w.drewN q) = .ok (.string (bstr (b.drop j))) (w.drewN q) := by
  have e : b.length = n := h.e
  refine ⟨_, rfl, fun q => ?_⟩
  have h1 : Has .u8 w (if c = j then A else Option.map (fun x => x.add j) A) (b.drop j) := h.h.cut (by show j ≤ b.length; omega) (by show b.length ≤ c; rw [e]; exact h.c1)
  have h2 : Has .u8 (w.drewN q) (if c = j then A else Option.map (fun x => x.add j) A) (b.drop j) := h1.below (below_drewN (Below.refl w.heap.size w) q) (Nat.le_refl _)
  exact conv8 h2 (by rw [List.length_drop, e])
set_option maxHeartbeats 4000000 in
theorem Partial_any (b : List Int) (A : Option Addr) (n c : Nat) (w : World) (h : InR w ⟨A, n, c, b⟩) :
    Calls Try.prog 18 #[.slice A n c] w fun e w' => e = .returned (.tuple #[.int .i64 (paV b), .int .i64 (chE b)]) ∧ Below w.heap.size w w' := by
  have HH := Lib.hid h
  have hn : b.length = n := h.e
  have HN := Lib.hid hn
  have n9 : (n : Int) ≤ 9223372036854775807 := by have h1 : n ≤ c := h.c1; have h2 : c ≤ 9223372036854775807 := h.c2; omega
  have c9 : (c : Int) ≤ 9223372036854775807 := by have h2 : c ≤ 9223372036854775807 := h.c2; omega
  have hcn : n ≤ c := h.c1
  have HCN := Lib.hid hcn
  by_cases c1 : (n : Int) ≤ 50000
  · have HC := Lib.hid (chE_yes (b := b) (by omega))
    have HV : Hid (paV b = par b) := Lib.hid (by rw [paV, if_pos (by omega)])
    obtain ⟨m, hm⟩ : ∃ m, min n 12 = m := ⟨_, rfl⟩
    have HM : Hid (m ≤ 12 ∧ m ≤ n ∧ par b = parF b m) := Lib.hid (by
      refine ⟨by omega, by omega, par_big (by omega) fun k h1 h2 => ?_⟩
      have : ¬ k ≤ b.length := by omega
      simp [parB, this])
    have emin : min (n : Int) 12 = (m : Int) := by omega
    clear h hn hcn hm
    go_enter Try.func18, Try.ntmps18
    go_wp2_with fail
    clear emin
    go_loopw [4] (fun j wr => ∃ k : Nat, k ≤ 12 ∧ k ≤ n ∧ j = .int .i64 k ∧ par b = parF b k ∧ Below w.heap.size w wr) (fun j _ => (intOf j).toNat)
    case atStart => exact ⟨m, HM.out.1, HM.out.2.1, rfl, HM.out.2.2, Below.refl _ _⟩
    case round =>
      obtain ⟨k, h12, hk, rfl, hp, acc⟩ := hrel
      have HP := Lib.hid hp
      have HACC := Lib.hid acc
      rcases k with _ | k
      · clear h12 hk hp acc
        go_wp2_with fail
        go_ret2
        exact ⟨by rw [HC.out, HV.out, HP.out]; rfl, HACC.out⟩
      · obtain ⟨j, hj⟩ : ∃ j, n - (k + 1) = j := ⟨_, rfl⟩
        obtain ⟨A', hif, hcv⟩ := tail_conv (HH.out.below acc (Nat.le_refl _)) (j := j) (by omega)
        have ej : IntKind.i64.wrap ((n : Int) - ((k : Int) + 1)) = (j : Int) := by
          have : (n : Int) - ((k : Int) + 1) = j := by omega
          rw [this]; exact IntWalk.i64_in _ (by omega)
        have HJ : Hid (n = j + (k + 1)) := Lib.hid (by omega)
        have HK : Hid (k ≤ 11 ∧ k + 1 ≤ n) := Lib.hid (by omega)
        have k1 : (0 : Int) < (k : Int) + 1 := by omega
        have k2 : (k : Int) + 1 ≤ 12 := by omega
        have k5 : (k : Int) ≤ 11 := by omega
        have k3 : (j : Int) ≤ n := by omega
        have k4 : (j : Int) ≤ c := by have := HCN.out; omega
        have hs : ∀ W : World, (Instr.slice 9 (.string ⟨#[183, 98, 105, 116, 108, 111, 102, 116, 32, 98, 108, 107, 10]⟩) none (some (.int .i64 ((k : Int) + 1))) none).run Try.prog W = .ok (.string (bstr (mk.take (k + 1)))) W := fun W => by
          rw [run_slice_string_h W 9 _ Try.underlying9 .i64 _ (by omega) (by show (k : Int) + 1 ≤ 13; omega), show ((k : Int) + 1).toNat = k + 1 by omega, mk_take _ (by omega)]
        have HB := Lib.hid (parF_yes (b := b) (n := k))
        have HB2 := Lib.hid (parF_no (b := b) (n := k))
        have hb1 : ∀ z ∈ b.drop j, 0 ≤ z ∧ z ≤ 255 := fun z hz => HH.out.b z (List.mem_of_mem_drop hz)
        have hb2 : ∀ z ∈ mk.take (k + 1), 0 ≤ z ∧ z ≤ 255 := fun z hz => mk_bd z (List.mem_of_mem_take hz)
        have HE : Hid (parB b (k + 1) = decide (b.drop j = mk.take (k + 1))) := Lib.hid (by rw [parB, decide_eq_true (by rw [HN.out]; omega), Bool.true_and, HN.out, hj])
        by_cases heq : b.drop j = mk.take (k + 1)
        · rw [← heq] at hs
          have hbb : ((bstr (b.drop j)).toList == (bstr (b.drop j)).toList) = true := by simp
          have HR := Lib.hid (HB.out (by rw [HE.out]; exact decide_eq_true heq))
          generalize bstr (b.drop j) = s at *
          clear h12 hk hp acc hj hb1 hb2 heq
          go_wp2_with fail
          go_quiet (fail)
          go_wp2_with fail
          go_ret2
          exact ⟨by rw [HC.out, HV.out, HP.out, HR.out]; rfl, by have := HACC.out; (repeat' (first | (with_reducible exact Below.refl _ _) | (with_reducible assumption) | (with_reducible refine below_drewN ?_ _) | (with_reducible refine below_new ?_ _) | (with_reducible refine Below.alloc ?_ ?_ _) | (with_reducible refine Below.drew ?_) | (with_reducible refine Below.setCell ?_ ?_ _) | (with_reducible apply below_at; (case k => (with_reducible assumption)); (case hB => omega)) | (with_reducible apply below_on; (with_reducible assumption)) | (go_size; done) | (with_reducible apply size_of)))⟩
        · have hbb := bstr_ne hb1 hb2 heq
          have HR := Lib.hid (HB2.out (by rw [HE.out]; exact decide_eq_false heq))
          generalize bstr (b.drop j) = s at *
          generalize bstr (mk.take (k + 1)) = t at *
          clear h12 hk hp acc hj hb1 hb2 heq
          go_wp2_with fail
          go_quiet (fail)
          go_wp2_with fail
          go_roundw
          case rel => exact ⟨k, by have := HK.out; omega, by have := HK.out; omega, by go_num, by rw [HP.out, HR.out], by have := HACC.out; (repeat' (first | (with_reducible exact Below.refl _ _) | (with_reducible assumption) | (with_reducible refine below_drewN ?_ _) | (with_reducible refine below_new ?_ _) | (with_reducible refine Below.alloc ?_ ?_ _) | (with_reducible refine Below.drew ?_) | (with_reducible refine Below.setCell ?_ ?_ _) | (with_reducible apply below_at; (case k => (with_reducible assumption)); (case hB => omega)) | (with_reducible apply below_on; (with_reducible assumption)) | (go_size; done) | (with_reducible apply size_of)))⟩
          case measure => simp [intOf]
  · have HC := Lib.hid (chE_no (b := b) (by omega))
    have HV : Hid (paV b = 0) := Lib.hid (by rw [paV, if_neg (by omega)])
    clear h hn hcn
    go_enter Try.func18, Try.ntmps18
    go_wp2_with fail
    go_ret2
    exact ⟨by rw [HC.out, HV.out]; rfl, Below.refl _ _⟩
end Go.Proofs.Ythcpanenjcjgpaa.mkW
