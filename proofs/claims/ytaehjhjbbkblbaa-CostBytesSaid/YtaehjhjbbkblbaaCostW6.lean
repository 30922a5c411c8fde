/- What the reference's Lists, Ideal, Run, Real and Bytes return, by walks. -/
import Derived.Test.YtaehjhjbbkblbaaCostW5
namespace Go.Proofs.Ytaehjhjbbkblbaa.costW
open Go.RowKit Go.Proofs.Ytaehjhjbbkblbaa.base Go.Proofs.Ytaehjhjbbkblbaa.encP Go.Proofs.Ytaehjhjbbkblbaa.costP
open Go.Proofs.Ytaehjhjbbkblbaa.encL (Put_ok)
open Go.Proofs.Ytaehjhjbbkblbaa.encW (rDid_any)
set_option linter.unusedVariables false
set_option linter.unusedSimpArgs false

set_option maxHeartbeats 1000000 in
theorem rLists_any (A B : Option Addr) (cp cb nb : Nat) (ps : List Int) (w : World) (hA : Has .i64 w A ps) (m1 : ps.length ≤ 9223372036854775807) (m2 : nb ≤ 9223372036854775807) :
    Calls Try.prog 47 #[.slice A ps.length cp, .slice B nb cb] w fun e w' => e = .returned (.int .i64 (ckE ps nb)) ∧ w = w' := by
  by_cases h1 : 2000 < nb
  · have g : (2000 : Int) < nb := by omega
    go_enter Try.func47, Try.ntmps47
    go_wp2
    go_ret
    exact ⟨ret1 (by simp [ckE, h1]), rfl⟩
  · have g : ¬ (2000 : Int) < nb := by omega
    by_cases h2 : ps.length = nb
    · have HA := Lib.hid hA
      have HC : Hid (ckE ps nb = if allC ps then 0 else 2) := Lib.hid (by rw [ckE, if_neg h1, if_pos h2])
      subst h2
      clear hA
      go_enter Try.func47, Try.ntmps47
      go_wp2
      go_loop [5] (fun i => ∃ k : Nat, k ≤ ps.length ∧ i = .int .i64 k ∧ allC (ps.take k) = true) (fun i => ps.length - (intOf i).toNat)
      case atStart => exact ⟨0, by omega, rfl, rfl⟩
      case round =>
        obtain ⟨k, hk, rfl, hal⟩ := hrel
        have HE := Lib.hid hal
        clear hal
        by_cases hlt : k < ps.length
        · obtain ⟨b, off, rfl, hb, hc⟩ := has_some HA.out (by omega)
          have hcell : w.cell? ⟨b, off + k, none⟩ = some (.int .i64 (ps.getD k 0)) := hc k (by omega)
          have HB := Lib.hid (allC_bad (ps := ps) (k := k) (by omega))
          have HN := Lib.hid (allC_next (ps := ps) (k := k) (by omega) HE.out)
          clear hc
          generalize ps.getD k 0 = x at *
          cases hx : cOk x
          · have HX := Lib.hid hx
            clear hx
            go_wp2_with (go_at_call 48; refine (rProbC_any x _).mono ?_; rintro e w' ⟨rfl, rfl⟩; rw [HX.out])
            go_ret
            exact ⟨ret1 (by rw [HC.out, HB.out HX.out]; rfl), rfl⟩
          · have HX := Lib.hid hx
            clear hx
            go_wp2_with (go_at_call 48; refine (rProbC_any x _).mono ?_; rintro e w' ⟨rfl, rfl⟩; rw [HX.out])
            go_round
            case rel => exact ⟨k + 1, by omega, by go_num, HN.out HX.out⟩
            case measure => simp [intOf]; omega
        · have HT : Hid (allC ps = true) := Lib.hid (by have := HE.out; rwa [List.take_of_length_le (by omega)] at this)
          go_wp2
          go_ret
          exact ⟨ret1 (by rw [HC.out, HT.out]; rfl), rfl⟩
    · have g2 : ¬ (ps.length : Int) = nb := by omega
      have g3 : ((ps.length : Int) == nb) = false := by simpa using g2
      go_enter Try.func47, Try.ntmps47
      go_wp2
      go_ret
      exact ⟨ret1 (by rw [ckE, if_neg h1, if_neg (by omega)]), rfl⟩
set_option maxRecDepth 100000 in
set_option maxHeartbeats 2000000 in
theorem rIdeal_any (A Bb : Option Addr) (cp cb : Nat) (ps : List Int) (bs : List Bool) (w : World) (hA : Has .i64 w A ps) (hB : HasB w Bb bs) (m1 : ps.length ≤ 9223372036854775807) (m2 : bs.length ≤ 9223372036854775807) :
    Calls Try.prog 40 #[.slice A ps.length cp, .slice Bb bs.length cb] w fun e w' => e = .returned (.tuple #[.int .i64 (idV ps bs), .int .i64 (ckE ps bs.length)]) ∧ Below w.heap.size w w' := by
  have HA := Lib.hid hA
  have HB := Lib.hid hB
  clear hA hB
  by_cases h : ckE ps bs.length = 0
  · obtain ⟨hl, h2k, hal⟩ := ck_zero h
    have HID : Hid (idV ps bs = idS ps bs) := Lib.hid (by rw [idV, if_pos h])
    have HK := Lib.hid h
    have HL := Lib.hid hl
    have HP := Lib.hid hal
    clear h hl hal
    go_enter Try.func40, Try.ntmps40
    go_wp2_with (go_at_call 47; refine (rLists_any _ _ _ _ bs.length ps _ HA.out m1 m2).mono ?_; rintro e w' ⟨rfl, rfl⟩; rw [HK.out])
    go_loopw [6, 7] (fun s i wr => ∃ k : Nat, k ≤ bs.length ∧ i = .int .i64 k ∧ s = .int .i64 (idS (ps.take k) (bs.take k)) ∧ (0 ≤ idS (ps.take k) (bs.take k) ∧ idS (ps.take k) (bs.take k) ≤ 3000000 * k) ∧ Below w.heap.size w wr) (fun _ i _ => bs.length - (intOf i).toNat)
    case atStart => exact ⟨0, by omega, rfl, rfl, by simp [idS, fold2], Below.refl _ _⟩
    case round =>
      obtain ⟨k, hk, rfl, rfl, ⟨z1, z2⟩, W⟩ := hrel
      have HW := Lib.hid W
      clear W
      by_cases hlt : k < bs.length
      · have hkp : k < ps.length := by have := HL.out; omega
        obtain ⟨b, off, rfl, hbl, hc⟩ := has_some HA.out (by omega)
        have hcell : wr.cell? ⟨b, off + k, none⟩ = some (.int .i64 (ps.getD k 0)) := by rw [(bcell HW.out).1 b _ hbl]; exact hc k hkp
        obtain ⟨b2, off2, rfl, hbl2, hc2⟩ := hasB_some' HB.out hlt
        have hcell2 : wr.cell? ⟨b2, off2 + k, none⟩ = some (.bool (bs.getD k false)) := by rw [(bcell HW.out).1 b2 _ hbl2]; exact hc2 k hlt
        have hx := all_getD HP.out hkp
        have HS : Hid (idS (ps.take (k + 1)) (bs.take (k + 1)) = idS (ps.take k) (bs.take k) + btV (ps.getD k 0) (bs.getD k false)) := Lib.hid (fold2_snoc idN ps bs 0 k hkp hlt)
        obtain ⟨r1, r2, e0⟩ := btR (b := bs.getD k false) hx
        have i1 : (0 : Int) ≤ (k : Int) := by omega
        have i2 : (k : Int) < ps.length := by omega
        have i3 : (k : Int) < bs.length := by omega
        clear hc hc2 hx
        generalize ps.getD k 0 = x at *
        generalize bs.getD k false = bt at *
        generalize idS (ps.take k) (bs.take k) = s at *
        have HBT := Lib.hid (fun W => rBit_any x bt W)
        go_wp2_with fail
        go_quiet ((go_at_call 36; exact Calls.quiet_of_same (turned (HBT.out _))))
        go_wp2
        go_roundw
        case rel => exact ⟨k + 1, by omega, by go_num, by rw [HS.out], by rw [HS.out]; omega, below_drewN HW.out _⟩
        case measure => simp [intOf]; omega
      · have HT : Hid (idS (ps.take k) (bs.take k) = idS ps bs) := Lib.hid (by rw [List.take_of_length_le (by have := HL.out; omega), List.take_of_length_le (by omega)])
        have hkl : ¬ k < ps.length := by have := HL.out; omega
        go_wp2
        go_ret2
        rw [HID.out, HK.out]
        exact ⟨by rw [← HT.out]; rfl, HW.out⟩
  · have HID : Hid (idV ps bs = 0) := Lib.hid (by rw [idV, if_neg h])
    rcases ck_bad h with hc | hc
    all_goals
      have HE := Lib.hid hc
      clear hc h
      go_enter Try.func40, Try.ntmps40
      go_wp2_with (go_at_call 47; refine (rLists_any _ _ _ _ bs.length ps _ HA.out m1 m2).mono ?_; rintro e w' ⟨rfl, rfl⟩; rw [HE.out])
      go_ret2
      rw [HID.out, HE.out]
      exact ⟨rfl, Below.refl _ _⟩
end Go.Proofs.Ytaehjhjbbkblbaa.costW
