/- Same of rows of bools, by a walk. -/
import Derived.Test.YtckbiielahgliaaDecR2
import Derived.Test.YtckbiielahgliaaBoolStep
namespace Go.Proofs.Ytckbiielahgliaa.decW
open Go.RowKit Go.Proofs.Ytckbiielahgliaa.base
set_option linter.unusedVariables false
set_option linter.unusedSimpArgs false

set_option maxHeartbeats 1000000 in
theorem rSame_any (A B : Option Addr) (lp ln cp cn : Nat) (ys zs : List Bool) (w : World) (hA : HasB w A ys) (eA : ys.length = lp) (hB : HasB w B zs) (eB : zs.length = ln)
    (m1 : lp ≤ 9223372036854775807) (m2 : ln ≤ 9223372036854775807) :
    Calls Try.prog 20 #[.slice A lp cp, .slice B ln cn] w fun e w' => e = .returned (.bool (decide (ys = zs))) ∧ Below w.heap.size w w' := by
  subst eA eB
  by_cases hl : ys.length = zs.length
  · have hl' : ((ys.length : Int)) = (zs.length : Int) := by omega
    have HA := Lib.hid hA
    have HB := Lib.hid hB
    have HL := Lib.hid hl
    clear hA hB hl
    go_enter Try.func20, Try.ntmps20
    go_wp2_with fail
    clear hl'
    go_loopw [5] (fun i wr => ∃ k : Nat, k ≤ ys.length ∧ i = .int .i64 k ∧ ys.take k = zs.take k ∧ Below w.heap.size w wr) (fun i _ => ys.length - (intOf i).toNat)
    case atStart => exact ⟨0, Nat.zero_le _, rfl, rfl, Below.refl _ _⟩
    case round =>
      obtain ⟨k, hk, rfl, hall, acc⟩ := hrel
      have HE := Lib.hid hall
      clear hall
      by_cases hlt : k < ys.length
      · have hlt2 : k < zs.length := by have := HL.out; omega
        obtain ⟨b, off, rfl, hb, hcA⟩ := hasB_some HA.out (by omega)
        obtain ⟨c, off2, rfl, hb2, hcB⟩ := hasB_some HB.out (by omega)
        have hca : wr.cell? ⟨b, off + k, none⟩ = some (.bool (ys.getD k false)) := by rw [(bcell acc).1 b _ hb]; exact hcA k hlt
        have hcb : wr.cell? ⟨c, off2 + k, none⟩ = some (.bool (zs.getD k false)) := by rw [(bcell acc).1 c _ hb2]; exact hcB k hlt2
        have G1 := Lib.hid (take_snoc false ys k hlt)
        have G2 := Lib.hid (take_snoc false zs k hlt2)
        have HN : Hid (ys.getD k false ≠ zs.getD k false → ys ≠ zs) := Lib.hid fun h1 h2 => h1 (by rw [h2])
        clear hcA hcB
        generalize ys.getD k false = x at *
        generalize zs.getD k false = y at *
        by_cases hxy : x = y
        · subst hxy
          go_wp2
          go_quiet (fail)
          go_wp2
          go_roundw
          case rel => exact ⟨k + 1, by omega, by go_num, by rw [G1.out, G2.out, HE.out], by (repeat' (first | (with_reducible exact Below.refl _ _) | (with_reducible assumption) | (with_reducible refine below_drewN ?_ _) | (with_reducible refine below_new ?_ _) | (with_reducible refine Below.alloc ?_ ?_ _) | (with_reducible refine Below.drew ?_) | (with_reducible refine Below.setCell ?_ ?_ _) | (with_reducible apply below_at; (case k => (with_reducible assumption)); (case hB => omega)) | (with_reducible apply below_on; (with_reducible assumption)) | (go_size; done) | (with_reducible apply size_of)))⟩
          case measure => simp [intOf]; omega
        · have HXY := Lib.hid hxy
          have hne : (x == y) = false := by simpa using hxy
          have hne2 : (x != y) = true := by simpa using hxy
          go_wp2
          go_quiet (fail)
          go_wp2
          go_ret
          exact ⟨retb (by simpa using HN.out HXY.out), by (repeat' (first | (with_reducible exact Below.refl _ _) | (with_reducible assumption) | (with_reducible refine below_drewN ?_ _) | (with_reducible refine below_new ?_ _) | (with_reducible refine Below.alloc ?_ ?_ _) | (with_reducible refine Below.drew ?_) | (with_reducible refine Below.setCell ?_ ?_ _) | (with_reducible apply below_at; (case k => (with_reducible assumption)); (case hB => omega)) | (with_reducible apply below_on; (with_reducible assumption)) | (go_size; done) | (with_reducible apply size_of)))⟩
      · have e1 : ys = zs := by
          have := HE.out
          rw [List.take_of_length_le (by omega), List.take_of_length_le (by have := HL.out; omega)] at this
          exact this
        have HE1 := Lib.hid e1
        clear e1
        go_wp2
        go_ret
        exact ⟨retb (by simpa using HE1.out), by (repeat' (first | (with_reducible exact Below.refl _ _) | (with_reducible assumption) | (with_reducible refine below_drewN ?_ _) | (with_reducible refine below_new ?_ _) | (with_reducible refine Below.alloc ?_ ?_ _) | (with_reducible refine Below.drew ?_) | (with_reducible refine Below.setCell ?_ ?_ _) | (with_reducible apply below_at; (case k => (with_reducible assumption)); (case hB => omega)) | (with_reducible apply below_on; (with_reducible assumption)) | (go_size; done) | (with_reducible apply size_of)))⟩
  · have hl' : ¬ ((ys.length : Int)) = (zs.length : Int) := by omega
    have hl2 : (((ys.length : Int)) == (zs.length : Int)) = false := by simpa using hl'
    clear hA hB
    go_enter Try.func20, Try.ntmps20
    go_wp2
    go_ret
    exact ⟨retb (by simp; intro h; exact hl (by rw [h])), by (repeat' (first | (with_reducible exact Below.refl _ _) | (with_reducible assumption) | (with_reducible refine below_drewN ?_ _) | (with_reducible refine below_new ?_ _) | (with_reducible refine Below.alloc ?_ ?_ _) | (with_reducible refine Below.drew ?_) | (with_reducible refine Below.setCell ?_ ?_ _) | (with_reducible apply below_at; (case k => (with_reducible assumption)); (case hB => omega)) | (with_reducible apply below_on; (with_reducible assumption)) | (go_size; done) | (with_reducible apply size_of)))⟩
end Go.Proofs.Ytckbiielahgliaa.decW
