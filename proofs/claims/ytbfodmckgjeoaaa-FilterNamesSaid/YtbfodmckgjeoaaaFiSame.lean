/- Bytes compared, by a walk. -/
import Derived.Test.YtbfodmckgjeoaaaMem8
import Derived.Test.YtbfodmckgjeoaaaReg
import Derived.Test.YtbfodmckgjeoaaaBlock
import Derived.Handy
import Derived.Deep.DeepMust
import Derived.Deep.QuietTactic
import Derived.Deep.LoopGhost
import Derived.Lib.Hide
namespace Go.Proofs.Ytbfodmckgjeoaaa.fiW
set_option maxRecDepth 100000
open Go.RowKit Go.Proofs.Ytbfodmckgjeoaaa.base
set_option linter.unusedVariables false
set_option linter.unusedSimpArgs false

set_option maxHeartbeats 400000 in
theorem sameB_any (A B : Option Addr) (lp ln cp cn : Nat) (ys zs : List Int) (w : World) (hA : Has .u8 w A ys) (eA : ys.length = lp) (hB : Has .u8 w B zs) (eB : zs.length = ln)
    (m1 : lp ≤ 9223372036854775807) (m2 : ln ≤ 9223372036854775807) :
    Calls Try.prog 16 #[.slice A lp cp, .slice B ln cn] w fun e w' => e = .returned (.bool (decide (ys = zs))) ∧ Below w.heap.size w w' := by
  subst eA eB
  by_cases hl : ys.length = zs.length
  · have hl' : ((ys.length : Int)) = (zs.length : Int) := by omega
    rcases hA with h0 | ⟨b, off, rfl, hb, hcA⟩
    · subst h0
      have h1 : zs = [] := List.eq_nil_of_length_eq_zero (by rw [← hl]; rfl)
      subst h1
      clear hB
      go_enter Try.func16, Try.ntmps16
      go_wp2_with fail
      go_loop [5] (fun i => i = .int .i64 0) (fun i => 0)
      case atStart => rfl
      case round =>
        subst hrel
        go_wp2
        go_ret
        exact ⟨rfl, by (repeat' (first | (with_reducible exact Below.refl _ _) | (with_reducible assumption) | (with_reducible refine below_drewN ?_ _) | (with_reducible refine below_new ?_ _) | (with_reducible refine Below.alloc ?_ ?_ _) | (with_reducible refine Below.drew ?_) | (with_reducible refine Below.setCell ?_ ?_ _) | (with_reducible apply below_at; (case k => (with_reducible assumption)); (case hB => omega)) | (with_reducible apply below_on; (with_reducible assumption)) | (go_size; done) | (with_reducible apply size_of)))⟩
    · rcases hB with h0 | ⟨c, off2, rfl, hb2, hcB⟩
      · subst h0
        have h1 : ys = [] := List.eq_nil_of_length_eq_zero (by rw [hl]; rfl)
        subst h1
        clear hcA
        go_enter Try.func16, Try.ntmps16
        go_wp2_with fail
        go_loop [5] (fun i => i = .int .i64 0) (fun i => 0)
        case atStart => rfl
        case round =>
          subst hrel
          go_wp2
          go_ret
          exact ⟨rfl, by (repeat' (first | (with_reducible exact Below.refl _ _) | (with_reducible assumption) | (with_reducible refine below_drewN ?_ _) | (with_reducible refine below_new ?_ _) | (with_reducible refine Below.alloc ?_ ?_ _) | (with_reducible refine Below.drew ?_) | (with_reducible refine Below.setCell ?_ ?_ _) | (with_reducible apply below_at; (case k => (with_reducible assumption)); (case hB => omega)) | (with_reducible apply below_on; (with_reducible assumption)) | (go_size; done) | (with_reducible apply size_of)))⟩
      · have HA := Lib.hid hcA
        have HB := Lib.hid hcB
        have HL := Lib.hid hl
        clear hcA hcB hl
        go_enter Try.func16, Try.ntmps16
        go_wp2_with fail
        clear hl'
        go_loopw [5] (fun i wr => ∃ k : Nat, k ≤ ys.length ∧ i = .int .i64 k ∧ ys.take k = zs.take k ∧ Below w.heap.size w wr) (fun i _ => ys.length - (intOf i).toNat)
        case atStart => exact ⟨0, Nat.zero_le _, rfl, rfl, Below.refl _ _⟩
        case round =>
          obtain ⟨k, hk, rfl, hall, acc⟩ := hrel
          have HE := Lib.hid hall
          clear hall
          by_cases hlt : k < ys.length
          · have hlt2 : k < zs.length := by have := HL.out; omega
            have hca : wr.cell? ⟨b, off + k, none⟩ = some (.int .u8 (ys.getD k 0)) := by rw [(bcell acc).1 b _ hb]; exact HA.out k hlt
            have hcb : wr.cell? ⟨c, off2 + k, none⟩ = some (.int .u8 (zs.getD k 0)) := by rw [(bcell acc).1 c _ hb2]; exact HB.out k hlt2
            have g1 := take_snoc 0 ys k hlt
            have g2 := take_snoc 0 zs k hlt2
            have G1 := Lib.hid g1
            have G2 := Lib.hid g2
            have HN : Hid (ys.getD k 0 ≠ zs.getD k 0 → ys ≠ zs) := Lib.hid fun h1 h2 => h1 (by rw [h2])
            clear g1 g2
            generalize ys.getD k 0 = x at *
            generalize zs.getD k 0 = y at *
            by_cases hxy : x = y
            · subst hxy
              go_wp2
              go_quiet (fail)
              go_wp2
              go_roundw
              case rel => exact ⟨k + 1, by omega, by go_num, by rw [G1.out, G2.out, HE.out], by (repeat' (first | (with_reducible exact Below.refl _ _) | (with_reducible assumption) | (with_reducible refine below_drewN ?_ _) | (with_reducible refine below_new ?_ _) | (with_reducible refine Below.alloc ?_ ?_ _) | (with_reducible refine Below.drew ?_) | (with_reducible refine Below.setCell ?_ ?_ _) | (with_reducible apply below_at; (case k => (with_reducible assumption)); (case hB => omega)) | (with_reducible apply below_on; (with_reducible assumption)) | (go_size; done) | (with_reducible apply size_of)))⟩
              case measure => simp [intOf]; omega
            · have hne : (x == y) = false := by simpa using hxy
              go_wp2
              go_quiet (fail)
              go_wp2
              go_ret
              exact ⟨retb (by simpa using HN.out hxy), by (repeat' (first | (with_reducible exact Below.refl _ _) | (with_reducible assumption) | (with_reducible refine below_drewN ?_ _) | (with_reducible refine below_new ?_ _) | (with_reducible refine Below.alloc ?_ ?_ _) | (with_reducible refine Below.drew ?_) | (with_reducible refine Below.setCell ?_ ?_ _) | (with_reducible apply below_at; (case k => (with_reducible assumption)); (case hB => omega)) | (with_reducible apply below_on; (with_reducible assumption)) | (go_size; done) | (with_reducible apply size_of)))⟩
          · have e1 : ys = zs := by
              have := HE.out
              rw [List.take_of_length_le (by omega), List.take_of_length_le (by have := HL.out; omega)] at this
              exact this
            have HE1 := Lib.hid e1
            clear e1
            go_wp2
            go_ret
            exact ⟨retb (by simpa using HE1.out), by (repeat' (first | (with_reducible exact Below.refl _ _) | (with_reducible assumption) | (with_reducible refine below_drewN ?_ _) | (with_reducible refine below_new ?_ _) | (with_reducible refine Below.alloc ?_ ?_ _) | (with_reducible refine Below.drew ?_) | (with_reducible refine Below.setCell ?_ ?_ _) | (with_reducible apply below_at; (case k => (with_reducible assumption)); (case hB => omega)) | (with_reducible apply below_on; (with_reducible assumption)) | (go_size; done) | (with_reducible apply size_of)))⟩
  · have hl' : ¬ ((ys.length : Int)) = (zs.length : Int) := by omega
    have hl2 : (((ys.length : Int)) == (zs.length : Int)) = false := by simpa using hl'
    clear hA hB
    go_enter Try.func16, Try.ntmps16
    go_wp2
    go_ret
    exact ⟨retb (by simp; intro h; exact hl (by rw [h])), by (repeat' (first | (with_reducible exact Below.refl _ _) | (with_reducible assumption) | (with_reducible refine below_drewN ?_ _) | (with_reducible refine below_new ?_ _) | (with_reducible refine Below.alloc ?_ ?_ _) | (with_reducible refine Below.drew ?_) | (with_reducible refine Below.setCell ?_ ?_ _) | (with_reducible apply below_at; (case k => (with_reducible assumption)); (case hB => omega)) | (with_reducible apply below_on; (with_reducible assumption)) | (go_size; done) | (with_reducible apply size_of)))⟩
end Go.Proofs.Ytbfodmckgjeoaaa.fiW
