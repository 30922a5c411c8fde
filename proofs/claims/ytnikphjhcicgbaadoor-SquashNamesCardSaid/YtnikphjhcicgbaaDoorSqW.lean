/- What the functions of package squash and of its reference return, by walks. -/
import Derived.Test.YtnikphjhcicgbaaDoorBase
import Derived.Test.YtnikphjhcicgbaaDoorBits
import Derived.Test.YtnikphjhcicgbaaDoorSqPlain
import Derived.Lib.Hide
import Derived.Deep.QuietTactic
import Derived.BigQuiet
import Derived.WalkSpells
import Derived.WalkLawsBesides
import Derived.OneCell
namespace Go.Proofs.YtnikphjhcicgbaaDoor.sqW
open Go.RowKit Go.Proofs.YtnikphjhcicgbaaDoor.base Go.Proofs.YtnikphjhcicgbaaDoor.sqP
set_option linter.unusedVariables false

/-- The table's cells hold the row. -/
def Tab (w : World) : Prop := 0 < w.heap.size ∧ ∀ i, i < 33 → w.cell? ⟨0, i, none⟩ = some (.int .i32 (rows.getD i 0))

theorem Tab.below {w w' : World} (h : Tab w) (hb : Below w.heap.size w w') : Tab w' :=
  ⟨Nat.lt_of_lt_of_le h.1 hb.size, fun i hi => by rw [hb.cell (p := ⟨0, i, none⟩) h.1]; exact h.2 i hi⟩

theorem Tab.drewN {w : World} (h : Tab w) (n : Nat) : Tab (w.drewN n) := h.below (below_drewN (Below.refl _ _) n)

set_option maxHeartbeats 400000 in
theorem sq_mid (d : Int) (w : World) (hT : Tab w) (h1 : -2047 ≤ d) (h2 : d ≤ 2047) :
    Calls Tryd.prog 11 #[.int .i32 d] w fun e w' => e = .returned (.int .i32 (mid d)) ∧ ∃ n, w' = w.drewN n := by
  have b1 := row_bd (d / 128 + 16).toNat (by omega)
  have b2 := row_bd (d / 128 + 17).toNat (by omega)
  have k1 := hT.2 (d / 128 + 16).toNat (by omega)
  have k2 := hT.2 (d / 128 + 17).toNat (by omega)
  have e3 : (d / 128 + 16 + 1).toNat = (d / 128 + 17).toNat := by omega
  have k3 : w.cell? ⟨0, (d / 128 + 16 + 1).toNat, none⟩ = some (.int .i32 (rows.getD (d / 128 + 17).toNat 0)) := by rw [e3]; exact hT.2 _ (by omega)
  have HM : Hid (mid d = (rows.getD (d / 128 + 16).toNat 0 * (128 - d % 128) + rows.getD (d / 128 + 17).toNat 0 * (d % 128) + 64) / 128) := Lib.hid rfl
  have EM : bits .and .i32 d 127 = d % 128 := by
    have := and_mask32 d 7 (by omega) 127 (by decide)
    have e : (2 : Int) ^ 7 = 128 := by decide
    rw [this, e]
  generalize rows.getD (d / 128 + 16).toNat 0 = x at *
  generalize rows.getD (d / 128 + 17).toNat 0 = y at *
  have b11 := b1.1
  have b12 := b1.2
  have b21 := b2.1
  have b22 := b2.2
  have m1 : 0 ≤ x * (128 - d % 128) := Int.mul_nonneg (by omega) (by omega)
  have m2 : x * (128 - d % 128) ≤ 4094 * 128 := Int.mul_le_mul b12 (by omega) (by omega) (by omega)
  have m3 : 0 ≤ y * (d % 128) := Int.mul_nonneg (by omega) (by omega)
  have m4 : y * (d % 128) ≤ 4094 * 128 := Int.mul_le_mul b22 (by omega) (by omega) (by omega)
  have i1 : 0 ≤ d / 128 + 16 := by omega
  have i2 : d / 128 + 16 < 33 := by omega
  have i3 : 0 ≤ d / 128 + 16 + 1 := by omega
  have i4 : d / 128 + 16 + 1 < 33 := by omega
  have i5 : IntKind.i32.wrap (d / 128 + 16 + 1) = d / 128 + 16 + 1 := by rw [IntKind.wrap_i32]; omega
  have i6 : IntKind.i32.wrap (128 - d % 128) = 128 - d % 128 := by rw [IntKind.wrap_i32]; omega
  have i7 : IntKind.i32.wrap (x * (128 - d % 128)) = x * (128 - d % 128) := by rw [IntKind.wrap_i32]; omega
  have i8 : IntKind.i32.wrap (y * (d % 128)) = y * (d % 128) := by rw [IntKind.wrap_i32]; omega
  clear b1 b2 e3 hT
  go_enter Tryd.func11, Tryd.ntmps11
  go_wp2
  go_quiet (fail)
  go_wp2
  go_ret
  exact ⟨ret1 (by rw [HM.out]), _, rfl⟩

set_option maxHeartbeats 400000 in
theorem sq_any (d : Int) (w : World) (hT : Tab w) :
    Calls Tryd.prog 11 #[.int .i32 d] w fun e w' => e = .returned (.int .i32 (sq d)) ∧ ∃ n, w' = w.drewN n := by
  by_cases c1 : 2047 < d
  · have hs : sq d = 4095 := by unfold sq; rw [if_pos (by omega)]
    rw [hs]
    clear hs hT
    go_enter Tryd.func11, Tryd.ntmps11
    go_wp2
    go_ret
    exact ⟨rfl, 0, rfl⟩
  · by_cases c2 : d < -2047
    · have hs : sq d = 0 := by unfold sq; rw [if_neg (by omega), if_pos c2]
      rw [hs]
      clear hs hT
      go_enter Tryd.func11, Tryd.ntmps11
      go_wp2
      go_ret
      exact ⟨rfl, 0, rfl⟩
    · rw [sq_in (by omega) (by omega)]
      exact sq_mid d w hT (by omega) (by omega)

set_option maxHeartbeats 400000 in
theorem reach_any (d p : Int) (g : Nat) (w : World) (hT : Tab w) (hp : w.heap[g]? = some (.cells #[.int .i32 p] 21 (0, 0))) :
    Calls Tryd.prog 17 #[.int .i32 d, .pointer (some ⟨g, 0, none⟩)] w fun e w' => e = .returned (.bool (decide (p ≤ sq d))) ∧ ∃ n, w' = w.drewN n := by
  have hc := cell_of_one hp
  have hlt := lt_of_block hp
  clear hp
  go_enter Tryd.func17, Tryd.ntmps17
  have HQ := Lib.hid (fun n => sq_any d (w.drewN n) (hT.drewN n))
  clear hT
  go_wp2_with fail
  go_quiet ((go_at_call 11; exact Calls.quiet_of (HQ.out _)))
  go_wp2
  go_ret
  exact ⟨rfl, _, rfl⟩

theorem decide_yes {p : Prop} [Decidable p] (h : p) : decide p = true := by simp [h]
theorem decide_no {p : Prop} [Decidable p] (h : ¬ p) : decide p = false := by simp [h]

set_option maxHeartbeats 1000000 in
theorem st_any (p : Int) (w : World) (hT : Tab w) :
    Calls Tryd.prog 12 #[.int .i32 p] w fun e w' => e = .returned (.int .i32 (st p)) ∧ Below w.heap.size w w' := by
  have HT := Lib.hid hT
  clear hT
  go_enter Tryd.func12, Tryd.ntmps12
  go_wp2_with fail
  go_loopw [4, 5, 8] (fun a b i wr => ∃ (l h : Int) (k : Nat), a = .int .i32 l ∧ b = .int .i32 h ∧ i = .int .i64 k ∧ k ≤ 12 ∧ -2047 ≤ l ∧ l ≤ h ∧ h ≤ 2047 ∧ h - l < 2 ^ (12 - k) ∧ (∀ e, -2047 ≤ e → e < l → sq e < p) ∧ (h < 2047 → p ≤ sq h) ∧ wr.heap[w.heap.size]? = some (.cells #[.int .i32 p] 21 (0, 0)) ∧ Below w.heap.size w wr) (fun _ _ i _ => 12 - (intOf i).toNat)
  case atStart => exact ⟨-2047, 2047, 0, rfl, rfl, rfl, by omega, by omega, by omega, by omega, by decide, fun e h1 h2 => by omega, fun h => by omega, heap_alloc_new _ _, (Below.refl _ _).alloc (Nat.le_refl _) _⟩
  case round =>
    obtain ⟨l, h, k, rfl, rfl, rfl, hk, b1, b2, b3, hd, hlo, hhi, hblk, acc⟩ := hrel
    have HLO := Lib.hid hlo
    have HHI := Lib.hid hhi
    have HB := Lib.hid hblk
    have HD := Lib.hid hd
    clear hlo hhi hblk hd
    by_cases hlt : k < 12
    · by_cases heq : l = h
      · subst heq
        have HS : Hid (l = st p) := Lib.hid (st_eq ⟨b1, b3, HLO.out, HHI.out⟩)
        go_wp2
        go_ret
        exact ⟨ret1 HS.out, acc⟩
      · have hne : (l == h) = false := by simpa using heq
        clear heq
        have q1 : l ≤ (l + h) / 2 := by omega
        have q2 : (l + h) / 2 < h := by have : ¬ l = h := by simpa using hne
                                        omega
        have hpow : (2 : Int) ^ (12 - k) = 2 * 2 ^ (12 - (k + 1)) := by
          rw [show 12 - k = 12 - (k + 1) + 1 from by omega, Int.pow_succ, Int.mul_comm]
        have HP := Lib.hid hpow
        clear hpow
        have HR := Lib.hid (reach_any ((l + h) / 2) p w.heap.size wr (HT.out.below acc) HB.out)
        by_cases hc : p ≤ sq ((l + h) / 2)
        · rw [decide_yes hc] at HR
          have HC := Lib.hid hc
          clear hc
          go_wp2_with (first | (go_at_call 17; refine HR.out.mono ?_; rintro e w' ⟨rfl, nn, rfl⟩; clear HR))
          go_roundw
          case rel => exact ⟨l, (l + h) / 2, k + 1, rfl, rfl, by go_num, by omega, b1, q1, by omega, by have := HD.out; rw [HP.out] at this; omega, HLO.out, fun _ => HC.out, HB.out, below_drewN acc _⟩
          case measure => simp [intOf] <;> omega
        · rw [decide_no hc] at HR
          have HC := Lib.hid hc
          clear hc
          go_wp2_with (first | (go_at_call 17; refine HR.out.mono ?_; rintro e w' ⟨rfl, nn, rfl⟩; clear HR))
          go_roundw
          case rel => exact ⟨(l + h) / 2 + 1, h, k + 1, rfl, rfl, by go_num, by omega, by omega, by omega, b3, by have := HD.out; rw [HP.out] at this; omega, fun e h1 h2 => by have := HC.out; have := sq_mono (show e ≤ (l + h) / 2 by omega); omega, HHI.out, HB.out, below_drewN acc _⟩
          case measure => simp [intOf] <;> omega
    · obtain rfl : k = 12 := by omega
      have hlh : l = h := by have := HD.out; simp at this; omega
      subst hlh
      have HS : Hid (l = st p) := Lib.hid (st_eq ⟨b1, b3, HLO.out, HHI.out⟩)
      go_wp2
      go_ret
      exact ⟨ret1 HS.out, acc⟩
end Go.Proofs.YtnikphjhcicgbaaDoor.sqW
