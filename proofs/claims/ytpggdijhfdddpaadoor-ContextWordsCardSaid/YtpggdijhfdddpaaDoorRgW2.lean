/- Check of rings, by walks. -/
import Derived.Test.YtpggdijhfdddpaaDoorRgCount
import Derived.BigQuiet
namespace Go.Proofs.YtpggdijhfdddpaaDoor.rgW
open Go.RowKit Go.Proofs.YtpggdijhfdddpaaDoor.base Go.Proofs.YtpggdijhfdddpaaDoor.rgP
set_option linter.unusedVariables false
set_option linter.unusedSimpArgs false

theorem rgE_no {r : Rg} (h : rgOk r = false) : rgE r = 8 := by simp [rgE, h]
theorem rgE_yes {r : Rg} (h : rgOk r = true) : rgE r = 0 := by simp [rgE, h]
theorem shape_no {r : Rg} (h : ¬ (lvB r.l = true ∧ r.b.length = szOf r.l ∧ 0 ≤ r.n ∧ r.n ≤ 1073741824)) : rgOk r = false := by
  cases h' : rgOk r
  · rfl
  · exact absurd ((rgOk_iff r).1 h').1 h
set_option maxHeartbeats 2000000 in
theorem Check_shape (r : Rg) (A : Option Addr) (n c : Nat) (w : World) (h : RgIn w A n c r) (hs : ¬ (lvB r.l = true ∧ r.b.length = szOf r.l ∧ 0 ≤ r.n ∧ r.n ≤ 1073741824)) :
    Calls Tryd.prog 39 #[.agg #[.int .i64 (r).l, .slice A n c, .int .i64 (r).n]] w fun e w' => e = .returned (.int .i64 8) ∧ Below w.heap.size w w' := by
  have he := h.e
  obtain ⟨l1, l2, n1, n2, -, -, c1, c2, -⟩ := h
  have hn9 : (n : Int) ≤ 9223372036854775807 := by omega
  have HS := Lib.hid hs
  have HC := Lib.hid (And.intro c1 c2)
  have HEN := Lib.hid he
  clear hs c1 c2 he
  cases hl : lvB r.l
  · have HLV : Hid (∀ w : World, Calls Tryd.prog 45 #[.int .i64 r.l] w fun e w' => e = .returned (.bool false) ∧ w = w') := Lib.hid (fun w => by have := isLevel_any r.l w; rwa [hl] at this)
    clear hl
    generalize r.l = l at *
    generalize r.n = m at *
    go_enter Tryd.func39, Tryd.ntmps39
    go_wp2_with fail
    go_quiet ((first | (go_at_call 45; exact Calls.quiet_of_same (turned (HLV.out _)))))
    go_wp2
    go_ret
    exact ⟨rfl, by (repeat' (first | (with_reducible exact Below.refl _ _) | (with_reducible assumption) | (with_reducible refine below_drewN ?_ _) | (with_reducible refine below_new ?_ _) | (with_reducible refine Below.alloc ?_ ?_ _) | (with_reducible refine Below.drew ?_) | (with_reducible refine Below.setCell ?_ ?_ _) | (with_reducible apply below_at; (case k => (with_reducible assumption)); (case hB => omega)) | (with_reducible apply below_on; (with_reducible assumption)) | (go_size; done) | (with_reducible apply size_of)))⟩
  · have HLV : Hid (∀ w : World, Calls Tryd.prog 45 #[.int .i64 r.l] w fun e w' => e = .returned (.bool true) ∧ w = w') := Lib.hid (fun w => by have := isLevel_any r.l w; rwa [hl] at this)
    have HPL : Hid (∀ w : World, Calls Tryd.prog 46 #[.int .i64 r.l] w fun e w' => e = .returned (.int .i64 (szOf r.l : Int)) ∧ w = w') := Lib.hid (fun w => places_ok r.l w hl)
    have hsz := sz_bd hl
    have hz1 : (64 : Int) ≤ (szOf r.l : Int) := by omega
    have hz2 : (szOf r.l : Int) ≤ 8192 := by omega
    clear hsz
    by_cases hln : (n : Int) = (szOf r.l : Int)
    · have hbe : ((n : Int) != (szOf r.l : Int)) = false := by simpa using hln
      have hx : r.n < 0 ∨ (0 ≤ r.n ∧ 1073741824 < r.n) := by
        rcases Int.lt_or_le r.n 0 with h | h
        · exact .inl h
        · refine .inr ⟨h, Int.lt_of_not_ge (fun h2 => HS.out ⟨hl, by have := HEN.out; omega, h, h2⟩)⟩
      clear hl hln
      generalize (szOf r.l : Int) = sz at *
      generalize r.l = l at *
      generalize r.n = m at *
      rcases hx with hx | ⟨hx, hy⟩
      · have d1 : decide (m < 0) = true := decide_eq_true hx
        go_enter Tryd.func39, Tryd.ntmps39
        go_wp2_with fail
        go_quiet ((first | (go_at_call 45; exact Calls.quiet_of_same (turned (HLV.out _))) | (go_at_call 46; exact Calls.quiet_of_same (turned (HPL.out _)))))
        go_wp2
        go_ret
        exact ⟨rfl, by (repeat' (first | (with_reducible exact Below.refl _ _) | (with_reducible assumption) | (with_reducible refine below_drewN ?_ _) | (with_reducible refine below_new ?_ _) | (with_reducible refine Below.alloc ?_ ?_ _) | (with_reducible refine Below.drew ?_) | (with_reducible refine Below.setCell ?_ ?_ _) | (with_reducible apply below_at; (case k => (with_reducible assumption)); (case hB => omega)) | (with_reducible apply below_on; (with_reducible assumption)) | (go_size; done) | (with_reducible apply size_of)))⟩
      · have d1 : decide (m < 0) = false := by simpa using hx
        have d2 : decide (1073741824 < m) = true := decide_eq_true hy
        go_enter Tryd.func39, Tryd.ntmps39
        go_wp2_with fail
        go_quiet ((first | (go_at_call 45; exact Calls.quiet_of_same (turned (HLV.out _))) | (go_at_call 46; exact Calls.quiet_of_same (turned (HPL.out _)))))
        go_wp2
        go_ret
        exact ⟨rfl, by (repeat' (first | (with_reducible exact Below.refl _ _) | (with_reducible assumption) | (with_reducible refine below_drewN ?_ _) | (with_reducible refine below_new ?_ _) | (with_reducible refine Below.alloc ?_ ?_ _) | (with_reducible refine Below.drew ?_) | (with_reducible refine Below.setCell ?_ ?_ _) | (with_reducible apply below_at; (case k => (with_reducible assumption)); (case hB => omega)) | (with_reducible apply below_on; (with_reducible assumption)) | (go_size; done) | (with_reducible apply size_of)))⟩
    · have hbe : ((n : Int) != (szOf r.l : Int)) = true := by simpa using hln
      clear hl
      generalize (szOf r.l : Int) = sz at *
      generalize r.l = l at *
      generalize r.n = m at *
      go_enter Tryd.func39, Tryd.ntmps39
      go_wp2_with fail
      go_quiet ((first | (go_at_call 45; exact Calls.quiet_of_same (turned (HLV.out _))) | (go_at_call 46; exact Calls.quiet_of_same (turned (HPL.out _)))))
      go_wp2
      go_ret
      exact ⟨rfl, by (repeat' (first | (with_reducible exact Below.refl _ _) | (with_reducible assumption) | (with_reducible refine below_drewN ?_ _) | (with_reducible refine below_new ?_ _) | (with_reducible refine Below.alloc ?_ ?_ _) | (with_reducible refine Below.drew ?_) | (with_reducible refine Below.setCell ?_ ?_ _) | (with_reducible apply below_at; (case k => (with_reducible assumption)); (case hB => omega)) | (with_reducible apply below_on; (with_reducible assumption)) | (go_size; done) | (with_reducible apply size_of)))⟩
end Go.Proofs.YtpggdijhfdddpaaDoor.rgW
