/- At of rings, and the reference's sizes, by walks. -/
import Derived.Test.YtpggdijhfdddpaaDoorRgW4
namespace Go.Proofs.YtpggdijhfdddpaaDoor.rgW
open Go.RowKit Go.Proofs.YtpggdijhfdddpaaDoor.base Go.Proofs.YtpggdijhfdddpaaDoor.rgP
set_option linter.unusedVariables false
set_option linter.unusedSimpArgs false

theorem ret3 {k k' : IntKind} {a b c d : Int} {p q : Bool} (h : a = b) (h2 : p = q) (h3 : c = d) :
    Ending.returned (.tuple #[.int k a, .bool p, .int k' c]) = .returned (.tuple #[.int k b, .bool q, .int k' d]) := by rw [h, h2, h3]
theorem dbl_bd {n : Nat} (h : n ≤ 7) : 64 ≤ dbl n ∧ dbl n ≤ 8192 := by
  rcases (show n = 0 ∨ n = 1 ∨ n = 2 ∨ n = 3 ∨ n = 4 ∨ n = 5 ∨ n = 6 ∨ n = 7 by omega) with rfl | rfl | rfl | rfl | rfl | rfl | rfl | rfl <;> decide +kernel
set_option maxHeartbeats 1000000 in
theorem rSize_ok (l : Int) (w : World) (h : lvB l = true) : Calls Tryd.prog 35 #[.int .i64 l] w fun e w' => e = .returned (.int .i64 (szOf l : Int)) ∧ w = w' := by
  have hl := (lvB_iff l).1 h
  obtain ⟨h1, h2⟩ := hl
  have HD := Lib.hid (dbl_sz h1)
  clear h
  go_enter Tryd.func35, Tryd.ntmps35
  go_wp2_with fail
  go_loopw [3, 4] (fun m i wr => wr = w ∧ ∃ q : Int, 0 ≤ q ∧ q ≤ l ∧ i = .int .i64 q ∧ m = .int .i64 (dbl q.toNat)) (fun _ i _ => l.toNat - (intOf i).toNat)
  case atStart => exact ⟨rfl, 0, by omega, h1, rfl, by rfl⟩
  case round =>
    obtain ⟨rfl, q, q1, q2, rfl, rfl⟩ := hrel
    have hb := dbl_bd (n := q.toNat) (by omega)
    have HN : Hid (dbl (q + 1).toNat = dbl q.toNat * 2) := Lib.hid (by rw [show (q + 1).toNat = q.toNat + 1 by omega, dbl_next])
    have HQ : Hid (q = l → dbl q.toNat = (szOf l : Int)) := Lib.hid (fun e => by rw [e]; exact HD.out)
    obtain ⟨b1, b2⟩ := hb
    generalize dbl q.toNat = x at *
    by_cases hlt : q < l
    · go_wp2
      go_roundw
      case rel => exact ⟨by trivial, q + 1, by omega, by omega, by first | rfl | go_num, by rw [HN.out]⟩
      case measure => simp [intOf]; omega
    · go_wp2
      go_ret
      exact ⟨ret1 (HQ.out (by omega)), rfl⟩
end Go.Proofs.YtpggdijhfdddpaaDoor.rgW
