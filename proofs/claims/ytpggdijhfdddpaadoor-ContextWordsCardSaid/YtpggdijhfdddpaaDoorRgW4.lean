/- Bytes of rings by number, by walks. -/
import Derived.Test.YtpggdijhfdddpaaDoorRgW3
namespace Go.Proofs.YtpggdijhfdddpaaDoor.rgW
open Go.RowKit Go.Proofs.YtpggdijhfdddpaaDoor.base Go.Proofs.YtpggdijhfdddpaaDoor.rgP
set_option linter.unusedVariables false
set_option linter.unusedSimpArgs false

theorem ok_parts {r : Rg} {w : World} {A : Option Addr} {n c : Nat} (h : RgIn w A n c r) (hr : rgOk r = true) : 64 ≤ n ∧ n ≤ 8192 ∧ 0 ≤ r.n ∧ r.n ≤ 1073741824 := by
  have hs := (rgOk_iff r).1 hr
  have hz := sz_bd hs.1.1
  have := h.e
  omega
set_option maxHeartbeats 1000000 in
theorem byNumber_any (r : Rg) (A : Option Addr) (n c : Nat) (q : Int) (w : World) (h : RgIn w A n c r) (hn : 64 ≤ n) (hn2 : n ≤ 8192) (q0 : 0 ≤ q) (q1 : q ≤ 9223372036854775807) :
    Calls Tryd.prog 50 #[.agg #[.int .i64 (r).l, .slice A n c, .int .i64 (r).n], .int .i64 q] w fun e w' => e = .returned (.int .u8 (r.b.getD (q.toNat % n) 0)) ∧ Below w.heap.size w w' := by
  obtain ⟨k, rfl⟩ := Int.eq_ofNat_of_zero_le q0
  obtain ⟨j, hj⟩ : ∃ j, k % n = j := ⟨_, rfl⟩
  have hjn : j < n := by rw [← hj]; exact Nat.mod_lt _ (by omega)
  have ht : Int.tmod (k : Int) (n : Int) = (j : Int) := by rw [← hj]; exact (Int.ofNat_tmod k n).symm
  obtain ⟨b, off, rfl, hb, hc⟩ := has_some h.h (by rw [h.e]; omega)
  have hcell := hc j (by rw [h.e]; exact hjn)
  rw [Int.toNat_natCast, hj]
  have hn3 : ¬ ((n : Int) = 0) := by omega
  have hn4 : ((n : Int) == 0) = false := by simpa using hn3
  have hn5 : (n : Int) ≤ 8192 := by omega
  have hj2 : (j : Int) < n := by omega
  clear h hn hn2 hjn hj hc
  generalize r.b.getD j 0 = x at *
  generalize r.l = l at *
  generalize r.n = m at *
  go_enter Tryd.func50, Tryd.ntmps50
  go_wp2_with fail
  go_quiet (fail)
  go_wp2
  go_ret
  exact ⟨rfl, by (repeat' (first | (with_reducible exact Below.refl _ _) | (with_reducible assumption) | (with_reducible refine below_drewN ?_ _) | (with_reducible refine below_new ?_ _) | (with_reducible refine Below.alloc ?_ ?_ _) | (with_reducible refine Below.drew ?_) | (with_reducible refine Below.setCell ?_ ?_ _) | (with_reducible apply below_at; (case k => (with_reducible assumption)); (case hB => omega)) | (with_reducible apply below_on; (with_reducible assumption)) | (go_size; done) | (with_reducible apply size_of)))⟩
theorem byNumber_at (r : Rg) (A : Option Addr) (n c : Nat) (q : Int) (w : World) (h : RgIn w A n c r) (hr : rgOk r = true) (q0 : 0 ≤ q) (q1 : q ≤ 9223372036854775807) (x : Int) (hx : r.b.getD (q.toNat % r.b.length) 0 = x) :
    Calls Tryd.prog 50 #[.agg #[.int .i64 (r).l, .slice A n c, .int .i64 (r).n], .int .i64 q] w fun e w' => e = .returned (.int .u8 x) ∧ Below w.heap.size w w' := by
  have := ok_parts h hr
  subst hx
  rw [h.e]
  exact byNumber_any r A n c q w h this.1 this.2.1 q0 q1
end Go.Proofs.YtpggdijhfdddpaaDoor.rgW
