/- The reference's looks into rings, by walks. -/
import Derived.Test.YtpggdijhfdddpaaDoorRgW6
namespace Go.Proofs.YtpggdijhfdddpaaDoor.rgW
open Go.RowKit Go.Proofs.YtpggdijhfdddpaaDoor.base Go.Proofs.YtpggdijhfdddpaaDoor.rgP
set_option linter.unusedVariables false
set_option linter.unusedSimpArgs false

set_option maxHeartbeats 1000000 in
theorem rAgo_any (r : Rg) (A : Option Addr) (n c : Nat) (k : Int) (w : World) (h : RgIn w A n c r) (hok : rgOk r = true) (k0 : 0 ≤ k) (k1 : k ≤ 9223372036854775807) :
    Calls Tryd.prog 32 #[.agg #[.int .i64 (r).l, .slice A n c, .int .i64 (r).n], .int .i64 k] w fun e w' => e = .returned (.int .u8 (ago r k)) ∧ Below w.heap.size w w' := by
  obtain ⟨a1, a2, a3, a4⟩ := ok_parts h hok
  by_cases c1 : r.n < k
  · have HV : Hid (ago r k = 0) := Lib.hid (by rw [ago, if_pos c1])
    clear h hok
    generalize hm : r.n = m at *
    go_enter Tryd.func32, Tryd.ntmps32
    go_wp2_with fail
    go_ret
    exact ⟨ret1 HV.out.symm, by (repeat' (first | (with_reducible exact Below.refl _ _) | (with_reducible assumption) | (with_reducible refine below_drewN ?_ _) | (with_reducible refine below_new ?_ _) | (with_reducible refine Below.alloc ?_ ?_ _) | (with_reducible refine Below.drew ?_) | (with_reducible refine Below.setCell ?_ ?_ _) | (with_reducible apply below_at; (case k => (with_reducible assumption)); (case hB => omega)) | (with_reducible apply below_on; (with_reducible assumption)) | (go_size; done) | (with_reducible apply size_of)))⟩
  · obtain ⟨j, hj⟩ : ∃ j : Nat, r.n - k = j := ⟨(r.n - k).toNat, by omega⟩
    have HV : Hid (ago r k = r.b.getD (j % n) 0) := Lib.hid (by rw [ago, if_neg c1, hj, Int.toNat_natCast, h.e])
    obtain ⟨i, hi⟩ : ∃ i, j % n = i := ⟨_, rfl⟩
    have hin : i < n := by rw [← hi]; exact Nat.mod_lt _ (by omega)
    have ht : Int.tmod (r.n - k) (n : Int) = (i : Int) := by rw [hj, ← hi]; exact (Int.ofNat_tmod j n).symm
    obtain ⟨b, off, rfl, hb, hc⟩ := has_some h.h (by rw [h.e]; omega)
    have hcell := hc i (by rw [h.e]; exact hin)
    have hn3 : ¬ ((n : Int) = 0) := by omega
    have hn4 : ((n : Int) == 0) = false := by simpa using hn3
    have hn5 : (n : Int) ≤ 8192 := by omega
    have hi2 : (i : Int) < n := by omega
    have hw : IntKind.i64.wrap (r.n - k) = r.n - k := by rw [IntKind.wrap_i64]; omega
    rw [hi] at HV
    clear h hok a1 a2 hin hi hc hj
    generalize hx : r.b.getD i 0 = x at *
    go_enter Tryd.func32, Tryd.ntmps32
    go_wp2_with fail
    go_quiet (fail)
    go_wp2
    go_ret
    exact ⟨ret1 HV.out.symm, by (repeat' (first | (with_reducible exact Below.refl _ _) | (with_reducible assumption) | (with_reducible refine below_drewN ?_ _) | (with_reducible refine below_new ?_ _) | (with_reducible refine Below.alloc ?_ ?_ _) | (with_reducible refine Below.drew ?_) | (with_reducible refine Below.setCell ?_ ?_ _) | (with_reducible apply below_at; (case k => (with_reducible assumption)); (case hB => omega)) | (with_reducible apply below_on; (with_reducible assumption)) | (go_size; done) | (with_reducible apply size_of)))⟩
end Go.Proofs.YtpggdijhfdddpaaDoor.rgW
