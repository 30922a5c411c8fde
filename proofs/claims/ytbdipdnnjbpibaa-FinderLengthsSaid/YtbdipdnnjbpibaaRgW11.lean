/- Bytes compared, by a walk; how great a ring is. -/
import Derived.Test.YtbdipdnnjbpibaaRgW10
namespace Go.Proofs.Ytbdipdnnjbpibaa.rgW
open Go.RowKit Go.Proofs.Ytbdipdnnjbpibaa.base Go.Proofs.Ytbdipdnnjbpibaa.rgP
set_option linter.unusedVariables false
set_option linter.unusedSimpArgs false

set_option maxHeartbeats 400000 in
theorem great_any (r : Rg) (A : Option Addr) (n c : Nat) (w : World) (m1 : n ≤ 9223372036854775807) :
    Calls Try.prog 25 #[.agg #[.int .i64 (r).l, .slice A n c, .int .i64 (r).n]] w fun e w' => e = .returned (.bool (decide (8300 < n))) ∧ Below w.heap.size w w' := by
  generalize r.l = l
  generalize r.n = m
  by_cases h1 : 8300 < n
  · have g : ((8300 : Int) < (n : Int)) := by omega
    go_enter Try.func25, Try.ntmps25
    go_wp2
    go_ret
    exact ⟨retb (by simp [h1]), by (repeat' (first | (with_reducible exact Below.refl _ _) | (with_reducible assumption) | (with_reducible refine below_drewN ?_ _) | (with_reducible refine below_new ?_ _) | (with_reducible refine Below.alloc ?_ ?_ _) | (with_reducible refine Below.drew ?_) | (with_reducible refine Below.setCell ?_ ?_ _) | (with_reducible apply below_at; (case k => (with_reducible assumption)); (case hB => omega)) | (with_reducible apply below_on; (with_reducible assumption)) | (go_size; done) | (with_reducible apply size_of)))⟩
  · have g : ¬ ((8300 : Int) < (n : Int)) := by omega
    go_enter Try.func25, Try.ntmps25
    go_wp2
    go_ret
    exact ⟨retb (by simp [h1]), by (repeat' (first | (with_reducible exact Below.refl _ _) | (with_reducible assumption) | (with_reducible refine below_drewN ?_ _) | (with_reducible refine below_new ?_ _) | (with_reducible refine Below.alloc ?_ ?_ _) | (with_reducible refine Below.drew ?_) | (with_reducible refine Below.setCell ?_ ?_ _) | (with_reducible apply below_at; (case k => (with_reducible assumption)); (case hB => omega)) | (with_reducible apply below_on; (with_reducible assumption)) | (go_size; done) | (with_reducible apply size_of)))⟩

end Go.Proofs.Ytbdipdnnjbpibaa.rgW
