/- DecoderGets, of all decoders. -/
import Derived.Test.YtckbiielahgliaaDecL6
namespace Go.Proofs.Ytckbiielahgliaa.decL
open Go.RowKit Go.Proofs.Ytckbiielahgliaa.base Go.Proofs.Ytckbiielahgliaa.encP Go.Proofs.Ytckbiielahgliaa.encW Go.Proofs.Ytckbiielahgliaa.decP Go.Proofs.Ytckbiielahgliaa.decW
set_option linter.unusedVariables false

set_option maxRecDepth 100000 in
set_option maxHeartbeats 2000000 in
theorem gets (x1 x2 x : Int) (A : Option Addr) (n c : Nat) (zz : List Int) (t p : Int) (w : World) (hr : DecIn w x1 x2 x A n c zz t) (_ : -9223372036854775808 ≤ p) (_ : p ≤ 9223372036854775807) :
    Calls Try.prog 3 #[.agg #[.int .u32 (x1), .int .u32 (x2), .int .u32 (x), .slice (A) (n) (c), .int .i64 (t)], .int .i64 p] w fun e w' => e = .returned (.bool true) ∧ Below w.heap.size w w' := by
  obtain ⟨a1, a2, b1, b2, d1, d2, row, t1, t2⟩ := hr
  obtain ⟨h1, h2, h3, h4⟩ := has_of_row row
  have hc := row_cap row
  unfold maxLen at h3
  by_cases g1 : n ≤ 200 ∨ 19990 < n ∧ n ≤ 20100
  · exact gets_in x1 x2 x A n c _ t p w a1 a2 b1 b2 d1 d2 h1 h2 hc (inB_of h4) g1
  · clear h1 h2 row h4
    rcases (show 200 < n ∧ n ≤ 19990 ∨ 20100 < n by omega) with h | h
    all_goals
      clear g1
      go_enter Try.func3, Try.ntmps3
      go_wp2
      go_ret
      exact ⟨rfl, by (repeat' (first | (with_reducible exact Below.refl _ _) | (with_reducible assumption) | (with_reducible refine below_drewN ?_ _) | (with_reducible refine below_new ?_ _) | (with_reducible refine Below.alloc ?_ ?_ _) | (with_reducible refine Below.drew ?_) | (with_reducible refine Below.setCell ?_ ?_ _) | (with_reducible apply below_at; (case k => (with_reducible assumption)); (case hB => omega)) | (with_reducible apply below_on; (with_reducible assumption)) | (go_size; done) | (with_reducible apply size_of)))⟩
end Go.Proofs.Ytckbiielahgliaa.decL
