/- EncoderPuts, of all encoders. -/
import Derived.Test.YtaehjhjbbkblbaaEncL3
namespace Go.Proofs.Ytaehjhjbbkblbaa.encL
open Go.RowKit Go.Proofs.Ytaehjhjbbkblbaa.base Go.Proofs.Ytaehjhjbbkblbaa.encP Go.Proofs.Ytaehjhjbbkblbaa.encW
set_option linter.unusedVariables false

set_option maxRecDepth 100000 in
set_option maxHeartbeats 2000000 in
theorem puts (x1 x2 : Int) (A : Option Addr) (n c : Nat) (z : List Int) (y1 y2 p : Int) (b : Bool) (w : World) (hr : EncIn w x1 x2 A n c z) (c1 : 0 ≤ y1) (c2 : y1 ≤ 4294967295) (d1 : 0 ≤ y2) (d2 : y2 ≤ 4294967295) (_ : -9223372036854775808 ≤ p) (_ : p ≤ 9223372036854775807) :
    Calls Try.prog 3 #[.agg #[.int .u32 (x1), .int .u32 (x2), .slice (A) (n) (c)], .int .u32 y1, .int .u32 y2, .int .i64 p, .bool b] w fun e w' => e = .returned (.bool true) ∧ Below w.heap.size w w' := by
  obtain ⟨a1, a2, b1, b2, row⟩ := hr
  obtain ⟨h1, h2, h3, _⟩ := has_of_row row
  have hc : n ≤ c := by
    rcases row with ⟨_, rfl, rfl, _⟩ | ⟨x, _, hl, _⟩
    · exact Nat.le_refl _
    · exact hl
  unfold maxLen at h3
  by_cases g1 : n ≤ 100 ∨ 19990 < n ∧ n ≤ 20100
  · exact puts_in x1 x2 A n c _ y1 y2 p b w a1 a2 b1 b2 h1 h2 hc c1 c2 d1 d2 g1
  · clear h1 h2 row
    rcases (show 100 < n ∧ n ≤ 19990 ∨ 20100 < n by omega) with h | h
    all_goals
      clear g1
      go_enter Try.func3, Try.ntmps3
      go_wp2
      go_ret
      exact ⟨rfl, by (repeat' (first | (with_reducible exact Below.refl _ _) | (with_reducible assumption) | (with_reducible refine below_drewN ?_ _) | (with_reducible refine below_new ?_ _) | (with_reducible refine Below.alloc ?_ ?_ _) | (with_reducible refine Below.drew ?_) | (with_reducible refine Below.setCell ?_ ?_ _) | (with_reducible apply below_at; (case k => (with_reducible assumption)); (case hB => omega)) | (with_reducible apply below_on; (with_reducible assumption)) | (go_size; done) | (with_reducible apply size_of)))⟩
end Go.Proofs.Ytaehjhjbbkblbaa.encL
