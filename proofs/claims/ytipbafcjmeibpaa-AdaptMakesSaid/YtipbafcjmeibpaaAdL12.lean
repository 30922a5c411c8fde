/- AdaptMakes, whole. -/
import Derived.Test.YtipbafcjmeibpaaAdL11
import Derived.Test.YtipbafcjmeibpaaAdW15
namespace Go.Proofs.Ytipbafcjmeibpaa.adL
open Go.RowKit Go.Proofs.Ytipbafcjmeibpaa.base Go.Proofs.Ytipbafcjmeibpaa.adP Go.Proofs.Ytipbafcjmeibpaa.adW
set_option linter.unusedVariables false
theorem makes (lim : Int) (A B : Option Addr) (lp ln cp cn : Nat) (m : Ad) (s b : Int) (w : World) (_ : -9223372036854775808 ≤ lim) (_ : lim ≤ 9223372036854775807) (hf : AdIn w A B lp ln m ∧ lp ≤ cp ∧ ln ≤ cn) (s0 : 0 ≤ s) (s1 : s ≤ 255) (b0 : 0 ≤ b) (_ : b ≤ 255) :
    Calls Try.prog 4 #[.int .i64 lim, .agg #[.int .i32 (m).l, .slice A lp cp, .slice B ln cn], .int .u8 s, .int .u8 b] w fun e w' => e = .returned (.bool true) ∧ Below w.heap.size w w' := by
  cases hg : (decide (300 < lp) || decide (300 < ln))
  · exact makes_main rNew_any lim m A B lp ln cp cn s b w hf.1 hf.2.1 hf.2.2 s0 s1 b0 hg
  · exact makes_out lim m A B lp ln cp cn s b w hf.1 hg
end Go.Proofs.Ytipbafcjmeibpaa.adL
