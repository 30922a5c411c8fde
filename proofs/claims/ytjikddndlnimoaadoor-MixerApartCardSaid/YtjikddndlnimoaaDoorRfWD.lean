/- Copies of rows, by walks. -/
import Derived.Test.YtjikddndlnimoaaDoorRfWC
namespace Go.Proofs.YtjikddndlnimoaaDoor.rfW
set_option maxRecDepth 100000
open Go.RowKit Go.Proofs.YtjikddndlnimoaaDoor.base Go.Proofs.YtjikddndlnimoaaDoor.rfP
set_option linter.unusedVariables false
set_option linter.unusedSimpArgs false
theorem nums_snoc (rs : List RY) (r : RY) : numsY (rs ++ [r]) = numsY rs ++ [r.b] := by simp [numsY]
end Go.Proofs.YtjikddndlnimoaaDoor.rfW
