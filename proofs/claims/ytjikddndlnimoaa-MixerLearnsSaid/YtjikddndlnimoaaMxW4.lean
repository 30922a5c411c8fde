/- Mixing with a set, by walks. -/
import Derived.Test.YtjikddndlnimoaaMxW3
import Derived.Deep.DeepCutAuto
namespace Go.Proofs.Ytjikddndlnimoaa.mxP
set_option maxRecDepth 100000
open Go.Proofs.Ytjikddndlnimoaa.base Go.Proofs.Ytjikddndlnimoaa.rfP Go.Proofs.Ytjikddndlnimoaa.sqP Go.Proofs.Ytjikddndlnimoaa.fixP
def mixV (l : List (List Int)) (set : Int) (ins : List Int) : Int := if mAskE l set ins = 0 then mixD (l.getD set.toNat []) ins else 0
def mixQ (l : List (List Int)) (set : Int) (ins : List Int) : Int := if mAskE l set ins = 0 then sq (mixD (l.getD set.toNat []) ins) else 0
theorem clamp_is (n : Int) : min (max n (-2047)) 2047 = clampD n := by unfold clampD; omega
end Go.Proofs.Ytjikddndlnimoaa.mxP
namespace Go.Proofs.Ytjikddndlnimoaa.mxW
set_option maxRecDepth 100000
open Go.RowKit Go.Proofs.Ytjikddndlnimoaa.base Go.Proofs.Ytjikddndlnimoaa.rfP Go.Proofs.Ytjikddndlnimoaa.mxP Go.Proofs.Ytjikddndlnimoaa.sqP Go.Proofs.Ytjikddndlnimoaa.sqW Go.Proofs.Ytjikddndlnimoaa.fixP Go.Proofs.Ytjikddndlnimoaa.fixW
set_option linter.unusedVariables false
set_option linter.unusedSimpArgs false
end Go.Proofs.Ytjikddndlnimoaa.mxW
