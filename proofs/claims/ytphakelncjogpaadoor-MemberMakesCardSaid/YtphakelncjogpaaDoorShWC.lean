/- Pad, Block, by walks. -/
import Derived.Test.YtphakelncjogpaaDoorShWB
namespace Go.Proofs.YtphakelncjogpaaDoor.shW
set_option maxRecDepth 100000
open Go.RowKit Go.Proofs.YtphakelncjogpaaDoor.base Go.Proofs.YtphakelncjogpaaDoor.shP
set_option linter.unusedVariables false
set_option linter.unusedSimpArgs false
def padE (n : Int) : Int := if 0 ≤ n ∧ n ≤ 20000 then 0 else 2
def padV (n : Int) : List Int := if 0 ≤ n ∧ n ≤ 20000 then padL n.toNat else []
def blkE (b : List Int) : Int := if b.length = 64 then 0 else 2
def blkV (h : W5) (b : List Int) : W5 := if b.length = 64 then dn h b else ⟨0, 0, 0, 0, 0⟩
end Go.Proofs.YtphakelncjogpaaDoor.shW
