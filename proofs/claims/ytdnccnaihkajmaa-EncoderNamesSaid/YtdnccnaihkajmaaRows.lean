/-
  No cell of these rows narrows 'for every input' (looked for: loops, veiled, ifaces, maps, wideKeys, modest, calm, conditions, laid).
  DERIVED. THE GIVEN ROWS OF THIS SEAT. 6 by the template 'for every input the law returns true; each argument reads behind the call as it read before'; 0 by the template 'total and deterministic' (their statements: YtdnccnaihkajmaaTotals.lean).
  GIVEN WITH THE SEED: the statements are not yours to turn. If you find one false, say at which input.
  Laid BY PROGRAM, IN A SANDBOX (cutbox-rows.mjs): the forced cells as the released guide's own fill.sh prints them over the translation 95b3b87a9c29586a… (all of the seat's roots in one cut). By AI agents, Wed Nov 11 2026. No macro, syntax, notation, axiom, sorry.
-/
import Derived.Test.YtdnccnaihkajmaaChecked
import GoSem.Claim
import GoSem.ClaimJoined
import GoSem.ClaimMapViews
import Derived.JoinedTies
import Derived.KernelRfl
namespace Go.Proofs.Ytdnccnaihkajmaa
/- THE CELL 'sum', in the pinned program and in every row, IS THE sha256 OF THE DUMP (.gsa) THAT YtdnccnaihkajmaaProg.lean LOADS. Nothing in Lean hashes anything: it is a label: what it is worth is what the hold of that sum in a sandbox is worth. -/
noncomputable def Try.pinned : Pinned := { name := "ytdnccnaihkajmaa", sum := "95b3b87a9c29586a3ba34075cba74a0f802df91a93d893a526fa88819ffe2b5e", checked := Try.checked }
namespace Rows
def none {H : Type} : Left H := { results := [], args := [] }

/-- 'bitloftlaw20.EncoderPuts': WHATEVER THE INPUT: true; the input reads as it did. -/
def encoderPutsSpec : ChangeSpec := { name := "encoderPuts", fn := fun _ => fun
  | [d1, d2, d3, d4, d5] => { results := [.lit (.bool true)], args := [d1, d2, d3, d4, d5] }
  | _ => none }
def encoderPutsRow : OpenClaim := { program := "ytdnccnaihkajmaa", sum := "95b3b87a9c29586a3ba34075cba74a0f802df91a93d893a526fa88819ffe2b5e", func := "bitloft/bitloftlaw20.EncoderPuts", spec := "encoderPuts", apart := false }
def EncoderPutsSaid : Prop := encoderPutsRow.holds Try.pinned (OpenSpec.ofChange encoderPutsSpec)

/-- ITS FALSE NEIGHBOUR: 'it returns false'. Refute it at one input. -/
def encoderPutsWrong : ChangeSpec := { name := "encoderPuts", fn := fun _ => fun
  | [d1, d2, d3, d4, d5] => { results := [.lit (.bool false)], args := [d1, d2, d3, d4, d5] }
  | _ => none }
def EncoderPutsWrongFalsely : Prop := encoderPutsRow.holds Try.pinned (OpenSpec.ofChange encoderPutsWrong)

/-- 'bitloftlaw20.EncoderRuns': WHATEVER THE INPUT: true; the input reads as it did. -/
def encoderRunsSpec : ChangeSpec := { name := "encoderRuns", fn := fun _ => fun
  | [d1, d2] => { results := [.lit (.bool true)], args := [d1, d2] }
  | _ => none }
def encoderRunsRow : OpenClaim := { program := "ytdnccnaihkajmaa", sum := "95b3b87a9c29586a3ba34075cba74a0f802df91a93d893a526fa88819ffe2b5e", func := "bitloft/bitloftlaw20.EncoderRuns", spec := "encoderRuns", apart := false }
def EncoderRunsSaid : Prop := encoderRunsRow.holds Try.pinned (OpenSpec.ofChange encoderRunsSpec)

/-- ITS FALSE NEIGHBOUR: 'it returns false'. Refute it at one input. -/
def encoderRunsWrong : ChangeSpec := { name := "encoderRuns", fn := fun _ => fun
  | [d1, d2] => { results := [.lit (.bool false)], args := [d1, d2] }
  | _ => none }
def EncoderRunsWrongFalsely : Prop := encoderRunsRow.holds Try.pinned (OpenSpec.ofChange encoderRunsWrong)

/-- 'bitloftlaw20.EncoderNames': WHATEVER THE INPUT: true; the input reads as it did. -/
def encoderNamesSpec : ChangeSpec := { name := "encoderNames", fn := fun _ => fun
  | [] => { results := [.lit (.bool true)], args := [] }
  | _ => none }
def encoderNamesRow : OpenClaim := { program := "ytdnccnaihkajmaa", sum := "95b3b87a9c29586a3ba34075cba74a0f802df91a93d893a526fa88819ffe2b5e", func := "bitloft/bitloftlaw20.EncoderNames", spec := "encoderNames", apart := false }
def EncoderNamesSaid : Prop := encoderNamesRow.holds Try.pinned (OpenSpec.ofChange encoderNamesSpec)

/-- ITS FALSE NEIGHBOUR: 'it returns false'. Refute it at one input. -/
def encoderNamesWrong : ChangeSpec := { name := "encoderNames", fn := fun _ => fun
  | [] => { results := [.lit (.bool false)], args := [] }
  | _ => none }
def EncoderNamesWrongFalsely : Prop := encoderNamesRow.holds Try.pinned (OpenSpec.ofChange encoderNamesWrong)

/-- 'bitloftlaw20.EncoderSplits': WHATEVER THE INPUT: true; the input reads as it did. -/
def encoderSplitsSpec : ChangeSpec := { name := "encoderSplits", fn := fun _ => fun
  | [d1, d2, d3, d4] => { results := [.lit (.bool true)], args := [d1, d2, d3, d4] }
  | _ => none }
def encoderSplitsRow : OpenClaim := { program := "ytdnccnaihkajmaa", sum := "95b3b87a9c29586a3ba34075cba74a0f802df91a93d893a526fa88819ffe2b5e", func := "bitloft/bitloftlaw20.EncoderSplits", spec := "encoderSplits", apart := false }
def EncoderSplitsSaid : Prop := encoderSplitsRow.holds Try.pinned (OpenSpec.ofChange encoderSplitsSpec)

/-- ITS FALSE NEIGHBOUR: 'it returns false'. Refute it at one input. -/
def encoderSplitsWrong : ChangeSpec := { name := "encoderSplits", fn := fun _ => fun
  | [d1, d2, d3, d4] => { results := [.lit (.bool false)], args := [d1, d2, d3, d4] }
  | _ => none }
def EncoderSplitsWrongFalsely : Prop := encoderSplitsRow.holds Try.pinned (OpenSpec.ofChange encoderSplitsWrong)

/-- 'bitloftlaw20.EncoderStays': WHATEVER THE INPUT: true; the input reads as it did. -/
def encoderStaysSpec : ChangeSpec := { name := "encoderStays", fn := fun _ => fun
  | [d1, d2] => { results := [.lit (.bool true)], args := [d1, d2] }
  | _ => none }
def encoderStaysRow : OpenClaim := { program := "ytdnccnaihkajmaa", sum := "95b3b87a9c29586a3ba34075cba74a0f802df91a93d893a526fa88819ffe2b5e", func := "bitloft/bitloftlaw20.EncoderStays", spec := "encoderStays", apart := false }
def EncoderStaysSaid : Prop := encoderStaysRow.holds Try.pinned (OpenSpec.ofChange encoderStaysSpec)

/-- ITS FALSE NEIGHBOUR: 'it returns false'. Refute it at one input. -/
def encoderStaysWrong : ChangeSpec := { name := "encoderStays", fn := fun _ => fun
  | [d1, d2] => { results := [.lit (.bool false)], args := [d1, d2] }
  | _ => none }
def EncoderStaysWrongFalsely : Prop := encoderStaysRow.holds Try.pinned (OpenSpec.ofChange encoderStaysWrong)

/-- 'bitloftlaw20.EncoderRange': WHATEVER THE INPUT: true; the input reads as it did. -/
def encoderRangeSpec : ChangeSpec := { name := "encoderRange", fn := fun _ => fun
  | [d1, d2] => { results := [.lit (.bool true)], args := [d1, d2] }
  | _ => none }
def encoderRangeRow : OpenClaim := { program := "ytdnccnaihkajmaa", sum := "95b3b87a9c29586a3ba34075cba74a0f802df91a93d893a526fa88819ffe2b5e", func := "bitloft/bitloftlaw20.EncoderRange", spec := "encoderRange", apart := false }
def EncoderRangeSaid : Prop := encoderRangeRow.holds Try.pinned (OpenSpec.ofChange encoderRangeSpec)

/-- ITS FALSE NEIGHBOUR: 'it returns false'. Refute it at one input. -/
def encoderRangeWrong : ChangeSpec := { name := "encoderRange", fn := fun _ => fun
  | [d1, d2] => { results := [.lit (.bool false)], args := [d1, d2] }
  | _ => none }
def EncoderRangeWrongFalsely : Prop := encoderRangeRow.holds Try.pinned (OpenSpec.ofChange encoderRangeWrong)

/- THE SECOND FORM. 'bulk': how many values and letters a reading holds, each counted each time it is reached (what is shared counts as often as it is met; a slice's spare places count too). A statement '..UptoSaid' is the law's where the arguments, and the package variables that the reading takes, are together of bulk at most 1048576: NARROWER than '..Said'. Prove '..Said' where nothing that the law and all that it calls make is longer than what came in: it says more and counts as full. Else prove '..UptoSaid'. A law counts once. -/
mutual
def uptoBulk {H : Type} : DataW H → Nat
  | .lit (.string bytes) => bytes.length + 1
  | .lit _ => 1
  | .nil => 1
  | .ptr d => uptoBulk d + 1
  | .slice elems spare => uptoBulkAll elems + uptoBulkAll spare + 1
  | .agg parts => uptoBulkAll parts + 1
  | .iface _ d => uptoBulk d + 1
  | .map entries => uptoBulkEntries entries + 1
  | .held _ => 1
def uptoBulkAll {H : Type} : List (DataW H) → Nat
  | [] => 0
  | d :: r => uptoBulk d + uptoBulkAll r
def uptoBulkEntries {H : Type} : List (Lit × DataW H) → Nat
  | [] => 0
  | x :: r => uptoBulkEntry x + uptoBulkEntries r
def uptoBulkEntry {H : Type} : Lit × DataW H → Nat
  | (.string bytes, d) => bytes.length + uptoBulk d + 1
  | (_, d) => uptoBulk d + 1
 end
def uptoSmall : (H : Type) → List (DataW H) → Bool := fun _ ds => decide (uptoBulkAll ds ≤ 1048576)
def OpenSpec.upto (s : _root_.Go.ChangeSpec) : _root_.Go.OpenSpec := { _root_.Go.OpenSpec.ofChange s with cond := some uptoSmall }

/-- 'bitloftlaw20.EncoderPuts', WHERE WHAT IT READS IS OF BULK AT MOST 1048576: true; the input reads as it did. -/
def encoderPutsUptoRow : OpenClaim := { program := "ytdnccnaihkajmaa", sum := "95b3b87a9c29586a3ba34075cba74a0f802df91a93d893a526fa88819ffe2b5e", func := "bitloft/bitloftlaw20.EncoderPuts", spec := "encoderPuts", apart := false, narrowed := true }
def EncoderPutsUptoSaid : Prop := encoderPutsUptoRow.holds Try.pinned (OpenSpec.upto encoderPutsSpec)

/-- 'bitloftlaw20.EncoderRuns', WHERE WHAT IT READS IS OF BULK AT MOST 1048576: true; the input reads as it did. -/
def encoderRunsUptoRow : OpenClaim := { program := "ytdnccnaihkajmaa", sum := "95b3b87a9c29586a3ba34075cba74a0f802df91a93d893a526fa88819ffe2b5e", func := "bitloft/bitloftlaw20.EncoderRuns", spec := "encoderRuns", apart := false, narrowed := true }
def EncoderRunsUptoSaid : Prop := encoderRunsUptoRow.holds Try.pinned (OpenSpec.upto encoderRunsSpec)

/-- 'bitloftlaw20.EncoderNames', WHERE WHAT IT READS IS OF BULK AT MOST 1048576: true; the input reads as it did. -/
def encoderNamesUptoRow : OpenClaim := { program := "ytdnccnaihkajmaa", sum := "95b3b87a9c29586a3ba34075cba74a0f802df91a93d893a526fa88819ffe2b5e", func := "bitloft/bitloftlaw20.EncoderNames", spec := "encoderNames", apart := false, narrowed := true }
def EncoderNamesUptoSaid : Prop := encoderNamesUptoRow.holds Try.pinned (OpenSpec.upto encoderNamesSpec)

/-- 'bitloftlaw20.EncoderSplits', WHERE WHAT IT READS IS OF BULK AT MOST 1048576: true; the input reads as it did. -/
def encoderSplitsUptoRow : OpenClaim := { program := "ytdnccnaihkajmaa", sum := "95b3b87a9c29586a3ba34075cba74a0f802df91a93d893a526fa88819ffe2b5e", func := "bitloft/bitloftlaw20.EncoderSplits", spec := "encoderSplits", apart := false, narrowed := true }
def EncoderSplitsUptoSaid : Prop := encoderSplitsUptoRow.holds Try.pinned (OpenSpec.upto encoderSplitsSpec)

/-- 'bitloftlaw20.EncoderStays', WHERE WHAT IT READS IS OF BULK AT MOST 1048576: true; the input reads as it did. -/
def encoderStaysUptoRow : OpenClaim := { program := "ytdnccnaihkajmaa", sum := "95b3b87a9c29586a3ba34075cba74a0f802df91a93d893a526fa88819ffe2b5e", func := "bitloft/bitloftlaw20.EncoderStays", spec := "encoderStays", apart := false, narrowed := true }
def EncoderStaysUptoSaid : Prop := encoderStaysUptoRow.holds Try.pinned (OpenSpec.upto encoderStaysSpec)

/-- 'bitloftlaw20.EncoderRange', WHERE WHAT IT READS IS OF BULK AT MOST 1048576: true; the input reads as it did. -/
def encoderRangeUptoRow : OpenClaim := { program := "ytdnccnaihkajmaa", sum := "95b3b87a9c29586a3ba34075cba74a0f802df91a93d893a526fa88819ffe2b5e", func := "bitloft/bitloftlaw20.EncoderRange", spec := "encoderRange", apart := false, narrowed := true }
def EncoderRangeUptoSaid : Prop := encoderRangeUptoRow.holds Try.pinned (OpenSpec.upto encoderRangeSpec)

end Rows
end Go.Proofs.Ytdnccnaihkajmaa
