/-
  No cell of these rows narrows 'for every input' (looked for: loops, veiled, ifaces, maps, wideKeys, modest, calm, conditions, laid).
  DERIVED. THE GIVEN ROWS OF THIS SEAT. 6 by the template 'for every input the law returns true; each argument reads behind the call as it read before'; 0 by the template 'total and deterministic' (their statements: YtckbiielahgliaaTotals.lean).
  GIVEN WITH THE SEED: the statements are not yours to turn. If you find one false, say at which input.
  Laid BY PROGRAM, IN A SANDBOX (cutbox-rows.mjs): the forced cells as the released guide's own fill.sh prints them over the translation 23ac8a414f37cb05… (all of the seat's roots in one cut). By AI agents, Wed Nov 11 2026. No macro, syntax, notation, axiom, sorry.
-/
import Derived.Test.YtckbiielahgliaaChecked
import GoSem.Claim
import GoSem.ClaimJoined
import GoSem.ClaimMapViews
import Derived.JoinedTies
import Derived.KernelRfl
namespace Go.Proofs.Ytckbiielahgliaa
/- THE CELL 'sum', in the pinned program and in every row, IS THE sha256 OF THE DUMP (.gsa) THAT YtckbiielahgliaaProg.lean LOADS. Nothing in Lean hashes anything: it is a label: what it is worth is what the hold of that sum in a sandbox is worth. -/
noncomputable def Try.pinned : Pinned := { name := "ytckbiielahgliaa", sum := "23ac8a414f37cb054eb759897716ec89a0a030a859ea4e8eee0ed3bebff613bc", checked := Try.checked }
namespace Rows
def none {H : Type} : Left H := { results := [], args := [] }

/-- 'bitloftlaw21.DecoderGets': WHATEVER THE INPUT: true; the input reads as it did. -/
def decoderGetsSpec : ChangeSpec := { name := "decoderGets", fn := fun _ => fun
  | [d1, d2] => { results := [.lit (.bool true)], args := [d1, d2] }
  | _ => none }
def decoderGetsRow : OpenClaim := { program := "ytckbiielahgliaa", sum := "23ac8a414f37cb054eb759897716ec89a0a030a859ea4e8eee0ed3bebff613bc", func := "bitloft/bitloftlaw21.DecoderGets", spec := "decoderGets", apart := false }
def DecoderGetsSaid : Prop := decoderGetsRow.holds Try.pinned (OpenSpec.ofChange decoderGetsSpec)

/-- ITS FALSE NEIGHBOUR: 'it returns false'. Refute it at one input. -/
def decoderGetsWrong : ChangeSpec := { name := "decoderGets", fn := fun _ => fun
  | [d1, d2] => { results := [.lit (.bool false)], args := [d1, d2] }
  | _ => none }
def DecoderGetsWrongFalsely : Prop := decoderGetsRow.holds Try.pinned (OpenSpec.ofChange decoderGetsWrong)

/-- 'bitloftlaw21.DecoderRuns': WHATEVER THE INPUT: true; the input reads as it did. -/
def decoderRunsSpec : ChangeSpec := { name := "decoderRuns", fn := fun _ => fun
  | [d1, d2] => { results := [.lit (.bool true)], args := [d1, d2] }
  | _ => none }
def decoderRunsRow : OpenClaim := { program := "ytckbiielahgliaa", sum := "23ac8a414f37cb054eb759897716ec89a0a030a859ea4e8eee0ed3bebff613bc", func := "bitloft/bitloftlaw21.DecoderRuns", spec := "decoderRuns", apart := false }
def DecoderRunsSaid : Prop := decoderRunsRow.holds Try.pinned (OpenSpec.ofChange decoderRunsSpec)

/-- ITS FALSE NEIGHBOUR: 'it returns false'. Refute it at one input. -/
def decoderRunsWrong : ChangeSpec := { name := "decoderRuns", fn := fun _ => fun
  | [d1, d2] => { results := [.lit (.bool false)], args := [d1, d2] }
  | _ => none }
def DecoderRunsWrongFalsely : Prop := decoderRunsRow.holds Try.pinned (OpenSpec.ofChange decoderRunsWrong)

/-- 'bitloftlaw21.DecoderNames': WHATEVER THE INPUT: true; the input reads as it did. -/
def decoderNamesSpec : ChangeSpec := { name := "decoderNames", fn := fun _ => fun
  | [] => { results := [.lit (.bool true)], args := [] }
  | _ => none }
def decoderNamesRow : OpenClaim := { program := "ytckbiielahgliaa", sum := "23ac8a414f37cb054eb759897716ec89a0a030a859ea4e8eee0ed3bebff613bc", func := "bitloft/bitloftlaw21.DecoderNames", spec := "decoderNames", apart := false }
def DecoderNamesSaid : Prop := decoderNamesRow.holds Try.pinned (OpenSpec.ofChange decoderNamesSpec)

/-- ITS FALSE NEIGHBOUR: 'it returns false'. Refute it at one input. -/
def decoderNamesWrong : ChangeSpec := { name := "decoderNames", fn := fun _ => fun
  | [] => { results := [.lit (.bool false)], args := [] }
  | _ => none }
def DecoderNamesWrongFalsely : Prop := decoderNamesRow.holds Try.pinned (OpenSpec.ofChange decoderNamesWrong)

/-- 'bitloftlaw21.DecoderBack': WHATEVER THE INPUT: true; the input reads as it did. -/
def decoderBackSpec : ChangeSpec := { name := "decoderBack", fn := fun _ => fun
  | [d1, d2, d3] => { results := [.lit (.bool true)], args := [d1, d2, d3] }
  | _ => none }
def decoderBackRow : OpenClaim := { program := "ytckbiielahgliaa", sum := "23ac8a414f37cb054eb759897716ec89a0a030a859ea4e8eee0ed3bebff613bc", func := "bitloft/bitloftlaw21.DecoderBack", spec := "decoderBack", apart := false }
def DecoderBackSaid : Prop := decoderBackRow.holds Try.pinned (OpenSpec.ofChange decoderBackSpec)

/-- ITS FALSE NEIGHBOUR: 'it returns false'. Refute it at one input. -/
def decoderBackWrong : ChangeSpec := { name := "decoderBack", fn := fun _ => fun
  | [d1, d2, d3] => { results := [.lit (.bool false)], args := [d1, d2, d3] }
  | _ => none }
def DecoderBackWrongFalsely : Prop := decoderBackRow.holds Try.pinned (OpenSpec.ofChange decoderBackWrong)

/-- 'bitloftlaw21.DecoderRange': WHATEVER THE INPUT: true; the input reads as it did. -/
def decoderRangeSpec : ChangeSpec := { name := "decoderRange", fn := fun _ => fun
  | [d1, d2] => { results := [.lit (.bool true)], args := [d1, d2] }
  | _ => none }
def decoderRangeRow : OpenClaim := { program := "ytckbiielahgliaa", sum := "23ac8a414f37cb054eb759897716ec89a0a030a859ea4e8eee0ed3bebff613bc", func := "bitloft/bitloftlaw21.DecoderRange", spec := "decoderRange", apart := false }
def DecoderRangeSaid : Prop := decoderRangeRow.holds Try.pinned (OpenSpec.ofChange decoderRangeSpec)

/-- ITS FALSE NEIGHBOUR: 'it returns false'. Refute it at one input. -/
def decoderRangeWrong : ChangeSpec := { name := "decoderRange", fn := fun _ => fun
  | [d1, d2] => { results := [.lit (.bool false)], args := [d1, d2] }
  | _ => none }
def DecoderRangeWrongFalsely : Prop := decoderRangeRow.holds Try.pinned (OpenSpec.ofChange decoderRangeWrong)

/-- 'bitloftlaw21.DecoderParts': WHATEVER THE INPUT: true; the input reads as it did. -/
def decoderPartsSpec : ChangeSpec := { name := "decoderParts", fn := fun _ => fun
  | [d1, d2, d3] => { results := [.lit (.bool true)], args := [d1, d2, d3] }
  | _ => none }
def decoderPartsRow : OpenClaim := { program := "ytckbiielahgliaa", sum := "23ac8a414f37cb054eb759897716ec89a0a030a859ea4e8eee0ed3bebff613bc", func := "bitloft/bitloftlaw21.DecoderParts", spec := "decoderParts", apart := false }
def DecoderPartsSaid : Prop := decoderPartsRow.holds Try.pinned (OpenSpec.ofChange decoderPartsSpec)

/-- ITS FALSE NEIGHBOUR: 'it returns false'. Refute it at one input. -/
def decoderPartsWrong : ChangeSpec := { name := "decoderParts", fn := fun _ => fun
  | [d1, d2, d3] => { results := [.lit (.bool false)], args := [d1, d2, d3] }
  | _ => none }
def DecoderPartsWrongFalsely : Prop := decoderPartsRow.holds Try.pinned (OpenSpec.ofChange decoderPartsWrong)

/- THE SECOND FORM. 'bulk': how many values and letters a reading holds, each counted each time it is reached (what is shared counts as often as it is met; a slice's spare places count too). A statement '..UptoSaid' is the law's where the arguments, and the package variables that the reading takes, are together of bulk at most 1048576: NARROWER than '..Said'. Prove '..Said' where nothing that the law and all that it calls make is longer than what came in: it says more and counts as full. Else prove '..UptoSaid'. A law counts once. -/
mutual
def uptoBulk {H : Type} : DataW H → Nat
  | .lit (.string bytes) => bytes.length + 1
  | .lit _ => 1
  | .nil => 1
  | .ptr d => uptoBulk d + 1
  | .slice elems spare => uptoBulkAll elems + uptoBulkAll spare + 1
  | .agg parts => uptoBulkAll parts + 1
  | .iface _ d => uptoBulk d + 1
  | .map entries => uptoBulkEntries entries + 1
  | .held _ => 1
def uptoBulkAll {H : Type} : List (DataW H) → Nat
  | [] => 0
  | d :: r => uptoBulk d + uptoBulkAll r
def uptoBulkEntries {H : Type} : List (Lit × DataW H) → Nat
  | [] => 0
  | x :: r => uptoBulkEntry x + uptoBulkEntries r
def uptoBulkEntry {H : Type} : Lit × DataW H → Nat
  | (.string bytes, d) => bytes.length + uptoBulk d + 1
  | (_, d) => uptoBulk d + 1
 end
def uptoSmall : (H : Type) → List (DataW H) → Bool := fun _ ds => decide (uptoBulkAll ds ≤ 1048576)
def OpenSpec.upto (s : _root_.Go.ChangeSpec) : _root_.Go.OpenSpec := { _root_.Go.OpenSpec.ofChange s with cond := some uptoSmall }

/-- 'bitloftlaw21.DecoderGets', WHERE WHAT IT READS IS OF BULK AT MOST 1048576: true; the input reads as it did. -/
def decoderGetsUptoRow : OpenClaim := { program := "ytckbiielahgliaa", sum := "23ac8a414f37cb054eb759897716ec89a0a030a859ea4e8eee0ed3bebff613bc", func := "bitloft/bitloftlaw21.DecoderGets", spec := "decoderGets", apart := false, narrowed := true }
def DecoderGetsUptoSaid : Prop := decoderGetsUptoRow.holds Try.pinned (OpenSpec.upto decoderGetsSpec)

/-- 'bitloftlaw21.DecoderRuns', WHERE WHAT IT READS IS OF BULK AT MOST 1048576: true; the input reads as it did. -/
def decoderRunsUptoRow : OpenClaim := { program := "ytckbiielahgliaa", sum := "23ac8a414f37cb054eb759897716ec89a0a030a859ea4e8eee0ed3bebff613bc", func := "bitloft/bitloftlaw21.DecoderRuns", spec := "decoderRuns", apart := false, narrowed := true }
def DecoderRunsUptoSaid : Prop := decoderRunsUptoRow.holds Try.pinned (OpenSpec.upto decoderRunsSpec)

/-- 'bitloftlaw21.DecoderNames', WHERE WHAT IT READS IS OF BULK AT MOST 1048576: true; the input reads as it did. -/
def decoderNamesUptoRow : OpenClaim := { program := "ytckbiielahgliaa", sum := "23ac8a414f37cb054eb759897716ec89a0a030a859ea4e8eee0ed3bebff613bc", func := "bitloft/bitloftlaw21.DecoderNames", spec := "decoderNames", apart := false, narrowed := true }
def DecoderNamesUptoSaid : Prop := decoderNamesUptoRow.holds Try.pinned (OpenSpec.upto decoderNamesSpec)

/-- 'bitloftlaw21.DecoderBack', WHERE WHAT IT READS IS OF BULK AT MOST 1048576: true; the input reads as it did. -/
def decoderBackUptoRow : OpenClaim := { program := "ytckbiielahgliaa", sum := "23ac8a414f37cb054eb759897716ec89a0a030a859ea4e8eee0ed3bebff613bc", func := "bitloft/bitloftlaw21.DecoderBack", spec := "decoderBack", apart := false, narrowed := true }
def DecoderBackUptoSaid : Prop := decoderBackUptoRow.holds Try.pinned (OpenSpec.upto decoderBackSpec)

/-- 'bitloftlaw21.DecoderRange', WHERE WHAT IT READS IS OF BULK AT MOST 1048576: true; the input reads as it did. -/
def decoderRangeUptoRow : OpenClaim := { program := "ytckbiielahgliaa", sum := "23ac8a414f37cb054eb759897716ec89a0a030a859ea4e8eee0ed3bebff613bc", func := "bitloft/bitloftlaw21.DecoderRange", spec := "decoderRange", apart := false, narrowed := true }
def DecoderRangeUptoSaid : Prop := decoderRangeUptoRow.holds Try.pinned (OpenSpec.upto decoderRangeSpec)

/-- 'bitloftlaw21.DecoderParts', WHERE WHAT IT READS IS OF BULK AT MOST 1048576: true; the input reads as it did. -/
def decoderPartsUptoRow : OpenClaim := { program := "ytckbiielahgliaa", sum := "23ac8a414f37cb054eb759897716ec89a0a030a859ea4e8eee0ed3bebff613bc", func := "bitloft/bitloftlaw21.DecoderParts", spec := "decoderParts", apart := false, narrowed := true }
def DecoderPartsUptoSaid : Prop := decoderPartsUptoRow.holds Try.pinned (OpenSpec.upto decoderPartsSpec)

end Rows
end Go.Proofs.Ytckbiielahgliaa
