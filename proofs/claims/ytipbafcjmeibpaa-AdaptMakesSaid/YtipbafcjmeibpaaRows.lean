/-
  No cell of these rows narrows 'for every input' (looked for: loops, veiled, ifaces, maps, wideKeys, modest, calm, conditions, laid).
  DERIVED. THE GIVEN ROWS OF THIS SEAT. 6 by the template 'for every input the law returns true; each argument reads behind the call as it read before'; 0 by the template 'total and deterministic' (their statements: YtipbafcjmeibpaaTotals.lean).
  GIVEN WITH THE SEED: the statements are not yours to turn. If you find one false, say at which input.
  Laid BY PROGRAM, IN A SANDBOX (cutbox-rows.mjs): the forced cells as the released guide's own fill.sh prints them over the translation b0c44c8920784918… (all of the seat's roots in one cut). By AI agents, Wed Nov 11 2026. No macro, syntax, notation, axiom, sorry.
-/
import Derived.Test.YtipbafcjmeibpaaChecked
import GoSem.Claim
import GoSem.ClaimJoined
import GoSem.ClaimMapViews
import Derived.JoinedTies
import Derived.KernelRfl
namespace Go.Proofs.Ytipbafcjmeibpaa
/- THE CELL 'sum', in the pinned program and in every row, IS THE sha256 OF THE DUMP (.gsa) THAT YtipbafcjmeibpaaProg.lean LOADS. Nothing in Lean hashes anything: it is a label: what it is worth is what the hold of that sum in a sandbox is worth. -/
noncomputable def Try.pinned : Pinned := { name := "ytipbafcjmeibpaa", sum := "b0c44c8920784918378a79e4505000f2353f1b4d560b04a1de94df665f0407cd", checked := Try.checked }
namespace Rows
def none {H : Type} : Left H := { results := [], args := [] }

/-- 'bitloftlaw09.AdaptNames': WHATEVER THE INPUT: true; the input reads as it did. -/
def adaptNamesSpec : ChangeSpec := { name := "adaptNames", fn := fun _ => fun
  | [] => { results := [.lit (.bool true)], args := [] }
  | _ => none }
def adaptNamesRow : OpenClaim := { program := "ytipbafcjmeibpaa", sum := "b0c44c8920784918378a79e4505000f2353f1b4d560b04a1de94df665f0407cd", func := "bitloft/bitloftlaw09.AdaptNames", spec := "adaptNames", unfollowed := true, recurses := true, apart := false }
def AdaptNamesSaid : Prop := adaptNamesRow.holds Try.pinned (OpenSpec.ofChange adaptNamesSpec)

/-- ITS FALSE NEIGHBOUR: 'it returns false'. Refute it at one input. -/
def adaptNamesWrong : ChangeSpec := { name := "adaptNames", fn := fun _ => fun
  | [] => { results := [.lit (.bool false)], args := [] }
  | _ => none }
def AdaptNamesWrongFalsely : Prop := adaptNamesRow.holds Try.pinned (OpenSpec.ofChange adaptNamesWrong)

/-- 'bitloftlaw09.AdaptMakes': WHATEVER THE INPUT: true; the input reads as it did. -/
def adaptMakesSpec : ChangeSpec := { name := "adaptMakes", fn := fun _ => fun
  | [d1, d2, d3, d4] => { results := [.lit (.bool true)], args := [d1, d2, d3, d4] }
  | _ => none }
def adaptMakesRow : OpenClaim := { program := "ytipbafcjmeibpaa", sum := "b0c44c8920784918378a79e4505000f2353f1b4d560b04a1de94df665f0407cd", func := "bitloft/bitloftlaw09.AdaptMakes", spec := "adaptMakes", apart := false }
def AdaptMakesSaid : Prop := adaptMakesRow.holds Try.pinned (OpenSpec.ofChange adaptMakesSpec)

/-- ITS FALSE NEIGHBOUR: 'it returns false'. Refute it at one input. -/
def adaptMakesWrong : ChangeSpec := { name := "adaptMakes", fn := fun _ => fun
  | [d1, d2, d3, d4] => { results := [.lit (.bool false)], args := [d1, d2, d3, d4] }
  | _ => none }
def AdaptMakesWrongFalsely : Prop := adaptMakesRow.holds Try.pinned (OpenSpec.ofChange adaptMakesWrong)

/-- 'bitloftlaw09.AdaptRuns': WHATEVER THE INPUT: true; the input reads as it did. -/
def adaptRunsSpec : ChangeSpec := { name := "adaptRuns", fn := fun _ => fun
  | [d1, d2, d3] => { results := [.lit (.bool true)], args := [d1, d2, d3] }
  | _ => none }
def adaptRunsRow : OpenClaim := { program := "ytipbafcjmeibpaa", sum := "b0c44c8920784918378a79e4505000f2353f1b4d560b04a1de94df665f0407cd", func := "bitloft/bitloftlaw09.AdaptRuns", spec := "adaptRuns", unfollowed := true, recurses := true, apart := false }
def AdaptRunsSaid : Prop := adaptRunsRow.holds Try.pinned (OpenSpec.ofChange adaptRunsSpec)

/-- ITS FALSE NEIGHBOUR: 'it returns false'. Refute it at one input. -/
def adaptRunsWrong : ChangeSpec := { name := "adaptRuns", fn := fun _ => fun
  | [d1, d2, d3] => { results := [.lit (.bool false)], args := [d1, d2, d3] }
  | _ => none }
def AdaptRunsWrongFalsely : Prop := adaptRunsRow.holds Try.pinned (OpenSpec.ofChange adaptRunsWrong)

/-- 'bitloftlaw09.AdaptRange': WHATEVER THE INPUT: true; the input reads as it did. -/
def adaptRangeSpec : ChangeSpec := { name := "adaptRange", fn := fun _ => fun
  | [d1, d2, d3] => { results := [.lit (.bool true)], args := [d1, d2, d3] }
  | _ => none }
def adaptRangeRow : OpenClaim := { program := "ytipbafcjmeibpaa", sum := "b0c44c8920784918378a79e4505000f2353f1b4d560b04a1de94df665f0407cd", func := "bitloft/bitloftlaw09.AdaptRange", spec := "adaptRange", apart := false }
def AdaptRangeSaid : Prop := adaptRangeRow.holds Try.pinned (OpenSpec.ofChange adaptRangeSpec)

/-- ITS FALSE NEIGHBOUR: 'it returns false'. Refute it at one input. -/
def adaptRangeWrong : ChangeSpec := { name := "adaptRange", fn := fun _ => fun
  | [d1, d2, d3] => { results := [.lit (.bool false)], args := [d1, d2, d3] }
  | _ => none }
def AdaptRangeWrongFalsely : Prop := adaptRangeRow.holds Try.pinned (OpenSpec.ofChange adaptRangeWrong)

/-- 'bitloftlaw09.AdaptParts': WHATEVER THE INPUT: true; the input reads as it did. -/
def adaptPartsSpec : ChangeSpec := { name := "adaptParts", fn := fun _ => fun
  | [d1, d2, d3, d4] => { results := [.lit (.bool true)], args := [d1, d2, d3, d4] }
  | _ => none }
def adaptPartsRow : OpenClaim := { program := "ytipbafcjmeibpaa", sum := "b0c44c8920784918378a79e4505000f2353f1b4d560b04a1de94df665f0407cd", func := "bitloft/bitloftlaw09.AdaptParts", spec := "adaptParts", unfollowed := true, recurses := true, apart := false }
def AdaptPartsSaid : Prop := adaptPartsRow.holds Try.pinned (OpenSpec.ofChange adaptPartsSpec)

/-- ITS FALSE NEIGHBOUR: 'it returns false'. Refute it at one input. -/
def adaptPartsWrong : ChangeSpec := { name := "adaptParts", fn := fun _ => fun
  | [d1, d2, d3, d4] => { results := [.lit (.bool false)], args := [d1, d2, d3, d4] }
  | _ => none }
def AdaptPartsWrongFalsely : Prop := adaptPartsRow.holds Try.pinned (OpenSpec.ofChange adaptPartsWrong)

/-- 'bitloftlaw09.AdaptMean': WHATEVER THE INPUT: true; the input reads as it did. -/
def adaptMeanSpec : ChangeSpec := { name := "adaptMean", fn := fun _ => fun
  | [d1, d2, d3] => { results := [.lit (.bool true)], args := [d1, d2, d3] }
  | _ => none }
def adaptMeanRow : OpenClaim := { program := "ytipbafcjmeibpaa", sum := "b0c44c8920784918378a79e4505000f2353f1b4d560b04a1de94df665f0407cd", func := "bitloft/bitloftlaw09.AdaptMean", spec := "adaptMean", apart := false }
def AdaptMeanSaid : Prop := adaptMeanRow.holds Try.pinned (OpenSpec.ofChange adaptMeanSpec)

/-- ITS FALSE NEIGHBOUR: 'it returns false'. Refute it at one input. -/
def adaptMeanWrong : ChangeSpec := { name := "adaptMean", fn := fun _ => fun
  | [d1, d2, d3] => { results := [.lit (.bool false)], args := [d1, d2, d3] }
  | _ => none }
def AdaptMeanWrongFalsely : Prop := adaptMeanRow.holds Try.pinned (OpenSpec.ofChange adaptMeanWrong)

/- THE SECOND FORM. 'bulk': how many values and letters a reading holds, each counted each time it is reached (what is shared counts as often as it is met; a slice's spare places count too). A statement '..UptoSaid' is the law's where the arguments, and the package variables that the reading takes, are together of bulk at most 1048576: NARROWER than '..Said'. Prove '..Said' where nothing that the law and all that it calls make is longer than what came in: it says more and counts as full. Else prove '..UptoSaid'. A law counts once. -/
mutual
def uptoBulk {H : Type} : DataW H → Nat
  | .lit (.string bytes) => bytes.length + 1
  | .lit _ => 1
  | .nil => 1
  | .ptr d => uptoBulk d + 1
  | .slice elems spare => uptoBulkAll elems + uptoBulkAll spare + 1
  | .agg parts => uptoBulkAll parts + 1
  | .iface _ d => uptoBulk d + 1
  | .map entries => uptoBulkEntries entries + 1
  | .held _ => 1
def uptoBulkAll {H : Type} : List (DataW H) → Nat
  | [] => 0
  | d :: r => uptoBulk d + uptoBulkAll r
def uptoBulkEntries {H : Type} : List (Lit × DataW H) → Nat
  | [] => 0
  | x :: r => uptoBulkEntry x + uptoBulkEntries r
def uptoBulkEntry {H : Type} : Lit × DataW H → Nat
  | (.string bytes, d) => bytes.length + uptoBulk d + 1
  | (_, d) => uptoBulk d + 1
 end
def uptoSmall : (H : Type) → List (DataW H) → Bool := fun _ ds => decide (uptoBulkAll ds ≤ 1048576)
def OpenSpec.upto (s : _root_.Go.ChangeSpec) : _root_.Go.OpenSpec := { _root_.Go.OpenSpec.ofChange s with cond := some uptoSmall }

/-- 'bitloftlaw09.AdaptNames', WHERE WHAT IT READS IS OF BULK AT MOST 1048576: true; the input reads as it did. -/
def adaptNamesUptoRow : OpenClaim := { program := "ytipbafcjmeibpaa", sum := "b0c44c8920784918378a79e4505000f2353f1b4d560b04a1de94df665f0407cd", func := "bitloft/bitloftlaw09.AdaptNames", spec := "adaptNames", unfollowed := true, recurses := true, apart := false, narrowed := true }
def AdaptNamesUptoSaid : Prop := adaptNamesUptoRow.holds Try.pinned (OpenSpec.upto adaptNamesSpec)

/-- 'bitloftlaw09.AdaptMakes', WHERE WHAT IT READS IS OF BULK AT MOST 1048576: true; the input reads as it did. -/
def adaptMakesUptoRow : OpenClaim := { program := "ytipbafcjmeibpaa", sum := "b0c44c8920784918378a79e4505000f2353f1b4d560b04a1de94df665f0407cd", func := "bitloft/bitloftlaw09.AdaptMakes", spec := "adaptMakes", apart := false, narrowed := true }
def AdaptMakesUptoSaid : Prop := adaptMakesUptoRow.holds Try.pinned (OpenSpec.upto adaptMakesSpec)

/-- 'bitloftlaw09.AdaptRuns', WHERE WHAT IT READS IS OF BULK AT MOST 1048576: true; the input reads as it did. -/
def adaptRunsUptoRow : OpenClaim := { program := "ytipbafcjmeibpaa", sum := "b0c44c8920784918378a79e4505000f2353f1b4d560b04a1de94df665f0407cd", func := "bitloft/bitloftlaw09.AdaptRuns", spec := "adaptRuns", unfollowed := true, recurses := true, apart := false, narrowed := true }
def AdaptRunsUptoSaid : Prop := adaptRunsUptoRow.holds Try.pinned (OpenSpec.upto adaptRunsSpec)

/-- 'bitloftlaw09.AdaptRange', WHERE WHAT IT READS IS OF BULK AT MOST 1048576: true; the input reads as it did. -/
def adaptRangeUptoRow : OpenClaim := { program := "ytipbafcjmeibpaa", sum := "b0c44c8920784918378a79e4505000f2353f1b4d560b04a1de94df665f0407cd", func := "bitloft/bitloftlaw09.AdaptRange", spec := "adaptRange", apart := false, narrowed := true }
def AdaptRangeUptoSaid : Prop := adaptRangeUptoRow.holds Try.pinned (OpenSpec.upto adaptRangeSpec)

/-- 'bitloftlaw09.AdaptParts', WHERE WHAT IT READS IS OF BULK AT MOST 1048576: true; the input reads as it did. -/
def adaptPartsUptoRow : OpenClaim := { program := "ytipbafcjmeibpaa", sum := "b0c44c8920784918378a79e4505000f2353f1b4d560b04a1de94df665f0407cd", func := "bitloft/bitloftlaw09.AdaptParts", spec := "adaptParts", unfollowed := true, recurses := true, apart := false, narrowed := true }
def AdaptPartsUptoSaid : Prop := adaptPartsUptoRow.holds Try.pinned (OpenSpec.upto adaptPartsSpec)

/-- 'bitloftlaw09.AdaptMean', WHERE WHAT IT READS IS OF BULK AT MOST 1048576: true; the input reads as it did. -/
def adaptMeanUptoRow : OpenClaim := { program := "ytipbafcjmeibpaa", sum := "b0c44c8920784918378a79e4505000f2353f1b4d560b04a1de94df665f0407cd", func := "bitloft/bitloftlaw09.AdaptMean", spec := "adaptMean", apart := false, narrowed := true }
def AdaptMeanUptoSaid : Prop := adaptMeanUptoRow.holds Try.pinned (OpenSpec.upto adaptMeanSpec)

end Rows
end Go.Proofs.Ytipbafcjmeibpaa
