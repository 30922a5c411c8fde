/-
  No cell of these rows narrows 'for every input' (looked for: loops, veiled, ifaces, maps, wideKeys, modest, calm, conditions, laid).
  DERIVED. THE GIVEN ROWS OF THIS SEAT. 13 by the template 'for every input the law returns true; each argument reads behind the call as it read before'; 0 by the template 'total and deterministic' (their statements: YtkpcopecndpfjaaTotals.lean).
  GIVEN WITH THE SEED: the statements are not yours to turn. If you find one false, say at which input.
  Laid BY PROGRAM, IN A SANDBOX (cutbox-rows.mjs): the forced cells as the released guide's own fill.sh prints them over the translation 5ca6a419e6daba3e… (all of the seat's roots in one cut). By AI agents, Wed Nov 11 2026. No macro, syntax, notation, axiom, sorry.
-/
import Derived.Test.YtkpcopecndpfjaaChecked
import GoSem.Claim
import GoSem.ClaimJoined
import GoSem.ClaimMapViews
import Derived.JoinedTies
import Derived.KernelRfl
namespace Go.Proofs.Ytkpcopecndpfjaa
/- THE CELL 'sum', in the pinned program and in every row, IS THE sha256 OF THE DUMP (.gsa) THAT YtkpcopecndpfjaaProg.lean LOADS. Nothing in Lean hashes anything: it is a label: what it is worth is what the hold of that sum in a sandbox is worth. -/
noncomputable def Try.pinned : Pinned := { name := "ytkpcopecndpfjaa", sum := "5ca6a419e6daba3ecca934625d01b7e55c7db58c255e7feef332492a12d997d5", checked := Try.checked }
namespace Rows
def none {H : Type} : Left H := { results := [], args := [] }

/-- 'bitloftlaw07.CountsNames': WHATEVER THE INPUT: true; the input reads as it did. -/
def countsNamesSpec : ChangeSpec := { name := "countsNames", fn := fun _ => fun
  | [] => { results := [.lit (.bool true)], args := [] }
  | _ => none }
def countsNamesRow : OpenClaim := { program := "ytkpcopecndpfjaa", sum := "5ca6a419e6daba3ecca934625d01b7e55c7db58c255e7feef332492a12d997d5", func := "bitloft/bitloftlaw07.CountsNames", spec := "countsNames", apart := false }
def CountsNamesSaid : Prop := countsNamesRow.holds Try.pinned (OpenSpec.ofChange countsNamesSpec)

/-- ITS FALSE NEIGHBOUR: 'it returns false'. Refute it at one input. -/
def countsNamesWrong : ChangeSpec := { name := "countsNames", fn := fun _ => fun
  | [] => { results := [.lit (.bool false)], args := [] }
  | _ => none }
def CountsNamesWrongFalsely : Prop := countsNamesRow.holds Try.pinned (OpenSpec.ofChange countsNamesWrong)

/-- 'bitloftlaw07.CountsMakes': WHATEVER THE INPUT: true; the input reads as it did. -/
def countsMakesSpec : ChangeSpec := { name := "countsMakes", fn := fun _ => fun
  | [d1, d2] => { results := [.lit (.bool true)], args := [d1, d2] }
  | _ => none }
def countsMakesRow : OpenClaim := { program := "ytkpcopecndpfjaa", sum := "5ca6a419e6daba3ecca934625d01b7e55c7db58c255e7feef332492a12d997d5", func := "bitloft/bitloftlaw07.CountsMakes", spec := "countsMakes", apart := false }
def CountsMakesSaid : Prop := countsMakesRow.holds Try.pinned (OpenSpec.ofChange countsMakesSpec)

/-- ITS FALSE NEIGHBOUR: 'it returns false'. Refute it at one input. -/
def countsMakesWrong : ChangeSpec := { name := "countsMakes", fn := fun _ => fun
  | [d1, d2] => { results := [.lit (.bool false)], args := [d1, d2] }
  | _ => none }
def CountsMakesWrongFalsely : Prop := countsMakesRow.holds Try.pinned (OpenSpec.ofChange countsMakesWrong)

/-- 'bitloftlaw07.CountsRuns': WHATEVER THE INPUT: true; the input reads as it did. -/
def countsRunsSpec : ChangeSpec := { name := "countsRuns", fn := fun _ => fun
  | [d1, d2] => { results := [.lit (.bool true)], args := [d1, d2] }
  | _ => none }
def countsRunsRow : OpenClaim := { program := "ytkpcopecndpfjaa", sum := "5ca6a419e6daba3ecca934625d01b7e55c7db58c255e7feef332492a12d997d5", func := "bitloft/bitloftlaw07.CountsRuns", spec := "countsRuns", apart := false }
def CountsRunsSaid : Prop := countsRunsRow.holds Try.pinned (OpenSpec.ofChange countsRunsSpec)

/-- ITS FALSE NEIGHBOUR: 'it returns false'. Refute it at one input. -/
def countsRunsWrong : ChangeSpec := { name := "countsRuns", fn := fun _ => fun
  | [d1, d2] => { results := [.lit (.bool false)], args := [d1, d2] }
  | _ => none }
def CountsRunsWrongFalsely : Prop := countsRunsRow.holds Try.pinned (OpenSpec.ofChange countsRunsWrong)

/-- 'bitloftlaw07.CountsBounds': WHATEVER THE INPUT: true; the input reads as it did. -/
def countsBoundsSpec : ChangeSpec := { name := "countsBounds", fn := fun _ => fun
  | [d1, d2] => { results := [.lit (.bool true)], args := [d1, d2] }
  | _ => none }
def countsBoundsRow : OpenClaim := { program := "ytkpcopecndpfjaa", sum := "5ca6a419e6daba3ecca934625d01b7e55c7db58c255e7feef332492a12d997d5", func := "bitloft/bitloftlaw07.CountsBounds", spec := "countsBounds", apart := false }
def CountsBoundsSaid : Prop := countsBoundsRow.holds Try.pinned (OpenSpec.ofChange countsBoundsSpec)

/-- ITS FALSE NEIGHBOUR: 'it returns false'. Refute it at one input. -/
def countsBoundsWrong : ChangeSpec := { name := "countsBounds", fn := fun _ => fun
  | [d1, d2] => { results := [.lit (.bool false)], args := [d1, d2] }
  | _ => none }
def CountsBoundsWrongFalsely : Prop := countsBoundsRow.holds Try.pinned (OpenSpec.ofChange countsBoundsWrong)

/-- 'bitloftlaw07.CountsTurns': WHATEVER THE INPUT: true; the input reads as it did. -/
def countsTurnsSpec : ChangeSpec := { name := "countsTurns", fn := fun _ => fun
  | [d1, d2] => { results := [.lit (.bool true)], args := [d1, d2] }
  | _ => none }
def countsTurnsRow : OpenClaim := { program := "ytkpcopecndpfjaa", sum := "5ca6a419e6daba3ecca934625d01b7e55c7db58c255e7feef332492a12d997d5", func := "bitloft/bitloftlaw07.CountsTurns", spec := "countsTurns", apart := false }
def CountsTurnsSaid : Prop := countsTurnsRow.holds Try.pinned (OpenSpec.ofChange countsTurnsSpec)

/-- ITS FALSE NEIGHBOUR: 'it returns false'. Refute it at one input. -/
def countsTurnsWrong : ChangeSpec := { name := "countsTurns", fn := fun _ => fun
  | [d1, d2] => { results := [.lit (.bool false)], args := [d1, d2] }
  | _ => none }
def CountsTurnsWrongFalsely : Prop := countsTurnsRow.holds Try.pinned (OpenSpec.ofChange countsTurnsWrong)

/-- 'bitloftlaw07.CountsParts': WHATEVER THE INPUT: true; the input reads as it did. -/
def countsPartsSpec : ChangeSpec := { name := "countsParts", fn := fun _ => fun
  | [d1, d2, d3] => { results := [.lit (.bool true)], args := [d1, d2, d3] }
  | _ => none }
def countsPartsRow : OpenClaim := { program := "ytkpcopecndpfjaa", sum := "5ca6a419e6daba3ecca934625d01b7e55c7db58c255e7feef332492a12d997d5", func := "bitloft/bitloftlaw07.CountsParts", spec := "countsParts", apart := false }
def CountsPartsSaid : Prop := countsPartsRow.holds Try.pinned (OpenSpec.ofChange countsPartsSpec)

/-- ITS FALSE NEIGHBOUR: 'it returns false'. Refute it at one input. -/
def countsPartsWrong : ChangeSpec := { name := "countsParts", fn := fun _ => fun
  | [d1, d2, d3] => { results := [.lit (.bool false)], args := [d1, d2, d3] }
  | _ => none }
def CountsPartsWrongFalsely : Prop := countsPartsRow.holds Try.pinned (OpenSpec.ofChange countsPartsWrong)

/-- 'bitloftlaw07.CountsEqual': WHATEVER THE INPUT: true; the input reads as it did. -/
def countsEqualSpec : ChangeSpec := { name := "countsEqual", fn := fun _ => fun
  | [d1, d2, d3] => { results := [.lit (.bool true)], args := [d1, d2, d3] }
  | _ => none }
def countsEqualRow : OpenClaim := { program := "ytkpcopecndpfjaa", sum := "5ca6a419e6daba3ecca934625d01b7e55c7db58c255e7feef332492a12d997d5", func := "bitloft/bitloftlaw07.CountsEqual", spec := "countsEqual", apart := false }
def CountsEqualSaid : Prop := countsEqualRow.holds Try.pinned (OpenSpec.ofChange countsEqualSpec)

/-- ITS FALSE NEIGHBOUR: 'it returns false'. Refute it at one input. -/
def countsEqualWrong : ChangeSpec := { name := "countsEqual", fn := fun _ => fun
  | [d1, d2, d3] => { results := [.lit (.bool false)], args := [d1, d2, d3] }
  | _ => none }
def CountsEqualWrongFalsely : Prop := countsEqualRow.holds Try.pinned (OpenSpec.ofChange countsEqualWrong)

/-- 'bitloftlaw08.StatesNames': WHATEVER THE INPUT: true; the input reads as it did. -/
def statesNamesSpec : ChangeSpec := { name := "statesNames", fn := fun _ => fun
  | [] => { results := [.lit (.bool true)], args := [] }
  | _ => none }
def statesNamesRow : OpenClaim := { program := "ytkpcopecndpfjaa", sum := "5ca6a419e6daba3ecca934625d01b7e55c7db58c255e7feef332492a12d997d5", func := "bitloft/bitloftlaw08.StatesNames", spec := "statesNames", unfollowed := true, recurses := true, apart := false }
def StatesNamesSaid : Prop := statesNamesRow.holds Try.pinned (OpenSpec.ofChange statesNamesSpec)

/-- ITS FALSE NEIGHBOUR: 'it returns false'. Refute it at one input. -/
def statesNamesWrong : ChangeSpec := { name := "statesNames", fn := fun _ => fun
  | [] => { results := [.lit (.bool false)], args := [] }
  | _ => none }
def StatesNamesWrongFalsely : Prop := statesNamesRow.holds Try.pinned (OpenSpec.ofChange statesNamesWrong)

/-- 'bitloftlaw08.StatesMakes': WHATEVER THE INPUT: true; the input reads as it did. -/
def statesMakesSpec : ChangeSpec := { name := "statesMakes", fn := fun _ => fun
  | [d1, d2, d3] => { results := [.lit (.bool true)], args := [d1, d2, d3] }
  | _ => none }
def statesMakesRow : OpenClaim := { program := "ytkpcopecndpfjaa", sum := "5ca6a419e6daba3ecca934625d01b7e55c7db58c255e7feef332492a12d997d5", func := "bitloft/bitloftlaw08.StatesMakes", spec := "statesMakes", unfollowed := true, recurses := true, apart := false }
def StatesMakesSaid : Prop := statesMakesRow.holds Try.pinned (OpenSpec.ofChange statesMakesSpec)

/-- ITS FALSE NEIGHBOUR: 'it returns false'. Refute it at one input. -/
def statesMakesWrong : ChangeSpec := { name := "statesMakes", fn := fun _ => fun
  | [d1, d2, d3] => { results := [.lit (.bool false)], args := [d1, d2, d3] }
  | _ => none }
def StatesMakesWrongFalsely : Prop := statesMakesRow.holds Try.pinned (OpenSpec.ofChange statesMakesWrong)

/-- 'bitloftlaw08.StatesRuns': WHATEVER THE INPUT: true; the input reads as it did. -/
def statesRunsSpec : ChangeSpec := { name := "statesRuns", fn := fun _ => fun
  | [d1, d2] => { results := [.lit (.bool true)], args := [d1, d2] }
  | _ => none }
def statesRunsRow : OpenClaim := { program := "ytkpcopecndpfjaa", sum := "5ca6a419e6daba3ecca934625d01b7e55c7db58c255e7feef332492a12d997d5", func := "bitloft/bitloftlaw08.StatesRuns", spec := "statesRuns", unfollowed := true, recurses := true, apart := false }
def StatesRunsSaid : Prop := statesRunsRow.holds Try.pinned (OpenSpec.ofChange statesRunsSpec)

/-- ITS FALSE NEIGHBOUR: 'it returns false'. Refute it at one input. -/
def statesRunsWrong : ChangeSpec := { name := "statesRuns", fn := fun _ => fun
  | [d1, d2] => { results := [.lit (.bool false)], args := [d1, d2] }
  | _ => none }
def StatesRunsWrongFalsely : Prop := statesRunsRow.holds Try.pinned (OpenSpec.ofChange statesRunsWrong)

/-- 'bitloftlaw08.StatesCounts': WHATEVER THE INPUT: true; the input reads as it did. -/
def statesCountsSpec : ChangeSpec := { name := "statesCounts", fn := fun _ => fun
  | [d1, d2] => { results := [.lit (.bool true)], args := [d1, d2] }
  | _ => none }
def statesCountsRow : OpenClaim := { program := "ytkpcopecndpfjaa", sum := "5ca6a419e6daba3ecca934625d01b7e55c7db58c255e7feef332492a12d997d5", func := "bitloft/bitloftlaw08.StatesCounts", spec := "statesCounts", unfollowed := true, recurses := true, apart := false }
def StatesCountsSaid : Prop := statesCountsRow.holds Try.pinned (OpenSpec.ofChange statesCountsSpec)

/-- ITS FALSE NEIGHBOUR: 'it returns false'. Refute it at one input. -/
def statesCountsWrong : ChangeSpec := { name := "statesCounts", fn := fun _ => fun
  | [d1, d2] => { results := [.lit (.bool false)], args := [d1, d2] }
  | _ => none }
def StatesCountsWrongFalsely : Prop := statesCountsRow.holds Try.pinned (OpenSpec.ofChange statesCountsWrong)

/-- 'bitloftlaw08.StatesNumbers': WHATEVER THE INPUT: true; the input reads as it did. -/
def statesNumbersSpec : ChangeSpec := { name := "statesNumbers", fn := fun _ => fun
  | [d1, d2] => { results := [.lit (.bool true)], args := [d1, d2] }
  | _ => none }
def statesNumbersRow : OpenClaim := { program := "ytkpcopecndpfjaa", sum := "5ca6a419e6daba3ecca934625d01b7e55c7db58c255e7feef332492a12d997d5", func := "bitloft/bitloftlaw08.StatesNumbers", spec := "statesNumbers", unfollowed := true, recurses := true, apart := false }
def StatesNumbersSaid : Prop := statesNumbersRow.holds Try.pinned (OpenSpec.ofChange statesNumbersSpec)

/-- ITS FALSE NEIGHBOUR: 'it returns false'. Refute it at one input. -/
def statesNumbersWrong : ChangeSpec := { name := "statesNumbers", fn := fun _ => fun
  | [d1, d2] => { results := [.lit (.bool false)], args := [d1, d2] }
  | _ => none }
def StatesNumbersWrongFalsely : Prop := statesNumbersRow.holds Try.pinned (OpenSpec.ofChange statesNumbersWrong)

/-- 'bitloftlaw08.StatesParts': WHATEVER THE INPUT: true; the input reads as it did. -/
def statesPartsSpec : ChangeSpec := { name := "statesParts", fn := fun _ => fun
  | [d1, d2, d3] => { results := [.lit (.bool true)], args := [d1, d2, d3] }
  | _ => none }
def statesPartsRow : OpenClaim := { program := "ytkpcopecndpfjaa", sum := "5ca6a419e6daba3ecca934625d01b7e55c7db58c255e7feef332492a12d997d5", func := "bitloft/bitloftlaw08.StatesParts", spec := "statesParts", unfollowed := true, recurses := true, apart := false }
def StatesPartsSaid : Prop := statesPartsRow.holds Try.pinned (OpenSpec.ofChange statesPartsSpec)

/-- ITS FALSE NEIGHBOUR: 'it returns false'. Refute it at one input. -/
def statesPartsWrong : ChangeSpec := { name := "statesParts", fn := fun _ => fun
  | [d1, d2, d3] => { results := [.lit (.bool false)], args := [d1, d2, d3] }
  | _ => none }
def StatesPartsWrongFalsely : Prop := statesPartsRow.holds Try.pinned (OpenSpec.ofChange statesPartsWrong)

/- THE SECOND FORM. 'bulk': how many values and letters a reading holds, each counted each time it is reached (what is shared counts as often as it is met; a slice's spare places count too). A statement '..UptoSaid' is the law's where the arguments, and the package variables that the reading takes, are together of bulk at most 1048576: NARROWER than '..Said'. Prove '..Said' where nothing that the law and all that it calls make is longer than what came in: it says more and counts as full. Else prove '..UptoSaid'. A law counts once. -/
mutual
def uptoBulk {H : Type} : DataW H → Nat
  | .lit (.string bytes) => bytes.length + 1
  | .lit _ => 1
  | .nil => 1
  | .ptr d => uptoBulk d + 1
  | .slice elems spare => uptoBulkAll elems + uptoBulkAll spare + 1
  | .agg parts => uptoBulkAll parts + 1
  | .iface _ d => uptoBulk d + 1
  | .map entries => uptoBulkEntries entries + 1
  | .held _ => 1
def uptoBulkAll {H : Type} : List (DataW H) → Nat
  | [] => 0
  | d :: r => uptoBulk d + uptoBulkAll r
def uptoBulkEntries {H : Type} : List (Lit × DataW H) → Nat
  | [] => 0
  | x :: r => uptoBulkEntry x + uptoBulkEntries r
def uptoBulkEntry {H : Type} : Lit × DataW H → Nat
  | (.string bytes, d) => bytes.length + uptoBulk d + 1
  | (_, d) => uptoBulk d + 1
 end
def uptoSmall : (H : Type) → List (DataW H) → Bool := fun _ ds => decide (uptoBulkAll ds ≤ 1048576)
def OpenSpec.upto (s : _root_.Go.ChangeSpec) : _root_.Go.OpenSpec := { _root_.Go.OpenSpec.ofChange s with cond := some uptoSmall }

/-- 'bitloftlaw07.CountsNames', WHERE WHAT IT READS IS OF BULK AT MOST 1048576: true; the input reads as it did. -/
def countsNamesUptoRow : OpenClaim := { program := "ytkpcopecndpfjaa", sum := "5ca6a419e6daba3ecca934625d01b7e55c7db58c255e7feef332492a12d997d5", func := "bitloft/bitloftlaw07.CountsNames", spec := "countsNames", apart := false, narrowed := true }
def CountsNamesUptoSaid : Prop := countsNamesUptoRow.holds Try.pinned (OpenSpec.upto countsNamesSpec)

/-- 'bitloftlaw07.CountsMakes', WHERE WHAT IT READS IS OF BULK AT MOST 1048576: true; the input reads as it did. -/
def countsMakesUptoRow : OpenClaim := { program := "ytkpcopecndpfjaa", sum := "5ca6a419e6daba3ecca934625d01b7e55c7db58c255e7feef332492a12d997d5", func := "bitloft/bitloftlaw07.CountsMakes", spec := "countsMakes", apart := false, narrowed := true }
def CountsMakesUptoSaid : Prop := countsMakesUptoRow.holds Try.pinned (OpenSpec.upto countsMakesSpec)

/-- 'bitloftlaw07.CountsRuns', WHERE WHAT IT READS IS OF BULK AT MOST 1048576: true; the input reads as it did. -/
def countsRunsUptoRow : OpenClaim := { program := "ytkpcopecndpfjaa", sum := "5ca6a419e6daba3ecca934625d01b7e55c7db58c255e7feef332492a12d997d5", func := "bitloft/bitloftlaw07.CountsRuns", spec := "countsRuns", apart := false, narrowed := true }
def CountsRunsUptoSaid : Prop := countsRunsUptoRow.holds Try.pinned (OpenSpec.upto countsRunsSpec)

/-- 'bitloftlaw07.CountsBounds', WHERE WHAT IT READS IS OF BULK AT MOST 1048576: true; the input reads as it did. -/
def countsBoundsUptoRow : OpenClaim := { program := "ytkpcopecndpfjaa", sum := "5ca6a419e6daba3ecca934625d01b7e55c7db58c255e7feef332492a12d997d5", func := "bitloft/bitloftlaw07.CountsBounds", spec := "countsBounds", apart := false, narrowed := true }
def CountsBoundsUptoSaid : Prop := countsBoundsUptoRow.holds Try.pinned (OpenSpec.upto countsBoundsSpec)

/-- 'bitloftlaw07.CountsTurns', WHERE WHAT IT READS IS OF BULK AT MOST 1048576: true; the input reads as it did. -/
def countsTurnsUptoRow : OpenClaim := { program := "ytkpcopecndpfjaa", sum := "5ca6a419e6daba3ecca934625d01b7e55c7db58c255e7feef332492a12d997d5", func := "bitloft/bitloftlaw07.CountsTurns", spec := "countsTurns", apart := false, narrowed := true }
def CountsTurnsUptoSaid : Prop := countsTurnsUptoRow.holds Try.pinned (OpenSpec.upto countsTurnsSpec)

/-- 'bitloftlaw07.CountsParts', WHERE WHAT IT READS IS OF BULK AT MOST 1048576: true; the input reads as it did. -/
def countsPartsUptoRow : OpenClaim := { program := "ytkpcopecndpfjaa", sum := "5ca6a419e6daba3ecca934625d01b7e55c7db58c255e7feef332492a12d997d5", func := "bitloft/bitloftlaw07.CountsParts", spec := "countsParts", apart := false, narrowed := true }
def CountsPartsUptoSaid : Prop := countsPartsUptoRow.holds Try.pinned (OpenSpec.upto countsPartsSpec)

/-- 'bitloftlaw07.CountsEqual', WHERE WHAT IT READS IS OF BULK AT MOST 1048576: true; the input reads as it did. -/
def countsEqualUptoRow : OpenClaim := { program := "ytkpcopecndpfjaa", sum := "5ca6a419e6daba3ecca934625d01b7e55c7db58c255e7feef332492a12d997d5", func := "bitloft/bitloftlaw07.CountsEqual", spec := "countsEqual", apart := false, narrowed := true }
def CountsEqualUptoSaid : Prop := countsEqualUptoRow.holds Try.pinned (OpenSpec.upto countsEqualSpec)

/-- 'bitloftlaw08.StatesNames', WHERE WHAT IT READS IS OF BULK AT MOST 1048576: true; the input reads as it did. -/
def statesNamesUptoRow : OpenClaim := { program := "ytkpcopecndpfjaa", sum := "5ca6a419e6daba3ecca934625d01b7e55c7db58c255e7feef332492a12d997d5", func := "bitloft/bitloftlaw08.StatesNames", spec := "statesNames", unfollowed := true, recurses := true, apart := false, narrowed := true }
def StatesNamesUptoSaid : Prop := statesNamesUptoRow.holds Try.pinned (OpenSpec.upto statesNamesSpec)

/-- 'bitloftlaw08.StatesMakes', WHERE WHAT IT READS IS OF BULK AT MOST 1048576: true; the input reads as it did. -/
def statesMakesUptoRow : OpenClaim := { program := "ytkpcopecndpfjaa", sum := "5ca6a419e6daba3ecca934625d01b7e55c7db58c255e7feef332492a12d997d5", func := "bitloft/bitloftlaw08.StatesMakes", spec := "statesMakes", unfollowed := true, recurses := true, apart := false, narrowed := true }
def StatesMakesUptoSaid : Prop := statesMakesUptoRow.holds Try.pinned (OpenSpec.upto statesMakesSpec)

/-- 'bitloftlaw08.StatesRuns', WHERE WHAT IT READS IS OF BULK AT MOST 1048576: true; the input reads as it did. -/
def statesRunsUptoRow : OpenClaim := { program := "ytkpcopecndpfjaa", sum := "5ca6a419e6daba3ecca934625d01b7e55c7db58c255e7feef332492a12d997d5", func := "bitloft/bitloftlaw08.StatesRuns", spec := "statesRuns", unfollowed := true, recurses := true, apart := false, narrowed := true }
def StatesRunsUptoSaid : Prop := statesRunsUptoRow.holds Try.pinned (OpenSpec.upto statesRunsSpec)

/-- 'bitloftlaw08.StatesCounts', WHERE WHAT IT READS IS OF BULK AT MOST 1048576: true; the input reads as it did. -/
def statesCountsUptoRow : OpenClaim := { program := "ytkpcopecndpfjaa", sum := "5ca6a419e6daba3ecca934625d01b7e55c7db58c255e7feef332492a12d997d5", func := "bitloft/bitloftlaw08.StatesCounts", spec := "statesCounts", unfollowed := true, recurses := true, apart := false, narrowed := true }
def StatesCountsUptoSaid : Prop := statesCountsUptoRow.holds Try.pinned (OpenSpec.upto statesCountsSpec)

/-- 'bitloftlaw08.StatesNumbers', WHERE WHAT IT READS IS OF BULK AT MOST 1048576: true; the input reads as it did. -/
def statesNumbersUptoRow : OpenClaim := { program := "ytkpcopecndpfjaa", sum := "5ca6a419e6daba3ecca934625d01b7e55c7db58c255e7feef332492a12d997d5", func := "bitloft/bitloftlaw08.StatesNumbers", spec := "statesNumbers", unfollowed := true, recurses := true, apart := false, narrowed := true }
def StatesNumbersUptoSaid : Prop := statesNumbersUptoRow.holds Try.pinned (OpenSpec.upto statesNumbersSpec)

/-- 'bitloftlaw08.StatesParts', WHERE WHAT IT READS IS OF BULK AT MOST 1048576: true; the input reads as it did. -/
def statesPartsUptoRow : OpenClaim := { program := "ytkpcopecndpfjaa", sum := "5ca6a419e6daba3ecca934625d01b7e55c7db58c255e7feef332492a12d997d5", func := "bitloft/bitloftlaw08.StatesParts", spec := "statesParts", unfollowed := true, recurses := true, apart := false, narrowed := true }
def StatesPartsUptoSaid : Prop := statesPartsUptoRow.holds Try.pinned (OpenSpec.upto statesPartsSpec)

end Rows
end Go.Proofs.Ytkpcopecndpfjaa
