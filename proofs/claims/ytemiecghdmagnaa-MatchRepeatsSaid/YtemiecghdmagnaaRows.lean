/-
  No cell of these rows narrows 'for every input' (looked for: loops, veiled, ifaces, maps, wideKeys, modest, calm, conditions, laid).
  DERIVED. THE GIVEN ROWS OF THIS SEAT. 5 by the template 'for every input the law returns true; each argument reads behind the call as it read before'; 0 by the template 'total and deterministic' (their statements: YtemiecghdmagnaaTotals.lean).
  GIVEN WITH THE SEED: the statements are not yours to turn. If you find one false, say at which input.
  Laid BY PROGRAM, IN A SANDBOX (cutbox-rows.mjs): the forced cells as the released guide's own fill.sh prints them over the translation a487f243ab680ab5… (all of the seat's roots in one cut). By AI agents, Wed Nov 11 2026. No macro, syntax, notation, axiom, sorry.
-/
import Derived.Test.YtemiecghdmagnaaChecked
import GoSem.Claim
import GoSem.ClaimJoined
import GoSem.ClaimMapViews
import Derived.JoinedTies
import Derived.KernelRfl
namespace Go.Proofs.Ytemiecghdmagnaa
/- THE CELL 'sum', in the pinned program and in every row, IS THE sha256 OF THE DUMP (.gsa) THAT YtemiecghdmagnaaProg.lean LOADS. Nothing in Lean hashes anything: it is a label: what it is worth is what the hold of that sum in a sandbox is worth. -/
noncomputable def Try.pinned : Pinned := { name := "ytemiecghdmagnaa", sum := "a487f243ab680ab516aead8d79c09d27b489a9c2a8d16bc766f6ed28c49140bb", checked := Try.checked }
namespace Rows
def none {H : Type} : Left H := { results := [], args := [] }

/-- 'bitloftlaw15.MatchDoes': WHATEVER THE INPUT: true; the input reads as it did. -/
def matchDoesSpec : ChangeSpec := { name := "matchDoes", fn := fun _ => fun
  | [d1, d2, d3, d4, d5] => { results := [.lit (.bool true)], args := [d1, d2, d3, d4, d5] }
  | _ => none }
def matchDoesRow : OpenClaim := { program := "ytemiecghdmagnaa", sum := "a487f243ab680ab516aead8d79c09d27b489a9c2a8d16bc766f6ed28c49140bb", func := "bitloft/bitloftlaw15.MatchDoes", spec := "matchDoes", inPlace := ["internal/bytealg.Count", "internal/bytealg.IndexByte", "internal/bytealg.Index"], unfollowed := true, recurses := true, named := ["internal/bytealg.MaxLen"], apart := false }
def MatchDoesSaid : Prop := matchDoesRow.holds Try.pinned (OpenSpec.ofChange matchDoesSpec)

/-- ITS FALSE NEIGHBOUR: 'it returns false'. Refute it at one input. -/
def matchDoesWrong : ChangeSpec := { name := "matchDoes", fn := fun _ => fun
  | [d1, d2, d3, d4, d5] => { results := [.lit (.bool false)], args := [d1, d2, d3, d4, d5] }
  | _ => none }
def MatchDoesWrongFalsely : Prop := matchDoesRow.holds Try.pinned (OpenSpec.ofChange matchDoesWrong)

/-- 'bitloftlaw15.MatchNames': WHATEVER THE INPUT: true; the input reads as it did. -/
def matchNamesSpec : ChangeSpec := { name := "matchNames", fn := fun _ => fun
  | [] => { results := [.lit (.bool true)], args := [] }
  | _ => none }
def matchNamesRow : OpenClaim := { program := "ytemiecghdmagnaa", sum := "a487f243ab680ab516aead8d79c09d27b489a9c2a8d16bc766f6ed28c49140bb", func := "bitloft/bitloftlaw15.MatchNames", spec := "matchNames", inPlace := ["internal/bytealg.Count", "internal/bytealg.IndexByte", "internal/bytealg.Index"], unfollowed := true, recurses := true, named := ["internal/bytealg.MaxLen"], apart := false }
def MatchNamesSaid : Prop := matchNamesRow.holds Try.pinned (OpenSpec.ofChange matchNamesSpec)

/-- ITS FALSE NEIGHBOUR: 'it returns false'. Refute it at one input. -/
def matchNamesWrong : ChangeSpec := { name := "matchNames", fn := fun _ => fun
  | [] => { results := [.lit (.bool false)], args := [] }
  | _ => none }
def MatchNamesWrongFalsely : Prop := matchNamesRow.holds Try.pinned (OpenSpec.ofChange matchNamesWrong)

/-- 'bitloftlaw15.MatchTrue': WHATEVER THE INPUT: true; the input reads as it did. -/
def matchTrueSpec : ChangeSpec := { name := "matchTrue", fn := fun _ => fun
  | [d1, d2] => { results := [.lit (.bool true)], args := [d1, d2] }
  | _ => none }
def matchTrueRow : OpenClaim := { program := "ytemiecghdmagnaa", sum := "a487f243ab680ab516aead8d79c09d27b489a9c2a8d16bc766f6ed28c49140bb", func := "bitloft/bitloftlaw15.MatchTrue", spec := "matchTrue", inPlace := ["internal/bytealg.Count", "internal/bytealg.IndexByte", "internal/bytealg.Index"], unfollowed := true, recurses := true, named := ["internal/bytealg.MaxLen"], apart := false }
def MatchTrueSaid : Prop := matchTrueRow.holds Try.pinned (OpenSpec.ofChange matchTrueSpec)

/-- ITS FALSE NEIGHBOUR: 'it returns false'. Refute it at one input. -/
def matchTrueWrong : ChangeSpec := { name := "matchTrue", fn := fun _ => fun
  | [d1, d2] => { results := [.lit (.bool false)], args := [d1, d2] }
  | _ => none }
def MatchTrueWrongFalsely : Prop := matchTrueRow.holds Try.pinned (OpenSpec.ofChange matchTrueWrong)

/-- 'bitloftlaw15.MatchInput': WHATEVER THE INPUT: true; the input reads as it did. -/
def matchInputSpec : ChangeSpec := { name := "matchInput", fn := fun _ => fun
  | [d1, d2, d3] => { results := [.lit (.bool true)], args := [d1, d2, d3] }
  | _ => none }
def matchInputRow : OpenClaim := { program := "ytemiecghdmagnaa", sum := "a487f243ab680ab516aead8d79c09d27b489a9c2a8d16bc766f6ed28c49140bb", func := "bitloft/bitloftlaw15.MatchInput", spec := "matchInput", inPlace := ["internal/bytealg.Count", "internal/bytealg.IndexByte", "internal/bytealg.Index"], unfollowed := true, recurses := true, named := ["internal/bytealg.MaxLen"], apart := false }
def MatchInputSaid : Prop := matchInputRow.holds Try.pinned (OpenSpec.ofChange matchInputSpec)

/-- ITS FALSE NEIGHBOUR: 'it returns false'. Refute it at one input. -/
def matchInputWrong : ChangeSpec := { name := "matchInput", fn := fun _ => fun
  | [d1, d2, d3] => { results := [.lit (.bool false)], args := [d1, d2, d3] }
  | _ => none }
def MatchInputWrongFalsely : Prop := matchInputRow.holds Try.pinned (OpenSpec.ofChange matchInputWrong)

/-- 'bitloftlaw15.MatchRepeats': WHATEVER THE INPUT: true; the input reads as it did. -/
def matchRepeatsSpec : ChangeSpec := { name := "matchRepeats", fn := fun _ => fun
  | [d1, d2] => { results := [.lit (.bool true)], args := [d1, d2] }
  | _ => none }
def matchRepeatsRow : OpenClaim := { program := "ytemiecghdmagnaa", sum := "a487f243ab680ab516aead8d79c09d27b489a9c2a8d16bc766f6ed28c49140bb", func := "bitloft/bitloftlaw15.MatchRepeats", spec := "matchRepeats", inPlace := ["internal/bytealg.Count", "internal/bytealg.IndexByte", "internal/bytealg.Index"], unfollowed := true, recurses := true, named := ["internal/bytealg.MaxLen"], apart := false }
def MatchRepeatsSaid : Prop := matchRepeatsRow.holds Try.pinned (OpenSpec.ofChange matchRepeatsSpec)

/-- ITS FALSE NEIGHBOUR: 'it returns false'. Refute it at one input. -/
def matchRepeatsWrong : ChangeSpec := { name := "matchRepeats", fn := fun _ => fun
  | [d1, d2] => { results := [.lit (.bool false)], args := [d1, d2] }
  | _ => none }
def MatchRepeatsWrongFalsely : Prop := matchRepeatsRow.holds Try.pinned (OpenSpec.ofChange matchRepeatsWrong)

/- THE SECOND FORM. 'bulk': how many values and letters a reading holds, each counted each time it is reached (what is shared counts as often as it is met; a slice's spare places count too). A statement '..UptoSaid' is the law's where the arguments, and the package variables that the reading takes, are together of bulk at most 1048576: NARROWER than '..Said'. Prove '..Said' where nothing that the law and all that it calls make is longer than what came in: it says more and counts as full. Else prove '..UptoSaid'. A law counts once. -/
mutual
def uptoBulk {H : Type} : DataW H → Nat
  | .lit (.string bytes) => bytes.length + 1
  | .lit _ => 1
  | .nil => 1
  | .ptr d => uptoBulk d + 1
  | .slice elems spare => uptoBulkAll elems + uptoBulkAll spare + 1
  | .agg parts => uptoBulkAll parts + 1
  | .iface _ d => uptoBulk d + 1
  | .map entries => uptoBulkEntries entries + 1
  | .held _ => 1
def uptoBulkAll {H : Type} : List (DataW H) → Nat
  | [] => 0
  | d :: r => uptoBulk d + uptoBulkAll r
def uptoBulkEntries {H : Type} : List (Lit × DataW H) → Nat
  | [] => 0
  | x :: r => uptoBulkEntry x + uptoBulkEntries r
def uptoBulkEntry {H : Type} : Lit × DataW H → Nat
  | (.string bytes, d) => bytes.length + uptoBulk d + 1
  | (_, d) => uptoBulk d + 1
 end
def uptoSmall : (H : Type) → List (DataW H) → Bool := fun _ ds => decide (uptoBulkAll ds ≤ 1048576)
def OpenSpec.upto (s : _root_.Go.ChangeSpec) : _root_.Go.OpenSpec := { _root_.Go.OpenSpec.ofChange s with cond := some uptoSmall }

/-- 'bitloftlaw15.MatchDoes', WHERE WHAT IT READS IS OF BULK AT MOST 1048576: true; the input reads as it did. -/
def matchDoesUptoRow : OpenClaim := { program := "ytemiecghdmagnaa", sum := "a487f243ab680ab516aead8d79c09d27b489a9c2a8d16bc766f6ed28c49140bb", func := "bitloft/bitloftlaw15.MatchDoes", spec := "matchDoes", inPlace := ["internal/bytealg.Count", "internal/bytealg.IndexByte", "internal/bytealg.Index"], unfollowed := true, recurses := true, named := ["internal/bytealg.MaxLen"], apart := false, narrowed := true }
def MatchDoesUptoSaid : Prop := matchDoesUptoRow.holds Try.pinned (OpenSpec.upto matchDoesSpec)

/-- 'bitloftlaw15.MatchNames', WHERE WHAT IT READS IS OF BULK AT MOST 1048576: true; the input reads as it did. -/
def matchNamesUptoRow : OpenClaim := { program := "ytemiecghdmagnaa", sum := "a487f243ab680ab516aead8d79c09d27b489a9c2a8d16bc766f6ed28c49140bb", func := "bitloft/bitloftlaw15.MatchNames", spec := "matchNames", inPlace := ["internal/bytealg.Count", "internal/bytealg.IndexByte", "internal/bytealg.Index"], unfollowed := true, recurses := true, named := ["internal/bytealg.MaxLen"], apart := false, narrowed := true }
def MatchNamesUptoSaid : Prop := matchNamesUptoRow.holds Try.pinned (OpenSpec.upto matchNamesSpec)

/-- 'bitloftlaw15.MatchTrue', WHERE WHAT IT READS IS OF BULK AT MOST 1048576: true; the input reads as it did. -/
def matchTrueUptoRow : OpenClaim := { program := "ytemiecghdmagnaa", sum := "a487f243ab680ab516aead8d79c09d27b489a9c2a8d16bc766f6ed28c49140bb", func := "bitloft/bitloftlaw15.MatchTrue", spec := "matchTrue", inPlace := ["internal/bytealg.Count", "internal/bytealg.IndexByte", "internal/bytealg.Index"], unfollowed := true, recurses := true, named := ["internal/bytealg.MaxLen"], apart := false, narrowed := true }
def MatchTrueUptoSaid : Prop := matchTrueUptoRow.holds Try.pinned (OpenSpec.upto matchTrueSpec)

/-- 'bitloftlaw15.MatchInput', WHERE WHAT IT READS IS OF BULK AT MOST 1048576: true; the input reads as it did. -/
def matchInputUptoRow : OpenClaim := { program := "ytemiecghdmagnaa", sum := "a487f243ab680ab516aead8d79c09d27b489a9c2a8d16bc766f6ed28c49140bb", func := "bitloft/bitloftlaw15.MatchInput", spec := "matchInput", inPlace := ["internal/bytealg.Count", "internal/bytealg.IndexByte", "internal/bytealg.Index"], unfollowed := true, recurses := true, named := ["internal/bytealg.MaxLen"], apart := false, narrowed := true }
def MatchInputUptoSaid : Prop := matchInputUptoRow.holds Try.pinned (OpenSpec.upto matchInputSpec)

/-- 'bitloftlaw15.MatchRepeats', WHERE WHAT IT READS IS OF BULK AT MOST 1048576: true; the input reads as it did. -/
def matchRepeatsUptoRow : OpenClaim := { program := "ytemiecghdmagnaa", sum := "a487f243ab680ab516aead8d79c09d27b489a9c2a8d16bc766f6ed28c49140bb", func := "bitloft/bitloftlaw15.MatchRepeats", spec := "matchRepeats", inPlace := ["internal/bytealg.Count", "internal/bytealg.IndexByte", "internal/bytealg.Index"], unfollowed := true, recurses := true, named := ["internal/bytealg.MaxLen"], apart := false, narrowed := true }
def MatchRepeatsUptoSaid : Prop := matchRepeatsUptoRow.holds Try.pinned (OpenSpec.upto matchRepeatsSpec)

end Rows
end Go.Proofs.Ytemiecghdmagnaa
