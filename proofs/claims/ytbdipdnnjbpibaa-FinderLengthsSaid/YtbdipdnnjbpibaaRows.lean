/-
  No cell of these rows narrows 'for every input' (looked for: loops, veiled, ifaces, maps, wideKeys, modest, calm, conditions, laid).
  DERIVED. THE GIVEN ROWS OF THIS SEAT. 6 by the template 'for every input the law returns true; each argument reads behind the call as it read before'; 0 by the template 'total and deterministic' (their statements: YtbdipdnnjbpibaaTotals.lean).
  GIVEN WITH THE SEED: the statements are not yours to turn. If you find one false, say at which input.
  Laid BY PROGRAM, IN A SANDBOX (cutbox-rows.mjs): the forced cells as the released guide's own fill.sh prints them over the translation e87382265fe45927… (all of the seat's roots in one cut). By AI agents, Wed Nov 11 2026. No macro, syntax, notation, axiom, sorry.
-/
import Derived.Test.YtbdipdnnjbpibaaChecked
import GoSem.Claim
import GoSem.ClaimJoined
import GoSem.ClaimMapViews
import Derived.JoinedTies
import Derived.KernelRfl
namespace Go.Proofs.Ytbdipdnnjbpibaa
/- THE CELL 'sum', in the pinned program and in every row, IS THE sha256 OF THE DUMP (.gsa) THAT YtbdipdnnjbpibaaProg.lean LOADS. Nothing in Lean hashes anything: it is a label: what it is worth is what the hold of that sum in a sandbox is worth. -/
noncomputable def Try.pinned : Pinned := { name := "ytbdipdnnjbpibaa", sum := "e87382265fe459276741471ce5a942943dafa7d7709c507853c88393ac5ae691", checked := Try.checked }
namespace Rows
def none {H : Type} : Left H := { results := [], args := [] }

/-- 'bitloftlaw12.FinderNames': WHATEVER THE INPUT: true; the input reads as it did. -/
def finderNamesSpec : ChangeSpec := { name := "finderNames", fn := fun _ => fun
  | [] => { results := [.lit (.bool true)], args := [] }
  | _ => none }
def finderNamesRow : OpenClaim := { program := "ytbdipdnnjbpibaa", sum := "e87382265fe459276741471ce5a942943dafa7d7709c507853c88393ac5ae691", func := "bitloft/bitloftlaw12.FinderNames", spec := "finderNames", inPlace := ["internal/bytealg.Count", "internal/bytealg.IndexByte", "internal/bytealg.Index"], unfollowed := true, recurses := true, named := ["internal/bytealg.MaxLen"], apart := false }
def FinderNamesSaid : Prop := finderNamesRow.holds Try.pinned (OpenSpec.ofChange finderNamesSpec)

/-- ITS FALSE NEIGHBOUR: 'it returns false'. Refute it at one input. -/
def finderNamesWrong : ChangeSpec := { name := "finderNames", fn := fun _ => fun
  | [] => { results := [.lit (.bool false)], args := [] }
  | _ => none }
def FinderNamesWrongFalsely : Prop := finderNamesRow.holds Try.pinned (OpenSpec.ofChange finderNamesWrong)

/-- 'bitloftlaw12.FinderMakes': WHATEVER THE INPUT: true; the input reads as it did. -/
def finderMakesSpec : ChangeSpec := { name := "finderMakes", fn := fun _ => fun
  | [d1, d2, d3, d4] => { results := [.lit (.bool true)], args := [d1, d2, d3, d4] }
  | _ => none }
def finderMakesRow : OpenClaim := { program := "ytbdipdnnjbpibaa", sum := "e87382265fe459276741471ce5a942943dafa7d7709c507853c88393ac5ae691", func := "bitloft/bitloftlaw12.FinderMakes", spec := "finderMakes", apart := false }
def FinderMakesSaid : Prop := finderMakesRow.holds Try.pinned (OpenSpec.ofChange finderMakesSpec)

/-- ITS FALSE NEIGHBOUR: 'it returns false'. Refute it at one input. -/
def finderMakesWrong : ChangeSpec := { name := "finderMakes", fn := fun _ => fun
  | [d1, d2, d3, d4] => { results := [.lit (.bool false)], args := [d1, d2, d3, d4] }
  | _ => none }
def FinderMakesWrongFalsely : Prop := finderMakesRow.holds Try.pinned (OpenSpec.ofChange finderMakesWrong)

/-- 'bitloftlaw12.FinderLengths': WHATEVER THE INPUT: true; the input reads as it did. -/
def finderLengthsSpec : ChangeSpec := { name := "finderLengths", fn := fun _ => fun
  | [d1, d2, d3] => { results := [.lit (.bool true)], args := [d1, d2, d3] }
  | _ => none }
def finderLengthsRow : OpenClaim := { program := "ytbdipdnnjbpibaa", sum := "e87382265fe459276741471ce5a942943dafa7d7709c507853c88393ac5ae691", func := "bitloft/bitloftlaw12.FinderLengths", spec := "finderLengths", inPlace := ["internal/bytealg.Count", "internal/bytealg.IndexByte", "internal/bytealg.Index"], unfollowed := true, recurses := true, named := ["internal/bytealg.MaxLen"], apart := false }
def FinderLengthsSaid : Prop := finderLengthsRow.holds Try.pinned (OpenSpec.ofChange finderLengthsSpec)

/-- ITS FALSE NEIGHBOUR: 'it returns false'. Refute it at one input. -/
def finderLengthsWrong : ChangeSpec := { name := "finderLengths", fn := fun _ => fun
  | [d1, d2, d3] => { results := [.lit (.bool false)], args := [d1, d2, d3] }
  | _ => none }
def FinderLengthsWrongFalsely : Prop := finderLengthsRow.holds Try.pinned (OpenSpec.ofChange finderLengthsWrong)

/-- 'bitloftlaw12.FinderLast': WHATEVER THE INPUT: true; the input reads as it did. -/
def finderLastSpec : ChangeSpec := { name := "finderLast", fn := fun _ => fun
  | [d1, d2, d3] => { results := [.lit (.bool true)], args := [d1, d2, d3] }
  | _ => none }
def finderLastRow : OpenClaim := { program := "ytbdipdnnjbpibaa", sum := "e87382265fe459276741471ce5a942943dafa7d7709c507853c88393ac5ae691", func := "bitloft/bitloftlaw12.FinderLast", spec := "finderLast", inPlace := ["internal/bytealg.Count", "internal/bytealg.IndexByte", "internal/bytealg.Index"], unfollowed := true, recurses := true, named := ["internal/bytealg.MaxLen"], apart := false }
def FinderLastSaid : Prop := finderLastRow.holds Try.pinned (OpenSpec.ofChange finderLastSpec)

/-- ITS FALSE NEIGHBOUR: 'it returns false'. Refute it at one input. -/
def finderLastWrong : ChangeSpec := { name := "finderLast", fn := fun _ => fun
  | [d1, d2, d3] => { results := [.lit (.bool false)], args := [d1, d2, d3] }
  | _ => none }
def FinderLastWrongFalsely : Prop := finderLastRow.holds Try.pinned (OpenSpec.ofChange finderLastWrong)

/-- 'bitloftlaw12.FinderMatch': WHATEVER THE INPUT: true; the input reads as it did. -/
def finderMatchSpec : ChangeSpec := { name := "finderMatch", fn := fun _ => fun
  | [d1, d2, d3] => { results := [.lit (.bool true)], args := [d1, d2, d3] }
  | _ => none }
def finderMatchRow : OpenClaim := { program := "ytbdipdnnjbpibaa", sum := "e87382265fe459276741471ce5a942943dafa7d7709c507853c88393ac5ae691", func := "bitloft/bitloftlaw12.FinderMatch", spec := "finderMatch", inPlace := ["internal/bytealg.Count", "internal/bytealg.IndexByte", "internal/bytealg.Index"], unfollowed := true, recurses := true, named := ["internal/bytealg.MaxLen"], apart := false }
def FinderMatchSaid : Prop := finderMatchRow.holds Try.pinned (OpenSpec.ofChange finderMatchSpec)

/-- ITS FALSE NEIGHBOUR: 'it returns false'. Refute it at one input. -/
def finderMatchWrong : ChangeSpec := { name := "finderMatch", fn := fun _ => fun
  | [d1, d2, d3] => { results := [.lit (.bool false)], args := [d1, d2, d3] }
  | _ => none }
def FinderMatchWrongFalsely : Prop := finderMatchRow.holds Try.pinned (OpenSpec.ofChange finderMatchWrong)

/-- 'bitloftlaw12.FinderOnly': WHATEVER THE INPUT: true; the input reads as it did. -/
def finderOnlySpec : ChangeSpec := { name := "finderOnly", fn := fun _ => fun
  | [d1, d2, d3, d4, d5] => { results := [.lit (.bool true)], args := [d1, d2, d3, d4, d5] }
  | _ => none }
def finderOnlyRow : OpenClaim := { program := "ytbdipdnnjbpibaa", sum := "e87382265fe459276741471ce5a942943dafa7d7709c507853c88393ac5ae691", func := "bitloft/bitloftlaw12.FinderOnly", spec := "finderOnly", inPlace := ["internal/bytealg.Count", "internal/bytealg.IndexByte", "internal/bytealg.Index"], unfollowed := true, recurses := true, named := ["internal/bytealg.MaxLen"], apart := false }
def FinderOnlySaid : Prop := finderOnlyRow.holds Try.pinned (OpenSpec.ofChange finderOnlySpec)

/-- ITS FALSE NEIGHBOUR: 'it returns false'. Refute it at one input. -/
def finderOnlyWrong : ChangeSpec := { name := "finderOnly", fn := fun _ => fun
  | [d1, d2, d3, d4, d5] => { results := [.lit (.bool false)], args := [d1, d2, d3, d4, d5] }
  | _ => none }
def FinderOnlyWrongFalsely : Prop := finderOnlyRow.holds Try.pinned (OpenSpec.ofChange finderOnlyWrong)

/- THE SECOND FORM. 'bulk': how many values and letters a reading holds, each counted each time it is reached (what is shared counts as often as it is met; a slice's spare places count too). A statement '..UptoSaid' is the law's where the arguments, and the package variables that the reading takes, are together of bulk at most 1048576: NARROWER than '..Said'. Prove '..Said' where nothing that the law and all that it calls make is longer than what came in: it says more and counts as full. Else prove '..UptoSaid'. A law counts once. -/
mutual
def uptoBulk {H : Type} : DataW H → Nat
  | .lit (.string bytes) => bytes.length + 1
  | .lit _ => 1
  | .nil => 1
  | .ptr d => uptoBulk d + 1
  | .slice elems spare => uptoBulkAll elems + uptoBulkAll spare + 1
  | .agg parts => uptoBulkAll parts + 1
  | .iface _ d => uptoBulk d + 1
  | .map entries => uptoBulkEntries entries + 1
  | .held _ => 1
def uptoBulkAll {H : Type} : List (DataW H) → Nat
  | [] => 0
  | d :: r => uptoBulk d + uptoBulkAll r
def uptoBulkEntries {H : Type} : List (Lit × DataW H) → Nat
  | [] => 0
  | x :: r => uptoBulkEntry x + uptoBulkEntries r
def uptoBulkEntry {H : Type} : Lit × DataW H → Nat
  | (.string bytes, d) => bytes.length + uptoBulk d + 1
  | (_, d) => uptoBulk d + 1
 end
def uptoSmall : (H : Type) → List (DataW H) → Bool := fun _ ds => decide (uptoBulkAll ds ≤ 1048576)
def OpenSpec.upto (s : _root_.Go.ChangeSpec) : _root_.Go.OpenSpec := { _root_.Go.OpenSpec.ofChange s with cond := some uptoSmall }

/-- 'bitloftlaw12.FinderNames', WHERE WHAT IT READS IS OF BULK AT MOST 1048576: true; the input reads as it did. -/
def finderNamesUptoRow : OpenClaim := { program := "ytbdipdnnjbpibaa", sum := "e87382265fe459276741471ce5a942943dafa7d7709c507853c88393ac5ae691", func := "bitloft/bitloftlaw12.FinderNames", spec := "finderNames", inPlace := ["internal/bytealg.Count", "internal/bytealg.IndexByte", "internal/bytealg.Index"], unfollowed := true, recurses := true, named := ["internal/bytealg.MaxLen"], apart := false, narrowed := true }
def FinderNamesUptoSaid : Prop := finderNamesUptoRow.holds Try.pinned (OpenSpec.upto finderNamesSpec)

/-- 'bitloftlaw12.FinderMakes', WHERE WHAT IT READS IS OF BULK AT MOST 1048576: true; the input reads as it did. -/
def finderMakesUptoRow : OpenClaim := { program := "ytbdipdnnjbpibaa", sum := "e87382265fe459276741471ce5a942943dafa7d7709c507853c88393ac5ae691", func := "bitloft/bitloftlaw12.FinderMakes", spec := "finderMakes", apart := false, narrowed := true }
def FinderMakesUptoSaid : Prop := finderMakesUptoRow.holds Try.pinned (OpenSpec.upto finderMakesSpec)

/-- 'bitloftlaw12.FinderLengths', WHERE WHAT IT READS IS OF BULK AT MOST 1048576: true; the input reads as it did. -/
def finderLengthsUptoRow : OpenClaim := { program := "ytbdipdnnjbpibaa", sum := "e87382265fe459276741471ce5a942943dafa7d7709c507853c88393ac5ae691", func := "bitloft/bitloftlaw12.FinderLengths", spec := "finderLengths", inPlace := ["internal/bytealg.Count", "internal/bytealg.IndexByte", "internal/bytealg.Index"], unfollowed := true, recurses := true, named := ["internal/bytealg.MaxLen"], apart := false, narrowed := true }
def FinderLengthsUptoSaid : Prop := finderLengthsUptoRow.holds Try.pinned (OpenSpec.upto finderLengthsSpec)

/-- 'bitloftlaw12.FinderLast', WHERE WHAT IT READS IS OF BULK AT MOST 1048576: true; the input reads as it did. -/
def finderLastUptoRow : OpenClaim := { program := "ytbdipdnnjbpibaa", sum := "e87382265fe459276741471ce5a942943dafa7d7709c507853c88393ac5ae691", func := "bitloft/bitloftlaw12.FinderLast", spec := "finderLast", inPlace := ["internal/bytealg.Count", "internal/bytealg.IndexByte", "internal/bytealg.Index"], unfollowed := true, recurses := true, named := ["internal/bytealg.MaxLen"], apart := false, narrowed := true }
def FinderLastUptoSaid : Prop := finderLastUptoRow.holds Try.pinned (OpenSpec.upto finderLastSpec)

/-- 'bitloftlaw12.FinderMatch', WHERE WHAT IT READS IS OF BULK AT MOST 1048576: true; the input reads as it did. -/
def finderMatchUptoRow : OpenClaim := { program := "ytbdipdnnjbpibaa", sum := "e87382265fe459276741471ce5a942943dafa7d7709c507853c88393ac5ae691", func := "bitloft/bitloftlaw12.FinderMatch", spec := "finderMatch", inPlace := ["internal/bytealg.Count", "internal/bytealg.IndexByte", "internal/bytealg.Index"], unfollowed := true, recurses := true, named := ["internal/bytealg.MaxLen"], apart := false, narrowed := true }
def FinderMatchUptoSaid : Prop := finderMatchUptoRow.holds Try.pinned (OpenSpec.upto finderMatchSpec)

/-- 'bitloftlaw12.FinderOnly', WHERE WHAT IT READS IS OF BULK AT MOST 1048576: true; the input reads as it did. -/
def finderOnlyUptoRow : OpenClaim := { program := "ytbdipdnnjbpibaa", sum := "e87382265fe459276741471ce5a942943dafa7d7709c507853c88393ac5ae691", func := "bitloft/bitloftlaw12.FinderOnly", spec := "finderOnly", inPlace := ["internal/bytealg.Count", "internal/bytealg.IndexByte", "internal/bytealg.Index"], unfollowed := true, recurses := true, named := ["internal/bytealg.MaxLen"], apart := false, narrowed := true }
def FinderOnlyUptoSaid : Prop := finderOnlyUptoRow.holds Try.pinned (OpenSpec.upto finderOnlySpec)

end Rows
end Go.Proofs.Ytbdipdnnjbpibaa
