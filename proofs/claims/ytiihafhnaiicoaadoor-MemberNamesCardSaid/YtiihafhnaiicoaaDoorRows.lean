/-
  NARROWER THAN 'FOR EVERY INPUT', by the rows' own cells (each row's printed sentence says how): MemberMakes: laid · MemberWrites: laid · MemberReads: laid · MemberNames: laid · MemberBack: laid · MemberRight: laid.
  DERIVED. THE GIVEN ROWS OF THIS SEAT. 6 by the template 'for every input the law returns true; each argument reads behind the call as it read before'; 0 by the template 'total and deterministic' (their statements: YtiihafhnaiicoaaDoorTotals.lean).
  GIVEN WITH THE SEED: the statements are not yours to turn. If you find one false, say at which input.
  Laid BY PROGRAM, IN A SANDBOX (cutbox-rows.mjs): the forced cells as the released guide's own fill.sh prints them over the translation d65df8834433d379… (all of the seat's roots in one cut). By AI agents, Wed Nov 11 2026. No macro, syntax, notation, axiom, sorry.
-/
import Derived.Test.YtiihafhnaiicoaaDoorChecked
import GoSem.Claim
import GoSem.ClaimJoined
import GoSem.ClaimMapViews
import Derived.JoinedTies
import Derived.KernelRfl
namespace Go.Proofs.YtiihafhnaiicoaaDoor
/- THE CELL 'sum', in the pinned program and in every row, IS THE sha256 OF THE DUMP (.gsa) THAT YtiihafhnaiicoaaDoorProg.lean LOADS. Nothing in Lean hashes anything: it is a label: what it is worth is what the hold of that sum in a sandbox is worth. -/
noncomputable def Tryd.pinned : Pinned := { name := "ytiihafhnaiicoaadoor", sum := "d65df8834433d37930797329ec3dda5981372f68a60b7312ef668cfa435d6806", checked := Tryd.checked }
namespace Rows
def none {H : Type} : Left H := { results := [], args := [] }

/- WHAT THE LISTED PACKAGE-LEVEL VARIABLES READ AS WHEN THE CALL BEGINS. Each datum BY PROGRAM (the guide's laid-datum.mjs) off the statement by which the dump's own 'gosem.cut.vars' lays the variable. In a bare row this is a premise. The card (YtiihafhnaiicoaaDoorCards.lean) ties it to the program's text. -/
def laid_bitloft_sha_firstWords {H : Type} : DataW H := .agg [.lit (.int .u32 1732584193), .lit (.int .u32 4023233417), .lit (.int .u32 2562383102), .lit (.int .u32 271733878), .lit (.int .u32 3285377520)]
def laid_errors_errorType {H : Type} : DataW H := .iface "internal/reflectlite.rtype" (.agg [.ptr (.lit (.string [101, 114, 114, 111, 114]))])

/-- 'bitloftlaw28.MemberMakes': WHATEVER THE INPUT: true; the input reads as it did. -/
def memberMakesSpec : ChangeSpec := { name := "memberMakes", fn := fun _ => fun
  | [d] => { results := [.lit (.bool true)], args := [d] }
  | _ => none }
def memberMakesRow : OpenClaim := { program := "ytiihafhnaiicoaadoor", sum := "d65df8834433d37930797329ec3dda5981372f68a60b7312ef668cfa435d6806", func := "bitloft/bitloftlaw28.MemberMakes", spec := "memberMakes", named := ["bitloft/sha.firstWords"], apart := false, laid := [("bitloft/sha.firstWords", laid_bitloft_sha_firstWords)] }
def MemberMakesSaid : Prop := memberMakesRow.holds Tryd.pinned (OpenSpec.ofChange memberMakesSpec)

/-- ITS FALSE NEIGHBOUR: 'it returns false'. Refute it at one input. -/
def memberMakesWrong : ChangeSpec := { name := "memberMakes", fn := fun _ => fun
  | [d] => { results := [.lit (.bool false)], args := [d] }
  | _ => none }
def MemberMakesWrongFalsely : Prop := memberMakesRow.holds Tryd.pinned (OpenSpec.ofChange memberMakesWrong)

/-- 'bitloftlaw28.MemberWrites': WHATEVER THE INPUT: true; the input reads as it did. -/
def memberWritesSpec : ChangeSpec := { name := "memberWrites", fn := fun _ => fun
  | [d1, d2, d3] => { results := [.lit (.bool true)], args := [d1, d2, d3] }
  | _ => none }
def memberWritesRow : OpenClaim := { program := "ytiihafhnaiicoaadoor", sum := "d65df8834433d37930797329ec3dda5981372f68a60b7312ef668cfa435d6806", func := "bitloft/bitloftlaw28.MemberWrites", spec := "memberWrites", named := ["bitloft/sha.firstWords"], apart := false, laid := [("bitloft/sha.firstWords", laid_bitloft_sha_firstWords)] }
def MemberWritesSaid : Prop := memberWritesRow.holds Tryd.pinned (OpenSpec.ofChange memberWritesSpec)

/-- ITS FALSE NEIGHBOUR: 'it returns false'. Refute it at one input. -/
def memberWritesWrong : ChangeSpec := { name := "memberWrites", fn := fun _ => fun
  | [d1, d2, d3] => { results := [.lit (.bool false)], args := [d1, d2, d3] }
  | _ => none }
def MemberWritesWrongFalsely : Prop := memberWritesRow.holds Tryd.pinned (OpenSpec.ofChange memberWritesWrong)

/-- 'bitloftlaw28.MemberReads': WHATEVER THE INPUT: true; the input reads as it did. -/
def memberReadsSpec : ChangeSpec := { name := "memberReads", fn := fun _ => fun
  | [d1, d2] => { results := [.lit (.bool true)], args := [d1, d2] }
  | _ => none }
def memberReadsRow : OpenClaim := { program := "ytiihafhnaiicoaadoor", sum := "d65df8834433d37930797329ec3dda5981372f68a60b7312ef668cfa435d6806", func := "bitloft/bitloftlaw28.MemberReads", spec := "memberReads", inPlace := ["internal/reflectlite.ValueOf", "(internal/reflectlite.Value).Type", "(internal/reflectlite.Value).IsNil", "internal/reflectlite.TypeOf", "(internal/reflectlite.Value).Elem", "(internal/reflectlite.Value).Set"], unfollowed := true, recurses := true, named := ["bitloft/sha.firstWords", "errors.errorType"], apart := false, laid := [("bitloft/sha.firstWords", laid_bitloft_sha_firstWords), ("errors.errorType", laid_errors_errorType)] }
def MemberReadsSaid : Prop := memberReadsRow.holds Tryd.pinned (OpenSpec.ofChange memberReadsSpec)

/-- ITS FALSE NEIGHBOUR: 'it returns false'. Refute it at one input. -/
def memberReadsWrong : ChangeSpec := { name := "memberReads", fn := fun _ => fun
  | [d1, d2] => { results := [.lit (.bool false)], args := [d1, d2] }
  | _ => none }
def MemberReadsWrongFalsely : Prop := memberReadsRow.holds Tryd.pinned (OpenSpec.ofChange memberReadsWrong)

/-- 'bitloftlaw28.MemberNames': WHATEVER THE INPUT: true; the input reads as it did. -/
def memberNamesSpec : ChangeSpec := { name := "memberNames", fn := fun _ => fun
  | [] => { results := [.lit (.bool true)], args := [] }
  | _ => none }
def memberNamesRow : OpenClaim := { program := "ytiihafhnaiicoaadoor", sum := "d65df8834433d37930797329ec3dda5981372f68a60b7312ef668cfa435d6806", func := "bitloft/bitloftlaw28.MemberNames", spec := "memberNames", inPlace := ["internal/reflectlite.ValueOf", "(internal/reflectlite.Value).Type", "(internal/reflectlite.Value).IsNil", "internal/reflectlite.TypeOf", "(internal/reflectlite.Value).Elem", "(internal/reflectlite.Value).Set"], unfollowed := true, recurses := true, named := ["bitloft/sha.firstWords", "errors.errorType"], apart := false, laid := [("bitloft/sha.firstWords", laid_bitloft_sha_firstWords), ("errors.errorType", laid_errors_errorType)] }
def MemberNamesSaid : Prop := memberNamesRow.holds Tryd.pinned (OpenSpec.ofChange memberNamesSpec)

/-- ITS FALSE NEIGHBOUR: 'it returns false'. Refute it at one input. -/
def memberNamesWrong : ChangeSpec := { name := "memberNames", fn := fun _ => fun
  | [] => { results := [.lit (.bool false)], args := [] }
  | _ => none }
def MemberNamesWrongFalsely : Prop := memberNamesRow.holds Tryd.pinned (OpenSpec.ofChange memberNamesWrong)

/-- 'bitloftlaw28.MemberBack': WHATEVER THE INPUT: true; the input reads as it did. -/
def memberBackSpec : ChangeSpec := { name := "memberBack", fn := fun _ => fun
  | [d1, d2, d3] => { results := [.lit (.bool true)], args := [d1, d2, d3] }
  | _ => none }
def memberBackRow : OpenClaim := { program := "ytiihafhnaiicoaadoor", sum := "d65df8834433d37930797329ec3dda5981372f68a60b7312ef668cfa435d6806", func := "bitloft/bitloftlaw28.MemberBack", spec := "memberBack", inPlace := ["internal/reflectlite.ValueOf", "(internal/reflectlite.Value).Type", "(internal/reflectlite.Value).IsNil", "internal/reflectlite.TypeOf", "(internal/reflectlite.Value).Elem", "(internal/reflectlite.Value).Set"], unfollowed := true, recurses := true, named := ["bitloft/sha.firstWords", "errors.errorType"], apart := false, laid := [("bitloft/sha.firstWords", laid_bitloft_sha_firstWords), ("errors.errorType", laid_errors_errorType)] }
def MemberBackSaid : Prop := memberBackRow.holds Tryd.pinned (OpenSpec.ofChange memberBackSpec)

/-- ITS FALSE NEIGHBOUR: 'it returns false'. Refute it at one input. -/
def memberBackWrong : ChangeSpec := { name := "memberBack", fn := fun _ => fun
  | [d1, d2, d3] => { results := [.lit (.bool false)], args := [d1, d2, d3] }
  | _ => none }
def MemberBackWrongFalsely : Prop := memberBackRow.holds Tryd.pinned (OpenSpec.ofChange memberBackWrong)

/-- 'bitloftlaw28.MemberRight': WHATEVER THE INPUT: true; the input reads as it did. -/
def memberRightSpec : ChangeSpec := { name := "memberRight", fn := fun _ => fun
  | [d] => { results := [.lit (.bool true)], args := [d] }
  | _ => none }
def memberRightRow : OpenClaim := { program := "ytiihafhnaiicoaadoor", sum := "d65df8834433d37930797329ec3dda5981372f68a60b7312ef668cfa435d6806", func := "bitloft/bitloftlaw28.MemberRight", spec := "memberRight", named := ["bitloft/sha.firstWords"], apart := false, laid := [("bitloft/sha.firstWords", laid_bitloft_sha_firstWords)] }
def MemberRightSaid : Prop := memberRightRow.holds Tryd.pinned (OpenSpec.ofChange memberRightSpec)

/-- ITS FALSE NEIGHBOUR: 'it returns false'. Refute it at one input. -/
def memberRightWrong : ChangeSpec := { name := "memberRight", fn := fun _ => fun
  | [d] => { results := [.lit (.bool false)], args := [d] }
  | _ => none }
def MemberRightWrongFalsely : Prop := memberRightRow.holds Tryd.pinned (OpenSpec.ofChange memberRightWrong)

/- THE SECOND FORM. 'bulk': how many values and letters a reading holds, each counted each time it is reached (what is shared counts as often as it is met; a slice's spare places count too). A statement '..UptoSaid' is the law's where the arguments, and the package variables that the reading takes, are together of bulk at most 1048576: NARROWER than '..Said'. Prove '..Said' where nothing that the law and all that it calls make is longer than what came in: it says more and counts as full. Else prove '..UptoSaid'. A law counts once. -/
mutual
def uptoBulk {H : Type} : DataW H → Nat
  | .lit (.string bytes) => bytes.length + 1
  | .lit _ => 1
  | .nil => 1
  | .ptr d => uptoBulk d + 1
  | .slice elems spare => uptoBulkAll elems + uptoBulkAll spare + 1
  | .agg parts => uptoBulkAll parts + 1
  | .iface _ d => uptoBulk d + 1
  | .map entries => uptoBulkEntries entries + 1
  | .held _ => 1
def uptoBulkAll {H : Type} : List (DataW H) → Nat
  | [] => 0
  | d :: r => uptoBulk d + uptoBulkAll r
def uptoBulkEntries {H : Type} : List (Lit × DataW H) → Nat
  | [] => 0
  | x :: r => uptoBulkEntry x + uptoBulkEntries r
def uptoBulkEntry {H : Type} : Lit × DataW H → Nat
  | (.string bytes, d) => bytes.length + uptoBulk d + 1
  | (_, d) => uptoBulk d + 1
 end
def uptoSmall : (H : Type) → List (DataW H) → Bool := fun _ ds => decide (uptoBulkAll ds ≤ 1048576)
def OpenSpec.upto (s : _root_.Go.ChangeSpec) : _root_.Go.OpenSpec := { _root_.Go.OpenSpec.ofChange s with cond := some uptoSmall }

/-- 'bitloftlaw28.MemberMakes', WHERE WHAT IT READS IS OF BULK AT MOST 1048576: true; the input reads as it did. -/
def memberMakesUptoRow : OpenClaim := { program := "ytiihafhnaiicoaadoor", sum := "d65df8834433d37930797329ec3dda5981372f68a60b7312ef668cfa435d6806", func := "bitloft/bitloftlaw28.MemberMakes", spec := "memberMakes", named := ["bitloft/sha.firstWords"], apart := false, laid := [("bitloft/sha.firstWords", laid_bitloft_sha_firstWords)], narrowed := true }
def MemberMakesUptoSaid : Prop := memberMakesUptoRow.holds Tryd.pinned (OpenSpec.upto memberMakesSpec)

/-- 'bitloftlaw28.MemberWrites', WHERE WHAT IT READS IS OF BULK AT MOST 1048576: true; the input reads as it did. -/
def memberWritesUptoRow : OpenClaim := { program := "ytiihafhnaiicoaadoor", sum := "d65df8834433d37930797329ec3dda5981372f68a60b7312ef668cfa435d6806", func := "bitloft/bitloftlaw28.MemberWrites", spec := "memberWrites", named := ["bitloft/sha.firstWords"], apart := false, laid := [("bitloft/sha.firstWords", laid_bitloft_sha_firstWords)], narrowed := true }
def MemberWritesUptoSaid : Prop := memberWritesUptoRow.holds Tryd.pinned (OpenSpec.upto memberWritesSpec)

/-- 'bitloftlaw28.MemberReads', WHERE WHAT IT READS IS OF BULK AT MOST 1048576: true; the input reads as it did. -/
def memberReadsUptoRow : OpenClaim := { program := "ytiihafhnaiicoaadoor", sum := "d65df8834433d37930797329ec3dda5981372f68a60b7312ef668cfa435d6806", func := "bitloft/bitloftlaw28.MemberReads", spec := "memberReads", inPlace := ["internal/reflectlite.ValueOf", "(internal/reflectlite.Value).Type", "(internal/reflectlite.Value).IsNil", "internal/reflectlite.TypeOf", "(internal/reflectlite.Value).Elem", "(internal/reflectlite.Value).Set"], unfollowed := true, recurses := true, named := ["bitloft/sha.firstWords", "errors.errorType"], apart := false, laid := [("bitloft/sha.firstWords", laid_bitloft_sha_firstWords), ("errors.errorType", laid_errors_errorType)], narrowed := true }
def MemberReadsUptoSaid : Prop := memberReadsUptoRow.holds Tryd.pinned (OpenSpec.upto memberReadsSpec)

/-- 'bitloftlaw28.MemberNames', WHERE WHAT IT READS IS OF BULK AT MOST 1048576: true; the input reads as it did. -/
def memberNamesUptoRow : OpenClaim := { program := "ytiihafhnaiicoaadoor", sum := "d65df8834433d37930797329ec3dda5981372f68a60b7312ef668cfa435d6806", func := "bitloft/bitloftlaw28.MemberNames", spec := "memberNames", inPlace := ["internal/reflectlite.ValueOf", "(internal/reflectlite.Value).Type", "(internal/reflectlite.Value).IsNil", "internal/reflectlite.TypeOf", "(internal/reflectlite.Value).Elem", "(internal/reflectlite.Value).Set"], unfollowed := true, recurses := true, named := ["bitloft/sha.firstWords", "errors.errorType"], apart := false, laid := [("bitloft/sha.firstWords", laid_bitloft_sha_firstWords), ("errors.errorType", laid_errors_errorType)], narrowed := true }
def MemberNamesUptoSaid : Prop := memberNamesUptoRow.holds Tryd.pinned (OpenSpec.upto memberNamesSpec)

/-- 'bitloftlaw28.MemberBack', WHERE WHAT IT READS IS OF BULK AT MOST 1048576: true; the input reads as it did. -/
def memberBackUptoRow : OpenClaim := { program := "ytiihafhnaiicoaadoor", sum := "d65df8834433d37930797329ec3dda5981372f68a60b7312ef668cfa435d6806", func := "bitloft/bitloftlaw28.MemberBack", spec := "memberBack", inPlace := ["internal/reflectlite.ValueOf", "(internal/reflectlite.Value).Type", "(internal/reflectlite.Value).IsNil", "internal/reflectlite.TypeOf", "(internal/reflectlite.Value).Elem", "(internal/reflectlite.Value).Set"], unfollowed := true, recurses := true, named := ["bitloft/sha.firstWords", "errors.errorType"], apart := false, laid := [("bitloft/sha.firstWords", laid_bitloft_sha_firstWords), ("errors.errorType", laid_errors_errorType)], narrowed := true }
def MemberBackUptoSaid : Prop := memberBackUptoRow.holds Tryd.pinned (OpenSpec.upto memberBackSpec)

/-- 'bitloftlaw28.MemberRight', WHERE WHAT IT READS IS OF BULK AT MOST 1048576: true; the input reads as it did. -/
def memberRightUptoRow : OpenClaim := { program := "ytiihafhnaiicoaadoor", sum := "d65df8834433d37930797329ec3dda5981372f68a60b7312ef668cfa435d6806", func := "bitloft/bitloftlaw28.MemberRight", spec := "memberRight", named := ["bitloft/sha.firstWords"], apart := false, laid := [("bitloft/sha.firstWords", laid_bitloft_sha_firstWords)], narrowed := true }
def MemberRightUptoSaid : Prop := memberRightUptoRow.holds Tryd.pinned (OpenSpec.upto memberRightSpec)

end Rows
end Go.Proofs.YtiihafhnaiicoaaDoor
