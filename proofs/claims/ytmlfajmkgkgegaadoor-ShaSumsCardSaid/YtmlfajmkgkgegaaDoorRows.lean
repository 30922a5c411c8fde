/-
  NARROWER THAN 'FOR EVERY INPUT', by the rows' own cells (each row's printed sentence says how): ShaNames: laid · ShaSums: laid · ShaPieces: laid · ShaDone: laid · ShaPads: laid.
  DERIVED. THE GIVEN ROWS OF THIS SEAT. 5 by the template 'for every input the law returns true; each argument reads behind the call as it read before'; 0 by the template 'total and deterministic' (their statements: YtmlfajmkgkgegaaDoorTotals.lean).
  GIVEN WITH THE SEED: the statements are not yours to turn. If you find one false, say at which input.
  Laid BY PROGRAM, IN A SANDBOX (cutbox-rows.mjs): the forced cells as the released guide's own fill.sh prints them over the translation 3e70062fdc412844… (all of the seat's roots in one cut). By AI agents, Wed Nov 11 2026. No macro, syntax, notation, axiom, sorry.
-/
import Derived.Test.YtmlfajmkgkgegaaDoorChecked
import GoSem.Claim
import GoSem.ClaimJoined
import GoSem.ClaimMapViews
import Derived.JoinedTies
import Derived.KernelRfl
namespace Go.Proofs.YtmlfajmkgkgegaaDoor
/- THE CELL 'sum', in the pinned program and in every row, IS THE sha256 OF THE DUMP (.gsa) THAT YtmlfajmkgkgegaaDoorProg.lean LOADS. Nothing in Lean hashes anything: it is a label: what it is worth is what the hold of that sum in a sandbox is worth. -/
noncomputable def Tryd.pinned : Pinned := { name := "ytmlfajmkgkgegaadoor", sum := "3e70062fdc41284435b80c038b49e670693682d848ffad4c49ab5fc4afd59362", checked := Tryd.checked }
namespace Rows
def none {H : Type} : Left H := { results := [], args := [] }

/- WHAT THE LISTED PACKAGE-LEVEL VARIABLES READ AS WHEN THE CALL BEGINS. Each datum BY PROGRAM (the guide's laid-datum.mjs) off the statement by which the dump's own 'gosem.cut.vars' lays the variable. In a bare row this is a premise. The card (YtmlfajmkgkgegaaDoorCards.lean) ties it to the program's text. -/
def laid_bitloft_sha_firstWords {H : Type} : DataW H := .agg [.lit (.int .u32 1732584193), .lit (.int .u32 4023233417), .lit (.int .u32 2562383102), .lit (.int .u32 271733878), .lit (.int .u32 3285377520)]

/-- 'bitloftlaw01.ShaNames': WHATEVER THE INPUT: true; the input reads as it did. -/
def shaNamesSpec : ChangeSpec := { name := "shaNames", fn := fun _ => fun
  | [] => { results := [.lit (.bool true)], args := [] }
  | _ => none }
def shaNamesRow : OpenClaim := { program := "ytmlfajmkgkgegaadoor", sum := "3e70062fdc41284435b80c038b49e670693682d848ffad4c49ab5fc4afd59362", func := "bitloft/bitloftlaw01.ShaNames", spec := "shaNames", named := ["bitloft/sha.firstWords"], apart := false, laid := [("bitloft/sha.firstWords", laid_bitloft_sha_firstWords)] }
def ShaNamesSaid : Prop := shaNamesRow.holds Tryd.pinned (OpenSpec.ofChange shaNamesSpec)

/-- ITS FALSE NEIGHBOUR: 'it returns false'. Refute it at one input. -/
def shaNamesWrong : ChangeSpec := { name := "shaNames", fn := fun _ => fun
  | [] => { results := [.lit (.bool false)], args := [] }
  | _ => none }
def ShaNamesWrongFalsely : Prop := shaNamesRow.holds Tryd.pinned (OpenSpec.ofChange shaNamesWrong)

/-- 'bitloftlaw01.ShaSums': WHATEVER THE INPUT: true; the input reads as it did. -/
def shaSumsSpec : ChangeSpec := { name := "shaSums", fn := fun _ => fun
  | [d] => { results := [.lit (.bool true)], args := [d] }
  | _ => none }
def shaSumsRow : OpenClaim := { program := "ytmlfajmkgkgegaadoor", sum := "3e70062fdc41284435b80c038b49e670693682d848ffad4c49ab5fc4afd59362", func := "bitloft/bitloftlaw01.ShaSums", spec := "shaSums", named := ["bitloft/sha.firstWords"], apart := false, laid := [("bitloft/sha.firstWords", laid_bitloft_sha_firstWords)] }
def ShaSumsSaid : Prop := shaSumsRow.holds Tryd.pinned (OpenSpec.ofChange shaSumsSpec)

/-- ITS FALSE NEIGHBOUR: 'it returns false'. Refute it at one input. -/
def shaSumsWrong : ChangeSpec := { name := "shaSums", fn := fun _ => fun
  | [d] => { results := [.lit (.bool false)], args := [d] }
  | _ => none }
def ShaSumsWrongFalsely : Prop := shaSumsRow.holds Tryd.pinned (OpenSpec.ofChange shaSumsWrong)

/-- 'bitloftlaw01.ShaPieces': WHATEVER THE INPUT: true; the input reads as it did. -/
def shaPiecesSpec : ChangeSpec := { name := "shaPieces", fn := fun _ => fun
  | [d1, d2] => { results := [.lit (.bool true)], args := [d1, d2] }
  | _ => none }
def shaPiecesRow : OpenClaim := { program := "ytmlfajmkgkgegaadoor", sum := "3e70062fdc41284435b80c038b49e670693682d848ffad4c49ab5fc4afd59362", func := "bitloft/bitloftlaw01.ShaPieces", spec := "shaPieces", named := ["bitloft/sha.firstWords"], apart := false, laid := [("bitloft/sha.firstWords", laid_bitloft_sha_firstWords)] }
def ShaPiecesSaid : Prop := shaPiecesRow.holds Tryd.pinned (OpenSpec.ofChange shaPiecesSpec)

/-- ITS FALSE NEIGHBOUR: 'it returns false'. Refute it at one input. -/
def shaPiecesWrong : ChangeSpec := { name := "shaPieces", fn := fun _ => fun
  | [d1, d2] => { results := [.lit (.bool false)], args := [d1, d2] }
  | _ => none }
def ShaPiecesWrongFalsely : Prop := shaPiecesRow.holds Tryd.pinned (OpenSpec.ofChange shaPiecesWrong)

/-- 'bitloftlaw01.ShaDone': WHATEVER THE INPUT: true; the input reads as it did. -/
def shaDoneSpec : ChangeSpec := { name := "shaDone", fn := fun _ => fun
  | [d] => { results := [.lit (.bool true)], args := [d] }
  | _ => none }
def shaDoneRow : OpenClaim := { program := "ytmlfajmkgkgegaadoor", sum := "3e70062fdc41284435b80c038b49e670693682d848ffad4c49ab5fc4afd59362", func := "bitloft/bitloftlaw01.ShaDone", spec := "shaDone", named := ["bitloft/sha.firstWords"], apart := false, laid := [("bitloft/sha.firstWords", laid_bitloft_sha_firstWords)] }
def ShaDoneSaid : Prop := shaDoneRow.holds Tryd.pinned (OpenSpec.ofChange shaDoneSpec)

/-- ITS FALSE NEIGHBOUR: 'it returns false'. Refute it at one input. -/
def shaDoneWrong : ChangeSpec := { name := "shaDone", fn := fun _ => fun
  | [d] => { results := [.lit (.bool false)], args := [d] }
  | _ => none }
def ShaDoneWrongFalsely : Prop := shaDoneRow.holds Tryd.pinned (OpenSpec.ofChange shaDoneWrong)

/-- 'bitloftlaw01.ShaPads': WHATEVER THE INPUT: true; the input reads as it did. -/
def shaPadsSpec : ChangeSpec := { name := "shaPads", fn := fun _ => fun
  | [d] => { results := [.lit (.bool true)], args := [d] }
  | _ => none }
def shaPadsRow : OpenClaim := { program := "ytmlfajmkgkgegaadoor", sum := "3e70062fdc41284435b80c038b49e670693682d848ffad4c49ab5fc4afd59362", func := "bitloft/bitloftlaw01.ShaPads", spec := "shaPads", named := ["bitloft/sha.firstWords"], apart := false, laid := [("bitloft/sha.firstWords", laid_bitloft_sha_firstWords)] }
def ShaPadsSaid : Prop := shaPadsRow.holds Tryd.pinned (OpenSpec.ofChange shaPadsSpec)

/-- ITS FALSE NEIGHBOUR: 'it returns false'. Refute it at one input. -/
def shaPadsWrong : ChangeSpec := { name := "shaPads", fn := fun _ => fun
  | [d] => { results := [.lit (.bool false)], args := [d] }
  | _ => none }
def ShaPadsWrongFalsely : Prop := shaPadsRow.holds Tryd.pinned (OpenSpec.ofChange shaPadsWrong)

/- THE SECOND FORM. 'bulk': how many values and letters a reading holds, each counted each time it is reached (what is shared counts as often as it is met; a slice's spare places count too). A statement '..UptoSaid' is the law's where the arguments, and the package variables that the reading takes, are together of bulk at most 1048576: NARROWER than '..Said'. Prove '..Said' where nothing that the law and all that it calls make is longer than what came in: it says more and counts as full. Else prove '..UptoSaid'. A law counts once. -/
mutual
def uptoBulk {H : Type} : DataW H → Nat
  | .lit (.string bytes) => bytes.length + 1
  | .lit _ => 1
  | .nil => 1
  | .ptr d => uptoBulk d + 1
  | .slice elems spare => uptoBulkAll elems + uptoBulkAll spare + 1
  | .agg parts => uptoBulkAll parts + 1
  | .iface _ d => uptoBulk d + 1
  | .map entries => uptoBulkEntries entries + 1
  | .held _ => 1
def uptoBulkAll {H : Type} : List (DataW H) → Nat
  | [] => 0
  | d :: r => uptoBulk d + uptoBulkAll r
def uptoBulkEntries {H : Type} : List (Lit × DataW H) → Nat
  | [] => 0
  | x :: r => uptoBulkEntry x + uptoBulkEntries r
def uptoBulkEntry {H : Type} : Lit × DataW H → Nat
  | (.string bytes, d) => bytes.length + uptoBulk d + 1
  | (_, d) => uptoBulk d + 1
 end
def uptoSmall : (H : Type) → List (DataW H) → Bool := fun _ ds => decide (uptoBulkAll ds ≤ 1048576)
def OpenSpec.upto (s : _root_.Go.ChangeSpec) : _root_.Go.OpenSpec := { _root_.Go.OpenSpec.ofChange s with cond := some uptoSmall }

/-- 'bitloftlaw01.ShaNames', WHERE WHAT IT READS IS OF BULK AT MOST 1048576: true; the input reads as it did. -/
def shaNamesUptoRow : OpenClaim := { program := "ytmlfajmkgkgegaadoor", sum := "3e70062fdc41284435b80c038b49e670693682d848ffad4c49ab5fc4afd59362", func := "bitloft/bitloftlaw01.ShaNames", spec := "shaNames", named := ["bitloft/sha.firstWords"], apart := false, laid := [("bitloft/sha.firstWords", laid_bitloft_sha_firstWords)], narrowed := true }
def ShaNamesUptoSaid : Prop := shaNamesUptoRow.holds Tryd.pinned (OpenSpec.upto shaNamesSpec)

/-- 'bitloftlaw01.ShaSums', WHERE WHAT IT READS IS OF BULK AT MOST 1048576: true; the input reads as it did. -/
def shaSumsUptoRow : OpenClaim := { program := "ytmlfajmkgkgegaadoor", sum := "3e70062fdc41284435b80c038b49e670693682d848ffad4c49ab5fc4afd59362", func := "bitloft/bitloftlaw01.ShaSums", spec := "shaSums", named := ["bitloft/sha.firstWords"], apart := false, laid := [("bitloft/sha.firstWords", laid_bitloft_sha_firstWords)], narrowed := true }
def ShaSumsUptoSaid : Prop := shaSumsUptoRow.holds Tryd.pinned (OpenSpec.upto shaSumsSpec)

/-- 'bitloftlaw01.ShaPieces', WHERE WHAT IT READS IS OF BULK AT MOST 1048576: true; the input reads as it did. -/
def shaPiecesUptoRow : OpenClaim := { program := "ytmlfajmkgkgegaadoor", sum := "3e70062fdc41284435b80c038b49e670693682d848ffad4c49ab5fc4afd59362", func := "bitloft/bitloftlaw01.ShaPieces", spec := "shaPieces", named := ["bitloft/sha.firstWords"], apart := false, laid := [("bitloft/sha.firstWords", laid_bitloft_sha_firstWords)], narrowed := true }
def ShaPiecesUptoSaid : Prop := shaPiecesUptoRow.holds Tryd.pinned (OpenSpec.upto shaPiecesSpec)

/-- 'bitloftlaw01.ShaDone', WHERE WHAT IT READS IS OF BULK AT MOST 1048576: true; the input reads as it did. -/
def shaDoneUptoRow : OpenClaim := { program := "ytmlfajmkgkgegaadoor", sum := "3e70062fdc41284435b80c038b49e670693682d848ffad4c49ab5fc4afd59362", func := "bitloft/bitloftlaw01.ShaDone", spec := "shaDone", named := ["bitloft/sha.firstWords"], apart := false, laid := [("bitloft/sha.firstWords", laid_bitloft_sha_firstWords)], narrowed := true }
def ShaDoneUptoSaid : Prop := shaDoneUptoRow.holds Tryd.pinned (OpenSpec.upto shaDoneSpec)

/-- 'bitloftlaw01.ShaPads', WHERE WHAT IT READS IS OF BULK AT MOST 1048576: true; the input reads as it did. -/
def shaPadsUptoRow : OpenClaim := { program := "ytmlfajmkgkgegaadoor", sum := "3e70062fdc41284435b80c038b49e670693682d848ffad4c49ab5fc4afd59362", func := "bitloft/bitloftlaw01.ShaPads", spec := "shaPads", named := ["bitloft/sha.firstWords"], apart := false, laid := [("bitloft/sha.firstWords", laid_bitloft_sha_firstWords)], narrowed := true }
def ShaPadsUptoSaid : Prop := shaPadsUptoRow.holds Tryd.pinned (OpenSpec.upto shaPadsSpec)

end Rows
end Go.Proofs.YtmlfajmkgkgegaaDoor
