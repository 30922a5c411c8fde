/-
  NARROWER THAN 'FOR EVERY INPUT', by the rows' own cells (each row's printed sentence says how): HeaderWrites: laid · HeaderSeals: laid · HeaderNames: laid · HeaderOne: laid · HeaderSealed: laid · HeaderDiffer: laid.
  DERIVED. THE GIVEN ROWS OF THIS SEAT. 6 by the template 'for every input the law returns true; each argument reads behind the call as it read before'; 0 by the template 'total and deterministic' (their statements: YteofindkccndjaaDoorTotals.lean).
  GIVEN WITH THE SEED: the statements are not yours to turn. If you find one false, say at which input.
  Laid BY PROGRAM, IN A SANDBOX (cutbox-rows.mjs): the forced cells as the released guide's own fill.sh prints them over the translation c8397d3073c6b5d1… (all of the seat's roots in one cut). By AI agents, Wed Nov 11 2026. No macro, syntax, notation, axiom, sorry.
-/
import Derived.Test.YteofindkccndjaaDoorChecked
import GoSem.Claim
import GoSem.ClaimJoined
import GoSem.ClaimMapViews
import Derived.JoinedTies
import Derived.KernelRfl
namespace Go.Proofs.YteofindkccndjaaDoor
/- THE CELL 'sum', in the pinned program and in every row, IS THE sha256 OF THE DUMP (.gsa) THAT YteofindkccndjaaDoorProg.lean LOADS. Nothing in Lean hashes anything: it is a label: what it is worth is what the hold of that sum in a sandbox is worth. -/
noncomputable def Tryd.pinned : Pinned := { name := "yteofindkccndjaadoor", sum := "c8397d3073c6b5d101b31a4200f040bc60c38bd874c08711fbbf653956eb9192", checked := Tryd.checked }
namespace Rows
def none {H : Type} : Left H := { results := [], args := [] }

/- WHAT THE LISTED PACKAGE-LEVEL VARIABLES READ AS WHEN THE CALL BEGINS. Each datum BY PROGRAM (the guide's laid-datum.mjs) off the statement by which the dump's own 'gosem.cut.vars' lays the variable. In a bare row this is a premise. The card (YteofindkccndjaaDoorCards.lean) ties it to the program's text. -/
def laid_bitloft_header_parts {H : Type} : DataW H := .agg [.agg [.lit (.int .i64 0), .lit (.int .i64 1)], .agg [.lit (.int .i64 1), .lit (.int .i64 1)], .agg [.lit (.int .i64 2), .lit (.int .i64 2)], .agg [.lit (.int .i64 4), .lit (.int .i64 2)], .agg [.lit (.int .i64 6), .lit (.int .i64 2)]]
def laid_bitloft_sha_firstWords {H : Type} : DataW H := .agg [.lit (.int .u32 1732584193), .lit (.int .u32 4023233417), .lit (.int .u32 2562383102), .lit (.int .u32 271733878), .lit (.int .u32 3285377520)]

/-- 'bitloftlaw26.HeaderWrites': WHATEVER THE INPUT: true; the input reads as it did. -/
def headerWritesSpec : ChangeSpec := { name := "headerWrites", fn := fun _ => fun
  | [d1, d2] => { results := [.lit (.bool true)], args := [d1, d2] }
  | _ => none }
def headerWritesRow : OpenClaim := { program := "yteofindkccndjaadoor", sum := "c8397d3073c6b5d101b31a4200f040bc60c38bd874c08711fbbf653956eb9192", func := "bitloft/bitloftlaw26.HeaderWrites", spec := "headerWrites", named := ["bitloft/header.parts"], apart := false, laid := [("bitloft/header.parts", laid_bitloft_header_parts)] }
def HeaderWritesSaid : Prop := headerWritesRow.holds Tryd.pinned (OpenSpec.ofChange headerWritesSpec)

/-- ITS FALSE NEIGHBOUR: 'it returns false'. Refute it at one input. -/
def headerWritesWrong : ChangeSpec := { name := "headerWrites", fn := fun _ => fun
  | [d1, d2] => { results := [.lit (.bool false)], args := [d1, d2] }
  | _ => none }
def HeaderWritesWrongFalsely : Prop := headerWritesRow.holds Tryd.pinned (OpenSpec.ofChange headerWritesWrong)

/-- 'bitloftlaw26.HeaderSeals': WHATEVER THE INPUT: true; the input reads as it did. -/
def headerSealsSpec : ChangeSpec := { name := "headerSeals", fn := fun _ => fun
  | [d1, d2] => { results := [.lit (.bool true)], args := [d1, d2] }
  | _ => none }
def headerSealsRow : OpenClaim := { program := "yteofindkccndjaadoor", sum := "c8397d3073c6b5d101b31a4200f040bc60c38bd874c08711fbbf653956eb9192", func := "bitloft/bitloftlaw26.HeaderSeals", spec := "headerSeals", named := ["bitloft/header.parts", "bitloft/sha.firstWords"], apart := false, laid := [("bitloft/sha.firstWords", laid_bitloft_sha_firstWords), ("bitloft/header.parts", laid_bitloft_header_parts)] }
def HeaderSealsSaid : Prop := headerSealsRow.holds Tryd.pinned (OpenSpec.ofChange headerSealsSpec)

/-- ITS FALSE NEIGHBOUR: 'it returns false'. Refute it at one input. -/
def headerSealsWrong : ChangeSpec := { name := "headerSeals", fn := fun _ => fun
  | [d1, d2] => { results := [.lit (.bool false)], args := [d1, d2] }
  | _ => none }
def HeaderSealsWrongFalsely : Prop := headerSealsRow.holds Tryd.pinned (OpenSpec.ofChange headerSealsWrong)

/-- 'bitloftlaw26.HeaderNames': WHATEVER THE INPUT: true; the input reads as it did. -/
def headerNamesSpec : ChangeSpec := { name := "headerNames", fn := fun _ => fun
  | [] => { results := [.lit (.bool true)], args := [] }
  | _ => none }
def headerNamesRow : OpenClaim := { program := "yteofindkccndjaadoor", sum := "c8397d3073c6b5d101b31a4200f040bc60c38bd874c08711fbbf653956eb9192", func := "bitloft/bitloftlaw26.HeaderNames", spec := "headerNames", named := ["bitloft/header.parts", "bitloft/sha.firstWords"], apart := false, laid := [("bitloft/sha.firstWords", laid_bitloft_sha_firstWords), ("bitloft/header.parts", laid_bitloft_header_parts)] }
def HeaderNamesSaid : Prop := headerNamesRow.holds Tryd.pinned (OpenSpec.ofChange headerNamesSpec)

/-- ITS FALSE NEIGHBOUR: 'it returns false'. Refute it at one input. -/
def headerNamesWrong : ChangeSpec := { name := "headerNames", fn := fun _ => fun
  | [] => { results := [.lit (.bool false)], args := [] }
  | _ => none }
def HeaderNamesWrongFalsely : Prop := headerNamesRow.holds Tryd.pinned (OpenSpec.ofChange headerNamesWrong)

/-- 'bitloftlaw26.HeaderOne': WHATEVER THE INPUT: true; the input reads as it did. -/
def headerOneSpec : ChangeSpec := { name := "headerOne", fn := fun _ => fun
  | [d1, d2] => { results := [.lit (.bool true)], args := [d1, d2] }
  | _ => none }
def headerOneRow : OpenClaim := { program := "yteofindkccndjaadoor", sum := "c8397d3073c6b5d101b31a4200f040bc60c38bd874c08711fbbf653956eb9192", func := "bitloft/bitloftlaw26.HeaderOne", spec := "headerOne", named := ["bitloft/header.parts"], apart := false, laid := [("bitloft/header.parts", laid_bitloft_header_parts)] }
def HeaderOneSaid : Prop := headerOneRow.holds Tryd.pinned (OpenSpec.ofChange headerOneSpec)

/-- ITS FALSE NEIGHBOUR: 'it returns false'. Refute it at one input. -/
def headerOneWrong : ChangeSpec := { name := "headerOne", fn := fun _ => fun
  | [d1, d2] => { results := [.lit (.bool false)], args := [d1, d2] }
  | _ => none }
def HeaderOneWrongFalsely : Prop := headerOneRow.holds Tryd.pinned (OpenSpec.ofChange headerOneWrong)

/-- 'bitloftlaw26.HeaderSealed': WHATEVER THE INPUT: true; the input reads as it did. -/
def headerSealedSpec : ChangeSpec := { name := "headerSealed", fn := fun _ => fun
  | [d1, d2, d3] => { results := [.lit (.bool true)], args := [d1, d2, d3] }
  | _ => none }
def headerSealedRow : OpenClaim := { program := "yteofindkccndjaadoor", sum := "c8397d3073c6b5d101b31a4200f040bc60c38bd874c08711fbbf653956eb9192", func := "bitloft/bitloftlaw26.HeaderSealed", spec := "headerSealed", named := ["bitloft/header.parts", "bitloft/sha.firstWords"], apart := false, laid := [("bitloft/sha.firstWords", laid_bitloft_sha_firstWords), ("bitloft/header.parts", laid_bitloft_header_parts)] }
def HeaderSealedSaid : Prop := headerSealedRow.holds Tryd.pinned (OpenSpec.ofChange headerSealedSpec)

/-- ITS FALSE NEIGHBOUR: 'it returns false'. Refute it at one input. -/
def headerSealedWrong : ChangeSpec := { name := "headerSealed", fn := fun _ => fun
  | [d1, d2, d3] => { results := [.lit (.bool false)], args := [d1, d2, d3] }
  | _ => none }
def HeaderSealedWrongFalsely : Prop := headerSealedRow.holds Tryd.pinned (OpenSpec.ofChange headerSealedWrong)

/-- 'bitloftlaw26.HeaderDiffer': WHATEVER THE INPUT: true; the input reads as it did. -/
def headerDifferSpec : ChangeSpec := { name := "headerDiffer", fn := fun _ => fun
  | [d1, d2] => { results := [.lit (.bool true)], args := [d1, d2] }
  | _ => none }
def headerDifferRow : OpenClaim := { program := "yteofindkccndjaadoor", sum := "c8397d3073c6b5d101b31a4200f040bc60c38bd874c08711fbbf653956eb9192", func := "bitloft/bitloftlaw26.HeaderDiffer", spec := "headerDiffer", named := ["bitloft/header.parts"], apart := false, laid := [("bitloft/header.parts", laid_bitloft_header_parts)] }
def HeaderDifferSaid : Prop := headerDifferRow.holds Tryd.pinned (OpenSpec.ofChange headerDifferSpec)

/-- ITS FALSE NEIGHBOUR: 'it returns false'. Refute it at one input. -/
def headerDifferWrong : ChangeSpec := { name := "headerDiffer", fn := fun _ => fun
  | [d1, d2] => { results := [.lit (.bool false)], args := [d1, d2] }
  | _ => none }
def HeaderDifferWrongFalsely : Prop := headerDifferRow.holds Tryd.pinned (OpenSpec.ofChange headerDifferWrong)

/- THE SECOND FORM. 'bulk': how many values and letters a reading holds, each counted each time it is reached (what is shared counts as often as it is met; a slice's spare places count too). A statement '..UptoSaid' is the law's where the arguments, and the package variables that the reading takes, are together of bulk at most 1048576: NARROWER than '..Said'. Prove '..Said' where nothing that the law and all that it calls make is longer than what came in: it says more and counts as full. Else prove '..UptoSaid'. A law counts once. -/
mutual
def uptoBulk {H : Type} : DataW H → Nat
  | .lit (.string bytes) => bytes.length + 1
  | .lit _ => 1
  | .nil => 1
  | .ptr d => uptoBulk d + 1
  | .slice elems spare => uptoBulkAll elems + uptoBulkAll spare + 1
  | .agg parts => uptoBulkAll parts + 1
  | .iface _ d => uptoBulk d + 1
  | .map entries => uptoBulkEntries entries + 1
  | .held _ => 1
def uptoBulkAll {H : Type} : List (DataW H) → Nat
  | [] => 0
  | d :: r => uptoBulk d + uptoBulkAll r
def uptoBulkEntries {H : Type} : List (Lit × DataW H) → Nat
  | [] => 0
  | x :: r => uptoBulkEntry x + uptoBulkEntries r
def uptoBulkEntry {H : Type} : Lit × DataW H → Nat
  | (.string bytes, d) => bytes.length + uptoBulk d + 1
  | (_, d) => uptoBulk d + 1
 end
def uptoSmall : (H : Type) → List (DataW H) → Bool := fun _ ds => decide (uptoBulkAll ds ≤ 1048576)
def OpenSpec.upto (s : _root_.Go.ChangeSpec) : _root_.Go.OpenSpec := { _root_.Go.OpenSpec.ofChange s with cond := some uptoSmall }

/-- 'bitloftlaw26.HeaderWrites', WHERE WHAT IT READS IS OF BULK AT MOST 1048576: true; the input reads as it did. -/
def headerWritesUptoRow : OpenClaim := { program := "yteofindkccndjaadoor", sum := "c8397d3073c6b5d101b31a4200f040bc60c38bd874c08711fbbf653956eb9192", func := "bitloft/bitloftlaw26.HeaderWrites", spec := "headerWrites", named := ["bitloft/header.parts"], apart := false, laid := [("bitloft/header.parts", laid_bitloft_header_parts)], narrowed := true }
def HeaderWritesUptoSaid : Prop := headerWritesUptoRow.holds Tryd.pinned (OpenSpec.upto headerWritesSpec)

/-- 'bitloftlaw26.HeaderSeals', WHERE WHAT IT READS IS OF BULK AT MOST 1048576: true; the input reads as it did. -/
def headerSealsUptoRow : OpenClaim := { program := "yteofindkccndjaadoor", sum := "c8397d3073c6b5d101b31a4200f040bc60c38bd874c08711fbbf653956eb9192", func := "bitloft/bitloftlaw26.HeaderSeals", spec := "headerSeals", named := ["bitloft/header.parts", "bitloft/sha.firstWords"], apart := false, laid := [("bitloft/sha.firstWords", laid_bitloft_sha_firstWords), ("bitloft/header.parts", laid_bitloft_header_parts)], narrowed := true }
def HeaderSealsUptoSaid : Prop := headerSealsUptoRow.holds Tryd.pinned (OpenSpec.upto headerSealsSpec)

/-- 'bitloftlaw26.HeaderNames', WHERE WHAT IT READS IS OF BULK AT MOST 1048576: true; the input reads as it did. -/
def headerNamesUptoRow : OpenClaim := { program := "yteofindkccndjaadoor", sum := "c8397d3073c6b5d101b31a4200f040bc60c38bd874c08711fbbf653956eb9192", func := "bitloft/bitloftlaw26.HeaderNames", spec := "headerNames", named := ["bitloft/header.parts", "bitloft/sha.firstWords"], apart := false, laid := [("bitloft/sha.firstWords", laid_bitloft_sha_firstWords), ("bitloft/header.parts", laid_bitloft_header_parts)], narrowed := true }
def HeaderNamesUptoSaid : Prop := headerNamesUptoRow.holds Tryd.pinned (OpenSpec.upto headerNamesSpec)

/-- 'bitloftlaw26.HeaderOne', WHERE WHAT IT READS IS OF BULK AT MOST 1048576: true; the input reads as it did. -/
def headerOneUptoRow : OpenClaim := { program := "yteofindkccndjaadoor", sum := "c8397d3073c6b5d101b31a4200f040bc60c38bd874c08711fbbf653956eb9192", func := "bitloft/bitloftlaw26.HeaderOne", spec := "headerOne", named := ["bitloft/header.parts"], apart := false, laid := [("bitloft/header.parts", laid_bitloft_header_parts)], narrowed := true }
def HeaderOneUptoSaid : Prop := headerOneUptoRow.holds Tryd.pinned (OpenSpec.upto headerOneSpec)

/-- 'bitloftlaw26.HeaderSealed', WHERE WHAT IT READS IS OF BULK AT MOST 1048576: true; the input reads as it did. -/
def headerSealedUptoRow : OpenClaim := { program := "yteofindkccndjaadoor", sum := "c8397d3073c6b5d101b31a4200f040bc60c38bd874c08711fbbf653956eb9192", func := "bitloft/bitloftlaw26.HeaderSealed", spec := "headerSealed", named := ["bitloft/header.parts", "bitloft/sha.firstWords"], apart := false, laid := [("bitloft/sha.firstWords", laid_bitloft_sha_firstWords), ("bitloft/header.parts", laid_bitloft_header_parts)], narrowed := true }
def HeaderSealedUptoSaid : Prop := headerSealedUptoRow.holds Tryd.pinned (OpenSpec.upto headerSealedSpec)

/-- 'bitloftlaw26.HeaderDiffer', WHERE WHAT IT READS IS OF BULK AT MOST 1048576: true; the input reads as it did. -/
def headerDifferUptoRow : OpenClaim := { program := "yteofindkccndjaadoor", sum := "c8397d3073c6b5d101b31a4200f040bc60c38bd874c08711fbbf653956eb9192", func := "bitloft/bitloftlaw26.HeaderDiffer", spec := "headerDiffer", named := ["bitloft/header.parts"], apart := false, laid := [("bitloft/header.parts", laid_bitloft_header_parts)], narrowed := true }
def HeaderDifferUptoSaid : Prop := headerDifferUptoRow.holds Tryd.pinned (OpenSpec.upto headerDifferSpec)

end Rows
end Go.Proofs.YteofindkccndjaaDoor
