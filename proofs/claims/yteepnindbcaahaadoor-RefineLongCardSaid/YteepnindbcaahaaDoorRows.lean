/-
  NARROWER THAN 'FOR EVERY INPUT', by the rows' own cells (each row's printed sentence says how): RefineDoes: laid · RefineNames: laid · RefineBetween: laid · RefineTowards: laid · RefineLong: laid.
  DERIVED. THE GIVEN ROWS OF THIS SEAT. 5 by the template 'for every input the law returns true; each argument reads behind the call as it read before'; 0 by the template 'total and deterministic' (their statements: YteepnindbcaahaaDoorTotals.lean).
  GIVEN WITH THE SEED: the statements are not yours to turn. If you find one false, say at which input.
  Laid BY PROGRAM, IN A SANDBOX (cutbox-rows.mjs): the forced cells as the released guide's own fill.sh prints them over the translation 2596d292298d08f3… (all of the seat's roots in one cut). By AI agents, Wed Nov 11 2026. No macro, syntax, notation, axiom, sorry.
-/
import Derived.Test.YteepnindbcaahaaDoorChecked
import GoSem.Claim
import GoSem.ClaimJoined
import GoSem.ClaimMapViews
import Derived.JoinedTies
import Derived.KernelRfl
namespace Go.Proofs.YteepnindbcaahaaDoor
/- THE CELL 'sum', in the pinned program and in every row, IS THE sha256 OF THE DUMP (.gsa) THAT YteepnindbcaahaaDoorProg.lean LOADS. Nothing in Lean hashes anything: it is a label: what it is worth is what the hold of that sum in a sandbox is worth. -/
noncomputable def Tryd.pinned : Pinned := { name := "yteepnindbcaahaadoor", sum := "2596d292298d08f317e7b4b1984ff2748fd1d691846c79322b1f5ce063254165", checked := Tryd.checked }
namespace Rows
def none {H : Type} : Left H := { results := [], args := [] }

/- WHAT THE LISTED PACKAGE-LEVEL VARIABLES READ AS WHEN THE CALL BEGINS. Each datum BY PROGRAM (the guide's laid-datum.mjs) off the statement by which the dump's own 'gosem.cut.vars' lays the variable. In a bare row this is a premise. The card (YteepnindbcaahaaDoorCards.lean) ties it to the program's text. -/
def laid_bitloft_squash_row {H : Type} : DataW H := .agg [.lit (.int .i32 1), .lit (.int .i32 2), .lit (.int .i32 3), .lit (.int .i32 6), .lit (.int .i32 10), .lit (.int .i32 16), .lit (.int .i32 27), .lit (.int .i32 45), .lit (.int .i32 73), .lit (.int .i32 120), .lit (.int .i32 194), .lit (.int .i32 310), .lit (.int .i32 488), .lit (.int .i32 747), .lit (.int .i32 1101), .lit (.int .i32 1546), .lit (.int .i32 2047), .lit (.int .i32 2549), .lit (.int .i32 2994), .lit (.int .i32 3348), .lit (.int .i32 3607), .lit (.int .i32 3785), .lit (.int .i32 3901), .lit (.int .i32 3975), .lit (.int .i32 4022), .lit (.int .i32 4050), .lit (.int .i32 4068), .lit (.int .i32 4079), .lit (.int .i32 4085), .lit (.int .i32 4089), .lit (.int .i32 4092), .lit (.int .i32 4093), .lit (.int .i32 4094)]

/-- 'bitloftlaw17.RefineDoes': WHATEVER THE INPUT: true; the input reads as it did. -/
def refineDoesSpec : ChangeSpec := { name := "refineDoes", fn := fun _ => fun
  | [d1, d2, d3, d4, d5, d6] => { results := [.lit (.bool true)], args := [d1, d2, d3, d4, d5, d6] }
  | _ => none }
def refineDoesRow : OpenClaim := { program := "yteepnindbcaahaadoor", sum := "2596d292298d08f317e7b4b1984ff2748fd1d691846c79322b1f5ce063254165", func := "bitloft/bitloftlaw17.RefineDoes", spec := "refineDoes", named := ["bitloft/squash.row"], apart := false, laid := [("bitloft/squash.row", laid_bitloft_squash_row)] }
def RefineDoesSaid : Prop := refineDoesRow.holds Tryd.pinned (OpenSpec.ofChange refineDoesSpec)

/-- ITS FALSE NEIGHBOUR: 'it returns false'. Refute it at one input. -/
def refineDoesWrong : ChangeSpec := { name := "refineDoes", fn := fun _ => fun
  | [d1, d2, d3, d4, d5, d6] => { results := [.lit (.bool false)], args := [d1, d2, d3, d4, d5, d6] }
  | _ => none }
def RefineDoesWrongFalsely : Prop := refineDoesRow.holds Tryd.pinned (OpenSpec.ofChange refineDoesWrong)

/-- 'bitloftlaw17.RefineNames': WHATEVER THE INPUT: true; the input reads as it did. -/
def refineNamesSpec : ChangeSpec := { name := "refineNames", fn := fun _ => fun
  | [] => { results := [.lit (.bool true)], args := [] }
  | _ => none }
def refineNamesRow : OpenClaim := { program := "yteepnindbcaahaadoor", sum := "2596d292298d08f317e7b4b1984ff2748fd1d691846c79322b1f5ce063254165", func := "bitloft/bitloftlaw17.RefineNames", spec := "refineNames", named := ["bitloft/squash.row"], apart := false, laid := [("bitloft/squash.row", laid_bitloft_squash_row)] }
def RefineNamesSaid : Prop := refineNamesRow.holds Tryd.pinned (OpenSpec.ofChange refineNamesSpec)

/-- ITS FALSE NEIGHBOUR: 'it returns false'. Refute it at one input. -/
def refineNamesWrong : ChangeSpec := { name := "refineNames", fn := fun _ => fun
  | [] => { results := [.lit (.bool false)], args := [] }
  | _ => none }
def RefineNamesWrongFalsely : Prop := refineNamesRow.holds Tryd.pinned (OpenSpec.ofChange refineNamesWrong)

/-- 'bitloftlaw17.RefineBetween': WHATEVER THE INPUT: true; the input reads as it did. -/
def refineBetweenSpec : ChangeSpec := { name := "refineBetween", fn := fun _ => fun
  | [d1, d2, d3, d4] => { results := [.lit (.bool true)], args := [d1, d2, d3, d4] }
  | _ => none }
def refineBetweenRow : OpenClaim := { program := "yteepnindbcaahaadoor", sum := "2596d292298d08f317e7b4b1984ff2748fd1d691846c79322b1f5ce063254165", func := "bitloft/bitloftlaw17.RefineBetween", spec := "refineBetween", named := ["bitloft/squash.row"], apart := false, laid := [("bitloft/squash.row", laid_bitloft_squash_row)] }
def RefineBetweenSaid : Prop := refineBetweenRow.holds Tryd.pinned (OpenSpec.ofChange refineBetweenSpec)

/-- ITS FALSE NEIGHBOUR: 'it returns false'. Refute it at one input. -/
def refineBetweenWrong : ChangeSpec := { name := "refineBetween", fn := fun _ => fun
  | [d1, d2, d3, d4] => { results := [.lit (.bool false)], args := [d1, d2, d3, d4] }
  | _ => none }
def RefineBetweenWrongFalsely : Prop := refineBetweenRow.holds Tryd.pinned (OpenSpec.ofChange refineBetweenWrong)

/-- 'bitloftlaw17.RefineTowards': WHATEVER THE INPUT: true; the input reads as it did. -/
def refineTowardsSpec : ChangeSpec := { name := "refineTowards", fn := fun _ => fun
  | [d1, d2, d3, d4] => { results := [.lit (.bool true)], args := [d1, d2, d3, d4] }
  | _ => none }
def refineTowardsRow : OpenClaim := { program := "yteepnindbcaahaadoor", sum := "2596d292298d08f317e7b4b1984ff2748fd1d691846c79322b1f5ce063254165", func := "bitloft/bitloftlaw17.RefineTowards", spec := "refineTowards", named := ["bitloft/squash.row"], apart := false, laid := [("bitloft/squash.row", laid_bitloft_squash_row)] }
def RefineTowardsSaid : Prop := refineTowardsRow.holds Tryd.pinned (OpenSpec.ofChange refineTowardsSpec)

/-- ITS FALSE NEIGHBOUR: 'it returns false'. Refute it at one input. -/
def refineTowardsWrong : ChangeSpec := { name := "refineTowards", fn := fun _ => fun
  | [d1, d2, d3, d4] => { results := [.lit (.bool false)], args := [d1, d2, d3, d4] }
  | _ => none }
def RefineTowardsWrongFalsely : Prop := refineTowardsRow.holds Tryd.pinned (OpenSpec.ofChange refineTowardsWrong)

/-- 'bitloftlaw17.RefineLong': WHATEVER THE INPUT: true; the input reads as it did. -/
def refineLongSpec : ChangeSpec := { name := "refineLong", fn := fun _ => fun
  | [d1, d2, d3, d4] => { results := [.lit (.bool true)], args := [d1, d2, d3, d4] }
  | _ => none }
def refineLongRow : OpenClaim := { program := "yteepnindbcaahaadoor", sum := "2596d292298d08f317e7b4b1984ff2748fd1d691846c79322b1f5ce063254165", func := "bitloft/bitloftlaw17.RefineLong", spec := "refineLong", named := ["bitloft/squash.row"], apart := false, laid := [("bitloft/squash.row", laid_bitloft_squash_row)] }
def RefineLongSaid : Prop := refineLongRow.holds Tryd.pinned (OpenSpec.ofChange refineLongSpec)

/-- ITS FALSE NEIGHBOUR: 'it returns false'. Refute it at one input. -/
def refineLongWrong : ChangeSpec := { name := "refineLong", fn := fun _ => fun
  | [d1, d2, d3, d4] => { results := [.lit (.bool false)], args := [d1, d2, d3, d4] }
  | _ => none }
def RefineLongWrongFalsely : Prop := refineLongRow.holds Tryd.pinned (OpenSpec.ofChange refineLongWrong)

/- THE SECOND FORM. 'bulk': how many values and letters a reading holds, each counted each time it is reached (what is shared counts as often as it is met; a slice's spare places count too). A statement '..UptoSaid' is the law's where the arguments, and the package variables that the reading takes, are together of bulk at most 1048576: NARROWER than '..Said'. Prove '..Said' where nothing that the law and all that it calls make is longer than what came in: it says more and counts as full. Else prove '..UptoSaid'. A law counts once. -/
mutual
def uptoBulk {H : Type} : DataW H → Nat
  | .lit (.string bytes) => bytes.length + 1
  | .lit _ => 1
  | .nil => 1
  | .ptr d => uptoBulk d + 1
  | .slice elems spare => uptoBulkAll elems + uptoBulkAll spare + 1
  | .agg parts => uptoBulkAll parts + 1
  | .iface _ d => uptoBulk d + 1
  | .map entries => uptoBulkEntries entries + 1
  | .held _ => 1
def uptoBulkAll {H : Type} : List (DataW H) → Nat
  | [] => 0
  | d :: r => uptoBulk d + uptoBulkAll r
def uptoBulkEntries {H : Type} : List (Lit × DataW H) → Nat
  | [] => 0
  | x :: r => uptoBulkEntry x + uptoBulkEntries r
def uptoBulkEntry {H : Type} : Lit × DataW H → Nat
  | (.string bytes, d) => bytes.length + uptoBulk d + 1
  | (_, d) => uptoBulk d + 1
 end
def uptoSmall : (H : Type) → List (DataW H) → Bool := fun _ ds => decide (uptoBulkAll ds ≤ 1048576)
def OpenSpec.upto (s : _root_.Go.ChangeSpec) : _root_.Go.OpenSpec := { _root_.Go.OpenSpec.ofChange s with cond := some uptoSmall }

/-- 'bitloftlaw17.RefineDoes', WHERE WHAT IT READS IS OF BULK AT MOST 1048576: true; the input reads as it did. -/
def refineDoesUptoRow : OpenClaim := { program := "yteepnindbcaahaadoor", sum := "2596d292298d08f317e7b4b1984ff2748fd1d691846c79322b1f5ce063254165", func := "bitloft/bitloftlaw17.RefineDoes", spec := "refineDoes", named := ["bitloft/squash.row"], apart := false, laid := [("bitloft/squash.row", laid_bitloft_squash_row)], narrowed := true }
def RefineDoesUptoSaid : Prop := refineDoesUptoRow.holds Tryd.pinned (OpenSpec.upto refineDoesSpec)

/-- 'bitloftlaw17.RefineNames', WHERE WHAT IT READS IS OF BULK AT MOST 1048576: true; the input reads as it did. -/
def refineNamesUptoRow : OpenClaim := { program := "yteepnindbcaahaadoor", sum := "2596d292298d08f317e7b4b1984ff2748fd1d691846c79322b1f5ce063254165", func := "bitloft/bitloftlaw17.RefineNames", spec := "refineNames", named := ["bitloft/squash.row"], apart := false, laid := [("bitloft/squash.row", laid_bitloft_squash_row)], narrowed := true }
def RefineNamesUptoSaid : Prop := refineNamesUptoRow.holds Tryd.pinned (OpenSpec.upto refineNamesSpec)

/-- 'bitloftlaw17.RefineBetween', WHERE WHAT IT READS IS OF BULK AT MOST 1048576: true; the input reads as it did. -/
def refineBetweenUptoRow : OpenClaim := { program := "yteepnindbcaahaadoor", sum := "2596d292298d08f317e7b4b1984ff2748fd1d691846c79322b1f5ce063254165", func := "bitloft/bitloftlaw17.RefineBetween", spec := "refineBetween", named := ["bitloft/squash.row"], apart := false, laid := [("bitloft/squash.row", laid_bitloft_squash_row)], narrowed := true }
def RefineBetweenUptoSaid : Prop := refineBetweenUptoRow.holds Tryd.pinned (OpenSpec.upto refineBetweenSpec)

/-- 'bitloftlaw17.RefineTowards', WHERE WHAT IT READS IS OF BULK AT MOST 1048576: true; the input reads as it did. -/
def refineTowardsUptoRow : OpenClaim := { program := "yteepnindbcaahaadoor", sum := "2596d292298d08f317e7b4b1984ff2748fd1d691846c79322b1f5ce063254165", func := "bitloft/bitloftlaw17.RefineTowards", spec := "refineTowards", named := ["bitloft/squash.row"], apart := false, laid := [("bitloft/squash.row", laid_bitloft_squash_row)], narrowed := true }
def RefineTowardsUptoSaid : Prop := refineTowardsUptoRow.holds Tryd.pinned (OpenSpec.upto refineTowardsSpec)

/-- 'bitloftlaw17.RefineLong', WHERE WHAT IT READS IS OF BULK AT MOST 1048576: true; the input reads as it did. -/
def refineLongUptoRow : OpenClaim := { program := "yteepnindbcaahaadoor", sum := "2596d292298d08f317e7b4b1984ff2748fd1d691846c79322b1f5ce063254165", func := "bitloft/bitloftlaw17.RefineLong", spec := "refineLong", named := ["bitloft/squash.row"], apart := false, laid := [("bitloft/squash.row", laid_bitloft_squash_row)], narrowed := true }
def RefineLongUptoSaid : Prop := refineLongUptoRow.holds Tryd.pinned (OpenSpec.upto refineLongSpec)

end Rows
end Go.Proofs.YteepnindbcaahaaDoor
