/-
  NARROWER THAN 'FOR EVERY INPUT', by the rows' own cells (each row's printed sentence says how): TreeRoots: laid · TreeProofs: laid · TreeNames: laid · TreeShows: laid · TreeHalves: laid · TreeWays: laid.
  DERIVED. THE GIVEN ROWS OF THIS SEAT. 6 by the template 'for every input the law returns true; each argument reads behind the call as it read before'; 0 by the template 'total and deterministic' (their statements: YtjdgobfjpjnhgaaDoorTotals.lean).
  GIVEN WITH THE SEED: the statements are not yours to turn. If you find one false, say at which input.
  Laid BY PROGRAM, IN A SANDBOX (cutbox-rows.mjs): the forced cells as the released guide's own fill.sh prints them over the translation 32a877ea76b1fb2e… (all of the seat's roots in one cut). By AI agents, Wed Nov 11 2026. No macro, syntax, notation, axiom, sorry.
-/
import Derived.Test.YtjdgobfjpjnhgaaDoorChecked
import GoSem.Claim
import GoSem.ClaimJoined
import GoSem.ClaimMapViews
import Derived.JoinedTies
import Derived.KernelRfl
namespace Go.Proofs.YtjdgobfjpjnhgaaDoor
/- THE CELL 'sum', in the pinned program and in every row, IS THE sha256 OF THE DUMP (.gsa) THAT YtjdgobfjpjnhgaaDoorProg.lean LOADS. Nothing in Lean hashes anything: it is a label: what it is worth is what the hold of that sum in a sandbox is worth. -/
noncomputable def Tryd.pinned : Pinned := { name := "ytjdgobfjpjnhgaadoor", sum := "32a877ea76b1fb2e8952f25fb9d917a1cbd9a926ea108603c0f3994eebff54ba", checked := Tryd.checked }
namespace Rows
def none {H : Type} : Left H := { results := [], args := [] }

/- WHAT THE LISTED PACKAGE-LEVEL VARIABLES READ AS WHEN THE CALL BEGINS. Each datum BY PROGRAM (the guide's laid-datum.mjs) off the statement by which the dump's own 'gosem.cut.vars' lays the variable. In a bare row this is a premise. The card (YtjdgobfjpjnhgaaDoorCards.lean) ties it to the program's text. -/
def laid_bitloft_sha_firstWords {H : Type} : DataW H := .agg [.lit (.int .u32 1732584193), .lit (.int .u32 4023233417), .lit (.int .u32 2562383102), .lit (.int .u32 271733878), .lit (.int .u32 3285377520)]

/-- 'bitloftlaw41.TreeRoots': WHATEVER THE INPUT: true; the input reads as it did. -/
def treeRootsSpec : ChangeSpec := { name := "treeRoots", fn := fun _ => fun
  | [d1, d2, d3, d4] => { results := [.lit (.bool true)], args := [d1, d2, d3, d4] }
  | _ => none }
def treeRootsRow : OpenClaim := { program := "ytjdgobfjpjnhgaadoor", sum := "32a877ea76b1fb2e8952f25fb9d917a1cbd9a926ea108603c0f3994eebff54ba", func := "bitloft/bitloftlaw41.TreeRoots", spec := "treeRoots", recurses := true, named := ["bitloft/sha.firstWords"], apart := false, laid := [("bitloft/sha.firstWords", laid_bitloft_sha_firstWords)] }
def TreeRootsSaid : Prop := treeRootsRow.holds Tryd.pinned (OpenSpec.ofChange treeRootsSpec)

/-- ITS FALSE NEIGHBOUR: 'it returns false'. Refute it at one input. -/
def treeRootsWrong : ChangeSpec := { name := "treeRoots", fn := fun _ => fun
  | [d1, d2, d3, d4] => { results := [.lit (.bool false)], args := [d1, d2, d3, d4] }
  | _ => none }
def TreeRootsWrongFalsely : Prop := treeRootsRow.holds Tryd.pinned (OpenSpec.ofChange treeRootsWrong)

/-- 'bitloftlaw41.TreeProofs': WHATEVER THE INPUT: true; the input reads as it did. -/
def treeProofsSpec : ChangeSpec := { name := "treeProofs", fn := fun _ => fun
  | [d1, d2, d3, d4, d5, d6] => { results := [.lit (.bool true)], args := [d1, d2, d3, d4, d5, d6] }
  | _ => none }
def treeProofsRow : OpenClaim := { program := "ytjdgobfjpjnhgaadoor", sum := "32a877ea76b1fb2e8952f25fb9d917a1cbd9a926ea108603c0f3994eebff54ba", func := "bitloft/bitloftlaw41.TreeProofs", spec := "treeProofs", recurses := true, named := ["bitloft/sha.firstWords"], apart := false, laid := [("bitloft/sha.firstWords", laid_bitloft_sha_firstWords)] }
def TreeProofsSaid : Prop := treeProofsRow.holds Tryd.pinned (OpenSpec.ofChange treeProofsSpec)

/-- ITS FALSE NEIGHBOUR: 'it returns false'. Refute it at one input. -/
def treeProofsWrong : ChangeSpec := { name := "treeProofs", fn := fun _ => fun
  | [d1, d2, d3, d4, d5, d6] => { results := [.lit (.bool false)], args := [d1, d2, d3, d4, d5, d6] }
  | _ => none }
def TreeProofsWrongFalsely : Prop := treeProofsRow.holds Tryd.pinned (OpenSpec.ofChange treeProofsWrong)

/-- 'bitloftlaw41.TreeNames': WHATEVER THE INPUT: true; the input reads as it did. -/
def treeNamesSpec : ChangeSpec := { name := "treeNames", fn := fun _ => fun
  | [] => { results := [.lit (.bool true)], args := [] }
  | _ => none }
def treeNamesRow : OpenClaim := { program := "ytjdgobfjpjnhgaadoor", sum := "32a877ea76b1fb2e8952f25fb9d917a1cbd9a926ea108603c0f3994eebff54ba", func := "bitloft/bitloftlaw41.TreeNames", spec := "treeNames", recurses := true, named := ["bitloft/sha.firstWords"], apart := false, laid := [("bitloft/sha.firstWords", laid_bitloft_sha_firstWords)] }
def TreeNamesSaid : Prop := treeNamesRow.holds Tryd.pinned (OpenSpec.ofChange treeNamesSpec)

/-- ITS FALSE NEIGHBOUR: 'it returns false'. Refute it at one input. -/
def treeNamesWrong : ChangeSpec := { name := "treeNames", fn := fun _ => fun
  | [] => { results := [.lit (.bool false)], args := [] }
  | _ => none }
def TreeNamesWrongFalsely : Prop := treeNamesRow.holds Tryd.pinned (OpenSpec.ofChange treeNamesWrong)

/-- 'bitloftlaw41.TreeShows': WHATEVER THE INPUT: true; the input reads as it did. -/
def treeShowsSpec : ChangeSpec := { name := "treeShows", fn := fun _ => fun
  | [d1, d2, d3] => { results := [.lit (.bool true)], args := [d1, d2, d3] }
  | _ => none }
def treeShowsRow : OpenClaim := { program := "ytjdgobfjpjnhgaadoor", sum := "32a877ea76b1fb2e8952f25fb9d917a1cbd9a926ea108603c0f3994eebff54ba", func := "bitloft/bitloftlaw41.TreeShows", spec := "treeShows", recurses := true, named := ["bitloft/sha.firstWords"], apart := false, laid := [("bitloft/sha.firstWords", laid_bitloft_sha_firstWords)] }
def TreeShowsSaid : Prop := treeShowsRow.holds Tryd.pinned (OpenSpec.ofChange treeShowsSpec)

/-- ITS FALSE NEIGHBOUR: 'it returns false'. Refute it at one input. -/
def treeShowsWrong : ChangeSpec := { name := "treeShows", fn := fun _ => fun
  | [d1, d2, d3] => { results := [.lit (.bool false)], args := [d1, d2, d3] }
  | _ => none }
def TreeShowsWrongFalsely : Prop := treeShowsRow.holds Tryd.pinned (OpenSpec.ofChange treeShowsWrong)

/-- 'bitloftlaw41.TreeHalves': WHATEVER THE INPUT: true; the input reads as it did. -/
def treeHalvesSpec : ChangeSpec := { name := "treeHalves", fn := fun _ => fun
  | [d1, d2] => { results := [.lit (.bool true)], args := [d1, d2] }
  | _ => none }
def treeHalvesRow : OpenClaim := { program := "ytjdgobfjpjnhgaadoor", sum := "32a877ea76b1fb2e8952f25fb9d917a1cbd9a926ea108603c0f3994eebff54ba", func := "bitloft/bitloftlaw41.TreeHalves", spec := "treeHalves", recurses := true, named := ["bitloft/sha.firstWords"], apart := false, laid := [("bitloft/sha.firstWords", laid_bitloft_sha_firstWords)] }
def TreeHalvesSaid : Prop := treeHalvesRow.holds Tryd.pinned (OpenSpec.ofChange treeHalvesSpec)

/-- ITS FALSE NEIGHBOUR: 'it returns false'. Refute it at one input. -/
def treeHalvesWrong : ChangeSpec := { name := "treeHalves", fn := fun _ => fun
  | [d1, d2] => { results := [.lit (.bool false)], args := [d1, d2] }
  | _ => none }
def TreeHalvesWrongFalsely : Prop := treeHalvesRow.holds Tryd.pinned (OpenSpec.ofChange treeHalvesWrong)

/-- 'bitloftlaw41.TreeWays': WHATEVER THE INPUT: true; the input reads as it did. -/
def treeWaysSpec : ChangeSpec := { name := "treeWays", fn := fun _ => fun
  | [d1, d2, d3, d4, d5] => { results := [.lit (.bool true)], args := [d1, d2, d3, d4, d5] }
  | _ => none }
def treeWaysRow : OpenClaim := { program := "ytjdgobfjpjnhgaadoor", sum := "32a877ea76b1fb2e8952f25fb9d917a1cbd9a926ea108603c0f3994eebff54ba", func := "bitloft/bitloftlaw41.TreeWays", spec := "treeWays", recurses := true, named := ["bitloft/sha.firstWords"], apart := false, laid := [("bitloft/sha.firstWords", laid_bitloft_sha_firstWords)] }
def TreeWaysSaid : Prop := treeWaysRow.holds Tryd.pinned (OpenSpec.ofChange treeWaysSpec)

/-- ITS FALSE NEIGHBOUR: 'it returns false'. Refute it at one input. -/
def treeWaysWrong : ChangeSpec := { name := "treeWays", fn := fun _ => fun
  | [d1, d2, d3, d4, d5] => { results := [.lit (.bool false)], args := [d1, d2, d3, d4, d5] }
  | _ => none }
def TreeWaysWrongFalsely : Prop := treeWaysRow.holds Tryd.pinned (OpenSpec.ofChange treeWaysWrong)

/- THE SECOND FORM. 'bulk': how many values and letters a reading holds, each counted each time it is reached (what is shared counts as often as it is met; a slice's spare places count too). A statement '..UptoSaid' is the law's where the arguments, and the package variables that the reading takes, are together of bulk at most 1048576: NARROWER than '..Said'. Prove '..Said' where nothing that the law and all that it calls make is longer than what came in: it says more and counts as full. Else prove '..UptoSaid'. A law counts once. -/
mutual
def uptoBulk {H : Type} : DataW H → Nat
  | .lit (.string bytes) => bytes.length + 1
  | .lit _ => 1
  | .nil => 1
  | .ptr d => uptoBulk d + 1
  | .slice elems spare => uptoBulkAll elems + uptoBulkAll spare + 1
  | .agg parts => uptoBulkAll parts + 1
  | .iface _ d => uptoBulk d + 1
  | .map entries => uptoBulkEntries entries + 1
  | .held _ => 1
def uptoBulkAll {H : Type} : List (DataW H) → Nat
  | [] => 0
  | d :: r => uptoBulk d + uptoBulkAll r
def uptoBulkEntries {H : Type} : List (Lit × DataW H) → Nat
  | [] => 0
  | x :: r => uptoBulkEntry x + uptoBulkEntries r
def uptoBulkEntry {H : Type} : Lit × DataW H → Nat
  | (.string bytes, d) => bytes.length + uptoBulk d + 1
  | (_, d) => uptoBulk d + 1
 end
def uptoSmall : (H : Type) → List (DataW H) → Bool := fun _ ds => decide (uptoBulkAll ds ≤ 1048576)
def OpenSpec.upto (s : _root_.Go.ChangeSpec) : _root_.Go.OpenSpec := { _root_.Go.OpenSpec.ofChange s with cond := some uptoSmall }

/-- 'bitloftlaw41.TreeRoots', WHERE WHAT IT READS IS OF BULK AT MOST 1048576: true; the input reads as it did. -/
def treeRootsUptoRow : OpenClaim := { program := "ytjdgobfjpjnhgaadoor", sum := "32a877ea76b1fb2e8952f25fb9d917a1cbd9a926ea108603c0f3994eebff54ba", func := "bitloft/bitloftlaw41.TreeRoots", spec := "treeRoots", recurses := true, named := ["bitloft/sha.firstWords"], apart := false, laid := [("bitloft/sha.firstWords", laid_bitloft_sha_firstWords)], narrowed := true }
def TreeRootsUptoSaid : Prop := treeRootsUptoRow.holds Tryd.pinned (OpenSpec.upto treeRootsSpec)

/-- 'bitloftlaw41.TreeProofs', WHERE WHAT IT READS IS OF BULK AT MOST 1048576: true; the input reads as it did. -/
def treeProofsUptoRow : OpenClaim := { program := "ytjdgobfjpjnhgaadoor", sum := "32a877ea76b1fb2e8952f25fb9d917a1cbd9a926ea108603c0f3994eebff54ba", func := "bitloft/bitloftlaw41.TreeProofs", spec := "treeProofs", recurses := true, named := ["bitloft/sha.firstWords"], apart := false, laid := [("bitloft/sha.firstWords", laid_bitloft_sha_firstWords)], narrowed := true }
def TreeProofsUptoSaid : Prop := treeProofsUptoRow.holds Tryd.pinned (OpenSpec.upto treeProofsSpec)

/-- 'bitloftlaw41.TreeNames', WHERE WHAT IT READS IS OF BULK AT MOST 1048576: true; the input reads as it did. -/
def treeNamesUptoRow : OpenClaim := { program := "ytjdgobfjpjnhgaadoor", sum := "32a877ea76b1fb2e8952f25fb9d917a1cbd9a926ea108603c0f3994eebff54ba", func := "bitloft/bitloftlaw41.TreeNames", spec := "treeNames", recurses := true, named := ["bitloft/sha.firstWords"], apart := false, laid := [("bitloft/sha.firstWords", laid_bitloft_sha_firstWords)], narrowed := true }
def TreeNamesUptoSaid : Prop := treeNamesUptoRow.holds Tryd.pinned (OpenSpec.upto treeNamesSpec)

/-- 'bitloftlaw41.TreeShows', WHERE WHAT IT READS IS OF BULK AT MOST 1048576: true; the input reads as it did. -/
def treeShowsUptoRow : OpenClaim := { program := "ytjdgobfjpjnhgaadoor", sum := "32a877ea76b1fb2e8952f25fb9d917a1cbd9a926ea108603c0f3994eebff54ba", func := "bitloft/bitloftlaw41.TreeShows", spec := "treeShows", recurses := true, named := ["bitloft/sha.firstWords"], apart := false, laid := [("bitloft/sha.firstWords", laid_bitloft_sha_firstWords)], narrowed := true }
def TreeShowsUptoSaid : Prop := treeShowsUptoRow.holds Tryd.pinned (OpenSpec.upto treeShowsSpec)

/-- 'bitloftlaw41.TreeHalves', WHERE WHAT IT READS IS OF BULK AT MOST 1048576: true; the input reads as it did. -/
def treeHalvesUptoRow : OpenClaim := { program := "ytjdgobfjpjnhgaadoor", sum := "32a877ea76b1fb2e8952f25fb9d917a1cbd9a926ea108603c0f3994eebff54ba", func := "bitloft/bitloftlaw41.TreeHalves", spec := "treeHalves", recurses := true, named := ["bitloft/sha.firstWords"], apart := false, laid := [("bitloft/sha.firstWords", laid_bitloft_sha_firstWords)], narrowed := true }
def TreeHalvesUptoSaid : Prop := treeHalvesUptoRow.holds Tryd.pinned (OpenSpec.upto treeHalvesSpec)

/-- 'bitloftlaw41.TreeWays', WHERE WHAT IT READS IS OF BULK AT MOST 1048576: true; the input reads as it did. -/
def treeWaysUptoRow : OpenClaim := { program := "ytjdgobfjpjnhgaadoor", sum := "32a877ea76b1fb2e8952f25fb9d917a1cbd9a926ea108603c0f3994eebff54ba", func := "bitloft/bitloftlaw41.TreeWays", spec := "treeWays", recurses := true, named := ["bitloft/sha.firstWords"], apart := false, laid := [("bitloft/sha.firstWords", laid_bitloft_sha_firstWords)], narrowed := true }
def TreeWaysUptoSaid : Prop := treeWaysUptoRow.holds Tryd.pinned (OpenSpec.upto treeWaysSpec)

end Rows
end Go.Proofs.YtjdgobfjpjnhgaaDoor
