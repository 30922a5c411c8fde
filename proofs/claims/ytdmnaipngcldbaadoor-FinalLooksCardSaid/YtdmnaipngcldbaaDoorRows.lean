/-
  NARROWER THAN 'FOR EVERY INPUT', by the rows' own cells (each row's printed sentence says how): FinalLooks: laid · FinalNames: laid · FinalRange: laid · FinalGrows: laid · FinalTowards: laid · FinalRows: laid.
  DERIVED. THE GIVEN ROWS OF THIS SEAT. 6 by the template 'for every input the law returns true; each argument reads behind the call as it read before'; 0 by the template 'total and deterministic' (their statements: YtdmnaipngcldbaaDoorTotals.lean).
  GIVEN WITH THE SEED: the statements are not yours to turn. If you find one false, say at which input.
  Laid BY PROGRAM, IN A SANDBOX (cutbox-rows.mjs): the forced cells as the released guide's own fill.sh prints them over the translation b055a3826ce598c1… (all of the seat's roots in one cut). By AI agents, Wed Nov 11 2026. No macro, syntax, notation, axiom, sorry.
-/
import Derived.Test.YtdmnaipngcldbaaDoorChecked
import GoSem.Claim
import GoSem.ClaimJoined
import GoSem.ClaimMapViews
import Derived.JoinedTies
import Derived.KernelRfl
namespace Go.Proofs.YtdmnaipngcldbaaDoor
/- THE CELL 'sum', in the pinned program and in every row, IS THE sha256 OF THE DUMP (.gsa) THAT YtdmnaipngcldbaaDoorProg.lean LOADS. Nothing in Lean hashes anything: it is a label: what it is worth is what the hold of that sum in a sandbox is worth. -/
noncomputable def Tryd.pinned : Pinned := { name := "ytdmnaipngcldbaadoor", sum := "b055a3826ce598c1462d429f76743f556b88512d9e1d720201628ad0c0febeda", checked := Tryd.checked }
namespace Rows
def none {H : Type} : Left H := { results := [], args := [] }

/- WHAT THE LISTED PACKAGE-LEVEL VARIABLES READ AS WHEN THE CALL BEGINS. Each datum BY PROGRAM (the guide's laid-datum.mjs) off the statement by which the dump's own 'gosem.cut.vars' lays the variable. In a bare row this is a premise. The card (YtdmnaipngcldbaaDoorCards.lean) ties it to the program's text. -/
def laid_bitloft_squash_row {H : Type} : DataW H := .agg [.lit (.int .i32 1), .lit (.int .i32 2), .lit (.int .i32 3), .lit (.int .i32 6), .lit (.int .i32 10), .lit (.int .i32 16), .lit (.int .i32 27), .lit (.int .i32 45), .lit (.int .i32 73), .lit (.int .i32 120), .lit (.int .i32 194), .lit (.int .i32 310), .lit (.int .i32 488), .lit (.int .i32 747), .lit (.int .i32 1101), .lit (.int .i32 1546), .lit (.int .i32 2047), .lit (.int .i32 2549), .lit (.int .i32 2994), .lit (.int .i32 3348), .lit (.int .i32 3607), .lit (.int .i32 3785), .lit (.int .i32 3901), .lit (.int .i32 3975), .lit (.int .i32 4022), .lit (.int .i32 4050), .lit (.int .i32 4068), .lit (.int .i32 4079), .lit (.int .i32 4085), .lit (.int .i32 4089), .lit (.int .i32 4092), .lit (.int .i32 4093), .lit (.int .i32 4094)]

/-- 'bitloftlaw18.FinalLooks': WHATEVER THE INPUT: true; the input reads as it did. -/
def finalLooksSpec : ChangeSpec := { name := "finalLooks", fn := fun _ => fun
  | [d1, d2, d3, d4, d5, d6, d7, d8, d9] => { results := [.lit (.bool true)], args := [d1, d2, d3, d4, d5, d6, d7, d8, d9] }
  | _ => none }
def finalLooksRow : OpenClaim := { program := "ytdmnaipngcldbaadoor", sum := "b055a3826ce598c1462d429f76743f556b88512d9e1d720201628ad0c0febeda", func := "bitloft/bitloftlaw18.FinalLooks", spec := "finalLooks", unfollowed := true, recurses := true, named := ["bitloft/squash.row"], apart := false, laid := [("bitloft/squash.row", laid_bitloft_squash_row)] }
def FinalLooksSaid : Prop := finalLooksRow.holds Tryd.pinned (OpenSpec.ofChange finalLooksSpec)

/-- ITS FALSE NEIGHBOUR: 'it returns false'. Refute it at one input. -/
def finalLooksWrong : ChangeSpec := { name := "finalLooks", fn := fun _ => fun
  | [d1, d2, d3, d4, d5, d6, d7, d8, d9] => { results := [.lit (.bool false)], args := [d1, d2, d3, d4, d5, d6, d7, d8, d9] }
  | _ => none }
def FinalLooksWrongFalsely : Prop := finalLooksRow.holds Tryd.pinned (OpenSpec.ofChange finalLooksWrong)

/-- 'bitloftlaw18.FinalNames': WHATEVER THE INPUT: true; the input reads as it did. -/
def finalNamesSpec : ChangeSpec := { name := "finalNames", fn := fun _ => fun
  | [] => { results := [.lit (.bool true)], args := [] }
  | _ => none }
def finalNamesRow : OpenClaim := { program := "ytdmnaipngcldbaadoor", sum := "b055a3826ce598c1462d429f76743f556b88512d9e1d720201628ad0c0febeda", func := "bitloft/bitloftlaw18.FinalNames", spec := "finalNames", unfollowed := true, recurses := true, named := ["bitloft/squash.row"], apart := false, laid := [("bitloft/squash.row", laid_bitloft_squash_row)] }
def FinalNamesSaid : Prop := finalNamesRow.holds Tryd.pinned (OpenSpec.ofChange finalNamesSpec)

/-- ITS FALSE NEIGHBOUR: 'it returns false'. Refute it at one input. -/
def finalNamesWrong : ChangeSpec := { name := "finalNames", fn := fun _ => fun
  | [] => { results := [.lit (.bool false)], args := [] }
  | _ => none }
def FinalNamesWrongFalsely : Prop := finalNamesRow.holds Tryd.pinned (OpenSpec.ofChange finalNamesWrong)

/-- 'bitloftlaw18.FinalRange': WHATEVER THE INPUT: true; the input reads as it did. -/
def finalRangeSpec : ChangeSpec := { name := "finalRange", fn := fun _ => fun
  | [d1, d2, d3, d4] => { results := [.lit (.bool true)], args := [d1, d2, d3, d4] }
  | _ => none }
def finalRangeRow : OpenClaim := { program := "ytdmnaipngcldbaadoor", sum := "b055a3826ce598c1462d429f76743f556b88512d9e1d720201628ad0c0febeda", func := "bitloft/bitloftlaw18.FinalRange", spec := "finalRange", named := ["bitloft/squash.row"], apart := false, laid := [("bitloft/squash.row", laid_bitloft_squash_row)] }
def FinalRangeSaid : Prop := finalRangeRow.holds Tryd.pinned (OpenSpec.ofChange finalRangeSpec)

/-- ITS FALSE NEIGHBOUR: 'it returns false'. Refute it at one input. -/
def finalRangeWrong : ChangeSpec := { name := "finalRange", fn := fun _ => fun
  | [d1, d2, d3, d4] => { results := [.lit (.bool false)], args := [d1, d2, d3, d4] }
  | _ => none }
def FinalRangeWrongFalsely : Prop := finalRangeRow.holds Tryd.pinned (OpenSpec.ofChange finalRangeWrong)

/-- 'bitloftlaw18.FinalGrows': WHATEVER THE INPUT: true; the input reads as it did. -/
def finalGrowsSpec : ChangeSpec := { name := "finalGrows", fn := fun _ => fun
  | [d1, d2, d3, d4, d5, d6] => { results := [.lit (.bool true)], args := [d1, d2, d3, d4, d5, d6] }
  | _ => none }
def finalGrowsRow : OpenClaim := { program := "ytdmnaipngcldbaadoor", sum := "b055a3826ce598c1462d429f76743f556b88512d9e1d720201628ad0c0febeda", func := "bitloft/bitloftlaw18.FinalGrows", spec := "finalGrows", named := ["bitloft/squash.row"], apart := false, laid := [("bitloft/squash.row", laid_bitloft_squash_row)] }
def FinalGrowsSaid : Prop := finalGrowsRow.holds Tryd.pinned (OpenSpec.ofChange finalGrowsSpec)

/-- ITS FALSE NEIGHBOUR: 'it returns false'. Refute it at one input. -/
def finalGrowsWrong : ChangeSpec := { name := "finalGrows", fn := fun _ => fun
  | [d1, d2, d3, d4, d5, d6] => { results := [.lit (.bool false)], args := [d1, d2, d3, d4, d5, d6] }
  | _ => none }
def FinalGrowsWrongFalsely : Prop := finalGrowsRow.holds Tryd.pinned (OpenSpec.ofChange finalGrowsWrong)

/-- 'bitloftlaw18.FinalTowards': WHATEVER THE INPUT: true; the input reads as it did. -/
def finalTowardsSpec : ChangeSpec := { name := "finalTowards", fn := fun _ => fun
  | [d1, d2, d3, d4, d5] => { results := [.lit (.bool true)], args := [d1, d2, d3, d4, d5] }
  | _ => none }
def finalTowardsRow : OpenClaim := { program := "ytdmnaipngcldbaadoor", sum := "b055a3826ce598c1462d429f76743f556b88512d9e1d720201628ad0c0febeda", func := "bitloft/bitloftlaw18.FinalTowards", spec := "finalTowards", named := ["bitloft/squash.row"], apart := false, laid := [("bitloft/squash.row", laid_bitloft_squash_row)] }
def FinalTowardsSaid : Prop := finalTowardsRow.holds Tryd.pinned (OpenSpec.ofChange finalTowardsSpec)

/-- ITS FALSE NEIGHBOUR: 'it returns false'. Refute it at one input. -/
def finalTowardsWrong : ChangeSpec := { name := "finalTowards", fn := fun _ => fun
  | [d1, d2, d3, d4, d5] => { results := [.lit (.bool false)], args := [d1, d2, d3, d4, d5] }
  | _ => none }
def FinalTowardsWrongFalsely : Prop := finalTowardsRow.holds Tryd.pinned (OpenSpec.ofChange finalTowardsWrong)

/-- 'bitloftlaw18.FinalRows': WHATEVER THE INPUT: true; the input reads as it did. -/
def finalRowsSpec : ChangeSpec := { name := "finalRows", fn := fun _ => fun
  | [d1, d2, d3, d4] => { results := [.lit (.bool true)], args := [d1, d2, d3, d4] }
  | _ => none }
def finalRowsRow : OpenClaim := { program := "ytdmnaipngcldbaadoor", sum := "b055a3826ce598c1462d429f76743f556b88512d9e1d720201628ad0c0febeda", func := "bitloft/bitloftlaw18.FinalRows", spec := "finalRows", unfollowed := true, recurses := true, named := ["bitloft/squash.row"], apart := false, laid := [("bitloft/squash.row", laid_bitloft_squash_row)] }
def FinalRowsSaid : Prop := finalRowsRow.holds Tryd.pinned (OpenSpec.ofChange finalRowsSpec)

/-- ITS FALSE NEIGHBOUR: 'it returns false'. Refute it at one input. -/
def finalRowsWrong : ChangeSpec := { name := "finalRows", fn := fun _ => fun
  | [d1, d2, d3, d4] => { results := [.lit (.bool false)], args := [d1, d2, d3, d4] }
  | _ => none }
def FinalRowsWrongFalsely : Prop := finalRowsRow.holds Tryd.pinned (OpenSpec.ofChange finalRowsWrong)

/- THE SECOND FORM. 'bulk': how many values and letters a reading holds, each counted each time it is reached (what is shared counts as often as it is met; a slice's spare places count too). A statement '..UptoSaid' is the law's where the arguments, and the package variables that the reading takes, are together of bulk at most 1048576: NARROWER than '..Said'. Prove '..Said' where nothing that the law and all that it calls make is longer than what came in: it says more and counts as full. Else prove '..UptoSaid'. A law counts once. -/
mutual
def uptoBulk {H : Type} : DataW H → Nat
  | .lit (.string bytes) => bytes.length + 1
  | .lit _ => 1
  | .nil => 1
  | .ptr d => uptoBulk d + 1
  | .slice elems spare => uptoBulkAll elems + uptoBulkAll spare + 1
  | .agg parts => uptoBulkAll parts + 1
  | .iface _ d => uptoBulk d + 1
  | .map entries => uptoBulkEntries entries + 1
  | .held _ => 1
def uptoBulkAll {H : Type} : List (DataW H) → Nat
  | [] => 0
  | d :: r => uptoBulk d + uptoBulkAll r
def uptoBulkEntries {H : Type} : List (Lit × DataW H) → Nat
  | [] => 0
  | x :: r => uptoBulkEntry x + uptoBulkEntries r
def uptoBulkEntry {H : Type} : Lit × DataW H → Nat
  | (.string bytes, d) => bytes.length + uptoBulk d + 1
  | (_, d) => uptoBulk d + 1
 end
def uptoSmall : (H : Type) → List (DataW H) → Bool := fun _ ds => decide (uptoBulkAll ds ≤ 1048576)
def OpenSpec.upto (s : _root_.Go.ChangeSpec) : _root_.Go.OpenSpec := { _root_.Go.OpenSpec.ofChange s with cond := some uptoSmall }

/-- 'bitloftlaw18.FinalLooks', WHERE WHAT IT READS IS OF BULK AT MOST 1048576: true; the input reads as it did. -/
def finalLooksUptoRow : OpenClaim := { program := "ytdmnaipngcldbaadoor", sum := "b055a3826ce598c1462d429f76743f556b88512d9e1d720201628ad0c0febeda", func := "bitloft/bitloftlaw18.FinalLooks", spec := "finalLooks", unfollowed := true, recurses := true, named := ["bitloft/squash.row"], apart := false, laid := [("bitloft/squash.row", laid_bitloft_squash_row)], narrowed := true }
def FinalLooksUptoSaid : Prop := finalLooksUptoRow.holds Tryd.pinned (OpenSpec.upto finalLooksSpec)

/-- 'bitloftlaw18.FinalNames', WHERE WHAT IT READS IS OF BULK AT MOST 1048576: true; the input reads as it did. -/
def finalNamesUptoRow : OpenClaim := { program := "ytdmnaipngcldbaadoor", sum := "b055a3826ce598c1462d429f76743f556b88512d9e1d720201628ad0c0febeda", func := "bitloft/bitloftlaw18.FinalNames", spec := "finalNames", unfollowed := true, recurses := true, named := ["bitloft/squash.row"], apart := false, laid := [("bitloft/squash.row", laid_bitloft_squash_row)], narrowed := true }
def FinalNamesUptoSaid : Prop := finalNamesUptoRow.holds Tryd.pinned (OpenSpec.upto finalNamesSpec)

/-- 'bitloftlaw18.FinalRange', WHERE WHAT IT READS IS OF BULK AT MOST 1048576: true; the input reads as it did. -/
def finalRangeUptoRow : OpenClaim := { program := "ytdmnaipngcldbaadoor", sum := "b055a3826ce598c1462d429f76743f556b88512d9e1d720201628ad0c0febeda", func := "bitloft/bitloftlaw18.FinalRange", spec := "finalRange", named := ["bitloft/squash.row"], apart := false, laid := [("bitloft/squash.row", laid_bitloft_squash_row)], narrowed := true }
def FinalRangeUptoSaid : Prop := finalRangeUptoRow.holds Tryd.pinned (OpenSpec.upto finalRangeSpec)

/-- 'bitloftlaw18.FinalGrows', WHERE WHAT IT READS IS OF BULK AT MOST 1048576: true; the input reads as it did. -/
def finalGrowsUptoRow : OpenClaim := { program := "ytdmnaipngcldbaadoor", sum := "b055a3826ce598c1462d429f76743f556b88512d9e1d720201628ad0c0febeda", func := "bitloft/bitloftlaw18.FinalGrows", spec := "finalGrows", named := ["bitloft/squash.row"], apart := false, laid := [("bitloft/squash.row", laid_bitloft_squash_row)], narrowed := true }
def FinalGrowsUptoSaid : Prop := finalGrowsUptoRow.holds Tryd.pinned (OpenSpec.upto finalGrowsSpec)

/-- 'bitloftlaw18.FinalTowards', WHERE WHAT IT READS IS OF BULK AT MOST 1048576: true; the input reads as it did. -/
def finalTowardsUptoRow : OpenClaim := { program := "ytdmnaipngcldbaadoor", sum := "b055a3826ce598c1462d429f76743f556b88512d9e1d720201628ad0c0febeda", func := "bitloft/bitloftlaw18.FinalTowards", spec := "finalTowards", named := ["bitloft/squash.row"], apart := false, laid := [("bitloft/squash.row", laid_bitloft_squash_row)], narrowed := true }
def FinalTowardsUptoSaid : Prop := finalTowardsUptoRow.holds Tryd.pinned (OpenSpec.upto finalTowardsSpec)

/-- 'bitloftlaw18.FinalRows', WHERE WHAT IT READS IS OF BULK AT MOST 1048576: true; the input reads as it did. -/
def finalRowsUptoRow : OpenClaim := { program := "ytdmnaipngcldbaadoor", sum := "b055a3826ce598c1462d429f76743f556b88512d9e1d720201628ad0c0febeda", func := "bitloft/bitloftlaw18.FinalRows", spec := "finalRows", unfollowed := true, recurses := true, named := ["bitloft/squash.row"], apart := false, laid := [("bitloft/squash.row", laid_bitloft_squash_row)], narrowed := true }
def FinalRowsUptoSaid : Prop := finalRowsUptoRow.holds Tryd.pinned (OpenSpec.upto finalRowsSpec)

end Rows
end Go.Proofs.YtdmnaipngcldbaaDoor
