/-
  No cell of these rows narrows 'for every input' (looked for: loops, veiled, ifaces, maps, wideKeys, modest, calm, conditions, laid).
  DERIVED. THE GIVEN ROWS OF THIS SEAT. 5 by the template 'for every input the law returns true; each argument reads behind the call as it read before'; 0 by the template 'total and deterministic' (their statements: YtacllaeccdgnmaaTotals.lean).
  GIVEN WITH THE SEED: the statements are not yours to turn. If you find one false, say at which input.
  Laid BY PROGRAM, IN A SANDBOX (cutbox-rows.mjs): the forced cells as the released guide's own fill.sh prints them over the translation 9b6a1ed9e4d5e692… (all of the seat's roots in one cut). By AI agents, Wed Nov 11 2026. No macro, syntax, notation, axiom, sorry.
-/
import Derived.Test.YtacllaeccdgnmaaChecked
import GoSem.Claim
import GoSem.ClaimJoined
import GoSem.ClaimMapViews
import Derived.JoinedTies
import Derived.KernelRfl
namespace Go.Proofs.Ytacllaeccdgnmaa
/- THE CELL 'sum', in the pinned program and in every row, IS THE sha256 OF THE DUMP (.gsa) THAT YtacllaeccdgnmaaProg.lean LOADS. Nothing in Lean hashes anything: it is a label: what it is worth is what the hold of that sum in a sandbox is worth. -/
noncomputable def Try.pinned : Pinned := { name := "ytacllaeccdgnmaa", sum := "9b6a1ed9e4d5e6926bc6d21038d4a49577b14355f16b2361e8f82ac5548e2a97", checked := Try.checked }
namespace Rows
def none {H : Type} : Left H := { results := [], args := [] }

/-- 'bitloftlaw42.ParityMends': WHATEVER THE INPUT: true; the input reads as it did. -/
def parityMendsSpec : ChangeSpec := { name := "parityMends", fn := fun _ => fun
  | [d1, d2, d3, d4] => { results := [.lit (.bool true)], args := [d1, d2, d3, d4] }
  | _ => none }
def parityMendsRow : OpenClaim := { program := "ytacllaeccdgnmaa", sum := "9b6a1ed9e4d5e6926bc6d21038d4a49577b14355f16b2361e8f82ac5548e2a97", func := "bitloft/bitloftlaw42.ParityMends", spec := "parityMends", inPlace := ["internal/bytealg.Count", "internal/bytealg.IndexByte", "internal/bytealg.Index"], unfollowed := true, recurses := true, named := ["internal/bytealg.MaxLen"], apart := false }
def ParityMendsSaid : Prop := parityMendsRow.holds Try.pinned (OpenSpec.ofChange parityMendsSpec)

/-- ITS FALSE NEIGHBOUR: 'it returns false'. Refute it at one input. -/
def parityMendsWrong : ChangeSpec := { name := "parityMends", fn := fun _ => fun
  | [d1, d2, d3, d4] => { results := [.lit (.bool false)], args := [d1, d2, d3, d4] }
  | _ => none }
def ParityMendsWrongFalsely : Prop := parityMendsRow.holds Try.pinned (OpenSpec.ofChange parityMendsWrong)

/-- 'bitloftlaw42.ParityNames': WHATEVER THE INPUT: true; the input reads as it did. -/
def parityNamesSpec : ChangeSpec := { name := "parityNames", fn := fun _ => fun
  | [] => { results := [.lit (.bool true)], args := [] }
  | _ => none }
def parityNamesRow : OpenClaim := { program := "ytacllaeccdgnmaa", sum := "9b6a1ed9e4d5e6926bc6d21038d4a49577b14355f16b2361e8f82ac5548e2a97", func := "bitloft/bitloftlaw42.ParityNames", spec := "parityNames", inPlace := ["internal/bytealg.Count", "internal/bytealg.IndexByte", "internal/bytealg.Index"], unfollowed := true, recurses := true, named := ["internal/bytealg.MaxLen"], apart := false }
def ParityNamesSaid : Prop := parityNamesRow.holds Try.pinned (OpenSpec.ofChange parityNamesSpec)

/-- ITS FALSE NEIGHBOUR: 'it returns false'. Refute it at one input. -/
def parityNamesWrong : ChangeSpec := { name := "parityNames", fn := fun _ => fun
  | [] => { results := [.lit (.bool false)], args := [] }
  | _ => none }
def ParityNamesWrongFalsely : Prop := parityNamesRow.holds Try.pinned (OpenSpec.ofChange parityNamesWrong)

/-- 'bitloftlaw42.ParityRepairs': WHATEVER THE INPUT: true; the input reads as it did. -/
def parityRepairsSpec : ChangeSpec := { name := "parityRepairs", fn := fun _ => fun
  | [d1, d2, d3] => { results := [.lit (.bool true)], args := [d1, d2, d3] }
  | _ => none }
def parityRepairsRow : OpenClaim := { program := "ytacllaeccdgnmaa", sum := "9b6a1ed9e4d5e6926bc6d21038d4a49577b14355f16b2361e8f82ac5548e2a97", func := "bitloft/bitloftlaw42.ParityRepairs", spec := "parityRepairs", inPlace := ["internal/bytealg.Count", "internal/bytealg.IndexByte", "internal/bytealg.Index"], unfollowed := true, recurses := true, named := ["internal/bytealg.MaxLen"], apart := false }
def ParityRepairsSaid : Prop := parityRepairsRow.holds Try.pinned (OpenSpec.ofChange parityRepairsSpec)

/-- ITS FALSE NEIGHBOUR: 'it returns false'. Refute it at one input. -/
def parityRepairsWrong : ChangeSpec := { name := "parityRepairs", fn := fun _ => fun
  | [d1, d2, d3] => { results := [.lit (.bool false)], args := [d1, d2, d3] }
  | _ => none }
def ParityRepairsWrongFalsely : Prop := parityRepairsRow.holds Try.pinned (OpenSpec.ofChange parityRepairsWrong)

/-- 'bitloftlaw42.ParityRecovers': WHATEVER THE INPUT: true; the input reads as it did. -/
def parityRecoversSpec : ChangeSpec := { name := "parityRecovers", fn := fun _ => fun
  | [d1, d2, d3] => { results := [.lit (.bool true)], args := [d1, d2, d3] }
  | _ => none }
def parityRecoversRow : OpenClaim := { program := "ytacllaeccdgnmaa", sum := "9b6a1ed9e4d5e6926bc6d21038d4a49577b14355f16b2361e8f82ac5548e2a97", func := "bitloft/bitloftlaw42.ParityRecovers", spec := "parityRecovers", inPlace := ["internal/bytealg.Count", "internal/bytealg.IndexByte", "internal/bytealg.Index"], unfollowed := true, recurses := true, named := ["internal/bytealg.MaxLen"], apart := false }
def ParityRecoversSaid : Prop := parityRecoversRow.holds Try.pinned (OpenSpec.ofChange parityRecoversSpec)

/-- ITS FALSE NEIGHBOUR: 'it returns false'. Refute it at one input. -/
def parityRecoversWrong : ChangeSpec := { name := "parityRecovers", fn := fun _ => fun
  | [d1, d2, d3] => { results := [.lit (.bool false)], args := [d1, d2, d3] }
  | _ => none }
def ParityRecoversWrongFalsely : Prop := parityRecoversRow.holds Try.pinned (OpenSpec.ofChange parityRecoversWrong)

/-- 'bitloftlaw42.ParityTells': WHATEVER THE INPUT: true; the input reads as it did. -/
def parityTellsSpec : ChangeSpec := { name := "parityTells", fn := fun _ => fun
  | [d1, d2, d3] => { results := [.lit (.bool true)], args := [d1, d2, d3] }
  | _ => none }
def parityTellsRow : OpenClaim := { program := "ytacllaeccdgnmaa", sum := "9b6a1ed9e4d5e6926bc6d21038d4a49577b14355f16b2361e8f82ac5548e2a97", func := "bitloft/bitloftlaw42.ParityTells", spec := "parityTells", inPlace := ["internal/bytealg.Count", "internal/bytealg.IndexByte", "internal/bytealg.Index"], unfollowed := true, recurses := true, named := ["internal/bytealg.MaxLen"], apart := false }
def ParityTellsSaid : Prop := parityTellsRow.holds Try.pinned (OpenSpec.ofChange parityTellsSpec)

/-- ITS FALSE NEIGHBOUR: 'it returns false'. Refute it at one input. -/
def parityTellsWrong : ChangeSpec := { name := "parityTells", fn := fun _ => fun
  | [d1, d2, d3] => { results := [.lit (.bool false)], args := [d1, d2, d3] }
  | _ => none }
def ParityTellsWrongFalsely : Prop := parityTellsRow.holds Try.pinned (OpenSpec.ofChange parityTellsWrong)

/- THE SECOND FORM. 'bulk': how many values and letters a reading holds, each counted each time it is reached (what is shared counts as often as it is met; a slice's spare places count too). A statement '..UptoSaid' is the law's where the arguments, and the package variables that the reading takes, are together of bulk at most 1048576: NARROWER than '..Said'. Prove '..Said' where nothing that the law and all that it calls make is longer than what came in: it says more and counts as full. Else prove '..UptoSaid'. A law counts once. -/
mutual
def uptoBulk {H : Type} : DataW H → Nat
  | .lit (.string bytes) => bytes.length + 1
  | .lit _ => 1
  | .nil => 1
  | .ptr d => uptoBulk d + 1
  | .slice elems spare => uptoBulkAll elems + uptoBulkAll spare + 1
  | .agg parts => uptoBulkAll parts + 1
  | .iface _ d => uptoBulk d + 1
  | .map entries => uptoBulkEntries entries + 1
  | .held _ => 1
def uptoBulkAll {H : Type} : List (DataW H) → Nat
  | [] => 0
  | d :: r => uptoBulk d + uptoBulkAll r
def uptoBulkEntries {H : Type} : List (Lit × DataW H) → Nat
  | [] => 0
  | x :: r => uptoBulkEntry x + uptoBulkEntries r
def uptoBulkEntry {H : Type} : Lit × DataW H → Nat
  | (.string bytes, d) => bytes.length + uptoBulk d + 1
  | (_, d) => uptoBulk d + 1
 end
def uptoSmall : (H : Type) → List (DataW H) → Bool := fun _ ds => decide (uptoBulkAll ds ≤ 1048576)
def OpenSpec.upto (s : _root_.Go.ChangeSpec) : _root_.Go.OpenSpec := { _root_.Go.OpenSpec.ofChange s with cond := some uptoSmall }

/-- 'bitloftlaw42.ParityMends', WHERE WHAT IT READS IS OF BULK AT MOST 1048576: true; the input reads as it did. -/
def parityMendsUptoRow : OpenClaim := { program := "ytacllaeccdgnmaa", sum := "9b6a1ed9e4d5e6926bc6d21038d4a49577b14355f16b2361e8f82ac5548e2a97", func := "bitloft/bitloftlaw42.ParityMends", spec := "parityMends", inPlace := ["internal/bytealg.Count", "internal/bytealg.IndexByte", "internal/bytealg.Index"], unfollowed := true, recurses := true, named := ["internal/bytealg.MaxLen"], apart := false, narrowed := true }
def ParityMendsUptoSaid : Prop := parityMendsUptoRow.holds Try.pinned (OpenSpec.upto parityMendsSpec)

/-- 'bitloftlaw42.ParityNames', WHERE WHAT IT READS IS OF BULK AT MOST 1048576: true; the input reads as it did. -/
def parityNamesUptoRow : OpenClaim := { program := "ytacllaeccdgnmaa", sum := "9b6a1ed9e4d5e6926bc6d21038d4a49577b14355f16b2361e8f82ac5548e2a97", func := "bitloft/bitloftlaw42.ParityNames", spec := "parityNames", inPlace := ["internal/bytealg.Count", "internal/bytealg.IndexByte", "internal/bytealg.Index"], unfollowed := true, recurses := true, named := ["internal/bytealg.MaxLen"], apart := false, narrowed := true }
def ParityNamesUptoSaid : Prop := parityNamesUptoRow.holds Try.pinned (OpenSpec.upto parityNamesSpec)

/-- 'bitloftlaw42.ParityRepairs', WHERE WHAT IT READS IS OF BULK AT MOST 1048576: true; the input reads as it did. -/
def parityRepairsUptoRow : OpenClaim := { program := "ytacllaeccdgnmaa", sum := "9b6a1ed9e4d5e6926bc6d21038d4a49577b14355f16b2361e8f82ac5548e2a97", func := "bitloft/bitloftlaw42.ParityRepairs", spec := "parityRepairs", inPlace := ["internal/bytealg.Count", "internal/bytealg.IndexByte", "internal/bytealg.Index"], unfollowed := true, recurses := true, named := ["internal/bytealg.MaxLen"], apart := false, narrowed := true }
def ParityRepairsUptoSaid : Prop := parityRepairsUptoRow.holds Try.pinned (OpenSpec.upto parityRepairsSpec)

/-- 'bitloftlaw42.ParityRecovers', WHERE WHAT IT READS IS OF BULK AT MOST 1048576: true; the input reads as it did. -/
def parityRecoversUptoRow : OpenClaim := { program := "ytacllaeccdgnmaa", sum := "9b6a1ed9e4d5e6926bc6d21038d4a49577b14355f16b2361e8f82ac5548e2a97", func := "bitloft/bitloftlaw42.ParityRecovers", spec := "parityRecovers", inPlace := ["internal/bytealg.Count", "internal/bytealg.IndexByte", "internal/bytealg.Index"], unfollowed := true, recurses := true, named := ["internal/bytealg.MaxLen"], apart := false, narrowed := true }
def ParityRecoversUptoSaid : Prop := parityRecoversUptoRow.holds Try.pinned (OpenSpec.upto parityRecoversSpec)

/-- 'bitloftlaw42.ParityTells', WHERE WHAT IT READS IS OF BULK AT MOST 1048576: true; the input reads as it did. -/
def parityTellsUptoRow : OpenClaim := { program := "ytacllaeccdgnmaa", sum := "9b6a1ed9e4d5e6926bc6d21038d4a49577b14355f16b2361e8f82ac5548e2a97", func := "bitloft/bitloftlaw42.ParityTells", spec := "parityTells", inPlace := ["internal/bytealg.Count", "internal/bytealg.IndexByte", "internal/bytealg.Index"], unfollowed := true, recurses := true, named := ["internal/bytealg.MaxLen"], apart := false, narrowed := true }
def ParityTellsUptoSaid : Prop := parityTellsUptoRow.holds Try.pinned (OpenSpec.upto parityTellsSpec)

end Rows
end Go.Proofs.Ytacllaeccdgnmaa
