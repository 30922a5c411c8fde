/-
  NARROWER THAN 'FOR EVERY INPUT', by the rows' own cells (each row's printed sentence says how): ContextFinds: laid · ContextNames: laid · ContextLast: laid · ContextWords: laid · ContextDeep: laid.
  DERIVED. THE GIVEN ROWS OF THIS SEAT. 5 by the template 'for every input the law returns true; each argument reads behind the call as it read before'; 0 by the template 'total and deterministic' (their statements: YtpggdijhfdddpaaDoorTotals.lean).
  GIVEN WITH THE SEED: the statements are not yours to turn. If you find one false, say at which input.
  Laid BY PROGRAM, IN A SANDBOX (cutbox-rows.mjs): the forced cells as the released guide's own fill.sh prints them over the translation b4f5b0e3b04956f6… (all of the seat's roots in one cut). By AI agents, Wed Nov 11 2026. No macro, syntax, notation, axiom, sorry.
-/
import Derived.Test.YtpggdijhfdddpaaDoorChecked
import GoSem.Claim
import GoSem.ClaimJoined
import GoSem.ClaimMapViews
import Derived.JoinedTies
import Derived.KernelRfl
namespace Go.Proofs.YtpggdijhfdddpaaDoor
/- THE CELL 'sum', in the pinned program and in every row, IS THE sha256 OF THE DUMP (.gsa) THAT YtpggdijhfdddpaaDoorProg.lean LOADS. Nothing in Lean hashes anything: it is a label: what it is worth is what the hold of that sum in a sandbox is worth. -/
noncomputable def Tryd.pinned : Pinned := { name := "ytpggdijhfdddpaadoor", sum := "b4f5b0e3b04956f6ba1442254c7d4494f89a9d7667e8ed15b7dda727c7576608", checked := Tryd.checked }
namespace Rows
def none {H : Type} : Left H := { results := [], args := [] }

/- WHAT THE LISTED PACKAGE-LEVEL VARIABLES READ AS WHEN THE CALL BEGINS. Each datum BY PROGRAM (the guide's laid-datum.mjs) off the statement by which the dump's own 'gosem.cut.vars' lays the variable. In a bare row this is a premise. The card (YtpggdijhfdddpaaDoorCards.lean) ties it to the program's text. -/
def laid_bitloft_context_orders {H : Type} : DataW H := .agg [.lit (.int .i64 1), .lit (.int .i64 2), .lit (.int .i64 3), .lit (.int .i64 4), .lit (.int .i64 6)]

/-- 'bitloftlaw13.ContextFinds': WHATEVER THE INPUT: true; the input reads as it did. -/
def contextFindsSpec : ChangeSpec := { name := "contextFinds", fn := fun _ => fun
  | [d1, d2, d3] => { results := [.lit (.bool true)], args := [d1, d2, d3] }
  | _ => none }
def contextFindsRow : OpenClaim := { program := "ytpggdijhfdddpaadoor", sum := "b4f5b0e3b04956f6ba1442254c7d4494f89a9d7667e8ed15b7dda727c7576608", func := "bitloft/bitloftlaw13.ContextFinds", spec := "contextFinds", inPlace := ["internal/bytealg.Count", "internal/bytealg.IndexByte", "internal/bytealg.Index"], unfollowed := true, recurses := true, named := ["bitloft/context.orders", "internal/bytealg.MaxLen"], apart := false, laid := [("bitloft/context.orders", laid_bitloft_context_orders)] }
def ContextFindsSaid : Prop := contextFindsRow.holds Tryd.pinned (OpenSpec.ofChange contextFindsSpec)

/-- ITS FALSE NEIGHBOUR: 'it returns false'. Refute it at one input. -/
def contextFindsWrong : ChangeSpec := { name := "contextFinds", fn := fun _ => fun
  | [d1, d2, d3] => { results := [.lit (.bool false)], args := [d1, d2, d3] }
  | _ => none }
def ContextFindsWrongFalsely : Prop := contextFindsRow.holds Tryd.pinned (OpenSpec.ofChange contextFindsWrong)

/-- 'bitloftlaw13.ContextNames': WHATEVER THE INPUT: true; the input reads as it did. -/
def contextNamesSpec : ChangeSpec := { name := "contextNames", fn := fun _ => fun
  | [] => { results := [.lit (.bool true)], args := [] }
  | _ => none }
def contextNamesRow : OpenClaim := { program := "ytpggdijhfdddpaadoor", sum := "b4f5b0e3b04956f6ba1442254c7d4494f89a9d7667e8ed15b7dda727c7576608", func := "bitloft/bitloftlaw13.ContextNames", spec := "contextNames", inPlace := ["internal/bytealg.Count", "internal/bytealg.IndexByte", "internal/bytealg.Index"], unfollowed := true, recurses := true, named := ["bitloft/context.orders", "internal/bytealg.MaxLen"], apart := false, laid := [("bitloft/context.orders", laid_bitloft_context_orders)] }
def ContextNamesSaid : Prop := contextNamesRow.holds Tryd.pinned (OpenSpec.ofChange contextNamesSpec)

/-- ITS FALSE NEIGHBOUR: 'it returns false'. Refute it at one input. -/
def contextNamesWrong : ChangeSpec := { name := "contextNames", fn := fun _ => fun
  | [] => { results := [.lit (.bool false)], args := [] }
  | _ => none }
def ContextNamesWrongFalsely : Prop := contextNamesRow.holds Tryd.pinned (OpenSpec.ofChange contextNamesWrong)

/-- 'bitloftlaw13.ContextLast': WHATEVER THE INPUT: true; the input reads as it did. -/
def contextLastSpec : ChangeSpec := { name := "contextLast", fn := fun _ => fun
  | [d1, d2, d3, d4, d5] => { results := [.lit (.bool true)], args := [d1, d2, d3, d4, d5] }
  | _ => none }
def contextLastRow : OpenClaim := { program := "ytpggdijhfdddpaadoor", sum := "b4f5b0e3b04956f6ba1442254c7d4494f89a9d7667e8ed15b7dda727c7576608", func := "bitloft/bitloftlaw13.ContextLast", spec := "contextLast", inPlace := ["internal/bytealg.Count", "internal/bytealg.IndexByte", "internal/bytealg.Index"], unfollowed := true, recurses := true, named := ["internal/bytealg.MaxLen", "bitloft/context.orders"], apart := false, laid := [("bitloft/context.orders", laid_bitloft_context_orders)] }
def ContextLastSaid : Prop := contextLastRow.holds Tryd.pinned (OpenSpec.ofChange contextLastSpec)

/-- ITS FALSE NEIGHBOUR: 'it returns false'. Refute it at one input. -/
def contextLastWrong : ChangeSpec := { name := "contextLast", fn := fun _ => fun
  | [d1, d2, d3, d4, d5] => { results := [.lit (.bool false)], args := [d1, d2, d3, d4, d5] }
  | _ => none }
def ContextLastWrongFalsely : Prop := contextLastRow.holds Tryd.pinned (OpenSpec.ofChange contextLastWrong)

/-- 'bitloftlaw13.ContextWords': WHATEVER THE INPUT: true; the input reads as it did. -/
def contextWordsSpec : ChangeSpec := { name := "contextWords", fn := fun _ => fun
  | [d1, d2, d3] => { results := [.lit (.bool true)], args := [d1, d2, d3] }
  | _ => none }
def contextWordsRow : OpenClaim := { program := "ytpggdijhfdddpaadoor", sum := "b4f5b0e3b04956f6ba1442254c7d4494f89a9d7667e8ed15b7dda727c7576608", func := "bitloft/bitloftlaw13.ContextWords", spec := "contextWords", inPlace := ["internal/bytealg.Count", "internal/bytealg.IndexByte", "internal/bytealg.Index"], unfollowed := true, recurses := true, named := ["internal/bytealg.MaxLen", "bitloft/context.orders"], apart := false, laid := [("bitloft/context.orders", laid_bitloft_context_orders)] }
def ContextWordsSaid : Prop := contextWordsRow.holds Tryd.pinned (OpenSpec.ofChange contextWordsSpec)

/-- ITS FALSE NEIGHBOUR: 'it returns false'. Refute it at one input. -/
def contextWordsWrong : ChangeSpec := { name := "contextWords", fn := fun _ => fun
  | [d1, d2, d3] => { results := [.lit (.bool false)], args := [d1, d2, d3] }
  | _ => none }
def ContextWordsWrongFalsely : Prop := contextWordsRow.holds Tryd.pinned (OpenSpec.ofChange contextWordsWrong)

/-- 'bitloftlaw13.ContextDeep': WHATEVER THE INPUT: true; the input reads as it did. -/
def contextDeepSpec : ChangeSpec := { name := "contextDeep", fn := fun _ => fun
  | [d1, d2, d3] => { results := [.lit (.bool true)], args := [d1, d2, d3] }
  | _ => none }
def contextDeepRow : OpenClaim := { program := "ytpggdijhfdddpaadoor", sum := "b4f5b0e3b04956f6ba1442254c7d4494f89a9d7667e8ed15b7dda727c7576608", func := "bitloft/bitloftlaw13.ContextDeep", spec := "contextDeep", inPlace := ["internal/bytealg.Count", "internal/bytealg.IndexByte", "internal/bytealg.Index"], unfollowed := true, recurses := true, named := ["internal/bytealg.MaxLen", "bitloft/context.orders"], apart := false, laid := [("bitloft/context.orders", laid_bitloft_context_orders)] }
def ContextDeepSaid : Prop := contextDeepRow.holds Tryd.pinned (OpenSpec.ofChange contextDeepSpec)

/-- ITS FALSE NEIGHBOUR: 'it returns false'. Refute it at one input. -/
def contextDeepWrong : ChangeSpec := { name := "contextDeep", fn := fun _ => fun
  | [d1, d2, d3] => { results := [.lit (.bool false)], args := [d1, d2, d3] }
  | _ => none }
def ContextDeepWrongFalsely : Prop := contextDeepRow.holds Tryd.pinned (OpenSpec.ofChange contextDeepWrong)

/- THE SECOND FORM. 'bulk': how many values and letters a reading holds, each counted each time it is reached (what is shared counts as often as it is met; a slice's spare places count too). A statement '..UptoSaid' is the law's where the arguments, and the package variables that the reading takes, are together of bulk at most 1048576: NARROWER than '..Said'. Prove '..Said' where nothing that the law and all that it calls make is longer than what came in: it says more and counts as full. Else prove '..UptoSaid'. A law counts once. -/
mutual
def uptoBulk {H : Type} : DataW H → Nat
  | .lit (.string bytes) => bytes.length + 1
  | .lit _ => 1
  | .nil => 1
  | .ptr d => uptoBulk d + 1
  | .slice elems spare => uptoBulkAll elems + uptoBulkAll spare + 1
  | .agg parts => uptoBulkAll parts + 1
  | .iface _ d => uptoBulk d + 1
  | .map entries => uptoBulkEntries entries + 1
  | .held _ => 1
def uptoBulkAll {H : Type} : List (DataW H) → Nat
  | [] => 0
  | d :: r => uptoBulk d + uptoBulkAll r
def uptoBulkEntries {H : Type} : List (Lit × DataW H) → Nat
  | [] => 0
  | x :: r => uptoBulkEntry x + uptoBulkEntries r
def uptoBulkEntry {H : Type} : Lit × DataW H → Nat
  | (.string bytes, d) => bytes.length + uptoBulk d + 1
  | (_, d) => uptoBulk d + 1
 end
def uptoSmall : (H : Type) → List (DataW H) → Bool := fun _ ds => decide (uptoBulkAll ds ≤ 1048576)
def OpenSpec.upto (s : _root_.Go.ChangeSpec) : _root_.Go.OpenSpec := { _root_.Go.OpenSpec.ofChange s with cond := some uptoSmall }

/-- 'bitloftlaw13.ContextFinds', WHERE WHAT IT READS IS OF BULK AT MOST 1048576: true; the input reads as it did. -/
def contextFindsUptoRow : OpenClaim := { program := "ytpggdijhfdddpaadoor", sum := "b4f5b0e3b04956f6ba1442254c7d4494f89a9d7667e8ed15b7dda727c7576608", func := "bitloft/bitloftlaw13.ContextFinds", spec := "contextFinds", inPlace := ["internal/bytealg.Count", "internal/bytealg.IndexByte", "internal/bytealg.Index"], unfollowed := true, recurses := true, named := ["bitloft/context.orders", "internal/bytealg.MaxLen"], apart := false, laid := [("bitloft/context.orders", laid_bitloft_context_orders)], narrowed := true }
def ContextFindsUptoSaid : Prop := contextFindsUptoRow.holds Tryd.pinned (OpenSpec.upto contextFindsSpec)

/-- 'bitloftlaw13.ContextNames', WHERE WHAT IT READS IS OF BULK AT MOST 1048576: true; the input reads as it did. -/
def contextNamesUptoRow : OpenClaim := { program := "ytpggdijhfdddpaadoor", sum := "b4f5b0e3b04956f6ba1442254c7d4494f89a9d7667e8ed15b7dda727c7576608", func := "bitloft/bitloftlaw13.ContextNames", spec := "contextNames", inPlace := ["internal/bytealg.Count", "internal/bytealg.IndexByte", "internal/bytealg.Index"], unfollowed := true, recurses := true, named := ["bitloft/context.orders", "internal/bytealg.MaxLen"], apart := false, laid := [("bitloft/context.orders", laid_bitloft_context_orders)], narrowed := true }
def ContextNamesUptoSaid : Prop := contextNamesUptoRow.holds Tryd.pinned (OpenSpec.upto contextNamesSpec)

/-- 'bitloftlaw13.ContextLast', WHERE WHAT IT READS IS OF BULK AT MOST 1048576: true; the input reads as it did. -/
def contextLastUptoRow : OpenClaim := { program := "ytpggdijhfdddpaadoor", sum := "b4f5b0e3b04956f6ba1442254c7d4494f89a9d7667e8ed15b7dda727c7576608", func := "bitloft/bitloftlaw13.ContextLast", spec := "contextLast", inPlace := ["internal/bytealg.Count", "internal/bytealg.IndexByte", "internal/bytealg.Index"], unfollowed := true, recurses := true, named := ["internal/bytealg.MaxLen", "bitloft/context.orders"], apart := false, laid := [("bitloft/context.orders", laid_bitloft_context_orders)], narrowed := true }
def ContextLastUptoSaid : Prop := contextLastUptoRow.holds Tryd.pinned (OpenSpec.upto contextLastSpec)

/-- 'bitloftlaw13.ContextWords', WHERE WHAT IT READS IS OF BULK AT MOST 1048576: true; the input reads as it did. -/
def contextWordsUptoRow : OpenClaim := { program := "ytpggdijhfdddpaadoor", sum := "b4f5b0e3b04956f6ba1442254c7d4494f89a9d7667e8ed15b7dda727c7576608", func := "bitloft/bitloftlaw13.ContextWords", spec := "contextWords", inPlace := ["internal/bytealg.Count", "internal/bytealg.IndexByte", "internal/bytealg.Index"], unfollowed := true, recurses := true, named := ["internal/bytealg.MaxLen", "bitloft/context.orders"], apart := false, laid := [("bitloft/context.orders", laid_bitloft_context_orders)], narrowed := true }
def ContextWordsUptoSaid : Prop := contextWordsUptoRow.holds Tryd.pinned (OpenSpec.upto contextWordsSpec)

/-- 'bitloftlaw13.ContextDeep', WHERE WHAT IT READS IS OF BULK AT MOST 1048576: true; the input reads as it did. -/
def contextDeepUptoRow : OpenClaim := { program := "ytpggdijhfdddpaadoor", sum := "b4f5b0e3b04956f6ba1442254c7d4494f89a9d7667e8ed15b7dda727c7576608", func := "bitloft/bitloftlaw13.ContextDeep", spec := "contextDeep", inPlace := ["internal/bytealg.Count", "internal/bytealg.IndexByte", "internal/bytealg.Index"], unfollowed := true, recurses := true, named := ["internal/bytealg.MaxLen", "bitloft/context.orders"], apart := false, laid := [("bitloft/context.orders", laid_bitloft_context_orders)], narrowed := true }
def ContextDeepUptoSaid : Prop := contextDeepUptoRow.holds Tryd.pinned (OpenSpec.upto contextDeepSpec)

end Rows
end Go.Proofs.YtpggdijhfdddpaaDoor
