/-
  DERIVED. GIVEN WITH THE SEED: THE CARDS: each row of YtdmnaipngcldbaaDoorRows.lean that lists a variable, with what it lists TIED to the program's text (the seventh form; the later family's looks); each row that meets fmt, with fmt's text TOLD by the authors' own Lean function (tested against real Go, not proved from fmt's source: count such statements apart). THE CARD IS WHAT COUNTS. Prove the row's statement (the work); the ties are given (YtdmnaipngcldbaaDoorTie.lean); close each card by the builder's one call (the guide's Derived/Test/ToyasCard.lean, 'card_holds'). Laid BY PROGRAM, IN A SANDBOX (cutbox-door.mjs). By AI agents, Wed Nov 11 2026. No macro, syntax, notation, axiom, sorry.
-/
import Derived.Test.YtdmnaipngcldbaaDoorRows
import GoSem.ClaimSeven
namespace Go.Proofs.YtdmnaipngcldbaaDoor
namespace Rows

/-- THE TIED CARD OF 'bitloftlaw18.FinalLooks'. -/
def finalLooksCard : Claim7 := { stood := { row := finalLooksRow, standIns := [], harness := (true, "ad79a600093f28a3826deff58f402a67275f7f5c9dfb1429e6568d473132012a"), looks := false }, kinds := [], alts := [], laidByText := true, laidKinds := [.data], laidTests := true, laidLooks := .later }
def FinalLooksCardSaid : Prop := Claim7.holds Tryd.pinned (.plain (OpenSpec.ofChange finalLooksSpec)) finalLooksCard

/-- THE TIED CARD OF 'bitloftlaw18.FinalNames'. -/
def finalNamesCard : Claim7 := { stood := { row := finalNamesRow, standIns := [], harness := (true, "ad79a600093f28a3826deff58f402a67275f7f5c9dfb1429e6568d473132012a"), looks := false }, kinds := [], alts := [], laidByText := true, laidKinds := [.data], laidTests := true, laidLooks := .later }
def FinalNamesCardSaid : Prop := Claim7.holds Tryd.pinned (.plain (OpenSpec.ofChange finalNamesSpec)) finalNamesCard

/-- THE TIED CARD OF 'bitloftlaw18.FinalRange'. -/
def finalRangeCard : Claim7 := { stood := { row := finalRangeRow, standIns := [], harness := (true, "ad79a600093f28a3826deff58f402a67275f7f5c9dfb1429e6568d473132012a"), looks := false }, kinds := [], alts := [], laidByText := true, laidKinds := [.data], laidTests := true, laidLooks := .later }
def FinalRangeCardSaid : Prop := Claim7.holds Tryd.pinned (.plain (OpenSpec.ofChange finalRangeSpec)) finalRangeCard

/-- THE TIED CARD OF 'bitloftlaw18.FinalGrows'. -/
def finalGrowsCard : Claim7 := { stood := { row := finalGrowsRow, standIns := [], harness := (true, "ad79a600093f28a3826deff58f402a67275f7f5c9dfb1429e6568d473132012a"), looks := false }, kinds := [], alts := [], laidByText := true, laidKinds := [.data], laidTests := true, laidLooks := .later }
def FinalGrowsCardSaid : Prop := Claim7.holds Tryd.pinned (.plain (OpenSpec.ofChange finalGrowsSpec)) finalGrowsCard

/-- THE TIED CARD OF 'bitloftlaw18.FinalTowards'. -/
def finalTowardsCard : Claim7 := { stood := { row := finalTowardsRow, standIns := [], harness := (true, "ad79a600093f28a3826deff58f402a67275f7f5c9dfb1429e6568d473132012a"), looks := false }, kinds := [], alts := [], laidByText := true, laidKinds := [.data], laidTests := true, laidLooks := .later }
def FinalTowardsCardSaid : Prop := Claim7.holds Tryd.pinned (.plain (OpenSpec.ofChange finalTowardsSpec)) finalTowardsCard

/-- THE TIED CARD OF 'bitloftlaw18.FinalRows'. -/
def finalRowsCard : Claim7 := { stood := { row := finalRowsRow, standIns := [], harness := (true, "ad79a600093f28a3826deff58f402a67275f7f5c9dfb1429e6568d473132012a"), looks := false }, kinds := [], alts := [], laidByText := true, laidKinds := [.data], laidTests := true, laidLooks := .later }
def FinalRowsCardSaid : Prop := Claim7.holds Tryd.pinned (.plain (OpenSpec.ofChange finalRowsSpec)) finalRowsCard

/-- THE SECOND FORM's CARD OF 'bitloftlaw18.FinalLooks'. -/
def finalLooksUptoCard : Claim7 := { stood := { row := finalLooksUptoRow, standIns := [], harness := (true, "ad79a600093f28a3826deff58f402a67275f7f5c9dfb1429e6568d473132012a"), looks := false }, kinds := [], alts := [], laidByText := true, laidKinds := [.data], laidTests := true, laidLooks := .later }
def FinalLooksUptoCardSaid : Prop := Claim7.holds Tryd.pinned (.plain (OpenSpec.upto finalLooksSpec)) finalLooksUptoCard

/-- THE SECOND FORM's CARD OF 'bitloftlaw18.FinalNames'. -/
def finalNamesUptoCard : Claim7 := { stood := { row := finalNamesUptoRow, standIns := [], harness := (true, "ad79a600093f28a3826deff58f402a67275f7f5c9dfb1429e6568d473132012a"), looks := false }, kinds := [], alts := [], laidByText := true, laidKinds := [.data], laidTests := true, laidLooks := .later }
def FinalNamesUptoCardSaid : Prop := Claim7.holds Tryd.pinned (.plain (OpenSpec.upto finalNamesSpec)) finalNamesUptoCard

/-- THE SECOND FORM's CARD OF 'bitloftlaw18.FinalRange'. -/
def finalRangeUptoCard : Claim7 := { stood := { row := finalRangeUptoRow, standIns := [], harness := (true, "ad79a600093f28a3826deff58f402a67275f7f5c9dfb1429e6568d473132012a"), looks := false }, kinds := [], alts := [], laidByText := true, laidKinds := [.data], laidTests := true, laidLooks := .later }
def FinalRangeUptoCardSaid : Prop := Claim7.holds Tryd.pinned (.plain (OpenSpec.upto finalRangeSpec)) finalRangeUptoCard

/-- THE SECOND FORM's CARD OF 'bitloftlaw18.FinalGrows'. -/
def finalGrowsUptoCard : Claim7 := { stood := { row := finalGrowsUptoRow, standIns := [], harness := (true, "ad79a600093f28a3826deff58f402a67275f7f5c9dfb1429e6568d473132012a"), looks := false }, kinds := [], alts := [], laidByText := true, laidKinds := [.data], laidTests := true, laidLooks := .later }
def FinalGrowsUptoCardSaid : Prop := Claim7.holds Tryd.pinned (.plain (OpenSpec.upto finalGrowsSpec)) finalGrowsUptoCard

/-- THE SECOND FORM's CARD OF 'bitloftlaw18.FinalTowards'. -/
def finalTowardsUptoCard : Claim7 := { stood := { row := finalTowardsUptoRow, standIns := [], harness := (true, "ad79a600093f28a3826deff58f402a67275f7f5c9dfb1429e6568d473132012a"), looks := false }, kinds := [], alts := [], laidByText := true, laidKinds := [.data], laidTests := true, laidLooks := .later }
def FinalTowardsUptoCardSaid : Prop := Claim7.holds Tryd.pinned (.plain (OpenSpec.upto finalTowardsSpec)) finalTowardsUptoCard

/-- THE SECOND FORM's CARD OF 'bitloftlaw18.FinalRows'. -/
def finalRowsUptoCard : Claim7 := { stood := { row := finalRowsUptoRow, standIns := [], harness := (true, "ad79a600093f28a3826deff58f402a67275f7f5c9dfb1429e6568d473132012a"), looks := false }, kinds := [], alts := [], laidByText := true, laidKinds := [.data], laidTests := true, laidLooks := .later }
def FinalRowsUptoCardSaid : Prop := Claim7.holds Tryd.pinned (.plain (OpenSpec.upto finalRowsSpec)) finalRowsUptoCard
end Rows
end Go.Proofs.YtdmnaipngcldbaaDoor
