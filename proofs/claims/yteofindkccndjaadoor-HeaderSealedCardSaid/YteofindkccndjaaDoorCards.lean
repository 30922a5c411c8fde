/-
  DERIVED. GIVEN WITH THE SEED: THE CARDS: each row of YteofindkccndjaaDoorRows.lean that lists a variable, with what it lists TIED to the program's text (the seventh form; the later family's looks); each row that meets fmt, with fmt's text TOLD by the authors' own Lean function (tested against real Go, not proved from fmt's source: count such statements apart). THE CARD IS WHAT COUNTS. Prove the row's statement (the work); the ties are given (YteofindkccndjaaDoorTie.lean); close each card by the builder's one call (the guide's Derived/Test/ToyasCard.lean, 'card_holds'). Laid BY PROGRAM, IN A SANDBOX (cutbox-door.mjs). By AI agents, Wed Nov 11 2026. No macro, syntax, notation, axiom, sorry.
-/
import Derived.Test.YteofindkccndjaaDoorRows
import GoSem.ClaimSeven
namespace Go.Proofs.YteofindkccndjaaDoor
namespace Rows

/-- THE TIED CARD OF 'bitloftlaw26.HeaderWrites'. -/
def headerWritesCard : Claim7 := { stood := { row := headerWritesRow, standIns := [], harness := (true, "818441c789db5792174ee24f4eac8a2575416daa663d1f10e5b96ee59f8a7e75"), looks := false }, kinds := [], alts := [], laidByText := true, laidKinds := [.data], laidTests := true, laidLooks := .later }
def HeaderWritesCardSaid : Prop := Claim7.holds Tryd.pinned (.plain (OpenSpec.ofChange headerWritesSpec)) headerWritesCard

/-- THE TIED CARD OF 'bitloftlaw26.HeaderSeals'. -/
def headerSealsCard : Claim7 := { stood := { row := headerSealsRow, standIns := [], harness := (true, "818441c789db5792174ee24f4eac8a2575416daa663d1f10e5b96ee59f8a7e75"), looks := false }, kinds := [], alts := [], laidByText := true, laidKinds := [.data, .data], laidTests := true, laidLooks := .later }
def HeaderSealsCardSaid : Prop := Claim7.holds Tryd.pinned (.plain (OpenSpec.ofChange headerSealsSpec)) headerSealsCard

/-- THE TIED CARD OF 'bitloftlaw26.HeaderNames'. -/
def headerNamesCard : Claim7 := { stood := { row := headerNamesRow, standIns := [], harness := (true, "818441c789db5792174ee24f4eac8a2575416daa663d1f10e5b96ee59f8a7e75"), looks := false }, kinds := [], alts := [], laidByText := true, laidKinds := [.data, .data], laidTests := true, laidLooks := .later }
def HeaderNamesCardSaid : Prop := Claim7.holds Tryd.pinned (.plain (OpenSpec.ofChange headerNamesSpec)) headerNamesCard

/-- THE TIED CARD OF 'bitloftlaw26.HeaderOne'. -/
def headerOneCard : Claim7 := { stood := { row := headerOneRow, standIns := [], harness := (true, "818441c789db5792174ee24f4eac8a2575416daa663d1f10e5b96ee59f8a7e75"), looks := false }, kinds := [], alts := [], laidByText := true, laidKinds := [.data], laidTests := true, laidLooks := .later }
def HeaderOneCardSaid : Prop := Claim7.holds Tryd.pinned (.plain (OpenSpec.ofChange headerOneSpec)) headerOneCard

/-- THE TIED CARD OF 'bitloftlaw26.HeaderSealed'. -/
def headerSealedCard : Claim7 := { stood := { row := headerSealedRow, standIns := [], harness := (true, "818441c789db5792174ee24f4eac8a2575416daa663d1f10e5b96ee59f8a7e75"), looks := false }, kinds := [], alts := [], laidByText := true, laidKinds := [.data, .data], laidTests := true, laidLooks := .later }
def HeaderSealedCardSaid : Prop := Claim7.holds Tryd.pinned (.plain (OpenSpec.ofChange headerSealedSpec)) headerSealedCard

/-- THE TIED CARD OF 'bitloftlaw26.HeaderDiffer'. -/
def headerDifferCard : Claim7 := { stood := { row := headerDifferRow, standIns := [], harness := (true, "818441c789db5792174ee24f4eac8a2575416daa663d1f10e5b96ee59f8a7e75"), looks := false }, kinds := [], alts := [], laidByText := true, laidKinds := [.data], laidTests := true, laidLooks := .later }
def HeaderDifferCardSaid : Prop := Claim7.holds Tryd.pinned (.plain (OpenSpec.ofChange headerDifferSpec)) headerDifferCard

/-- THE SECOND FORM's CARD OF 'bitloftlaw26.HeaderWrites'. -/
def headerWritesUptoCard : Claim7 := { stood := { row := headerWritesUptoRow, standIns := [], harness := (true, "818441c789db5792174ee24f4eac8a2575416daa663d1f10e5b96ee59f8a7e75"), looks := false }, kinds := [], alts := [], laidByText := true, laidKinds := [.data], laidTests := true, laidLooks := .later }
def HeaderWritesUptoCardSaid : Prop := Claim7.holds Tryd.pinned (.plain (OpenSpec.upto headerWritesSpec)) headerWritesUptoCard

/-- THE SECOND FORM's CARD OF 'bitloftlaw26.HeaderSeals'. -/
def headerSealsUptoCard : Claim7 := { stood := { row := headerSealsUptoRow, standIns := [], harness := (true, "818441c789db5792174ee24f4eac8a2575416daa663d1f10e5b96ee59f8a7e75"), looks := false }, kinds := [], alts := [], laidByText := true, laidKinds := [.data, .data], laidTests := true, laidLooks := .later }
def HeaderSealsUptoCardSaid : Prop := Claim7.holds Tryd.pinned (.plain (OpenSpec.upto headerSealsSpec)) headerSealsUptoCard

/-- THE SECOND FORM's CARD OF 'bitloftlaw26.HeaderNames'. -/
def headerNamesUptoCard : Claim7 := { stood := { row := headerNamesUptoRow, standIns := [], harness := (true, "818441c789db5792174ee24f4eac8a2575416daa663d1f10e5b96ee59f8a7e75"), looks := false }, kinds := [], alts := [], laidByText := true, laidKinds := [.data, .data], laidTests := true, laidLooks := .later }
def HeaderNamesUptoCardSaid : Prop := Claim7.holds Tryd.pinned (.plain (OpenSpec.upto headerNamesSpec)) headerNamesUptoCard

/-- THE SECOND FORM's CARD OF 'bitloftlaw26.HeaderOne'. -/
def headerOneUptoCard : Claim7 := { stood := { row := headerOneUptoRow, standIns := [], harness := (true, "818441c789db5792174ee24f4eac8a2575416daa663d1f10e5b96ee59f8a7e75"), looks := false }, kinds := [], alts := [], laidByText := true, laidKinds := [.data], laidTests := true, laidLooks := .later }
def HeaderOneUptoCardSaid : Prop := Claim7.holds Tryd.pinned (.plain (OpenSpec.upto headerOneSpec)) headerOneUptoCard

/-- THE SECOND FORM's CARD OF 'bitloftlaw26.HeaderSealed'. -/
def headerSealedUptoCard : Claim7 := { stood := { row := headerSealedUptoRow, standIns := [], harness := (true, "818441c789db5792174ee24f4eac8a2575416daa663d1f10e5b96ee59f8a7e75"), looks := false }, kinds := [], alts := [], laidByText := true, laidKinds := [.data, .data], laidTests := true, laidLooks := .later }
def HeaderSealedUptoCardSaid : Prop := Claim7.holds Tryd.pinned (.plain (OpenSpec.upto headerSealedSpec)) headerSealedUptoCard

/-- THE SECOND FORM's CARD OF 'bitloftlaw26.HeaderDiffer'. -/
def headerDifferUptoCard : Claim7 := { stood := { row := headerDifferUptoRow, standIns := [], harness := (true, "818441c789db5792174ee24f4eac8a2575416daa663d1f10e5b96ee59f8a7e75"), looks := false }, kinds := [], alts := [], laidByText := true, laidKinds := [.data], laidTests := true, laidLooks := .later }
def HeaderDifferUptoCardSaid : Prop := Claim7.holds Tryd.pinned (.plain (OpenSpec.upto headerDifferSpec)) headerDifferUptoCard
end Rows
end Go.Proofs.YteofindkccndjaaDoor
