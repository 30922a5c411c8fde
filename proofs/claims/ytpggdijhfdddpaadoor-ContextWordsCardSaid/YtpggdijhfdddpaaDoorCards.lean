/-
  DERIVED. GIVEN WITH THE SEED: THE CARDS: each row of YtpggdijhfdddpaaDoorRows.lean that lists a variable, with what it lists TIED to the program's text (the seventh form; the later family's looks); each row that meets fmt, with fmt's text TOLD by the authors' own Lean function (tested against real Go, not proved from fmt's source: count such statements apart). THE CARD IS WHAT COUNTS. Prove the row's statement (the work); the ties are given (YtpggdijhfdddpaaDoorTie.lean); close each card by the builder's one call (the guide's Derived/Test/ToyasCard.lean, 'card_holds'). Laid BY PROGRAM, IN A SANDBOX (cutbox-door.mjs). By AI agents, Wed Nov 11 2026. No macro, syntax, notation, axiom, sorry.
-/
import Derived.Test.YtpggdijhfdddpaaDoorRows
import GoSem.ClaimSeven
namespace Go.Proofs.YtpggdijhfdddpaaDoor
namespace Rows

/-- THE TIED CARD OF 'bitloftlaw13.ContextFinds'. -/
def contextFindsCard : Claim7 := { stood := { row := contextFindsRow, standIns := [], harness := (true, "ea44c9460388eb7280c80aa46f3d75a6d6547430d7a3c7786dfcfb03976c859e"), looks := false }, kinds := [], alts := [], laidByText := true, laidKinds := [.data], laidTests := true, laidLooks := .later }
def ContextFindsCardSaid : Prop := Claim7.holds Tryd.pinned (.plain (OpenSpec.ofChange contextFindsSpec)) contextFindsCard

/-- THE TIED CARD OF 'bitloftlaw13.ContextNames'. -/
def contextNamesCard : Claim7 := { stood := { row := contextNamesRow, standIns := [], harness := (true, "ea44c9460388eb7280c80aa46f3d75a6d6547430d7a3c7786dfcfb03976c859e"), looks := false }, kinds := [], alts := [], laidByText := true, laidKinds := [.data], laidTests := true, laidLooks := .later }
def ContextNamesCardSaid : Prop := Claim7.holds Tryd.pinned (.plain (OpenSpec.ofChange contextNamesSpec)) contextNamesCard

/-- THE TIED CARD OF 'bitloftlaw13.ContextLast'. -/
def contextLastCard : Claim7 := { stood := { row := contextLastRow, standIns := [], harness := (true, "ea44c9460388eb7280c80aa46f3d75a6d6547430d7a3c7786dfcfb03976c859e"), looks := false }, kinds := [], alts := [], laidByText := true, laidKinds := [.data], laidTests := true, laidLooks := .later }
def ContextLastCardSaid : Prop := Claim7.holds Tryd.pinned (.plain (OpenSpec.ofChange contextLastSpec)) contextLastCard

/-- THE TIED CARD OF 'bitloftlaw13.ContextWords'. -/
def contextWordsCard : Claim7 := { stood := { row := contextWordsRow, standIns := [], harness := (true, "ea44c9460388eb7280c80aa46f3d75a6d6547430d7a3c7786dfcfb03976c859e"), looks := false }, kinds := [], alts := [], laidByText := true, laidKinds := [.data], laidTests := true, laidLooks := .later }
def ContextWordsCardSaid : Prop := Claim7.holds Tryd.pinned (.plain (OpenSpec.ofChange contextWordsSpec)) contextWordsCard

/-- THE TIED CARD OF 'bitloftlaw13.ContextDeep'. -/
def contextDeepCard : Claim7 := { stood := { row := contextDeepRow, standIns := [], harness := (true, "ea44c9460388eb7280c80aa46f3d75a6d6547430d7a3c7786dfcfb03976c859e"), looks := false }, kinds := [], alts := [], laidByText := true, laidKinds := [.data], laidTests := true, laidLooks := .later }
def ContextDeepCardSaid : Prop := Claim7.holds Tryd.pinned (.plain (OpenSpec.ofChange contextDeepSpec)) contextDeepCard

/-- THE SECOND FORM's CARD OF 'bitloftlaw13.ContextFinds'. -/
def contextFindsUptoCard : Claim7 := { stood := { row := contextFindsUptoRow, standIns := [], harness := (true, "ea44c9460388eb7280c80aa46f3d75a6d6547430d7a3c7786dfcfb03976c859e"), looks := false }, kinds := [], alts := [], laidByText := true, laidKinds := [.data], laidTests := true, laidLooks := .later }
def ContextFindsUptoCardSaid : Prop := Claim7.holds Tryd.pinned (.plain (OpenSpec.upto contextFindsSpec)) contextFindsUptoCard

/-- THE SECOND FORM's CARD OF 'bitloftlaw13.ContextNames'. -/
def contextNamesUptoCard : Claim7 := { stood := { row := contextNamesUptoRow, standIns := [], harness := (true, "ea44c9460388eb7280c80aa46f3d75a6d6547430d7a3c7786dfcfb03976c859e"), looks := false }, kinds := [], alts := [], laidByText := true, laidKinds := [.data], laidTests := true, laidLooks := .later }
def ContextNamesUptoCardSaid : Prop := Claim7.holds Tryd.pinned (.plain (OpenSpec.upto contextNamesSpec)) contextNamesUptoCard

/-- THE SECOND FORM's CARD OF 'bitloftlaw13.ContextLast'. -/
def contextLastUptoCard : Claim7 := { stood := { row := contextLastUptoRow, standIns := [], harness := (true, "ea44c9460388eb7280c80aa46f3d75a6d6547430d7a3c7786dfcfb03976c859e"), looks := false }, kinds := [], alts := [], laidByText := true, laidKinds := [.data], laidTests := true, laidLooks := .later }
def ContextLastUptoCardSaid : Prop := Claim7.holds Tryd.pinned (.plain (OpenSpec.upto contextLastSpec)) contextLastUptoCard

/-- THE SECOND FORM's CARD OF 'bitloftlaw13.ContextWords'. -/
def contextWordsUptoCard : Claim7 := { stood := { row := contextWordsUptoRow, standIns := [], harness := (true, "ea44c9460388eb7280c80aa46f3d75a6d6547430d7a3c7786dfcfb03976c859e"), looks := false }, kinds := [], alts := [], laidByText := true, laidKinds := [.data], laidTests := true, laidLooks := .later }
def ContextWordsUptoCardSaid : Prop := Claim7.holds Tryd.pinned (.plain (OpenSpec.upto contextWordsSpec)) contextWordsUptoCard

/-- THE SECOND FORM's CARD OF 'bitloftlaw13.ContextDeep'. -/
def contextDeepUptoCard : Claim7 := { stood := { row := contextDeepUptoRow, standIns := [], harness := (true, "ea44c9460388eb7280c80aa46f3d75a6d6547430d7a3c7786dfcfb03976c859e"), looks := false }, kinds := [], alts := [], laidByText := true, laidKinds := [.data], laidTests := true, laidLooks := .later }
def ContextDeepUptoCardSaid : Prop := Claim7.holds Tryd.pinned (.plain (OpenSpec.upto contextDeepSpec)) contextDeepUptoCard
end Rows
end Go.Proofs.YtpggdijhfdddpaaDoor
