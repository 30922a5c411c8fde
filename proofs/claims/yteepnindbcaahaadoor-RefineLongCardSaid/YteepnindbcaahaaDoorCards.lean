/-
  DERIVED. GIVEN WITH THE SEED: THE CARDS: each row of YteepnindbcaahaaDoorRows.lean that lists a variable, with what it lists TIED to the program's text (the seventh form; the later family's looks); each row that meets fmt, with fmt's text TOLD by the authors' own Lean function (tested against real Go, not proved from fmt's source: count such statements apart). THE CARD IS WHAT COUNTS. Prove the row's statement (the work); the ties are given (YteepnindbcaahaaDoorTie.lean); close each card by the builder's one call (the guide's Derived/Test/ToyasCard.lean, 'card_holds'). Laid BY PROGRAM, IN A SANDBOX (cutbox-door.mjs). By AI agents, Wed Nov 11 2026. No macro, syntax, notation, axiom, sorry.
-/
import Derived.Test.YteepnindbcaahaaDoorRows
import GoSem.ClaimSeven
namespace Go.Proofs.YteepnindbcaahaaDoor
namespace Rows

/-- THE TIED CARD OF 'bitloftlaw17.RefineDoes'. -/
def refineDoesCard : Claim7 := { stood := { row := refineDoesRow, standIns := [], harness := (true, "e1e17d9fbe57de360e0ff46f5a1db69da120193dfb46b984dbb1e3057bba3297"), looks := false }, kinds := [], alts := [], laidByText := true, laidKinds := [.data], laidTests := true, laidLooks := .later }
def RefineDoesCardSaid : Prop := Claim7.holds Tryd.pinned (.plain (OpenSpec.ofChange refineDoesSpec)) refineDoesCard

/-- THE TIED CARD OF 'bitloftlaw17.RefineNames'. -/
def refineNamesCard : Claim7 := { stood := { row := refineNamesRow, standIns := [], harness := (true, "e1e17d9fbe57de360e0ff46f5a1db69da120193dfb46b984dbb1e3057bba3297"), looks := false }, kinds := [], alts := [], laidByText := true, laidKinds := [.data], laidTests := true, laidLooks := .later }
def RefineNamesCardSaid : Prop := Claim7.holds Tryd.pinned (.plain (OpenSpec.ofChange refineNamesSpec)) refineNamesCard

/-- THE TIED CARD OF 'bitloftlaw17.RefineBetween'. -/
def refineBetweenCard : Claim7 := { stood := { row := refineBetweenRow, standIns := [], harness := (true, "e1e17d9fbe57de360e0ff46f5a1db69da120193dfb46b984dbb1e3057bba3297"), looks := false }, kinds := [], alts := [], laidByText := true, laidKinds := [.data], laidTests := true, laidLooks := .later }
def RefineBetweenCardSaid : Prop := Claim7.holds Tryd.pinned (.plain (OpenSpec.ofChange refineBetweenSpec)) refineBetweenCard

/-- THE TIED CARD OF 'bitloftlaw17.RefineTowards'. -/
def refineTowardsCard : Claim7 := { stood := { row := refineTowardsRow, standIns := [], harness := (true, "e1e17d9fbe57de360e0ff46f5a1db69da120193dfb46b984dbb1e3057bba3297"), looks := false }, kinds := [], alts := [], laidByText := true, laidKinds := [.data], laidTests := true, laidLooks := .later }
def RefineTowardsCardSaid : Prop := Claim7.holds Tryd.pinned (.plain (OpenSpec.ofChange refineTowardsSpec)) refineTowardsCard

/-- THE TIED CARD OF 'bitloftlaw17.RefineLong'. -/
def refineLongCard : Claim7 := { stood := { row := refineLongRow, standIns := [], harness := (true, "e1e17d9fbe57de360e0ff46f5a1db69da120193dfb46b984dbb1e3057bba3297"), looks := false }, kinds := [], alts := [], laidByText := true, laidKinds := [.data], laidTests := true, laidLooks := .later }
def RefineLongCardSaid : Prop := Claim7.holds Tryd.pinned (.plain (OpenSpec.ofChange refineLongSpec)) refineLongCard

/-- THE SECOND FORM's CARD OF 'bitloftlaw17.RefineDoes'. -/
def refineDoesUptoCard : Claim7 := { stood := { row := refineDoesUptoRow, standIns := [], harness := (true, "e1e17d9fbe57de360e0ff46f5a1db69da120193dfb46b984dbb1e3057bba3297"), looks := false }, kinds := [], alts := [], laidByText := true, laidKinds := [.data], laidTests := true, laidLooks := .later }
def RefineDoesUptoCardSaid : Prop := Claim7.holds Tryd.pinned (.plain (OpenSpec.upto refineDoesSpec)) refineDoesUptoCard

/-- THE SECOND FORM's CARD OF 'bitloftlaw17.RefineNames'. -/
def refineNamesUptoCard : Claim7 := { stood := { row := refineNamesUptoRow, standIns := [], harness := (true, "e1e17d9fbe57de360e0ff46f5a1db69da120193dfb46b984dbb1e3057bba3297"), looks := false }, kinds := [], alts := [], laidByText := true, laidKinds := [.data], laidTests := true, laidLooks := .later }
def RefineNamesUptoCardSaid : Prop := Claim7.holds Tryd.pinned (.plain (OpenSpec.upto refineNamesSpec)) refineNamesUptoCard

/-- THE SECOND FORM's CARD OF 'bitloftlaw17.RefineBetween'. -/
def refineBetweenUptoCard : Claim7 := { stood := { row := refineBetweenUptoRow, standIns := [], harness := (true, "e1e17d9fbe57de360e0ff46f5a1db69da120193dfb46b984dbb1e3057bba3297"), looks := false }, kinds := [], alts := [], laidByText := true, laidKinds := [.data], laidTests := true, laidLooks := .later }
def RefineBetweenUptoCardSaid : Prop := Claim7.holds Tryd.pinned (.plain (OpenSpec.upto refineBetweenSpec)) refineBetweenUptoCard

/-- THE SECOND FORM's CARD OF 'bitloftlaw17.RefineTowards'. -/
def refineTowardsUptoCard : Claim7 := { stood := { row := refineTowardsUptoRow, standIns := [], harness := (true, "e1e17d9fbe57de360e0ff46f5a1db69da120193dfb46b984dbb1e3057bba3297"), looks := false }, kinds := [], alts := [], laidByText := true, laidKinds := [.data], laidTests := true, laidLooks := .later }
def RefineTowardsUptoCardSaid : Prop := Claim7.holds Tryd.pinned (.plain (OpenSpec.upto refineTowardsSpec)) refineTowardsUptoCard

/-- THE SECOND FORM's CARD OF 'bitloftlaw17.RefineLong'. -/
def refineLongUptoCard : Claim7 := { stood := { row := refineLongUptoRow, standIns := [], harness := (true, "e1e17d9fbe57de360e0ff46f5a1db69da120193dfb46b984dbb1e3057bba3297"), looks := false }, kinds := [], alts := [], laidByText := true, laidKinds := [.data], laidTests := true, laidLooks := .later }
def RefineLongUptoCardSaid : Prop := Claim7.holds Tryd.pinned (.plain (OpenSpec.upto refineLongSpec)) refineLongUptoCard
end Rows
end Go.Proofs.YteepnindbcaahaaDoor
