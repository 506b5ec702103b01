/-
  DERIVED. GIVEN WITH THE SEED: THE CARDS: each row of YthpoplgejenpgaaDoorRows.lean that lists a variable, with what it lists TIED to the program's text (the seventh form; the later family's looks); each row that meets fmt, with fmt's text TOLD by the authors' own Lean function (tested against real Go, not proved from fmt's source: count such statements apart). THE CARD IS WHAT COUNTS. Prove the row's statement (the work); the ties are given (YthpoplgejenpgaaDoorTie.lean); close each card by the builder's one call (the guide's Derived/Test/ToyasCard.lean, 'card_holds'). Laid BY PROGRAM, IN A SANDBOX (cutbox-door.mjs). By AI agents, Wed Nov 11 2026. No macro, syntax, notation, axiom, sorry.
-/
import Derived.Test.YthpoplgejenpgaaDoorRows
import GoSem.ClaimSeven
namespace Go.Proofs.YthpoplgejenpgaaDoor
namespace Rows

/-- THE TIED CARD OF 'quittancelaw10.ScanShows'. -/
def scanShowsCard : Claim7 := { stood := { row := scanShowsRow, standIns := [], harness := (true, "dfb8fe50b722f605490ae4d67ba87ff40194056503c0c9995694d4935f9a9e8a"), looks := false }, kinds := [], alts := [], laidByText := true, laidKinds := [.data, .data, .data], laidTests := true, laidLooks := .later }
def ScanShowsCardSaid : Prop := Claim7.holds Tryd.pinned (.plain (OpenSpec.ofChange scanShowsSpec)) scanShowsCard

/-- THE SECOND FORM's CARD OF 'quittancelaw10.ScanShows'. -/
def scanShowsUptoCard : Claim7 := { stood := { row := scanShowsUptoRow, standIns := [], harness := (true, "dfb8fe50b722f605490ae4d67ba87ff40194056503c0c9995694d4935f9a9e8a"), looks := false }, kinds := [], alts := [], laidByText := true, laidKinds := [.data, .data, .data], laidTests := true, laidLooks := .later }
def ScanShowsUptoCardSaid : Prop := Claim7.holds Tryd.pinned (.plain (OpenSpec.upto scanShowsSpec)) scanShowsUptoCard
end Rows
end Go.Proofs.YthpoplgejenpgaaDoor
