/-
  DERIVED. GIVEN WITH THE SEED: THE CARDS: each row of YtllcjahekckbfaaGreatDoorRows.lean that lists a variable, with what it lists TIED to the program's text (the seventh form; the later family's looks); each row that meets fmt, with fmt's text TOLD by the authors' own Lean function (tested against real Go, not proved from fmt's source: count such statements apart). THE CARD IS WHAT COUNTS. Prove the row's statement (the work); the ties are given (YtllcjahekckbfaaGreatDoorTie.lean); close each card by the builder's one call (the guide's Derived/Test/ToyasCard.lean, 'card_holds'). Laid BY PROGRAM, IN A SANDBOX (cutbox-door.mjs). By AI agents, Wed Nov 11 2026. No macro, syntax, notation, axiom, sorry.
-/
import Derived.Test.YtllcjahekckbfaaGreatDoorRows
import GoSem.ClaimSeven
namespace Go.Proofs.YtllcjahekckbfaaGreatDoor
namespace Rows

/-- THE TIED CARD OF 'quittancelaw07.DectextSays'. -/
def dectextSaysCard : Claim7 := { stood := { row := dectextSaysRow, standIns := [], harness := (true, "d0c5e096bbac8603544b4071b3cb0ab88b6d08e2fbbdc03f5a6294625c8ed094"), looks := false }, kinds := [], alts := [], laidByText := true, laidKinds := [.data, .pinned], laidTests := true, laidLooks := .later }
def DectextSaysCardSaid : Prop := Claim7.holds Tryz.pinned (.plain (OpenSpec.ofChange dectextSaysSpec)) dectextSaysCard

/-- THE SECOND FORM's CARD OF 'quittancelaw07.DectextSays'. -/
def dectextSaysUptoCard : Claim7 := { stood := { row := dectextSaysUptoRow, standIns := [], harness := (true, "d0c5e096bbac8603544b4071b3cb0ab88b6d08e2fbbdc03f5a6294625c8ed094"), looks := false }, kinds := [], alts := [], laidByText := true, laidKinds := [.data, .pinned], laidTests := true, laidLooks := .later }
def DectextSaysUptoCardSaid : Prop := Claim7.holds Tryz.pinned (.plain (OpenSpec.upto dectextSaysSpec)) dectextSaysUptoCard
end Rows
end Go.Proofs.YtllcjahekckbfaaGreatDoor
