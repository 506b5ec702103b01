/-
  DERIVED. GIVEN WITH THE SEED: THE CARDS: each row of YtjonoedomgacaaaGreatDoorRows.lean that lists a variable, with what it lists TIED to the program's text (the seventh form; the later family's looks); each row that meets fmt, with fmt's text TOLD by the authors' own Lean function (tested against real Go, not proved from fmt's source: count such statements apart). THE CARD IS WHAT COUNTS. Prove the row's statement (the work); the ties are given (YtjonoedomgacaaaGreatDoorTie.lean); close each card by the builder's one call (the guide's Derived/Test/ToyasCard.lean, 'card_holds'). Laid BY PROGRAM, IN A SANDBOX (cutbox-door.mjs). By AI agents, Wed Nov 11 2026. No macro, syntax, notation, axiom, sorry.
-/
import Derived.Test.YtjonoedomgacaaaGreatDoorRows
import GoSem.ClaimSeven
namespace Go.Proofs.YtjonoedomgacaaaGreatDoor
namespace Rows

/-- THE TIED CARD OF 'quittancelaw14.AmountBack'. -/
def amountBackCard : Claim7 := { stood := { row := amountBackRow, standIns := [], harness := (true, "7e4d7c96975847a41a5354cc45796dd0eefb08f32bdb0b952e3df5b1588a9032"), looks := false }, kinds := [], alts := [], laidByText := true, laidKinds := [.data, .data, .data, .data, .data, .data, .pinned], laidTests := true, laidLooks := .later }
def AmountBackCardSaid : Prop := Claim7.holds Tryz.pinned (.plain (OpenSpec.ofChange amountBackSpec)) amountBackCard

/-- THE SECOND FORM's CARD OF 'quittancelaw14.AmountBack'. -/
def amountBackUptoCard : Claim7 := { stood := { row := amountBackUptoRow, standIns := [], harness := (true, "7e4d7c96975847a41a5354cc45796dd0eefb08f32bdb0b952e3df5b1588a9032"), looks := false }, kinds := [], alts := [], laidByText := true, laidKinds := [.data, .data, .data, .data, .data, .data, .pinned], laidTests := true, laidLooks := .later }
def AmountBackUptoCardSaid : Prop := Claim7.holds Tryz.pinned (.plain (OpenSpec.upto amountBackSpec)) amountBackUptoCard
end Rows
end Go.Proofs.YtjonoedomgacaaaGreatDoor
