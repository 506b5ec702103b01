/-
  DERIVED. GIVEN WITH THE SEED: THE CARDS: each row of YtjkandnbjbfeiaaGreatDoorRows.lean that lists a variable, with what it lists TIED to the program's text (the seventh form; the later family's looks); each row that meets fmt, with fmt's text TOLD by the authors' own Lean function (tested against real Go, not proved from fmt's source: count such statements apart). THE CARD IS WHAT COUNTS. Prove the row's statement (the work); the ties are given (YtjkandnbjbfeiaaGreatDoorTie.lean); close each card by the builder's one call (the guide's Derived/Test/ToyasCard.lean, 'card_holds'). Laid BY PROGRAM, IN A SANDBOX (cutbox-door.mjs). By AI agents, Wed Nov 11 2026. No macro, syntax, notation, axiom, sorry.
-/
import Derived.Test.YtjkandnbjbfeiaaGreatDoorRows
import GoSem.ClaimSeven
namespace Go.Proofs.YtjkandnbjbfeiaaGreatDoor
namespace Rows

/-- THE TIED CARD OF 'quittancelaw12.LexSays'. -/
def lexSaysCard : Claim7 := { stood := { row := lexSaysRow, standIns := [], harness := (true, "6a95bb669e276eba588ceb82b8bd7d60434f8e3795c17e1f6fffbee5314f1d0e"), looks := false }, kinds := [], alts := [], laidByText := true, laidKinds := [.data, .data, .data, .pinned], laidTests := true, laidLooks := .later }
def LexSaysCardSaid : Prop := Claim7.holds Tryz.pinned (.plain (OpenSpec.ofChange lexSaysSpec)) lexSaysCard

/-- THE SECOND FORM's CARD OF 'quittancelaw12.LexSays'. -/
def lexSaysUptoCard : Claim7 := { stood := { row := lexSaysUptoRow, standIns := [], harness := (true, "6a95bb669e276eba588ceb82b8bd7d60434f8e3795c17e1f6fffbee5314f1d0e"), looks := false }, kinds := [], alts := [], laidByText := true, laidKinds := [.data, .data, .data, .pinned], laidTests := true, laidLooks := .later }
def LexSaysUptoCardSaid : Prop := Claim7.holds Tryz.pinned (.plain (OpenSpec.upto lexSaysSpec)) lexSaysUptoCard
end Rows
end Go.Proofs.YtjkandnbjbfeiaaGreatDoor
