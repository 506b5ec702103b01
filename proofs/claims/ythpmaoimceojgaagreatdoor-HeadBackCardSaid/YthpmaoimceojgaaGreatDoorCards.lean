/-
  DERIVED. GIVEN WITH THE SEED: THE CARDS: each row of YthpmaoimceojgaaGreatDoorRows.lean that lists a variable, with what it lists TIED to the program's text (the seventh form; the later family's looks); each row that meets fmt, with fmt's text TOLD by the authors' own Lean function (tested against real Go, not proved from fmt's source: count such statements apart). THE CARD IS WHAT COUNTS. Prove the row's statement (the work); the ties are given (YthpmaoimceojgaaGreatDoorTie.lean); close each card by the builder's one call (the guide's Derived/Test/ToyasCard.lean, 'card_holds'). Laid BY PROGRAM, IN A SANDBOX (cutbox-door.mjs). By AI agents, Wed Nov 11 2026. No macro, syntax, notation, axiom, sorry.
-/
import Derived.Test.YthpmaoimceojgaaGreatDoorRows
import GoSem.ClaimSeven
namespace Go.Proofs.YthpmaoimceojgaaGreatDoor
namespace Rows

/-- THE TIED CARD OF 'quittancelaw15.HeadBack'. -/
def headBackCard : Claim7 := { stood := { row := headBackRow, standIns := [], harness := (true, "b63ccbafb56d8c1bd1b0ad1918ebd8f9926d067b8248f1f120ec4521a00b4df1"), looks := false }, kinds := [], alts := [], laidByText := true, laidKinds := [.data, .data, .data, .data, .data, .data, .data, .pinned], laidTests := true, laidLooks := .later }
def HeadBackCardSaid : Prop := Claim7.holds Tryz.pinned (.plain (OpenSpec.ofChange headBackSpec)) headBackCard

/-- THE TIED CARD OF 'quittancelaw15.HeadMethods'. -/
def headMethodsCard : Claim7 := { stood := { row := headMethodsRow, standIns := [], harness := (true, "b63ccbafb56d8c1bd1b0ad1918ebd8f9926d067b8248f1f120ec4521a00b4df1"), looks := false }, kinds := [], alts := [], laidByText := true, laidKinds := [.data, .data, .data, .data, .data, .data, .data, .pinned], laidTests := true, laidLooks := .later }
def HeadMethodsCardSaid : Prop := Claim7.holds Tryz.pinned (.plain (OpenSpec.ofChange headMethodsSpec)) headMethodsCard

/-- THE SECOND FORM's CARD OF 'quittancelaw15.HeadBack'. -/
def headBackUptoCard : Claim7 := { stood := { row := headBackUptoRow, standIns := [], harness := (true, "b63ccbafb56d8c1bd1b0ad1918ebd8f9926d067b8248f1f120ec4521a00b4df1"), looks := false }, kinds := [], alts := [], laidByText := true, laidKinds := [.data, .data, .data, .data, .data, .data, .data, .pinned], laidTests := true, laidLooks := .later }
def HeadBackUptoCardSaid : Prop := Claim7.holds Tryz.pinned (.plain (OpenSpec.upto headBackSpec)) headBackUptoCard

/-- THE SECOND FORM's CARD OF 'quittancelaw15.HeadMethods'. -/
def headMethodsUptoCard : Claim7 := { stood := { row := headMethodsUptoRow, standIns := [], harness := (true, "b63ccbafb56d8c1bd1b0ad1918ebd8f9926d067b8248f1f120ec4521a00b4df1"), looks := false }, kinds := [], alts := [], laidByText := true, laidKinds := [.data, .data, .data, .data, .data, .data, .data, .pinned], laidTests := true, laidLooks := .later }
def HeadMethodsUptoCardSaid : Prop := Claim7.holds Tryz.pinned (.plain (OpenSpec.upto headMethodsSpec)) headMethodsUptoCard
end Rows
end Go.Proofs.YthpmaoimceojgaaGreatDoor
