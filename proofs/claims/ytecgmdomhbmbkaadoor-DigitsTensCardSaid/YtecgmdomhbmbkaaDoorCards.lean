/-
  DERIVED. GIVEN WITH THE SEED: THE CARDS: each row of YtecgmdomhbmbkaaDoorRows.lean that lists a variable, with what it lists TIED to the program's text (the seventh form; the later family's looks); each row that meets fmt, with fmt's text TOLD by the authors' own Lean function (tested against real Go, not proved from fmt's source: count such statements apart). THE CARD IS WHAT COUNTS. Prove the row's statement (the work); the ties are given (YtecgmdomhbmbkaaDoorTie.lean); close each card by the builder's one call (the guide's Derived/Test/ToyasCard.lean, 'card_holds'). Laid BY PROGRAM, IN A SANDBOX (cutbox-door.mjs). By AI agents, Wed Nov 11 2026. No macro, syntax, notation, axiom, sorry.
-/
import Derived.Test.YtecgmdomhbmbkaaDoorRows
import GoSem.ClaimSeven
namespace Go.Proofs.YtecgmdomhbmbkaaDoor
namespace Rows

/-- THE TIED CARD OF 'quittancelaw04.DigitsSays'. -/
def digitsSaysCard : Claim7 := { stood := { row := digitsSaysRow, standIns := [], harness := (true, "f7b1ba7c8deb44c0162fc9d955d80bd296afa5ce856de78d7d6b99e868372058"), looks := false }, kinds := [], alts := [], laidByText := true, laidKinds := [.data, .pinned], laidTests := true, laidLooks := .later }
def DigitsSaysCardSaid : Prop := Claim7.holds Tryd.pinned (.plain (OpenSpec.ofChange digitsSaysSpec)) digitsSaysCard

/-- THE TIED CARD OF 'quittancelaw04.DigitsBack'. -/
def digitsBackCard : Claim7 := { stood := { row := digitsBackRow, standIns := [], harness := (true, "f7b1ba7c8deb44c0162fc9d955d80bd296afa5ce856de78d7d6b99e868372058"), looks := false }, kinds := [], alts := [], laidByText := true, laidKinds := [.data, .pinned], laidTests := true, laidLooks := .later }
def DigitsBackCardSaid : Prop := Claim7.holds Tryd.pinned (.plain (OpenSpec.ofChange digitsBackSpec)) digitsBackCard

/-- THE TIED CARD OF 'quittancelaw04.DigitsTens'. -/
def digitsTensCard : Claim7 := { stood := { row := digitsTensRow, standIns := [], harness := (true, "f7b1ba7c8deb44c0162fc9d955d80bd296afa5ce856de78d7d6b99e868372058"), looks := false }, kinds := [], alts := [], laidByText := true, laidKinds := [.data, .pinned], laidTests := true, laidLooks := .later }
def DigitsTensCardSaid : Prop := Claim7.holds Tryd.pinned (.plain (OpenSpec.ofChange digitsTensSpec)) digitsTensCard

/-- THE SECOND FORM's CARD OF 'quittancelaw04.DigitsSays'. -/
def digitsSaysUptoCard : Claim7 := { stood := { row := digitsSaysUptoRow, standIns := [], harness := (true, "f7b1ba7c8deb44c0162fc9d955d80bd296afa5ce856de78d7d6b99e868372058"), looks := false }, kinds := [], alts := [], laidByText := true, laidKinds := [.data, .pinned], laidTests := true, laidLooks := .later }
def DigitsSaysUptoCardSaid : Prop := Claim7.holds Tryd.pinned (.plain (OpenSpec.upto digitsSaysSpec)) digitsSaysUptoCard

/-- THE SECOND FORM's CARD OF 'quittancelaw04.DigitsBack'. -/
def digitsBackUptoCard : Claim7 := { stood := { row := digitsBackUptoRow, standIns := [], harness := (true, "f7b1ba7c8deb44c0162fc9d955d80bd296afa5ce856de78d7d6b99e868372058"), looks := false }, kinds := [], alts := [], laidByText := true, laidKinds := [.data, .pinned], laidTests := true, laidLooks := .later }
def DigitsBackUptoCardSaid : Prop := Claim7.holds Tryd.pinned (.plain (OpenSpec.upto digitsBackSpec)) digitsBackUptoCard

/-- THE SECOND FORM's CARD OF 'quittancelaw04.DigitsTens'. -/
def digitsTensUptoCard : Claim7 := { stood := { row := digitsTensUptoRow, standIns := [], harness := (true, "f7b1ba7c8deb44c0162fc9d955d80bd296afa5ce856de78d7d6b99e868372058"), looks := false }, kinds := [], alts := [], laidByText := true, laidKinds := [.data, .pinned], laidTests := true, laidLooks := .later }
def DigitsTensUptoCardSaid : Prop := Claim7.holds Tryd.pinned (.plain (OpenSpec.upto digitsTensSpec)) digitsTensUptoCard
end Rows
end Go.Proofs.YtecgmdomhbmbkaaDoor
