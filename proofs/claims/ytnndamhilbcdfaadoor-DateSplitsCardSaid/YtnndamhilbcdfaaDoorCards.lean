/-
  DERIVED. GIVEN WITH THE SEED: THE CARDS: each row of YtnndamhilbcdfaaDoorRows.lean that lists a variable, with what it lists TIED to the program's text (the seventh form; the later family's looks); each row that meets fmt, with fmt's text TOLD by the authors' own Lean function (tested against real Go, not proved from fmt's source: count such statements apart). THE CARD IS WHAT COUNTS. Prove the row's statement (the work); the ties are given (YtnndamhilbcdfaaDoorTie.lean); close each card by the builder's one call (the guide's Derived/Test/ToyasCard.lean, 'card_holds'). Laid BY PROGRAM, IN A SANDBOX (cutbox-door.mjs). By AI agents, Wed Nov 11 2026. No macro, syntax, notation, axiom, sorry.
-/
import Derived.Test.YtnndamhilbcdfaaDoorRows
import GoSem.ClaimSeven
namespace Go.Proofs.YtnndamhilbcdfaaDoor
namespace Rows

/-- THE TIED CARD OF 'quittancelaw08.DateSays'. -/
def dateSaysCard : Claim7 := { stood := { row := dateSaysRow, standIns := [], harness := (true, "ff57d76a45c043eefa19e2448994dc605f415d7025ede8aaae9e659c5fe94372"), looks := false }, kinds := [], alts := [], laidByText := true, laidKinds := [.data, .data, .data, .data], laidTests := true, laidLooks := .later }
def DateSaysCardSaid : Prop := Claim7.holds Tryd.pinned (.plain (OpenSpec.ofChange dateSaysSpec)) dateSaysCard

/-- THE TIED CARD OF 'quittancelaw08.DateRows'. -/
def dateRowsCard : Claim7 := { stood := { row := dateRowsRow, standIns := [], harness := (true, "ff57d76a45c043eefa19e2448994dc605f415d7025ede8aaae9e659c5fe94372"), looks := false }, kinds := [], alts := [], laidByText := true, laidKinds := [.data, .data, .data, .data], laidTests := true, laidLooks := .later }
def DateRowsCardSaid : Prop := Claim7.holds Tryd.pinned (.plain (OpenSpec.ofChange dateRowsSpec)) dateRowsCard

/-- THE TIED CARD OF 'quittancelaw08.DateOrder'. -/
def dateOrderCard : Claim7 := { stood := { row := dateOrderRow, standIns := [], harness := (true, "ff57d76a45c043eefa19e2448994dc605f415d7025ede8aaae9e659c5fe94372"), looks := false }, kinds := [], alts := [], laidByText := true, laidKinds := [.data, .data, .data, .data], laidTests := true, laidLooks := .later }
def DateOrderCardSaid : Prop := Claim7.holds Tryd.pinned (.plain (OpenSpec.ofChange dateOrderSpec)) dateOrderCard

/-- THE TIED CARD OF 'quittancelaw08.DateMonths'. -/
def dateMonthsCard : Claim7 := { stood := { row := dateMonthsRow, standIns := [], harness := (true, "ff57d76a45c043eefa19e2448994dc605f415d7025ede8aaae9e659c5fe94372"), looks := false }, kinds := [], alts := [], laidByText := true, laidKinds := [.data, .data, .data, .data], laidTests := true, laidLooks := .later }
def DateMonthsCardSaid : Prop := Claim7.holds Tryd.pinned (.plain (OpenSpec.ofChange dateMonthsSpec)) dateMonthsCard

/-- THE TIED CARD OF 'quittancelaw08.DateSplits'. -/
def dateSplitsCard : Claim7 := { stood := { row := dateSplitsRow, standIns := [], harness := (true, "ff57d76a45c043eefa19e2448994dc605f415d7025ede8aaae9e659c5fe94372"), looks := false }, kinds := [], alts := [], laidByText := true, laidKinds := [.data, .data, .data, .data], laidTests := true, laidLooks := .later }
def DateSplitsCardSaid : Prop := Claim7.holds Tryd.pinned (.plain (OpenSpec.ofChange dateSplitsSpec)) dateSplitsCard

/-- THE SECOND FORM's CARD OF 'quittancelaw08.DateSays'. -/
def dateSaysUptoCard : Claim7 := { stood := { row := dateSaysUptoRow, standIns := [], harness := (true, "ff57d76a45c043eefa19e2448994dc605f415d7025ede8aaae9e659c5fe94372"), looks := false }, kinds := [], alts := [], laidByText := true, laidKinds := [.data, .data, .data, .data], laidTests := true, laidLooks := .later }
def DateSaysUptoCardSaid : Prop := Claim7.holds Tryd.pinned (.plain (OpenSpec.upto dateSaysSpec)) dateSaysUptoCard

/-- THE SECOND FORM's CARD OF 'quittancelaw08.DateRows'. -/
def dateRowsUptoCard : Claim7 := { stood := { row := dateRowsUptoRow, standIns := [], harness := (true, "ff57d76a45c043eefa19e2448994dc605f415d7025ede8aaae9e659c5fe94372"), looks := false }, kinds := [], alts := [], laidByText := true, laidKinds := [.data, .data, .data, .data], laidTests := true, laidLooks := .later }
def DateRowsUptoCardSaid : Prop := Claim7.holds Tryd.pinned (.plain (OpenSpec.upto dateRowsSpec)) dateRowsUptoCard

/-- THE SECOND FORM's CARD OF 'quittancelaw08.DateOrder'. -/
def dateOrderUptoCard : Claim7 := { stood := { row := dateOrderUptoRow, standIns := [], harness := (true, "ff57d76a45c043eefa19e2448994dc605f415d7025ede8aaae9e659c5fe94372"), looks := false }, kinds := [], alts := [], laidByText := true, laidKinds := [.data, .data, .data, .data], laidTests := true, laidLooks := .later }
def DateOrderUptoCardSaid : Prop := Claim7.holds Tryd.pinned (.plain (OpenSpec.upto dateOrderSpec)) dateOrderUptoCard

/-- THE SECOND FORM's CARD OF 'quittancelaw08.DateMonths'. -/
def dateMonthsUptoCard : Claim7 := { stood := { row := dateMonthsUptoRow, standIns := [], harness := (true, "ff57d76a45c043eefa19e2448994dc605f415d7025ede8aaae9e659c5fe94372"), looks := false }, kinds := [], alts := [], laidByText := true, laidKinds := [.data, .data, .data, .data], laidTests := true, laidLooks := .later }
def DateMonthsUptoCardSaid : Prop := Claim7.holds Tryd.pinned (.plain (OpenSpec.upto dateMonthsSpec)) dateMonthsUptoCard

/-- THE SECOND FORM's CARD OF 'quittancelaw08.DateSplits'. -/
def dateSplitsUptoCard : Claim7 := { stood := { row := dateSplitsUptoRow, standIns := [], harness := (true, "ff57d76a45c043eefa19e2448994dc605f415d7025ede8aaae9e659c5fe94372"), looks := false }, kinds := [], alts := [], laidByText := true, laidKinds := [.data, .data, .data, .data], laidTests := true, laidLooks := .later }
def DateSplitsUptoCardSaid : Prop := Claim7.holds Tryd.pinned (.plain (OpenSpec.upto dateSplitsSpec)) dateSplitsUptoCard
end Rows
end Go.Proofs.YtnndamhilbcdfaaDoor
