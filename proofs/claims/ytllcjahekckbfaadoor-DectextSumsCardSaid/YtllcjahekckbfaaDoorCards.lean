/-
  DERIVED. GIVEN WITH THE SEED: THE CARDS: each row of YtllcjahekckbfaaDoorRows.lean that lists a variable, with what it lists TIED to the program's text (the seventh form; the later family's looks); each row that meets fmt, with fmt's text TOLD by the authors' own Lean function (tested against real Go, not proved from fmt's source: count such statements apart). THE CARD IS WHAT COUNTS. Prove the row's statement (the work); the ties are given (YtllcjahekckbfaaDoorTie.lean); close each card by the builder's one call (the guide's Derived/Test/ToyasCard.lean, 'card_holds'). Laid BY PROGRAM, IN A SANDBOX (cutbox-door.mjs). By AI agents, Wed Nov 11 2026. No macro, syntax, notation, axiom, sorry.
-/
import Derived.Test.YtllcjahekckbfaaDoorRows
import GoSem.ClaimSeven
namespace Go.Proofs.YtllcjahekckbfaaDoor
namespace Rows

/-- THE TIED CARD OF 'quittancelaw07.DectextBack'. -/
def dectextBackCard : Claim7 := { stood := { row := dectextBackRow, standIns := [], harness := (true, "61e5ddf58851d3012f438288d4e30c568faa28cc40c5be21520d7ff157588cfb"), looks := false }, kinds := [], alts := [], laidByText := true, laidKinds := [.data, .pinned], laidTests := true, laidLooks := .later }
def DectextBackCardSaid : Prop := Claim7.holds Tryd.pinned (.plain (OpenSpec.ofChange dectextBackSpec)) dectextBackCard

/-- THE TIED CARD OF 'quittancelaw07.DectextSums'. -/
def dectextSumsCard : Claim7 := { stood := { row := dectextSumsRow, standIns := [], harness := (true, "61e5ddf58851d3012f438288d4e30c568faa28cc40c5be21520d7ff157588cfb"), looks := false }, kinds := [], alts := [], laidByText := true, laidKinds := [.data, .pinned], laidTests := true, laidLooks := .later }
def DectextSumsCardSaid : Prop := Claim7.holds Tryd.pinned (.plain (OpenSpec.ofChange dectextSumsSpec)) dectextSumsCard

/-- THE SECOND FORM's CARD OF 'quittancelaw07.DectextBack'. -/
def dectextBackUptoCard : Claim7 := { stood := { row := dectextBackUptoRow, standIns := [], harness := (true, "61e5ddf58851d3012f438288d4e30c568faa28cc40c5be21520d7ff157588cfb"), looks := false }, kinds := [], alts := [], laidByText := true, laidKinds := [.data, .pinned], laidTests := true, laidLooks := .later }
def DectextBackUptoCardSaid : Prop := Claim7.holds Tryd.pinned (.plain (OpenSpec.upto dectextBackSpec)) dectextBackUptoCard

/-- THE SECOND FORM's CARD OF 'quittancelaw07.DectextSums'. -/
def dectextSumsUptoCard : Claim7 := { stood := { row := dectextSumsUptoRow, standIns := [], harness := (true, "61e5ddf58851d3012f438288d4e30c568faa28cc40c5be21520d7ff157588cfb"), looks := false }, kinds := [], alts := [], laidByText := true, laidKinds := [.data, .pinned], laidTests := true, laidLooks := .later }
def DectextSumsUptoCardSaid : Prop := Claim7.holds Tryd.pinned (.plain (OpenSpec.upto dectextSumsSpec)) dectextSumsUptoCard
end Rows
end Go.Proofs.YtllcjahekckbfaaDoor
