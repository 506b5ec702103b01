/-
  Layer 9: what the listed tables hold when a law's call begins.
-/
import Derived.Test.YtkeiipnclkaeiaaDoorUtfA
import Derived.Test.YtkeiipnclkaeiaaDoorRows
import Derived.ProofKit
import Derived.OpenShut
import Derived.ShutString
import Derived.ChangeOld
import Derived.Lib.SmallJoins
import Derived.Stop.LaidErr
import Derived.ChangeMaps5
import Derived.LaidMore
import Derived.Lay
import Derived.SevenTiedAt
import Derived.Stop.Joined
set_option linter.unusedVariables false
set_option linter.unusedSimpArgs false
namespace Go.Proofs.YtkeiipnclkaeiaaDoor
open Go.ChangeShapes Go.WideShapes Go.ChangeAt Go.RowKit Go.Joins

theorem knob9 : ownKnob Tryd.prog.godebug = none := by kernel_rfl

set_option maxRecDepth 100000 in
/-- What the row lists is what the walks ask of the tables. -/
theorem tabs9_came {W : World} (h : laidMet Tryd.prog [("quittance/utf.least", Rows.laid_quittance_utf_least), ("quittance/utf.marks", Rows.laid_quittance_utf_marks)] W) : Tabs9 W := by
  have h1 : laidMet Tryd.prog (("quittance/utf.least", Lib.tabData .i64 [0, 128, 2048, 65536]) :: [("quittance/utf.marks", Rows.laid_quittance_utf_marks)]) W := h
  have h2 : laidMet Tryd.prog (("quittance/utf.marks", Lib.tabData .i64 [0, 192, 224, 240]) :: []) W := h.tail
  exact ⟨Lib.tabIs_of_head (g := 0) (t := 38) (e := 3) (n := 4) (by kernel_rfl) (by kernel_rfl) Tryd.underlying38 Tryd.underlying3 (by kernel_rfl) (by kernel_rfl) h2,
    Lib.tabIs_of_head (g := 1) (t := 38) (e := 3) (n := 4) (by kernel_rfl) (by kernel_rfl) Tryd.underlying38 Tryd.underlying3 (by kernel_rfl) (by kernel_rfl) h1⟩

end Go.Proofs.YtkeiipnclkaeiaaDoor
