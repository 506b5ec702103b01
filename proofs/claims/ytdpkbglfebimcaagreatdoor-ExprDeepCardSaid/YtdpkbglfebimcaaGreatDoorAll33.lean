/- What the proof needs, texts DecFrame, in one text. -/
import Derived.Test.YtdpkbglfebimcaaGreatDoorAll15
import Derived.Test.YtdpkbglfebimcaaGreatDoorAll27
import Derived.Lib.SmallJoins
set_option linter.unusedVariables false
set_option linter.unusedSimpArgs false
namespace Go.Proofs.YtdpkbglfebimcaaGreatDoor.Num
open Go.ChangeShapes Go.WideShapes Go.ChangeAt Go.RowKit Go.Joins
end Go.Proofs.YtdpkbglfebimcaaGreatDoor.Num
