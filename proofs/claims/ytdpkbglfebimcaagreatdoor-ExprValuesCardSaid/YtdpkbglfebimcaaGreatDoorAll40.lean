/- What the proof needs, texts ExpFrame, in one text. -/
import Derived.Test.YtdpkbglfebimcaaGreatDoorAll39
import Derived.Test.YtdpkbglfebimcaaGreatDoorAll38
import Derived.Test.YtdpkbglfebimcaaGreatDoorAll37
import Derived.Test.YtdpkbglfebimcaaGreatDoorAll23
set_option linter.unusedVariables false
set_option linter.unusedSimpArgs false
namespace Go.Proofs.YtdpkbglfebimcaaGreatDoor.Num
open Go.ChangeShapes Go.WideShapes Go.ChangeAt Go.RowKit Go.Joins Go.Deep
end Go.Proofs.YtdpkbglfebimcaaGreatDoor.Num
