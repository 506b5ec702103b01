/- What the proof needs, texts DecFrame, in one text. -/
import Derived.Test.YtjonoedomgacaaaGreatDoorAll13
import Derived.Test.YtjonoedomgacaaaGreatDoorAll18
import Derived.Lib.SmallJoins
set_option linter.unusedVariables false
set_option linter.unusedSimpArgs false
set_option maxRecDepth 100000
set_option maxHeartbeats 32000000
namespace Go.Proofs.YtjonoedomgacaaaGreatDoor.Num
open Go.ChangeShapes Go.WideShapes Go.ChangeAt Go.RowKit Go.Joins
end Go.Proofs.YtjonoedomgacaaaGreatDoor.Num
