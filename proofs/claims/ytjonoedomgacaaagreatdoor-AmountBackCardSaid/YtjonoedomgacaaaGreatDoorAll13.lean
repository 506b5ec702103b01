/- What the proof needs, texts NatFrame, in one text. -/
import Derived.Test.YtjonoedomgacaaaGreatDoorAll05
import Derived.Test.YtjonoedomgacaaaGreatDoorRows
import Derived.ProofKit
import Derived.OpenShut
import Derived.ShutString
import Derived.ChangeOld
set_option linter.unusedVariables false
set_option linter.unusedSimpArgs false
set_option maxRecDepth 100000
set_option maxHeartbeats 32000000
namespace Go.Proofs.YtjonoedomgacaaaGreatDoor.Num
open Go.ChangeShapes Go.WideShapes Go.ChangeAt Go.RowKit
end Go.Proofs.YtjonoedomgacaaaGreatDoor.Num
