/- What the proof needs, texts MulU, in one text. -/
import Derived.Test.YtjonoedomgacaaaGreatDoorAll06
import Derived.Deep.RegionLaw
set_option linter.unusedVariables false
set_option linter.unusedSimpArgs false
set_option maxRecDepth 100000
set_option maxHeartbeats 32000000
namespace Go.Proofs.YtjonoedomgacaaaGreatDoor.Num
open Go.RowKit
section
variable {P : Program} {w : World} {o : Oper} {a : Act}
end
end Go.Proofs.YtjonoedomgacaaaGreatDoor.Num
