/- What the proof needs, texts NatFrame, in one text. -/
import Derived.Test.YtdpkbglfebimcaaGreatDoorAll06
import Derived.Test.YtdpkbglfebimcaaGreatDoorRows
import Derived.ProofKit
import Derived.OpenShut
import Derived.ShutString
import Derived.ChangeOld
set_option linter.unusedVariables false
set_option linter.unusedSimpArgs false
namespace Go.Proofs.YtdpkbglfebimcaaGreatDoor.Num
open Go.ChangeShapes Go.WideShapes Go.ChangeAt Go.RowKit
end Go.Proofs.YtdpkbglfebimcaaGreatDoor.Num
