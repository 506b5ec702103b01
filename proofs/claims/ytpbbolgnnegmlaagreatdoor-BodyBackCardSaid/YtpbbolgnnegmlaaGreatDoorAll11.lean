/- Lemmas of the proof: NatFrame. -/
import Derived.Test.YtpbbolgnnegmlaaGreatDoorAll05
import Derived.Test.YtpbbolgnnegmlaaGreatDoorRows
import Derived.ProofKit
import Derived.OpenShut
import Derived.ShutString
import Derived.ChangeOld
set_option linter.unusedVariables false
set_option linter.unusedSimpArgs false
set_option maxRecDepth 100000
set_option maxHeartbeats 32000000
namespace Go.Proofs.YtpbbolgnnegmlaaGreatDoor.Num
open Go.ChangeShapes Go.WideShapes Go.ChangeAt Go.RowKit
end Go.Proofs.YtpbbolgnnegmlaaGreatDoor.Num
