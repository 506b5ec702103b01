/- Lemmas of the proof: MulU. -/
import Derived.Test.YtpbbolgnnegmlaaGreatDoorAll06
import Derived.Deep.RegionLaw
set_option linter.unusedVariables false
set_option linter.unusedSimpArgs false
set_option maxRecDepth 100000
set_option maxHeartbeats 32000000
namespace Go.Proofs.YtpbbolgnnegmlaaGreatDoor.Num
open Go.RowKit
end Go.Proofs.YtpbbolgnnegmlaaGreatDoor.Num
