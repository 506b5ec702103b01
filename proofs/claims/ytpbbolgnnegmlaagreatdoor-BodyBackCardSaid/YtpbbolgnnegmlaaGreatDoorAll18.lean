/- Lemmas of the proof: DecFrame. -/
import Derived.Test.YtpbbolgnnegmlaaGreatDoorAll11
import Derived.Test.YtpbbolgnnegmlaaGreatDoorAll17
import Derived.Lib.SmallJoins
set_option linter.unusedVariables false
set_option linter.unusedSimpArgs false
set_option maxRecDepth 100000
set_option maxHeartbeats 32000000
namespace Go.Proofs.YtpbbolgnnegmlaaGreatDoor.Num
open Go.ChangeShapes Go.WideShapes Go.ChangeAt Go.RowKit Go.Joins
end Go.Proofs.YtpbbolgnnegmlaaGreatDoor.Num
