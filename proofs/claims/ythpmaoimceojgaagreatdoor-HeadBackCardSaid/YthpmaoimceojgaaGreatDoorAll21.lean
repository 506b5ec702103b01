/- Lemmas of the proof: LineD, LineE. -/
import Derived.Test.YthpmaoimceojgaaGreatDoorAll20
import Derived.Test.YthpmaoimceojgaaGreatDoorAll15
set_option linter.unusedVariables false
set_option linter.unusedSimpArgs false
set_option maxRecDepth 100000
set_option maxHeartbeats 32000000
namespace Go.Proofs.YthpmaoimceojgaaGreatDoor.Num
open Go.RowKit
end Go.Proofs.YthpmaoimceojgaaGreatDoor.Num
