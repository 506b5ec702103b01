/- Lemmas of the proof: DatL, DatT, DatU. -/
import Derived.Test.YthpmaoimceojgaaGreatDoorAll20
import Derived.Test.YthpmaoimceojgaaGreatDoorAll35
set_option linter.unusedVariables false
set_option linter.unusedSimpArgs false
set_option maxRecDepth 100000
set_option maxHeartbeats 32000000
namespace Go.Proofs.YthpmaoimceojgaaGreatDoor.Dat
open Go.RowKit
end Go.Proofs.YthpmaoimceojgaaGreatDoor.Dat
