/- Lemmas of the proof: MulU. -/
import Derived.Test.YthpmaoimceojgaaGreatDoorAll06
import Derived.Deep.RegionLaw
set_option linter.unusedVariables false
set_option linter.unusedSimpArgs false
set_option maxRecDepth 100000
set_option maxHeartbeats 32000000
namespace Go.Proofs.YthpmaoimceojgaaGreatDoor.Num
open Go.RowKit
end Go.Proofs.YthpmaoimceojgaaGreatDoor.Num
