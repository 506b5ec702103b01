/- Lemmas of the proof: LineD, LineE. -/
import Derived.Test.YthpmaoimceojgaaGreatDoorAll11
import Derived.Test.YthpmaoimceojgaaGreatDoorAll16
set_option linter.unusedVariables false
set_option linter.unusedSimpArgs false
set_option maxRecDepth 100000
set_option maxHeartbeats 32000000
namespace Go.Proofs.YthpmaoimceojgaaGreatDoor.Num
open Go.RowKit
section
variable {o:Oper}{ρ:Operand→Value}{x y:Operand}{w:World}
end
section
variable {o:Oper}{ρ:Operand→Value}{x y:Operand}{w:World}
end
section
variable {P:Program}{ops:Array Oper}{Q:Exit→Act→World→Prop}{S:World→Prop}{N:Nat}{T:List Row3}{sts sos:List Spot3}(R:Reg ops T sts sos)
include R
end
end Go.Proofs.YthpmaoimceojgaaGreatDoor.Num
