/- Lemmas of the proof: DecX. -/
import Derived.Test.YtpbbolgnnegmlaaGreatDoorAll17
import Derived.Test.YtpbbolgnnegmlaaGreatDoorAll21
set_option linter.unusedVariables false
set_option linter.unusedSimpArgs false
set_option maxRecDepth 100000
set_option maxHeartbeats 32000000
namespace Go.Proofs.YtpbbolgnnegmlaaGreatDoor.Num
open Go.RowKit
structure Two (v:World) (g:Nat) (y z:Int):Prop where
 c0:v.cell? ⟨g,0,none⟩=some (.int .i64 y)
 c1:v.cell? ⟨g,1,none⟩=some (.int .i64 z)
 lt:g<v.heap.size
end Go.Proofs.YtpbbolgnnegmlaaGreatDoor.Num
