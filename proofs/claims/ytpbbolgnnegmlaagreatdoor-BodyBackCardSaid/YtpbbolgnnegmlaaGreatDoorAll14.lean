/- Lemmas of the proof: DigS, DigV. -/
import Derived.Test.YtpbbolgnnegmlaaGreatDoorAll13
import Derived.Deep.RegionWith
import Derived.IntWalk
import Derived.Test.YtpbbolgnnegmlaaGreatDoorAll10
set_option linter.unusedVariables false
set_option linter.unusedSimpArgs false
set_option maxRecDepth 100000
set_option maxHeartbeats 32000000
namespace Go.Proofs.YtpbbolgnnegmlaaGreatDoor.Num
open Go.RowKit
theorem str_take(l:List Nat)(k:Nat):(str l).extract 0 k=str (l.take k):=by
 unfold str;rw[ByteArray.extract_mk];simp
end Go.Proofs.YtpbbolgnnegmlaaGreatDoor.Num
