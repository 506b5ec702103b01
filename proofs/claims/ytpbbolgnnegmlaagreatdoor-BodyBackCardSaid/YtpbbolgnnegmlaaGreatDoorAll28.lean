/- Lemmas of the proof: TxtF, TxtH, TxtI, TxtJ. -/
import Derived.Test.YtpbbolgnnegmlaaGreatDoorAll27
import Derived.Test.YtpbbolgnnegmlaaGreatDoorAll21
import Derived.Test.YtpbbolgnnegmlaaGreatDoorAll14
set_option linter.unusedVariables false
set_option linter.unusedSimpArgs false
set_option maxRecDepth 100000
set_option maxHeartbeats 32000000
namespace Go.Proofs.YtpbbolgnnegmlaaGreatDoor.Num
open Go.RowKit
section
variable {w:World}{s:ByteArray}{i:Int}{k:Nat}
variable {A:Option Addr}{n c t:Nat}{x:ByteArray}
theorem dtext_is(h:Num w w.heap.size A n c i.natAbs)(hn:n≤1000)(ht:t≤6000)(hx:str (txtD i t)=x):Calls Tryz.prog 78 #[.agg #[.bool (ngB i),.slice A n c,.int .i64 (t:Int)]] w (RetVal w (.string x)):=by
 subst hx;exact dtext_any A n c t i w h hn ht
end
end Go.Proofs.YtpbbolgnnegmlaaGreatDoor.Num
