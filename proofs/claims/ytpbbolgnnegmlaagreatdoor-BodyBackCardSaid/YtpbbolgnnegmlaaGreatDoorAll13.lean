/- Lemmas of the proof: DigR. -/
import Derived.Test.YtpbbolgnnegmlaaGreatDoorAll10
import Derived.Test.YtpbbolgnnegmlaaGreatDoorAll08
set_option linter.unusedVariables false
set_option linter.unusedSimpArgs false
set_option maxRecDepth 100000
set_option maxHeartbeats 32000000
namespace Go.Proofs.YtpbbolgnnegmlaaGreatDoor.Num
open Go.RowKit
theorem str_size(l:List Nat):(str l).size=l.length:=by
 show(l.map UInt8.ofNat).toArray.size=_;simp
theorem str_append(x y:List Nat):str x++str y=str (x++y):=by
 unfold str;rw[ByteArray.mk_append_mk,List.map_append]
theorem str_add(x y:List Nat)(h:x.length+y.length≤9223372036854775807)(w:World):(Op.stringOp .add (str x) (str y)).run Tryz.prog w=.ok (.string (str (x++y))) w:=by
 rw[run_string_add_sum w _ _ (by rw[str_size,str_size];omega),str_append]
end Go.Proofs.YtpbbolgnnegmlaaGreatDoor.Num
