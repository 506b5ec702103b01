/- Lemmas of the proof: Line. -/
import Derived.Deep.RegionHeld3
import Derived.Great.Frames
import Derived.KernelRfl
import Derived.WalkKit
set_option linter.unusedVariables false
set_option linter.unusedSimpArgs false
set_option maxRecDepth 100000
set_option maxHeartbeats 32000000
namespace Go.Proofs.YthpmaoimceojgaaGreatDoor.Num
open Go.RowKit
def upto(n k:Nat)(ex:List Nat):Array Bool:=Array.ofFn (n:=n) fun i=>decide (i.val<k)||ex.contains i.val
section
variable {P:Program}{ops:Array Oper}{Q:Exit→Act→World→Prop}{S:World→Prop}{N:Nat}
abbrev Spot3:=Nat×List Nat×Nat
def stillB(ops:Array Oper)(q:Spot3):Bool:=(Region.ready .any ops (upto ops.size q.1 q.2.1)).contains q.2.2&&Region.free .any ops (upto ops.size q.1 q.2.1) q.2.2
def soleB(ops:Array Oper)(q:Spot3):Bool:=Region.ready .any ops (upto ops.size q.1 q.2.1) == [q.2.2]
abbrev Row3:=Option Nat×Option (Nat×Bool)×Op
def row3(o:Oper):Row3:=(o.dst,o.guard,o.op)
structure Reg (ops:Array Oper) (T:List Row3) (sts sos:List Spot3):Prop where
 rows:ops.toList.map row3=T
 sel:Region.noSelect ops=true
 still:∀k∈sts,stillB ops k=true
 sole:∀k∈sos,soleB ops k=true
 done:Region.ready .any ops (upto ops.size ops.size [])=[]
/-! What operations yield, their temporaries' values given. -/
end
end Go.Proofs.YthpmaoimceojgaaGreatDoor.Num
