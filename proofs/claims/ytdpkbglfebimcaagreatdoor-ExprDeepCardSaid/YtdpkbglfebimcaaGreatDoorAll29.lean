/- What the proof needs, texts TxtF, TxtH, TxtI, TxtJ, in one text. -/
import Derived.Test.YtdpkbglfebimcaaGreatDoorAll28
import Derived.Test.YtdpkbglfebimcaaGreatDoorAll25
import Derived.Test.YtdpkbglfebimcaaGreatDoorAll13
set_option linter.unusedVariables false
set_option linter.unusedSimpArgs false
namespace Go.Proofs.YtdpkbglfebimcaaGreatDoor.Num
open Go.RowKit
section
variable {w : World} {s : ByteArray} {i : Int} {k : Nat}
variable {A : Option Addr} {n c t : Nat} {x : ByteArray}
end
section
variable {o : Oper} {ρ : Operand → Value} {x y : Operand} {w : World}
end
end Go.Proofs.YtdpkbglfebimcaaGreatDoor.Num
namespace Go.Proofs.YtdpkbglfebimcaaGreatDoor.Num
open Go.RowKit
end Go.Proofs.YtdpkbglfebimcaaGreatDoor.Num
namespace Go.Proofs.YtdpkbglfebimcaaGreatDoor.Num
open Go.RowKit
end Go.Proofs.YtdpkbglfebimcaaGreatDoor.Num
namespace Go.Proofs.YtdpkbglfebimcaaGreatDoor.Num
open Go.RowKit
end Go.Proofs.YtdpkbglfebimcaaGreatDoor.Num
