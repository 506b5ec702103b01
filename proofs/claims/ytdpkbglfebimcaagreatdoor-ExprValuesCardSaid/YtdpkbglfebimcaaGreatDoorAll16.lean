/- What the proof needs, texts MulU, in one text. -/
import Derived.Test.YtdpkbglfebimcaaGreatDoorAll07
import Derived.Deep.RegionLaw
set_option linter.unusedVariables false
set_option linter.unusedSimpArgs false
namespace Go.Proofs.YtdpkbglfebimcaaGreatDoor.Num
open Go.RowKit
section
variable {P : Program} {w : World} {o : Oper} {a : Act}
end
end Go.Proofs.YtdpkbglfebimcaaGreatDoor.Num
