/- What the proof needs, texts DigS, DigV, in one text. -/
import Derived.Test.YtdpkbglfebimcaaGreatDoorAll12
import Derived.Deep.RegionWith
import Derived.IntWalk
import Derived.Test.YtdpkbglfebimcaaGreatDoorAll11
set_option linter.unusedVariables false
set_option linter.unusedSimpArgs false
namespace Go.Proofs.YtdpkbglfebimcaaGreatDoor.Num
open Go.RowKit
theorem str_take (l : List Nat) (k : Nat) : (str l).extract 0 k = str (l.take k) := by
  unfold str
  rw [ByteArray.extract_mk]
  simp
end Go.Proofs.YtdpkbglfebimcaaGreatDoor.Num
namespace Go.Proofs.YtdpkbglfebimcaaGreatDoor.Num
open Go.RowKit
end Go.Proofs.YtdpkbglfebimcaaGreatDoor.Num
