/- What the proof needs, texts AmoZ, in one text. -/
import Derived.Test.YtjonoedomgacaaaGreatDoorAll40
import Derived.Test.YtjonoedomgacaaaGreatDoorAll42
import Derived.Test.YtjonoedomgacaaaGreatDoorAll43
set_option linter.unusedVariables false
set_option linter.unusedSimpArgs false
set_option maxRecDepth 100000
set_option maxHeartbeats 32000000
namespace Go.Proofs.YtjonoedomgacaaaGreatDoor.Num
open Go.RowKit
theorem amts14 : READA := fun hr hB hn hL hok h => amount_at (i := 0) hr hB hn hL hok (Nat.zero_le _) h
theorem unts14 : READU := fun hr hB hn hL hok h => units_at (i := 0) hr hB hn hL hok (Nat.zero_le _) h
theorem csts14 : READC := fun hr hB hn hL hok h => cost_at (i := 0) hr hB hn hL hok (Nat.zero_le _) h
theorem prcs14 : READP := fun hr hB hn hL hok h => price_at (i := 0) hr hB hn hL hok (Nat.zero_le _) h
end Go.Proofs.YtjonoedomgacaaaGreatDoor.Num
