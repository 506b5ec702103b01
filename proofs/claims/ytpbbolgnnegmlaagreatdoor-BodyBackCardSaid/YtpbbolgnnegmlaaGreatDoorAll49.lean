/- Lemmas of the proof: BodZ. -/
import Derived.Test.YtpbbolgnnegmlaaGreatDoorAll46
import Derived.Test.YtpbbolgnnegmlaaGreatDoorAll41
import Derived.Test.YtpbbolgnnegmlaaGreatDoorAll48
set_option linter.unusedVariables false
set_option linter.unusedSimpArgs false
set_option maxRecDepth 100000
set_option maxHeartbeats 32000000

