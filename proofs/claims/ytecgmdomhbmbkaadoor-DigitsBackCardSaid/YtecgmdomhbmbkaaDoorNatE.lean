/-
  Contract of layer 1: Sub.
-/
import Derived.Test.YtecgmdomhbmbkaaDoorNatD
import Derived.Test.YtecgmdomhbmbkaaDoorNatMathB
namespace Go.Proofs.YtecgmdomhbmbkaaDoor
open Go.RowKit

def RetSub (W : World) (m : Nat) (e : Ending) (w' : World) : Prop :=
  ∃ A n c, e = .returned (.tuple #[.slice A n c, .int .i64 0]) ∧ Num w' w'.heap.size A n c m ∧ Below W.heap.size W w'

end Go.Proofs.YtecgmdomhbmbkaaDoor
