/-
  Contracts of layer 3, the second part: take, putBack: what is taken off a row of a room, and put back.
-/
import Derived.Test.YtecgmdomhbmbkaaDoorDivA
namespace Go.Proofs.YtecgmdomhbmbkaaDoor
open Go.RowKit

/-- What take hands back: whether it was too much; the room's limbs have turned, but none from place m on. -/
def RetTake (W : World) (g len m Z C : Nat) (zs : List Nat) (e : Ending) (w' : World) : Prop :=
  ∃ (cy : Nat) (ys : List Nat), e = .returned (.bool (decide (0 < cy))) ∧ Own w' g ys ∧ ys.length = len ∧ limbs ys ∧ Above m zs ys ∧ val ys + C = Z + cy * 1000000000 ^ m ∧ Kept g W w'

/-- What putBack hands back. -/
def RetPut (W : World) (g len m T : Nat) (zs : List Nat) (e : Ending) (w' : World) : Prop :=
  ∃ (cy : Nat) (ys : List Nat), e = .returned (.tuple #[]) ∧ Own w' g ys ∧ ys.length = len ∧ limbs ys ∧ Above m zs ys ∧ val ys + cy * 1000000000 ^ m = T ∧ Kept g W w'

end Go.Proofs.YtecgmdomhbmbkaaDoor
