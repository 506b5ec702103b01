/- What the proofs of this layer need of the layer Div, in one text. -/
import Derived.Test.YtjkandnbjbfeiaaDoorAllMulC
import Derived.Test.YtjkandnbjbfeiaaDoorAllDivA
import Derived.OwnWalk
set_option linter.unusedVariables false
set_option linter.unusedSimpArgs false

/-
  Contracts of layer 3, the first part: sound, Small.
-/
namespace Go.Proofs.YtjkandnbjbfeiaaDoor.Num
open Go.RowKit

/-- What comes back of a division: quotient, rest and no error. -/
def RetDiv (W : World) (q r : Nat) (e : Ending) (w' : World) : Prop :=
  ∃ A n c A' n' c', e = .returned (.tuple #[.slice A n c, .slice A' n' c', .int .i64 0]) ∧ Num w' w'.heap.size A n c q ∧ Num w' w'.heap.size A' n' c' r ∧ Below W.heap.size W w'
/-- The same by a small number: the rest is a number of Go. -/
def RetSmall (W : World) (q r : Nat) (e : Ending) (w' : World) : Prop :=
  ∃ A n c, e = .returned (.tuple #[.slice A n c, .int .u32 r, .int .i64 0]) ∧ Num w' w'.heap.size A n c q ∧ Below W.heap.size W w'

/-- The same, the quotient in memory of the call's own. -/
def RetSmallF (W : World) (q r : Nat) (e : Ending) (w' : World) : Prop :=
  ∃ A n c, e = .returned (.tuple #[.slice A n c, .int .u32 r, .int .i64 0]) ∧ Num w' w'.heap.size A n c q ∧ (∀ ad, A = some ad → W.heap.size ≤ ad.block) ∧ Below W.heap.size W w'
set_option maxRecDepth 100000 in
theorem trim_new {A : Option Addr} {n c m : Nat} {xs : List Nat} {w : World} (h : Lim w w.heap.size A n c xs) (hx : limbs xs) (hn : n ≤ 1000000000) (hm : val xs = m) :
    Calls Tryd.prog 57 #[.slice A n c] w (RetNew w m) := by
  subst hm
  refine (trim_own A n c xs w h hx hn).mono fun _ _ ⟨A', n', c', he, ho, hb⟩ => ⟨A', n', c', he, Lim.of_own ho (fun x hx => by have := limbs_dg _ x hx; omega), fun ad hA => ?_, hb⟩
  subst hA
  exact (ho.lt _ rfl).1

theorem udiv_cast (t N : Nat) (h : t / N < 1000000000) : ∃ q, t / N = q ∧ ((t : Nat) : Int) / (N : Int) % 4294967296 = (q : Int) := by
  refine ⟨t / N, rfl, ?_⟩
  rw [← Int.natCast_ediv]
  generalize t / N = q at *
  omega

end Go.Proofs.YtjkandnbjbfeiaaDoor.Num

/-
  Contracts of layer 3, the second part: take, putBack: what is taken off a row of a room, and put back.
-/
namespace Go.Proofs.YtjkandnbjbfeiaaDoor.Num
open Go.RowKit

/-- What take hands back: whether it was too much; the room's limbs have turned, but none from place m on. -/
def RetTake (W : World) (g len m Z C : Nat) (zs : List Nat) (e : Ending) (w' : World) : Prop :=
  ∃ (cy : Nat) (ys : List Nat), e = .returned (.bool (decide (0 < cy))) ∧ Own w' g ys ∧ ys.length = len ∧ limbs ys ∧ Above m zs ys ∧ val ys + C = Z + cy * 1000000000 ^ m ∧ Kept g W w'

/-- What putBack hands back. -/
def RetPut (W : World) (g len m T : Nat) (zs : List Nat) (e : Ending) (w' : World) : Prop :=
  ∃ (cy : Nat) (ys : List Nat), e = .returned (.tuple #[]) ∧ Own w' g ys ∧ ys.length = len ∧ limbs ys ∧ Above m zs ys ∧ val ys + cy * 1000000000 ^ m = T ∧ Kept g W w'

end Go.Proofs.YtjkandnbjbfeiaaDoor.Num
