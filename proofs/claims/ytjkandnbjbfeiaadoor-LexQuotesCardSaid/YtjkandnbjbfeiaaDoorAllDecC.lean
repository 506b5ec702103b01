/- What the proofs of this layer need of the layer Dec, in one text. -/
import Derived.Test.YtjkandnbjbfeiaaDoorAllDecB
import Derived.Test.YtjkandnbjbfeiaaDoorAllMulD
set_option linter.unusedVariables false
set_option linter.unusedSimpArgs false

/-
  Contracts of layer 5, the third part: raised, Align, and the document's Align.
-/
namespace Go.Proofs.YtjkandnbjbfeiaaDoor.Num
open Go.RowKit

theorem sgn_mul (i : Int) (m : Nat) (hm : 0 < m) : sgn (ngB i) (i.natAbs * m) = i * (m : Int) := by
  unfold sgn ngB
  by_cases h : i < 0
  · rw [decide_eq_true h, if_pos rfl]
    have e : (i.natAbs : Int) = -i := by omega
    rw [Int.natCast_mul, e, Int.neg_mul, Int.neg_neg]
  · rw [decide_eq_false h]
    have e : (i.natAbs : Int) = i := by omega
    rw [if_neg (by simp), Int.natCast_mul, e]
theorem ten_pos (k : Nat) : 0 < 10 ^ k := Nat.pow_pos (by omega)
/-- A whole number of the scale s at the scale S. -/
def up (i : Int) (s S : Nat) : Int := i * ((10 ^ (S - s) : Nat) : Int)
theorem up_same (i : Int) (s : Nat) : up i s s = i := by unfold up; rw [Nat.sub_self]; simp
theorem sgn_up (i : Int) (s S : Nat) : sgn (ngB i) (i.natAbs * 10 ^ (S - s)) = up i s S := sgn_mul i _ (ten_pos _)
theorem abs_up (i : Int) (s S : Nat) : (up i s S).natAbs = i.natAbs * 10 ^ (S - s) := by unfold up; rw [Int.natAbs_mul, Int.natAbs_natCast]

/-- Two decimals come back. -/
def RetDec2 (W : World) (i : Int) (s : Nat) (j : Int) (t : Nat) (e : Ending) (w' : World) : Prop :=
  ∃ A n c A' n' c', e = .returned (.tuple #[.agg #[.bool (ngB i), .slice A n c, .int .i64 (s : Int)], .agg #[.bool (ngB j), .slice A' n' c', .int .i64 (t : Int)]]) ∧ Num w' w'.heap.size A n c i.natAbs ∧ Num w' w'.heap.size A' n' c' j.natAbs ∧ Below W.heap.size W w'

end Go.Proofs.YtjkandnbjbfeiaaDoor.Num
