/- What the proofs of this layer need of the layer Dec, in one text. -/
import Derived.Test.YtjkandnbjbfeiaaDoorAllDigA
set_option linter.unusedVariables false
set_option linter.unusedSimpArgs false

/-
  Layer 5, plain: a decimal as a whole number (its digits with their sign) and a scale.
-/
namespace Go.Proofs.YtjkandnbjbfeiaaDoor.Num

/-- Is it below nought? -/
def ngB (i : Int) : Bool := decide (i < 0)
/-- A sign and digits, as a whole number. -/
def sgn (b : Bool) (a : Nat) : Int := if b then -(a : Int) else a
theorem ng_sgn (b : Bool) (a : Nat) : ngB (sgn b a) = (b && decide (0 < a)) := by
  unfold ngB sgn
  cases b <;> by_cases h : 0 < a <;> simp [h] <;> omega
theorem abs_sgn (b : Bool) (a : Nat) : (sgn b a).natAbs = a := by
  unfold sgn; cases b <;> simp
theorem sgn_ng (i : Int) : sgn (ngB i) i.natAbs = i := by
  unfold sgn ngB
  by_cases h : i < 0 <;> simp [h] <;> omega
theorem sgn_not (i : Int) : sgn (!ngB i) i.natAbs = -i := by
  unfold sgn ngB
  by_cases h : i < 0 <;> simp [h] <;> omega
theorem sgn_false (a : Nat) : sgn false a = a := rfl

end Go.Proofs.YtjkandnbjbfeiaaDoor.Num
