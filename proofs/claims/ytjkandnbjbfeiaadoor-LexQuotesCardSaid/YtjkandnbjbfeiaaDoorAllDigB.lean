/- What the proofs of this layer need of the layer Dig, in one text. -/
import Derived.Test.YtjkandnbjbfeiaaDoorAllDigA
import Derived.Test.YtjkandnbjbfeiaaDoorAllDivB
set_option linter.unusedVariables false
set_option linter.unusedSimpArgs false

/-
  Contracts of layer 4, the first part: Count, Noughts, Drop.
-/
namespace Go.Proofs.YtjkandnbjbfeiaaDoor.Num
open Go.RowKit

/-- How many digits x has; none, if it is nought. -/
def nd0 (x : Nat) : Nat := if x = 0 then 0 else nd x
theorem nd0_step {x : Nat} (h : 0 < x) : nd0 x = nd0 (x / 10) + 1 := by
  unfold nd0
  rw [if_neg (by omega)]
  rcases Nat.lt_or_ge x 10 with h1 | h1
  · rw [if_pos (by omega), nd_lt h1]
  · rw [if_neg (by omega), nd_ge h1]
theorem nd0_zero : nd0 0 = 0 := rfl
theorem nd0_pos {x : Nat} (h : 0 < x) : nd0 x = nd x := by unfold nd0; rw [if_neg (by omega)]
theorem nd_le_len {a n : Nat} (h : (dg a).length = n) : nd a ≤ 9 * n + 1 := by
  refine nd_le_of_lt (9 * n) (Nat.lt_of_lt_of_le (lt_pow_dg a) ?_)
  rw [h, pow9]
  exact Nat.pow_le_pow_right (by omega) (by omega)

theorem gd_take' {xs : List Nat} {i j : Nat} (h : j < i) : gd (xs.take i) j = gd xs j := by
  unfold gd; rw [List.getD_eq_getElem?_getD, List.getD_eq_getElem?_getD, List.getElem?_take_of_lt h]
theorem tz_start {a i : Nat} (hz : ∀ j, j < i → gd (dg a) j = 0) (hx : gd (dg a) i ≠ 0) : tz a = 9 * i + tz (gd (dg a) i) := by
  have h1 := (val_take_mod a i)
  have h0 : a % 1000000000 ^ i = 0 := by
    rw [← h1.1]
    refine val_of_gd_zero fun j => ?_
    rcases Nat.lt_or_ge j i with hj | hj
    · rw [gd_take' hj, hz j hj]
    · exact gd_of_ge (by rw [List.length_take]; omega)
  have h2 := val_drop (dg a) i
  rw [h1.2] at h2
  have hg := gd_lt (limbs_dg a) i
  have hm : a / 1000000000 ^ i % 1000000000 = gd (dg a) i := by
    generalize gd (dg a) i = x at *
    generalize val ((dg a).drop (i + 1)) = y at *
    omega
  have hb : 0 < a / 1000000000 ^ i := by omega
  have e : a = a / 1000000000 ^ i * 10 ^ (9 * i) := by
    rw [← pow9]
    have := Nat.div_add_mod a (1000000000 ^ i)
    rw [h0, Nat.add_zero, Nat.mul_comm] at this
    exact this.symm
  have e2 := tz_mul hb (9 * i)
  rw [← e] at e2
  rw [e2, tz_limb (b := a / 1000000000 ^ i) (by omega), hm]; omega

end Go.Proofs.YtjkandnbjbfeiaaDoor.Num
