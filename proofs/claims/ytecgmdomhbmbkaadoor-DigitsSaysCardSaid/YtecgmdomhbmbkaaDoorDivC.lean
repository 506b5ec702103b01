/-
  Contracts of layer 3: Div, Near, Gcd.
-/
import Derived.Test.YtecgmdomhbmbkaaDoorDivL
namespace Go.Proofs.YtecgmdomhbmbkaaDoor
open Go.RowKit

theorem dg_one {b : Nat} (h : (dg b).length = 1) : dg b = [b] ∧ b < 1000000000 := by
  have hb : 0 < b := by
    rcases Nat.eq_zero_or_pos b with h0 | h0
    · rw [h0, dg_zero] at h; simp at h
    · exact h0
  rw [dg_pos hb] at h ⊢
  have h1 : dg (b / 1000000000) = [] := List.eq_nil_of_length_eq_zero (by simpa using h)
  rw [h1]
  rw [dg_eq_nil] at h1
  have : b < 1000000000 := by omega
  exact ⟨by rw [Nat.mod_eq_of_lt this], this⟩
theorem dg_len_pos {b n : Nat} (h : (dg b).length = n) (hb : 0 < b) : 0 < n := by
  rcases Nat.eq_zero_or_pos n with h0 | h0
  · subst h0
    have := dg_eq_nil.1 (List.eq_nil_of_length_eq_zero h)
    omega
  · exact h0

/-- Of two numbers' quotient the nearest one, the even one if both are as near. -/
def nearN (a b : Nat) : Nat := if b < 2 * (a % b) then a / b + 1 else if 2 * (a % b) = b ∧ a / b % 2 = 1 then a / b + 1 else a / b

theorem div_len_le {a b n : Nat} (h : (dg a).length = n) : (dg (a / b)).length ≤ n := by
  rw [← h]; exact dg_len_mono (Nat.div_le_self _ _)
theorem mod_len_le {a b n : Nat} (h : (dg a).length = n) : (dg (a % b)).length ≤ n := by
  rw [← h]; exact dg_len_mono (Nat.mod_le _ _)

end Go.Proofs.YtecgmdomhbmbkaaDoor
