/- What the proofs of this layer need of the layer Nat, in one text. -/
import Derived.Test.YtjkandnbjbfeiaaDoorAllNatB
import Derived.Test.YtjkandnbjbfeiaaDoorChecked
import Derived.KernelRfl
import Derived.Deep.QuietTactic
import Derived.BigQuiet
import Derived.Outline
import Derived.WalkMore
import Derived.Deep.LoopGhost
set_option linter.unusedVariables false
set_option linter.unusedSimpArgs false

/-
  Contracts of layer 1 that only read: at, Right, Cmp, Same, Even, Long.
-/
namespace Go.Proofs.YtjkandnbjbfeiaaDoor.Num
open Go.RowKit

theorem right_last {xs : List Nat} {n : Nat} (hl : xs.length = n) (h : limbs xs) : rightB xs = decide (n = 0 ∨ gd xs (n - 1) ≠ 0) := by
  subst hl
  rw [Bool.eq_iff_iff, rightB_iff, decide_eq_true_iff, List.getLast?_eq_getElem?]
  rcases Nat.eq_zero_or_pos xs.length with h0 | h0
  · obtain rfl : xs = [] := List.eq_nil_of_length_eq_zero h0
    simp [limbs_nil]
  · rw [gd_of_lt (by omega)]
    simp only [h, true_and, ne_eq, Option.some.injEq]
    constructor
    · intro hh; exact .inr hh
    · rintro (hh | hh)
      · omega
      · exact hh
theorem right_no {xs : List Nat} {k : Nat} (h : 1000000000 ≤ gd xs k) : rightB xs = false := by
  rw [Bool.eq_false_iff]
  intro hr
  have := gd_lt (rightB_iff.1 hr).1 k
  omega
theorem limbs_of_gd {xs : List Nat} (h : ∀ j, j < xs.length → gd xs j < 1000000000) : limbs xs := by
  intro x hx
  obtain ⟨j, hj, rfl⟩ := List.getElem_of_mem hx
  have := h j hj
  unfold gd at this
  rwa [List.getD_eq_getElem?_getD, List.getElem?_eq_getElem hj] at this
theorem all_succ {xs : List Nat} {k : Nat} (h : ∀ j, j < k → gd xs j < 1000000000) (hk : gd xs k < 1000000000) : ∀ j, j < k + 1 → gd xs j < 1000000000 := by
  intro j hj
  rcases Nat.lt_or_ge j k with h1 | h1
  · exact h j h1
  · obtain rfl : j = k := by omega
    exact hk

theorem ret_bool {a b : Bool} (h : a = b) : Ending.returned (.bool a) = .returned (.bool b) := by rw [h]
theorem ret_int {k : IntKind} {a b : Int} (h : a = b) : Ending.returned (.int k a) = .returned (.int k b) := by rw [h]

theorem cmp_lt_at {a b : Nat} {k : Nat} (hall : ∀ j, k < j → gd (dg a) j = gd (dg b) j) (h : gd (dg a) k < gd (dg b) k) : cmpN a b = -1 := by
  have := val_lt_of_gd (limbs_dg a) hall h
  rw [val_dg, val_dg] at this
  exact cmpN_lt this
theorem cmp_gt_at {a b : Nat} {k : Nat} (hall : ∀ j, k < j → gd (dg a) j = gd (dg b) j) (h : gd (dg b) k < gd (dg a) k) : cmpN a b = 1 := by
  have := val_lt_of_gd (limbs_dg b) (fun j hj => (hall j hj).symm) h
  rw [val_dg, val_dg] at this
  exact cmpN_gt this
theorem cmp_eq_at {a b : Nat} (hall : ∀ j, 0 ≤ j → gd (dg a) j = gd (dg b) j) : cmpN a b = 0 := by
  have := val_eq_of_gd (dg a) (dg b) (fun j => hall j (Nat.zero_le _))
  rw [val_dg, val_dg] at this
  exact cmpN_eq this
theorem all_pred {xs ys : List Nat} {k : Nat} (h : ∀ j, k ≤ j → gd xs j = gd ys j) (hk : gd xs (k - 1) = gd ys (k - 1)) : ∀ j, k - 1 ≤ j → gd xs j = gd ys j := by
  intro j hj
  rcases Nat.lt_or_ge j k with h1 | h1
  · obtain rfl : j = k - 1 := by omega
    exact hk
  · exact h j h1

end Go.Proofs.YtjkandnbjbfeiaaDoor.Num

/-
  Contracts of layer 1 that only read, the second part: the document's Cmp, and Same.
-/
namespace Go.Proofs.YtjkandnbjbfeiaaDoor.Num
open Go.RowKit

end Go.Proofs.YtjkandnbjbfeiaaDoor.Num
