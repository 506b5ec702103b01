/-
  The walks of the laws NatRing and NatOrder.
-/
import Derived.Test.YtecgmdomhbmbkaaDoorNatH
namespace Go.Proofs.YtecgmdomhbmbkaaDoor
open Go.RowKit

theorem Lim.num {w : World} {B n c : Nat} {A : Option Addr} {xs : List Nat} (h : Lim w B A n c xs) (hr : rightB xs = true) : Num w B A n c (val xs) := by
  rw [Num, dg_of_right hr]; exact h

theorem bad_or_good (n1 n2 n3 : Nat) (x1 x2 x3 : List Nat) :
    (decide (60 < (n1 : Int)) = true) ∨ (decide (60 < (n1 : Int)) = false ∧ decide (60 < (n2 : Int)) = true) ∨ (decide (60 < (n1 : Int)) = false ∧ decide (60 < (n2 : Int)) = false ∧ decide (60 < (n3 : Int)) = true) ∨
    (decide (60 < (n1 : Int)) = false ∧ decide (60 < (n2 : Int)) = false ∧ decide (60 < (n3 : Int)) = false ∧ rightB x1 = false) ∨
    (decide (60 < (n1 : Int)) = false ∧ decide (60 < (n2 : Int)) = false ∧ decide (60 < (n3 : Int)) = false ∧ rightB x1 = true ∧ rightB x2 = false) ∨
    (decide (60 < (n1 : Int)) = false ∧ decide (60 < (n2 : Int)) = false ∧ decide (60 < (n3 : Int)) = false ∧ rightB x1 = true ∧ rightB x2 = true ∧ rightB x3 = false) ∨
    (decide (60 < (n1 : Int)) = false ∧ decide (60 < (n2 : Int)) = false ∧ decide (60 < (n3 : Int)) = false ∧ rightB x1 = true ∧ rightB x2 = true ∧ rightB x3 = true) := by
  cases decide (60 < (n1 : Int)) <;> cases decide (60 < (n2 : Int)) <;> cases decide (60 < (n3 : Int)) <;> cases rightB x1 <;> cases rightB x2 <;> cases rightB x3 <;> simp

theorem len_small {n : Nat} (h : decide (60 < (n : Int)) = false) : n ≤ 60 := by
  rw [decide_eq_false_iff_not] at h; omega
theorem sum_len {w : World} {B k c k1 k2 a b : Nat} {A : Option Addr} (h : Num w B A k c (a + b)) (ha : (dg a).length ≤ k1) (hb : (dg b).length ≤ k2) : k ≤ max k1 k2 + 1 := by
  have := dg_len_add a b
  rw [h.len] at this
  omega

theorem Env.three {w : World} {A1 A2 A3 : Option Addr} {n1 n2 n3 c1 c2 c3 a b c : Nat} (h1 : Num w w.heap.size A1 n1 c1 a) (h2 : Num w w.heap.size A2 n2 c2 b) (h3 : Num w w.heap.size A3 n3 c3 c) : Hid (Env w w [(A1, n1, c1, a), (A2, n2, c2, b), (A3, n3, c3, c)]) := by
  refine ⟨Below.refl _ _, fun q hq => ?_⟩
  rcases List.mem_cons.1 hq with rfl | hq
  · exact h1
  · rcases List.mem_cons.1 hq with rfl | hq
    · exact h2
    · rcases List.mem_cons.1 hq with rfl | hq
      · exact h3
      · cases hq

end Go.Proofs.YtecgmdomhbmbkaaDoor
