/-
  The walk of the law NatmulRing.
-/
import Derived.Test.YtenelfclalnfhaaMulH
import Derived.Test.YtenelfclalnfhaaNatI
namespace Go.Proofs.Ytenelfclalnfhaa
open Go.RowKit

theorem bads3 (K n1 n2 n3 : Nat) (x1 x2 x3 : List Nat) :
    (K < n1) ∨ (n1 ≤ K ∧ K < n2) ∨ (n1 ≤ K ∧ n2 ≤ K ∧ K < n3) ∨
    (n1 ≤ K ∧ n2 ≤ K ∧ n3 ≤ K ∧ rightB x1 = false) ∨ (n1 ≤ K ∧ n2 ≤ K ∧ n3 ≤ K ∧ rightB x1 = true ∧ rightB x2 = false) ∨ (n1 ≤ K ∧ n2 ≤ K ∧ n3 ≤ K ∧ rightB x1 = true ∧ rightB x2 = true ∧ rightB x3 = false) ∨
    (n1 ≤ K ∧ n2 ≤ K ∧ n3 ≤ K ∧ rightB x1 = true ∧ rightB x2 = true ∧ rightB x3 = true) := by
  by_cases h1 : K < n1
  · exact .inl h1
  · by_cases h2 : K < n2
    · exact .inr (.inl ⟨by omega, h2⟩)
    · by_cases h3 : K < n3
      · exact .inr (.inr (.inl ⟨by omega, by omega, h3⟩))
      · have e1 : n1 ≤ K := by omega
        have e2 : n2 ≤ K := by omega
        have e3 : n3 ≤ K := by omega
        cases rightB x1 <;> cases rightB x2 <;> cases rightB x3 <;> simp [e1, e2, e3]

theorem mul_len {w : World} {B k c k1 k2 a b : Nat} {A : Option Addr} (h : Num w B A k c (a * b)) (ha : (dg a).length ≤ k1) (hb : (dg b).length ≤ k2) : k ≤ k1 + k2 := by
  have := dg_len_mul a b
  rw [h.len] at this
  omega

end Go.Proofs.Ytenelfclalnfhaa
