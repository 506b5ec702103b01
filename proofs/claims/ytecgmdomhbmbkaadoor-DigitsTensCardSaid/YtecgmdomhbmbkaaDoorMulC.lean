/-
  Contracts of layer 2, the third part: halves, Fast, Square.
-/
import Derived.Test.YtecgmdomhbmbkaaDoorMulB
namespace Go.Proofs.YtecgmdomhbmbkaaDoor
open Go.RowKit

theorem Lim.quiet {w : World} {B n c k : Nat} {A : Option Addr} {xs : List Nat} (h : Lim w B A n c xs) : Lim (w.drewN k) B A n c xs := h.below (below_drewN (Below.refl _ _) k)

theorem val_take_mod (a k : Nat) : val ((dg a).take k) = a % 1000000000 ^ k ∧ val ((dg a).drop k) = a / 1000000000 ^ k := by
  have hp : 0 < 1000000000 ^ k := Nat.pow_pos (by omega)
  have hlt : val ((dg a).take k) < 1000000000 ^ k := by
    refine Nat.lt_of_lt_of_le (val_lt (limbs_take (limbs_dg a) k)) (Nat.pow_le_pow_right (by omega) ?_)
    rw [List.length_take]; omega
  have e : a = val ((dg a).take k) + 1000000000 ^ k * val ((dg a).drop k) := by
    rcases Nat.lt_or_ge (dg a).length k with h | h
    · rw [List.take_of_length_le (by omega), List.drop_of_length_le (by omega), val_dg]; rfl
    · rw [← val_take_drop _ _ h, val_dg]
  generalize 1000000000 ^ k = P at *
  generalize val ((dg a).take k) = x at *
  generalize val ((dg a).drop k) = y at *
  subst e
  constructor
  · rw [Nat.add_mul_mod_self_left, Nat.mod_eq_of_lt hlt]
  · rw [Nat.add_mul_div_left _ _ hp, Nat.div_eq_of_lt hlt, Nat.zero_add]

theorem Lim.rest {w : World} {B n c b o k : Nat} {xs : List Nat} (h : Lim w B (some ⟨b, o, none⟩) n c xs) (hk : k ≤ n) (A : Option Addr) (hA : k < n → A = some ⟨b, o + k, none⟩) (hA' : A = none → c - k = 0) : Lim w B A (n - k) (c - k) (xs.drop k) := by
  refine ⟨by rw [List.length_drop, h.len], by have := h.cap; omega, by have := h.room; omega, fun x hx => h.fit x (List.mem_of_mem_drop hx), ?_, hA'⟩
  rcases Nat.lt_or_ge k n with hlt | hge
  · obtain rfl := hA hlt
    rcases h.row with h0 | ⟨b', o', he, hb, hc⟩
    · left
      have := congrArg List.length h0
      rw [vals_len, h.len] at this
      simp at this; omega
    · injection he with he
      injection he with he1 he2
      subst he1; subst he2
      refine .inr ⟨b, o + k, rfl, hb, fun j u hu => ?_⟩
      rw [Nat.add_assoc]
      refine hc (k + j) u ?_
      rw [vals, List.map_drop, List.getElem?_drop] at hu
      exact hu
  · left
    rw [List.drop_of_length_le (by rw [h.len]; exact hge)]; rfl

/-- What halves hands back. -/
def RetHalves (W : World) (x y : Nat) (e : Ending) (w' : World) : Prop :=
  ∃ A1 n1 c1 A2 n2 c2, e = .returned (.tuple #[.slice A1 n1 c1, .slice A2 n2 c2]) ∧ Num w' w'.heap.size A1 n1 c1 x ∧ Num w' w'.heap.size A2 n2 c2 y ∧ Below W.heap.size W w'

theorem halves_ret {W : World} {x y k n1 n2 : Nat} {V1 V2 : Value} {xs ys : List Nat} {A1 A2 : Option Addr} (hv : val xs = x ∧ val ys = y)
    (h1 : ∃ A' n' c', V1 = .slice A' n' c' ∧ n' ≤ n1 ∧ (A' = none ∨ A' = A1) ∧ Lim W W.heap.size A' n' c' (dg (val xs))) (h2 : ∃ A' n' c', V2 = .slice A' n' c' ∧ n' ≤ n2 ∧ (A' = none ∨ A' = A2) ∧ Lim W W.heap.size A' n' c' (dg (val ys))) :
    RetHalves W x y (.returned (.tuple #[V1, V2])) (W.drewN k) := by
  obtain ⟨rfl, rfl⟩ := hv
  obtain ⟨A1, n1, c1, rfl, _, _, l1⟩ := h1
  obtain ⟨A2, n2, c2, rfl, _, _, l2⟩ := h2
  exact ⟨A1, n1, c1, A2, n2, c2, rfl, l1.quiet, l2.quiet, below_drewN (Below.refl _ _) k⟩

end Go.Proofs.YtecgmdomhbmbkaaDoor
