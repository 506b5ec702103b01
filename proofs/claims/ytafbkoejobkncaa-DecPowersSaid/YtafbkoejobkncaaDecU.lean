/-
  Layer 5, plain: what the laws say of the values.
-/
import Derived.Test.YtafbkoejobkncaaDecS
namespace Go.Proofs.Ytafbkoejobkncaa
open Go.RowKit

theorem up_mul {i k : Int} {s u M N : Nat} (hs : s ≤ M) (hu : u ≤ N) : up (i * k) (s + u) (M + N) = up i s M * up k u N := by
  unfold up
  have e : M + N - (s + u) = (M - s) + (N - u) := by omega
  rw [e, Nat.pow_add, Int.natCast_mul]
  generalize ((10 ^ (M - s) : Nat) : Int) = P
  generalize ((10 ^ (N - u) : Nat) : Int) = R
  grind
theorem same_of {x y : Int} {s t : Nat} (M : Nat) (hs : s ≤ M) (ht : t ≤ M) (h : up x s M = up y t M) : (cmpD x s y t == 0) = true := by
  rw [cmpD_at hs ht, cmpZ_eq h]; rfl
theorem ring_comm (i j : Int) (s t : Nat) : alikeB (addZ i s j t) (max s t) (addZ j t i s) (max t s) = true :=
  alike_yes (by unfold addZ; rw [Nat.max_comm t s, Int.add_comm]) (Nat.max_comm _ _)
theorem ring_assoc (i j k : Int) (s t u : Nat) : (cmpD (addZ (addZ i s j t) (max s t) k u) (max (max s t) u) (addZ i s (addZ j t k u) (max t u)) (max s (max t u)) == 0) = true := by
  refine same_of (max (max s t) u) (Nat.le_refl _) (by omega) ?_
  rw [up_addZ (by omega) (by omega), up_addZ (by omega) (by omega), up_addZ (by omega) (by omega), up_addZ (by omega) (by omega)]
  omega
theorem ring_back (i j : Int) (s t : Nat) : (cmpD (subZ (addZ i s j t) (max s t) j t) (max (max s t) t) i s == 0) = true := by
  refine same_of (max (max s t) t) (Nat.le_refl _) (by omega) ?_
  rw [up_subZ (by omega) (by omega), up_addZ (by omega) (by omega)]
  omega
theorem ring_mcomm (i j : Int) (s t : Nat) : alikeB (i * j) (s + t) (j * i) (t + s) = true := alike_yes (Int.mul_comm _ _) (Nat.add_comm _ _)
theorem ring_massoc (i j k : Int) (s t u : Nat) : (cmpD (i * j * k) (s + t + u) (i * (j * k)) (s + (t + u)) == 0) = true := by
  rw [Int.mul_assoc, Nat.add_assoc, cmpD_self]; rfl
theorem ring_over (i j k : Int) (s t u : Nat) : (cmpD (addZ i s j t * k) (max s t + u) (addZ (i * k) (s + u) (j * k) (t + u)) (max (s + u) (t + u)) == 0) = true := by
  refine same_of (max s t + u) (Nat.le_refl _) (by omega) ?_
  rw [up_addZ (by omega) (by omega), up_mul (i := addZ i s j t) (M := max s t) (N := u) (Nat.le_refl _) (Nat.le_refl _), up_mul (i := i) (M := max s t) (N := u) (by omega) (Nat.le_refl _), up_mul (i := j) (M := max s t) (N := u) (by omega) (Nat.le_refl _), up_same (addZ i s j t)]
  rw [← Int.add_mul]; rfl

theorem cmpZ_cases (x y : Int) : (x < y ∧ cmpZ x y = -1) ∨ (x = y ∧ cmpZ x y = 0) ∨ (y < x ∧ cmpZ x y = 1) := by
  rcases Int.lt_trichotomy x y with h | h | h
  · exact .inl ⟨h, cmpZ_lt h⟩
  · exact .inr (.inl ⟨h, cmpZ_eq h⟩)
  · exact .inr (.inr ⟨h, cmpZ_gt h⟩)
theorem cmpZ_bounds (x y : Int) : -1 ≤ cmpZ x y ∧ cmpZ x y ≤ 1 := by rcases cmpZ_cases x y with h | h | h <;> omega
theorem cmpZ_swap (x y : Int) : cmpZ y x = -cmpZ x y := by
  rcases cmpZ_cases x y with h | h | h <;> rcases cmpZ_cases y x with h' | h' | h' <;> omega
theorem ord_turn (i j : Int) (s t : Nat) : cmpD j t i s = -cmpD i s j t := by
  rw [cmpD_at (M := max s t) (by omega) (by omega), cmpD_at (M := max s t) (by omega) (by omega), cmpZ_swap]
theorem ord_trans {i j k : Int} {s t u : Nat} (h1 : cmpD i s j t ≤ 0) (h2 : cmpD j t k u ≤ 0) : cmpD i s k u ≤ 0 := by
  have e1 := cmpD_at (i := i) (s := s) (j := j) (t := t) (M := max (max s t) u) (by omega) (by omega)
  have e2 := cmpD_at (i := j) (s := t) (j := k) (t := u) (M := max (max s t) u) (by omega) (by omega)
  have e3 := cmpD_at (i := i) (s := s) (j := k) (t := u) (M := max (max s t) u) (by omega) (by omega)
  rw [e1] at h1; rw [e2] at h2; rw [e3]
  generalize up i s _ = x at *
  generalize up j t _ = y at *
  generalize up k u _ = z at *
  rcases cmpZ_cases x y with h | h | h <;> rcases cmpZ_cases y z with h' | h' | h' <;> rcases cmpZ_cases x z with h'' | h'' | h'' <;> omega
theorem ord_neg (i j : Int) (s t : Nat) : cmpD (-i) s (-j) t = -cmpD i s j t := by
  rw [cmpD_at (M := max s t) (by omega) (by omega), cmpD_at (M := max s t) (by omega) (by omega), up_neg_eq, up_neg_eq]
  generalize up i s _ = x
  generalize up j t _ = y
  rcases cmpZ_cases x y with h | h | h <;> rcases cmpZ_cases (-x) (-y) with h' | h' | h' <;> omega
theorem ord_add (i j k : Int) (s t u : Nat) : cmpD (addZ i s k u) (max s u) (addZ j t k u) (max t u) = cmpD i s j t := by
  rw [cmpD_at (M := max (max s t) u) (by omega) (by omega), cmpD_at (M := max (max s t) u) (by omega) (by omega), up_addZ (by omega) (by omega), up_addZ (by omega) (by omega)]
  generalize up i s _ = x
  generalize up j t _ = y
  generalize up k u _ = z
  rcases cmpZ_cases x y with h | h | h <;> rcases cmpZ_cases (x + z) (y + z) with h' | h' | h' <;> omega
theorem sign_cmpZ (x : Int) : x.sign = cmpZ x 0 := by
  rcases Int.lt_trichotomy x 0 with h | h | h
  · rw [cmpZ_lt h, Int.sign_eq_neg_one_iff_neg.2 h]
  · rw [cmpZ_eq h, Int.sign_eq_zero_iff_zero.2 h]
  · rw [cmpZ_gt h, Int.sign_eq_one_iff_pos.2 h]
theorem ord_sub (i j : Int) (s t : Nat) : (subZ i s j t).sign = cmpD i s j t := by
  rw [cmpD_at (M := max s t) (by omega) (by omega), sign_cmpZ]
  unfold subZ
  generalize up i s _ = x
  generalize up j t _ = y
  rcases cmpZ_cases x y with h | h | h <;> rcases cmpZ_cases (x - y) 0 with h' | h' | h' <;> omega
theorem ord_abs (i : Int) : 0 ≤ ((i.natAbs : Int)).sign := by
  rw [sign_cmpZ]
  rcases cmpZ_cases (i.natAbs : Int) 0 with h | h | h <;> omega

theorem long_is {b : Bool} {A : Option Addr} {n c : Nat} {xs : List Nat} {k : Int} {w : World} {v : Bool} (h : Lim w w.heap.size A n c xs) (hv : longB b n xs k = v) :
    Calls Try.prog 13 #[.agg #[.bool b, .slice A n c, .int .i64 k]] w (RetVal w (.bool v)) := by
  subst hv; exact long_any b A n c xs k w h
theorem not_long {w : World} {B n c s : Nat} {A : Option Addr} {i : Int} (h : Num w B A n c i.natAbs) (hn : n ≤ 12) (hs : s ≤ 60) : longB (ngB i) n (dg i.natAbs) (s : Int) = false := by
  unfold longB
  rw [rightD_dec h, decide_eq_false (by omega), decide_eq_false (by omega)]; rfl

end Go.Proofs.Ytafbkoejobkncaa
