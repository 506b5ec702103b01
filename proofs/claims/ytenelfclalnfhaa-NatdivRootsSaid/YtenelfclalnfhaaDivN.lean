/-
  Plain mathematics of layer 3, the second part: Newton's roots; digits to a base.
-/
import Derived.Test.YtenelfclalnfhaaDivMath
import Derived.Test.YtenelfclalnfhaaMulC
namespace Go.Proofs.Ytenelfclalnfhaa

/-! Roots. -/
theorem four_mul_le (x u : Nat) : 4 * (x * u) ≤ (x + u) * (x + u) := by
  rcases Nat.le_total x u with h | h
  · obtain ⟨d, rfl⟩ : ∃ d, u = x + d := ⟨u - x, by omega⟩
    have : (x + (x + d)) * (x + (x + d)) = 4 * (x * (x + d)) + d * d := by grind
    omega
  · obtain ⟨d, rfl⟩ : ∃ d, x = u + d := ⟨x - u, by omega⟩
    have : (u + d + u) * (u + d + u) = 4 * ((u + d) * u) + d * d := by grind
    omega
theorem newton_next {a x : Nat} (hx : 0 < x) : a < ((x + a / x) / 2 + 1) * ((x + a / x) / 2 + 1) := by
  have h1 : a < x * (a / x + 1) := by rw [Nat.mul_comm]; exact Nat.lt_mul_of_div_lt (Nat.lt_succ_self _) hx
  generalize a / x = t at *
  have h2 : x + (t + 1) ≤ 2 * ((x + t) / 2 + 1) := by omega
  generalize (x + t) / 2 + 1 = y at *
  have h3 := four_mul_le x (t + 1)
  have h4 : (x + (t + 1)) * (x + (t + 1)) ≤ 2 * y * (2 * y) := Nat.mul_le_mul h2 h2
  have h5 : 2 * y * (2 * y) = 4 * (y * y) := by grind
  omega
theorem newton_pos {a x : Nat} (hx : 0 < x) (ha : 0 < a) : 0 < (x + a / x) / 2 := by
  have := newton_next (a := a) hx
  rcases Nat.eq_zero_or_pos ((x + a / x) / 2) with h | h
  · rw [h] at this; omega
  · exact h
theorem newton_stop {a x : Nat} (hx : 0 < x) (h : x ≤ (x + a / x) / 2) : x * x ≤ a := by
  have h1 : x ≤ a / x := by omega
  exact (Nat.le_div_iff_mul_le hx).1 h1
/-- The greatest number whose square is not above a. -/
def IsRoot (a s : Nat) : Prop := s * s ≤ a ∧ a < (s + 1) * (s + 1)
theorem IsRoot.unique {a s t : Nat} (h : IsRoot a s) (k : IsRoot a t) : s = t := by
  rcases Nat.lt_trichotomy s t with h1 | h1 | h1
  · have := Nat.mul_le_mul (show s + 1 ≤ t by omega) (show s + 1 ≤ t by omega)
    have := h.2; have := k.1; omega
  · exact h1
  · have := Nat.mul_le_mul (show t + 1 ≤ s by omega) (show t + 1 ≤ s by omega)
    have := k.2; have := h.1; omega
theorem IsRoot.le {a s : Nat} (h : IsRoot a s) : s ≤ a := by
  rcases Nat.eq_zero_or_pos s with h0 | h0
  · omega
  · have : s * 1 ≤ s * s := Nat.mul_le_mul_left _ h0
    have := h.1; omega
theorem isRoot_square (a : Nat) : IsRoot (a * a) a := by
  refine ⟨Nat.le_refl _, ?_⟩
  have : (a + 1) * (a + 1) = a * a + 2 * a + 1 := by grind
  omega
theorem above_square {a s m : Nat} (h : a / 1000000000 ^ (2 * m) < (s + 1) * (s + 1)) : a < (s + 1) * 1000000000 ^ m * ((s + 1) * 1000000000 ^ m) := by
  have hp : 0 < 1000000000 ^ (2 * m) := Nat.pow_pos (by omega)
  have h1 := Nat.lt_mul_of_div_lt h hp
  have e : 1000000000 ^ (2 * m) = 1000000000 ^ m * 1000000000 ^ m := by rw [← Nat.pow_add]; congr 1; omega
  rw [e] at h1
  generalize 1000000000 ^ m = P at *
  have e2 : (s + 1) * P * ((s + 1) * P) = (s + 1) * (s + 1) * (P * P) := by grind
  omega
theorem dg_drop (a k : Nat) : (dg a).drop k = dg (a / 1000000000 ^ k) := by
  rw [← (val_take_mod a k).2]
  refine (dg_val (limbs_drop (limbs_dg a) k) ?_).symm
  rw [List.getLast?_drop]
  split
  · simp
  · exact dg_last a

/-! Digits to a base. -/
def numB (b : Nat) : List Nat → Nat
  | [] => 0
  | x :: xs => x + b * numB b xs
theorem numB_append (b : Nat) (xs ys : List Nat) : numB b (xs ++ ys) = numB b xs + b ^ xs.length * numB b ys := by
  induction xs with
  | nil => simp [numB]
  | cons x xs ih =>
    rw [List.cons_append, numB, numB, ih, List.length_cons, Nat.pow_succ, Nat.mul_add, ← Nat.mul_assoc, Nat.mul_comm b (b ^ xs.length)]
    omega
theorem numB_snoc (b : Nat) (xs : List Nat) (d : Nat) : numB b (xs ++ [d]) = numB b xs + b ^ xs.length * d := by
  rw [numB_append]; simp [numB]
theorem numB_drop (b : Nat) (xs : List Nat) (i : Nat) : numB b (xs.drop i) = gd xs i + b * numB b (xs.drop (i + 1)) := by
  rcases Nat.lt_or_ge i xs.length with h | h
  · rw [List.drop_eq_getElem_cons h, numB]
    have : gd xs i = xs[i] := by unfold gd; rw [List.getD_eq_getElem?_getD, List.getElem?_eq_getElem h]; rfl
    rw [this]
  · rw [List.drop_of_length_le h, List.drop_of_length_le (by omega), gd_of_ge h]; rfl
theorem numB_zero {b : Nat} {xs : List Nat} (h : ∀ j, gd xs j = 0) : numB b xs = 0 := by
  induction xs with
  | nil => rfl
  | cons x xs ih =>
    rw [numB, ih (fun j => by have := h (j + 1); rwa [gd_cons_succ] at this)]
    have := h 0
    rw [gd_cons_zero] at this
    omega
theorem numB_take {b : Nat} {xs : List Nat} {n : Nat} (hn : n ≤ xs.length) (h : ∀ j, n ≤ j → gd xs j = 0) : numB b (xs.take n) = numB b xs := by
  have e := numB_append b (xs.take n) (xs.drop n)
  rw [List.take_append_drop, numB_zero (b := b) (xs := xs.drop n) (fun j => by rw [gd_drop]; exact h _ (by omega))] at e
  omega
/-- One digit more is told. -/
theorem digit_step {b m x y T : Nat} {ds : List Nat} (hl : ds.length = m) (h : numB b ds + b ^ m * (x + y) = T) {y' : Nat} (hy : y = b * y') : numB b (ds ++ [x % b]) + b ^ (m + 1) * (x / b + y') = T := by
  rw [numB_snoc, hl, ← h, hy, Nat.pow_succ]
  have e := Nat.div_add_mod x b
  generalize x / b = q at *
  generalize x % b = r at *
  generalize b ^ m = P at *
  subst e
  grind
theorem digit_lt {b x k : Nat} (h : x < b ^ (k + 1)) : x / b < b ^ k := by
  rw [Nat.pow_succ, Nat.mul_comm] at h
  exact Nat.div_lt_of_lt_mul h
theorem digits_len {b m a n g T : Nat} (hb : 2 ≤ b) (h : T + b ^ m * g = a) (hg : 0 < g) (ha : a < 1000000000 ^ n) : m ≤ 30 * n := by
  rcases Nat.lt_or_ge (30 * n) m with h1 | h1
  · exfalso
    have h2 : 2 ^ m ≤ b ^ m := Nat.pow_le_pow_left hb m
    have h3 : b ^ m * 1 ≤ b ^ m * g := Nat.mul_le_mul_left _ hg
    have h4 : (2 : Nat) ^ (30 * n) ≤ 2 ^ m := Nat.pow_le_pow_right (by omega) (by omega)
    have h5 : 1000000000 ^ n ≤ 2 ^ (30 * n) := by rw [Nat.pow_mul]; exact Nat.pow_le_pow_left (by decide) n
    generalize 1000000000 ^ n = P at *
    generalize 2 ^ (30 * n) = Q at *
    generalize 2 ^ m = R at *
    generalize b ^ m = S at *
    omega
  · exact h1
theorem power_count {b c : Nat} (hb : 2 ≤ b) (h : b ^ c < 4294967296) : c ≤ 32 := by
  rcases Nat.lt_or_ge 32 c with h1 | h1
  · exfalso
    have h2 : 2 ^ c ≤ b ^ c := Nat.pow_le_pow_left hb c
    have h3 : (2 : Nat) ^ 32 ≤ 2 ^ c := Nat.pow_le_pow_right (by omega) (by omega)
    generalize b ^ c = S at *
    generalize 2 ^ c = R at *
    omega
  · exact h1
theorem digits_all {b : Nat} {ds : List Nat} {x : Nat} (h : ∀ d ∈ ds, d < b) (hb : 0 < b) : ∀ d ∈ ds ++ [x % b], d < b := by
  intro d hd
  rcases List.mem_append.1 hd with hd | hd
  · exact h d hd
  · rw [List.mem_singleton.1 hd]; exact Nat.mod_lt _ hb

end Go.Proofs.Ytenelfclalnfhaa
