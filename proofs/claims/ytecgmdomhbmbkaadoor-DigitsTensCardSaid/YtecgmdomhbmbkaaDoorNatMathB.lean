/-
  Plain mathematics of layer 1, the second part: what a round of Add and Sub does to the number that the limbs make.
-/
import Derived.Test.YtecgmdomhbmbkaaDoorNatMath
namespace Go.Proofs.YtecgmdomhbmbkaaDoor

theorem sub_step {zs ys : List Nat} {i v bw bw' a b : Nat} (h : val zs + b = a + bw * 1000000000 ^ i + 1000000000 ^ i * val (ys.drop i)) (hi : i < zs.length) (hv : v + bw + gd ys i = gd zs i + bw' * 1000000000) :
    val (zs.set i v) + b = a + bw' * 1000000000 ^ (i + 1) + 1000000000 ^ (i + 1) * val (ys.drop (i + 1)) := by
  have e1 := val_set zs i v hi
  have e2 := val_drop ys i
  generalize hP : 1000000000 ^ i = P at *
  have e3 : P * (v + bw + gd ys i) = P * (gd zs i + bw' * 1000000000) := by rw [hv]
  rw [Nat.pow_succ, hP]
  rw [e2] at h
  have e4 : P * (bw' * 1000000000) = bw' * (P * 1000000000) := by rw [Nat.mul_left_comm]
  have e5 : P * (1000000000 * val (ys.drop (i + 1))) = P * 1000000000 * val (ys.drop (i + 1)) := by rw [Nat.mul_assoc]
  rw [Nat.mul_add, e5] at h
  rw [Nat.mul_add, Nat.mul_add, Nat.mul_add, e4] at e3
  rw [Nat.mul_comm bw P] at h
  omega
theorem sub_end {zs ys : List Nat} {i bw a b n : Nat} (h : val zs + b = a + bw * 1000000000 ^ i + 1000000000 ^ i * val (ys.drop i)) (hz : limbs zs) (hlen : zs.length = n) (hi : i = n) (hy : ys.length ≤ n) (hba : b ≤ a) : val zs = a - b := by
  subst hi
  rw [List.drop_of_length_le (by omega), val, Nat.mul_zero] at h
  have := val_lt hz
  rw [hlen] at this
  rcases Nat.eq_zero_or_pos bw with h0 | h0
  · subst h0; omega
  · have : 1 * 1000000000 ^ i ≤ bw * 1000000000 ^ i := Nat.mul_le_mul_right _ h0
    omega
theorem sub_break {zs ys : List Nat} {i a b : Nat} (h : val zs + b = a + 0 * 1000000000 ^ i + 1000000000 ^ i * val (ys.drop i)) (hy : ys.length ≤ i) : val zs = a - b := by
  rw [List.drop_of_length_le hy, val, Nat.mul_zero, Nat.zero_mul] at h
  omega

theorem val_snoc (zs : List Nat) (d : Nat) : val (zs ++ [d]) = val zs + 1000000000 ^ zs.length * d := by
  rw [val_append]; simp [val]

theorem refAdd_step {zs xs ys : List Nat} {i ov t T : Nat} (hl : zs.length = i) (h : val zs + 1000000000 ^ i * ov + 1000000000 ^ i * (val (xs.drop i) + val (ys.drop i)) = T) (ht : t = ov + (gd xs i + gd ys i)) :
    val (zs ++ [t % 1000000000]) + 1000000000 ^ (i + 1) * (t / 1000000000) + 1000000000 ^ (i + 1) * (val (xs.drop (i + 1)) + val (ys.drop (i + 1))) = T := by
  have e2 := val_drop xs i
  have e3 := val_drop ys i
  rw [val_snoc, hl, Nat.pow_succ, ← h, e2, e3]
  generalize 1000000000 ^ i = P
  have ed : t = 1000000000 * (t / 1000000000) + t % 1000000000 := (Nat.div_add_mod t 1000000000).symm
  have e4 : P * t = P * (1000000000 * (t / 1000000000) + t % 1000000000) := by rw [← ed]
  rw [Nat.mul_add, ← Nat.mul_assoc] at e4
  have e5 : P * t = P * ov + (P * gd xs i + P * gd ys i) := by rw [ht, Nat.mul_add, Nat.mul_add]
  simp only [Nat.mul_add, ← Nat.mul_assoc]
  omega
theorem refAdd_fin {v P ov a b : Nat} (h : v + P * 1000000000 * ov = a + b) (ha : a < P) (hb : b < P) : v = a + b := by
  rcases Nat.eq_zero_or_pos ov with h0 | h0
  · subst h0; rw [Nat.mul_zero, Nat.add_zero] at h; exact h
  · have h1 : P * 1000000000 ≤ P * 1000000000 * ov := Nat.le_mul_of_pos_right _ h0
    omega
theorem refAdd_end {zs xs ys : List Nat} {i ov a b m : Nat} (h : val zs + 1000000000 ^ i * ov + 1000000000 ^ i * (val (xs.drop i) + val (ys.drop i)) = a + b) (hi : i = m + 1) (hx : xs.length ≤ m) (hy : ys.length ≤ m) (ha : a < 1000000000 ^ m) (hb : b < 1000000000 ^ m) : val zs = a + b := by
  have hx' : xs.drop i = [] := List.drop_of_length_le (by omega)
  have hy' : ys.drop i = [] := List.drop_of_length_le (by omega)
  have hv : val ([] : List Nat) = 0 := rfl
  have e : 1000000000 ^ i = 1000000000 ^ m * 1000000000 := by rw [hi, Nat.pow_succ]
  rw [hx', hy', hv, Nat.add_zero, Nat.mul_zero, Nat.add_zero, e] at h
  exact refAdd_fin h ha hb
theorem refSub_step {zs xs ys : List Nat} {i ls t a b : Nat} (hl : zs.length = i) (h : val zs + 1000000000 ^ i * val (xs.drop i) + b = a + ls * 1000000000 ^ i + 1000000000 ^ i * val (ys.drop i)) (ht : t + gd ys i + ls = gd xs i + 1000000000) (hq : t / 1000000000 ≤ 1) :
    val (zs ++ [t % 1000000000]) + 1000000000 ^ (i + 1) * val (xs.drop (i + 1)) + b = a + (1 - t / 1000000000) * 1000000000 ^ (i + 1) + 1000000000 ^ (i + 1) * val (ys.drop (i + 1)) := by
  have e2 := val_drop xs i
  have e3 := val_drop ys i
  rw [e2, e3] at h
  rw [val_snoc, hl, Nat.pow_succ]
  generalize 1000000000 ^ i = P at *
  have ed : t % 1000000000 + gd ys i + ls = gd xs i + (1 - t / 1000000000) * 1000000000 := by omega
  have e4 : P * (t % 1000000000 + gd ys i + ls) = P * (gd xs i + (1 - t / 1000000000) * 1000000000) := by rw [ed]
  generalize 1 - t / 1000000000 = q at *
  simp only [Nat.mul_add, ← Nat.mul_assoc] at h e4 ⊢
  rw [Nat.mul_comm P q] at e4
  rw [Nat.mul_comm ls P] at h
  have e6 : q * (P * 1000000000) = q * P * 1000000000 := by rw [Nat.mul_assoc]
  omega
theorem refSub_end {zs xs ys : List Nat} {i ls a b n : Nat} (h : val zs + 1000000000 ^ i * val (xs.drop i) + b = a + ls * 1000000000 ^ i + 1000000000 ^ i * val (ys.drop i)) (hz : limbs zs) (hlen : zs.length = i) (hi : i = n) (hx : xs.length ≤ n) (hy : ys.length ≤ n) (hba : b ≤ a) : val zs = a - b := by
  refine sub_end (i := i) (bw := ls) (ys := ys) ?_ hz (hlen.trans hi) hi hy hba
  rw [List.drop_of_length_le (by omega), val, Nat.mul_zero] at h
  omega


end Go.Proofs.YtecgmdomhbmbkaaDoor
