/- What the proofs of this layer need of the layer Mul, in one text. -/
import Derived.Test.YtjkandnbjbfeiaaDoorAllNatA
set_option linter.unusedVariables false
set_option linter.unusedSimpArgs false

/-
  Plain mathematics of layer 2: what a round of a product or a sum does to the number that the limbs make; numbers by digits of ten.
-/
namespace Go.Proofs.YtjkandnbjbfeiaaDoor.Num

/-- A limb is written at k: what is to come on top there (R) becomes the limb (v) and what is to come on top at the next one (R'). -/
theorem acc_step {zs : List Nat} {k R R' v T : Nat} (h : val zs + 1000000000 ^ k * R = T) (hk : k < zs.length) (hv : gd zs k + R = v + 1000000000 * R') : val (zs.set k v) + 1000000000 ^ (k + 1) * R' = T := by
  have e1 := val_set zs k v hk
  rw [Nat.pow_succ]
  generalize 1000000000 ^ k = P at *
  have e3 : P * (gd zs k + R) = P * (v + 1000000000 * R') := by rw [hv]
  rw [Nat.mul_add, Nat.mul_add, ← Nat.mul_assoc] at e3
  omega
theorem acc_end {zs : List Nat} {k R T : Nat} (h : val zs + 1000000000 ^ k * R = T) (hT : T < 1000000000 ^ k) : val zs = T := by
  rcases Nat.eq_zero_or_pos R with h0 | h0
  · subst h0; omega
  · have : 1000000000 ^ k * 1 ≤ 1000000000 ^ k * R := Nat.mul_le_mul_left _ h0
    omega
theorem gd_of_val_lt {zs : List Nat} {k : Nat} (h : val zs < 1000000000 ^ k) : gd zs k = 0 := by
  rcases Nat.lt_or_ge k zs.length with hk | hk
  · have e := val_take_drop zs k (by omega)
    rw [val_drop] at e
    rcases Nat.eq_zero_or_pos (gd zs k) with h0 | h0
    · exact h0
    · have : 1000000000 ^ k * 1 ≤ 1000000000 ^ k * (gd zs k + 1000000000 * val (zs.drop (k + 1))) := Nat.mul_le_mul_left _ (by omega)
      omega
  · exact gd_of_ge hk
theorem val_take_succ (xs : List Nat) (i : Nat) : val (xs.take (i + 1)) = val (xs.take i) + 1000000000 ^ i * gd xs i := by
  rcases Nat.lt_or_ge i xs.length with h | h
  · have e1 := val_take_drop xs i (by omega)
    have e2 := val_take_drop xs (i + 1) (by omega)
    rw [val_drop, Nat.mul_add, ← Nat.mul_assoc] at e1
    rw [Nat.pow_succ] at e2
    omega
  · rw [List.take_of_length_le h, List.take_of_length_le (by omega), gd_of_ge h]; omega
theorem dg_len_mul (a b : Nat) : (dg (a * b)).length ≤ (dg a).length + (dg b).length := by
  apply dg_len_le
  rw [Nat.pow_add]
  exact Nat.mul_lt_mul'' (lt_pow_dg a) (lt_pow_dg b)
theorem mul_lt_pow {a b n m : Nat} (ha : a < 1000000000 ^ n) (hb : b < 1000000000 ^ m) : a * b < 1000000000 ^ (n + m) := by
  rw [Nat.pow_add]; exact Nat.mul_lt_mul'' ha hb

/-- A row more: the first i rows and the row of limb i are the first i + 1. -/
theorem mul_row {xs : List Nat} {b i v v' : Nat} (h : v = val (xs.take i) * b) (h' : v' = v + 1000000000 ^ i * (gd xs i * b)) : v' = val (xs.take (i + 1)) * b := by
  rw [val_take_succ, h', h, Nat.add_mul, Nat.mul_assoc]
theorem mul_row_lt {xs : List Nat} {b i m : Nat} (hx : limbs xs) (hi : i ≤ xs.length) (hb : b < 1000000000 ^ m) : val (xs.take i) * b < 1000000000 ^ (i + m) := by
  refine mul_lt_pow ?_ hb
  have := val_lt (limbs_take hx i)
  rwa [List.length_take, Nat.min_eq_left hi] at this

/-! Numbers by digits of ten, each as great as it comes. -/
def ten : List Nat → Nat
  | [] => 0
  | x :: xs => x + 10 * ten xs

theorem ten_append (xs ys : List Nat) : ten (xs ++ ys) = ten xs + 10 ^ xs.length * ten ys := by
  induction xs with
  | nil => simp [ten]
  | cons x xs ih =>
    rw [List.cons_append, ten, ten, ih, List.length_cons, Nat.pow_succ, Nat.mul_add, ← Nat.mul_assoc, Nat.mul_comm 10 (10 ^ xs.length)]
    omega
theorem ten_drop (xs : List Nat) (i : Nat) : ten (xs.drop i) = gd xs i + 10 * ten (xs.drop (i + 1)) := by
  rcases Nat.lt_or_ge i xs.length with h | h
  · rw [List.drop_eq_getElem_cons h, ten]
    have : gd xs i = xs[i] := by unfold gd; rw [List.getD_eq_getElem?_getD, List.getElem?_eq_getElem h]; rfl
    rw [this]
  · rw [List.drop_of_length_le h, List.drop_of_length_le (by omega), gd_of_ge h]; rfl
theorem ten_zeros (k : Nat) : ten (List.replicate k 0) = 0 := by
  induction k with
  | zero => rfl
  | succ k ih => rw [List.replicate_succ, ten, ih]
theorem ten_set (xs : List Nat) (i v : Nat) (h : i < xs.length) : ten (xs.set i v) + 10 ^ i * gd xs i = ten xs + 10 ^ i * v := by
  induction xs generalizing i with
  | nil => simp at h
  | cons x xs ih =>
    cases i with
    | zero => simp only [List.set_cons_zero, ten, gd_cons_zero, Nat.pow_zero, Nat.one_mul]; omega
    | succ i =>
      have := ih i (by simpa using h)
      rw [List.set_cons_succ, ten, ten, gd_cons_succ, Nat.pow_succ]
      have e1 : 10 ^ i * 10 * gd xs i = 10 * (10 ^ i * gd xs i) := by rw [Nat.mul_comm (10 ^ i), Nat.mul_assoc]
      have e2 : 10 ^ i * 10 * v = 10 * (10 ^ i * v) := by rw [Nat.mul_comm (10 ^ i), Nat.mul_assoc]
      rw [e1, e2]; omega
theorem ten_take_drop (xs : List Nat) (i : Nat) (h : i ≤ xs.length) : ten xs = ten (xs.take i) + 10 ^ i * ten (xs.drop i) := by
  have e := ten_append (xs.take i) (xs.drop i)
  rw [List.take_append_drop, List.length_take, Nat.min_eq_left h] at e
  exact e
theorem ten_take_succ (xs : List Nat) (i : Nat) : ten (xs.take (i + 1)) = ten (xs.take i) + 10 ^ i * gd xs i := by
  rcases Nat.lt_or_ge i xs.length with h | h
  · have e1 := ten_take_drop xs i (by omega)
    have e2 := ten_take_drop xs (i + 1) (by omega)
    rw [ten_drop, Nat.mul_add, ← Nat.mul_assoc] at e1
    rw [Nat.pow_succ] at e2
    omega
  · rw [List.take_of_length_le h, List.take_of_length_le (by omega), gd_of_ge h]; omega
theorem ten_snoc (zs : List Nat) (d : Nat) : ten (zs ++ [d]) = ten zs + 10 ^ zs.length * d := by
  rw [ten_append]; simp [ten]
theorem gd_set (xs : List Nat) (i j v : Nat) (h : i < xs.length) : gd (xs.set i v) j = if j = i then v else gd xs j := by
  unfold gd
  rw [List.getD_eq_getElem?_getD, List.getD_eq_getElem?_getD, List.getElem?_set]
  by_cases hij : i = j
  · subst hij; simp [h]
  · rw [if_neg hij, if_neg (by omega)]
theorem gd_zeros (k j : Nat) : gd (List.replicate k 0) j = 0 := by
  unfold gd
  rw [List.getD_eq_getElem?_getD, List.getElem?_replicate]
  split <;> rfl
theorem gd_append (xs ys : List Nat) (j : Nat) : gd (xs ++ ys) j = if j < xs.length then gd xs j else gd ys (j - xs.length) := by
  unfold gd
  rw [List.getD_eq_getElem?_getD, List.getElem?_append]
  split <;> rw [List.getD_eq_getElem?_getD]

/-- Digits of a limb: k of them are told (ys), x is left. -/
theorem digits_step {ys : List Nat} {x v k n : Nat} (h : ten ys + 10 ^ k * x = v) (hk : ys.length = k) (hn : n = k + 1) : ten (ys ++ [x % 10]) + 10 ^ n * (x / 10) = v := by
  subst hn
  rw [ten_snoc, hk, Nat.pow_succ]
  have e4 : 10 ^ k * x = 10 ^ k * (10 * (x / 10) + x % 10) := by rw [Nat.div_add_mod]
  rw [Nat.mul_add, ← Nat.mul_assoc] at e4
  omega

/-- A digit of a limb that is gathered: k digits on (x, below 10 to the k), over is what is carried. -/
theorem number_step {xs : List Nat} {x o i k S : Nat} (h : x + 10 ^ k * (o + ten (xs.drop (i + k))) = S) : (x + (o + gd xs (i + k)) % 10 * 10 ^ k) + 10 ^ (k + 1) * ((o + gd xs (i + k)) / 10 + ten (xs.drop (i + (k + 1)))) = S := by
  rw [ten_drop] at h
  rw [Nat.pow_succ, ← Nat.add_assoc i k 1]
  have e4 : 10 ^ k * (o + gd xs (i + k)) = 10 ^ k * (10 * ((o + gd xs (i + k)) / 10) + (o + gd xs (i + k)) % 10) := by rw [Nat.div_add_mod]
  rw [Nat.mul_comm ((o + gd xs (i + k)) % 10)]
  generalize (o + gd xs (i + k)) / 10 = q at *
  generalize (o + gd xs (i + k)) % 10 = r at *
  generalize ten (xs.drop (i + k + 1)) = s at *
  generalize 10 ^ k = P at *
  have e5 : P * 10 * (q + s) = P * (10 * q) + P * (10 * s) := by rw [Nat.mul_assoc, Nat.mul_add, Nat.mul_add]
  have e6 : P * (o + (gd xs (i + k) + 10 * s)) = P * (o + gd xs (i + k)) + P * (10 * s) := by rw [← Nat.mul_add, Nat.add_assoc]
  rw [e6, e4, Nat.mul_add] at h
  omega
theorem number_lt {x r k : Nat} (hx : x < 10 ^ k) (hr : r < 10) : x + r * 10 ^ k < 10 ^ (k + 1) := by
  rw [Nat.pow_succ]
  have : r * 10 ^ k ≤ 9 * 10 ^ k := Nat.mul_le_mul_right _ (by omega)
  omega
theorem pow9 (j : Nat) : 1000000000 ^ j = 10 ^ (9 * j) := by
  rw [Nat.pow_mul]
/-- A limb is told: what was to come (o and the rest of xs) is x and what is to come behind nine digits. -/
theorem number_limb {zs xs : List Nat} {x o o' i j T : Nat} (h : val zs + 1000000000 ^ j * (o + ten (xs.drop i)) = T) (hx : x + 10 ^ 9 * (o' + ten (xs.drop (i + 9))) = o + ten (xs.drop i)) (hl : zs.length = j) :
    val (zs ++ [x]) + 1000000000 ^ (j + 1) * (o' + ten (xs.drop (i + 9))) = T := by
  rw [val_snoc, hl, Nat.pow_succ, ← h, ← hx]
  generalize o' + ten (xs.drop (i + 9)) = R
  have e : (10 : Nat) ^ 9 = 1000000000 := rfl
  rw [e, Nat.mul_add, ← Nat.mul_assoc]
  omega
theorem number_end {zs xs : List Nat} {i j T : Nat} (h : val zs + 1000000000 ^ j * (0 + ten (xs.drop i)) = T) (hi : xs.length ≤ i) : val zs = T := by
  rw [List.drop_of_length_le hi, ten, Nat.add_zero, Nat.mul_zero] at h
  exact h

/-- A digit's product is laid on top. -/
theorem conv_step {zs xs ys : List Nat} {i k T : Nat} (h : ten zs = T + 10 ^ i * (gd xs i * ten (ys.take k))) (hk : i + k < zs.length) :
    ten (zs.set (i + k) (gd zs (i + k) + gd xs i * gd ys k)) = T + 10 ^ i * (gd xs i * ten (ys.take (k + 1))) := by
  have e := ten_set zs (i + k) (gd zs (i + k) + gd xs i * gd ys k) hk
  rw [ten_take_succ, Nat.mul_add, Nat.mul_add]
  rw [Nat.mul_add, Nat.pow_add] at e
  have e2 : 10 ^ i * (gd xs i * (10 ^ k * gd ys k)) = 10 ^ i * 10 ^ k * (gd xs i * gd ys k) := by
    rw [Nat.mul_left_comm (gd xs i), ← Nat.mul_assoc]
  rw [e2]
  omega
theorem conv_row {xs : List Nat} {b i v : Nat} (h : v = ten (xs.take i) * b + 10 ^ i * (gd xs i * b)) : v = ten (xs.take (i + 1)) * b := by
  rw [ten_take_succ, h, Nat.add_mul, Nat.mul_assoc]

/-! Products by halves. -/
theorem kara_mid (la ha lb hb : Nat) : (la + ha) * (lb + hb) - la * lb - ha * hb = la * hb + ha * lb := by
  simp only [Nat.mul_add, Nat.add_mul]; omega
theorem kara_sum (la ha lb hb P : Nat) : (la * lb + P * P * (ha * hb)) + P * ((la + ha) * (lb + hb) - la * lb - ha * hb) = (la + P * ha) * (lb + P * hb) := by
  rw [kara_mid]
  simp only [Nat.mul_add, Nat.mul_comm, Nat.mul_left_comm]
  omega
theorem half_split (a h : Nat) : a % 1000000000 ^ h + 1000000000 ^ h * (a / 1000000000 ^ h) = a := Nat.mod_add_div a (1000000000 ^ h)
theorem kara (a b h : Nat) : (a % 1000000000 ^ h * (b % 1000000000 ^ h) + 1000000000 ^ (2 * h) * (a / 1000000000 ^ h * (b / 1000000000 ^ h))) + 1000000000 ^ h * ((a % 1000000000 ^ h + a / 1000000000 ^ h) * (b % 1000000000 ^ h + b / 1000000000 ^ h) - a % 1000000000 ^ h * (b % 1000000000 ^ h) - a / 1000000000 ^ h * (b / 1000000000 ^ h)) = a * b := by
  have e := kara_sum (a % 1000000000 ^ h) (a / 1000000000 ^ h) (b % 1000000000 ^ h) (b / 1000000000 ^ h) (1000000000 ^ h)
  rw [half_split, half_split] at e
  rw [show 1000000000 ^ (2 * h) = 1000000000 ^ h * 1000000000 ^ h from by rw [← Nat.pow_add]; congr 1; omega]
  exact e
theorem mod_len (a h : Nat) : (dg (a % 1000000000 ^ h)).length ≤ h := dg_len_le (Nat.mod_lt _ (Nat.pow_pos (by omega)))
theorem div_len {a h n : Nat} (hn : (dg a).length = n) : (dg (a / 1000000000 ^ h)).length ≤ n - h := by
  subst hn
  rcases Nat.lt_or_ge (dg a).length h with h1 | h1
  · have : a / 1000000000 ^ h = 0 := Nat.div_eq_of_lt (Nat.lt_of_lt_of_le (lt_pow_dg a) (Nat.pow_le_pow_right (by omega) (by omega)))
    rw [this, dg_zero]; simp
  · apply dg_len_le
    rw [Nat.div_lt_iff_lt_mul (Nat.pow_pos (by omega)), ← Nat.pow_add]
    rw [show (dg a).length - h + h = (dg a).length by omega]
    exact lt_pow_dg a
theorem half_len {a h n : Nat} (hn : (dg a).length = n) (h2 : n ≤ 2 * h) : (dg (a % 1000000000 ^ h + a / 1000000000 ^ h)).length ≤ h + 1 := by
  have h3 := dg_len_add (a % 1000000000 ^ h) (a / 1000000000 ^ h)
  have h4 := mod_len a h
  have h5 := div_len (h := h) hn
  omega
theorem high_len {a b h n m : Nat} (hn : (dg a).length = n) (hm : (dg b).length = m) (h2 : 2 * h ≤ n + m) : (dg (a / 1000000000 ^ h * (b / 1000000000 ^ h))).length ≤ n + m - 2 * h := by
  apply dg_len_le
  have e1 := lt_pow_dg a
  have e2 := lt_pow_dg b
  rw [hn] at e1
  rw [hm] at e2
  have e3 := mul_lt_pow e1 e2
  have e4 := kara a b h
  have e5 : 1000000000 ^ (n + m) = 1000000000 ^ (2 * h) * 1000000000 ^ (n + m - 2 * h) := by rw [← Nat.pow_add]; congr 1; omega
  have e6 : 1000000000 ^ (2 * h) * (a / 1000000000 ^ h * (b / 1000000000 ^ h)) < 1000000000 ^ (2 * h) * 1000000000 ^ (n + m - 2 * h) := by
    rw [← e5]
    refine Nat.lt_of_le_of_lt ?_ e3
    rw [← e4]
    exact Nat.le_trans (Nat.le_add_left _ _) (Nat.le_add_right _ _)
  exact Nat.lt_of_mul_lt_mul_left e6
theorem low_len {a b h : Nat} : (dg (a % 1000000000 ^ h * (b % 1000000000 ^ h))).length ≤ 2 * h := by
  have := dg_len_mul (a % 1000000000 ^ h) (b % 1000000000 ^ h)
  have := mod_len a h
  have := mod_len b h
  omega
theorem mid_le1 (a b h : Nat) : a % 1000000000 ^ h * (b % 1000000000 ^ h) ≤ (a % 1000000000 ^ h + a / 1000000000 ^ h) * (b % 1000000000 ^ h + b / 1000000000 ^ h) := Nat.mul_le_mul (Nat.le_add_right _ _) (Nat.le_add_right _ _)
theorem mid_le2 (a b h : Nat) : a / 1000000000 ^ h * (b / 1000000000 ^ h) ≤ (a % 1000000000 ^ h + a / 1000000000 ^ h) * (b % 1000000000 ^ h + b / 1000000000 ^ h) - a % 1000000000 ^ h * (b % 1000000000 ^ h) := by
  have := kara_mid (a % 1000000000 ^ h) (a / 1000000000 ^ h) (b % 1000000000 ^ h) (b / 1000000000 ^ h)
  generalize a % 1000000000 ^ h = x at *
  generalize b % 1000000000 ^ h = y at *
  generalize a / 1000000000 ^ h = z at *
  generalize b / 1000000000 ^ h = u at *
  simp only [Nat.mul_add, Nat.add_mul]; omega

/-! Limbs that are laid over noughts. -/
theorem val_of_gd_zero {xs : List Nat} (h : ∀ j, gd xs j = 0) : val xs = 0 := (val_eq_of_gd xs [] (fun j => by rw [h j, gd_nil])).trans rfl
theorem val_splice {L cs : List Nat} {off : Nat} (hle : off + cs.length ≤ L.length) (hz : ∀ j, off ≤ j → gd L j = 0) : val (L.take off ++ (cs ++ L.drop (off + cs.length))) = val L + 1000000000 ^ off * val cs := by
  have h1 : val (L.drop (off + cs.length)) = 0 := val_of_gd_zero (fun j => by rw [gd_drop]; exact hz _ (by omega))
  have h2 : val (L.drop off) = 0 := val_of_gd_zero (fun j => by rw [gd_drop]; exact hz _ (by omega))
  have h3 := val_take_drop L off (by omega)
  rw [val_append, val_append, h1, List.length_take, Nat.min_eq_left (by omega), h3, h2]
  simp
theorem limbs_splice {L cs : List Nat} {off k : Nat} (hL : limbs L) (hc : limbs cs) : limbs (L.take off ++ (cs ++ L.drop k)) :=
  limbs_append.2 ⟨limbs_take hL _, limbs_append.2 ⟨hc, limbs_drop hL _⟩⟩
theorem gd_splice {L cs : List Nat} {off : Nat} (hle : off + cs.length ≤ L.length) (hz : ∀ j, off ≤ j → gd L j = 0) (j : Nat) (hj : off + cs.length ≤ j) : gd (L.take off ++ (cs ++ L.drop (off + cs.length))) j = 0 := by
  rw [gd_append, List.length_take, Nat.min_eq_left (by omega), if_neg (by omega), gd_append, if_neg (by omega), gd_drop]
  exact hz _ (by omega)
theorem len_splice {L cs : List Nat} {off : Nat} (hle : off + cs.length ≤ L.length) : (L.take off ++ (cs ++ L.drop (off + cs.length))).length = L.length := by
  simp; omega

end Go.Proofs.YtjkandnbjbfeiaaDoor.Num
