/- What the proofs of this layer need of the layer Mul, in one text. -/
import Derived.Test.YtafbkoejobkncaaAllNat
import Derived.Lib.BitFns
import Derived.Lib.Small
import Derived.Lib.Walk
import Derived.Deep.RegionLaw

/-
  Plain mathematics of layer 2: what a round of a product or a sum does to the number that the limbs make; numbers by digits of ten.
-/
namespace Go.Proofs.Ytafbkoejobkncaa

/-- A limb is written at k: what is to come on top there (R) becomes the limb (v) and what is to come on top at the next one (R'). -/
theorem acc_step {zs : List Nat} {k R R' v T : Nat} (h : val zs + 1000000000 ^ k * R = T) (hk : k < zs.length) (hv : gd zs k + R = v + 1000000000 * R') : val (zs.set k v) + 1000000000 ^ (k + 1) * R' = T := by
  have e1 := val_set zs k v hk
  rw [Nat.pow_succ]
  generalize 1000000000 ^ k = P at *
  have e3 : P * (gd zs k + R) = P * (v + 1000000000 * R') := by rw [hv]
  rw [Nat.mul_add, Nat.mul_add, ← Nat.mul_assoc] at e3
  omega
theorem acc_end {zs : List Nat} {k R T : Nat} (h : val zs + 1000000000 ^ k * R = T) (hT : T < 1000000000 ^ k) : val zs = T := by
  rcases Nat.eq_zero_or_pos R with h0 | h0
  · subst h0; omega
  · have : 1000000000 ^ k * 1 ≤ 1000000000 ^ k * R := Nat.mul_le_mul_left _ h0
    omega
theorem gd_of_val_lt {zs : List Nat} {k : Nat} (h : val zs < 1000000000 ^ k) : gd zs k = 0 := by
  rcases Nat.lt_or_ge k zs.length with hk | hk
  · have e := val_take_drop zs k (by omega)
    rw [val_drop] at e
    rcases Nat.eq_zero_or_pos (gd zs k) with h0 | h0
    · exact h0
    · have : 1000000000 ^ k * 1 ≤ 1000000000 ^ k * (gd zs k + 1000000000 * val (zs.drop (k + 1))) := Nat.mul_le_mul_left _ (by omega)
      omega
  · exact gd_of_ge hk
theorem val_take_succ (xs : List Nat) (i : Nat) : val (xs.take (i + 1)) = val (xs.take i) + 1000000000 ^ i * gd xs i := by
  rcases Nat.lt_or_ge i xs.length with h | h
  · have e1 := val_take_drop xs i (by omega)
    have e2 := val_take_drop xs (i + 1) (by omega)
    rw [val_drop, Nat.mul_add, ← Nat.mul_assoc] at e1
    rw [Nat.pow_succ] at e2
    omega
  · rw [List.take_of_length_le h, List.take_of_length_le (by omega), gd_of_ge h]; omega
theorem dg_len_mul (a b : Nat) : (dg (a * b)).length ≤ (dg a).length + (dg b).length := by
  apply dg_len_le
  rw [Nat.pow_add]
  exact Nat.mul_lt_mul'' (lt_pow_dg a) (lt_pow_dg b)
theorem mul_lt_pow {a b n m : Nat} (ha : a < 1000000000 ^ n) (hb : b < 1000000000 ^ m) : a * b < 1000000000 ^ (n + m) := by
  rw [Nat.pow_add]; exact Nat.mul_lt_mul'' ha hb

/-- A row more: the first i rows and the row of limb i are the first i + 1. -/
theorem mul_row {xs : List Nat} {b i v v' : Nat} (h : v = val (xs.take i) * b) (h' : v' = v + 1000000000 ^ i * (gd xs i * b)) : v' = val (xs.take (i + 1)) * b := by
  rw [val_take_succ, h', h, Nat.add_mul, Nat.mul_assoc]
theorem mul_row_lt {xs : List Nat} {b i m : Nat} (hx : limbs xs) (hi : i ≤ xs.length) (hb : b < 1000000000 ^ m) : val (xs.take i) * b < 1000000000 ^ (i + m) := by
  refine mul_lt_pow ?_ hb
  have := val_lt (limbs_take hx i)
  rwa [List.length_take, Nat.min_eq_left hi] at this

/-! Numbers by digits of ten, each as great as it comes. -/
def ten : List Nat → Nat
  | [] => 0
  | x :: xs => x + 10 * ten xs

theorem ten_append (xs ys : List Nat) : ten (xs ++ ys) = ten xs + 10 ^ xs.length * ten ys := by
  induction xs with
  | nil => simp [ten]
  | cons x xs ih =>
    rw [List.cons_append, ten, ten, ih, List.length_cons, Nat.pow_succ, Nat.mul_add, ← Nat.mul_assoc, Nat.mul_comm 10 (10 ^ xs.length)]
    omega
theorem ten_drop (xs : List Nat) (i : Nat) : ten (xs.drop i) = gd xs i + 10 * ten (xs.drop (i + 1)) := by
  rcases Nat.lt_or_ge i xs.length with h | h
  · rw [List.drop_eq_getElem_cons h, ten]
    have : gd xs i = xs[i] := by unfold gd; rw [List.getD_eq_getElem?_getD, List.getElem?_eq_getElem h]; rfl
    rw [this]
  · rw [List.drop_of_length_le h, List.drop_of_length_le (by omega), gd_of_ge h]; rfl
theorem ten_zeros (k : Nat) : ten (List.replicate k 0) = 0 := by
  induction k with
  | zero => rfl
  | succ k ih => rw [List.replicate_succ, ten, ih]
theorem ten_set (xs : List Nat) (i v : Nat) (h : i < xs.length) : ten (xs.set i v) + 10 ^ i * gd xs i = ten xs + 10 ^ i * v := by
  induction xs generalizing i with
  | nil => simp at h
  | cons x xs ih =>
    cases i with
    | zero => simp only [List.set_cons_zero, ten, gd_cons_zero, Nat.pow_zero, Nat.one_mul]; omega
    | succ i =>
      have := ih i (by simpa using h)
      rw [List.set_cons_succ, ten, ten, gd_cons_succ, Nat.pow_succ]
      have e1 : 10 ^ i * 10 * gd xs i = 10 * (10 ^ i * gd xs i) := by rw [Nat.mul_comm (10 ^ i), Nat.mul_assoc]
      have e2 : 10 ^ i * 10 * v = 10 * (10 ^ i * v) := by rw [Nat.mul_comm (10 ^ i), Nat.mul_assoc]
      rw [e1, e2]; omega
theorem ten_take_drop (xs : List Nat) (i : Nat) (h : i ≤ xs.length) : ten xs = ten (xs.take i) + 10 ^ i * ten (xs.drop i) := by
  have e := ten_append (xs.take i) (xs.drop i)
  rw [List.take_append_drop, List.length_take, Nat.min_eq_left h] at e
  exact e
theorem ten_take_succ (xs : List Nat) (i : Nat) : ten (xs.take (i + 1)) = ten (xs.take i) + 10 ^ i * gd xs i := by
  rcases Nat.lt_or_ge i xs.length with h | h
  · have e1 := ten_take_drop xs i (by omega)
    have e2 := ten_take_drop xs (i + 1) (by omega)
    rw [ten_drop, Nat.mul_add, ← Nat.mul_assoc] at e1
    rw [Nat.pow_succ] at e2
    omega
  · rw [List.take_of_length_le h, List.take_of_length_le (by omega), gd_of_ge h]; omega
theorem ten_snoc (zs : List Nat) (d : Nat) : ten (zs ++ [d]) = ten zs + 10 ^ zs.length * d := by
  rw [ten_append]; simp [ten]
theorem gd_set (xs : List Nat) (i j v : Nat) (h : i < xs.length) : gd (xs.set i v) j = if j = i then v else gd xs j := by
  unfold gd
  rw [List.getD_eq_getElem?_getD, List.getD_eq_getElem?_getD, List.getElem?_set]
  by_cases hij : i = j
  · subst hij; simp [h]
  · rw [if_neg hij, if_neg (by omega)]
theorem gd_zeros (k j : Nat) : gd (List.replicate k 0) j = 0 := by
  unfold gd
  rw [List.getD_eq_getElem?_getD, List.getElem?_replicate]
  split <;> rfl
theorem gd_append (xs ys : List Nat) (j : Nat) : gd (xs ++ ys) j = if j < xs.length then gd xs j else gd ys (j - xs.length) := by
  unfold gd
  rw [List.getD_eq_getElem?_getD, List.getElem?_append]
  split <;> rw [List.getD_eq_getElem?_getD]

/-- Digits of a limb: k of them are told (ys), x is left. -/
theorem digits_step {ys : List Nat} {x v k n : Nat} (h : ten ys + 10 ^ k * x = v) (hk : ys.length = k) (hn : n = k + 1) : ten (ys ++ [x % 10]) + 10 ^ n * (x / 10) = v := by
  subst hn
  rw [ten_snoc, hk, Nat.pow_succ]
  have e4 : 10 ^ k * x = 10 ^ k * (10 * (x / 10) + x % 10) := by rw [Nat.div_add_mod]
  rw [Nat.mul_add, ← Nat.mul_assoc] at e4
  omega

/-- A digit of a limb that is gathered: k digits on (x, below 10 to the k), over is what is carried. -/
theorem number_step {xs : List Nat} {x o i k S : Nat} (h : x + 10 ^ k * (o + ten (xs.drop (i + k))) = S) : (x + (o + gd xs (i + k)) % 10 * 10 ^ k) + 10 ^ (k + 1) * ((o + gd xs (i + k)) / 10 + ten (xs.drop (i + (k + 1)))) = S := by
  rw [ten_drop] at h
  rw [Nat.pow_succ, ← Nat.add_assoc i k 1]
  have e4 : 10 ^ k * (o + gd xs (i + k)) = 10 ^ k * (10 * ((o + gd xs (i + k)) / 10) + (o + gd xs (i + k)) % 10) := by rw [Nat.div_add_mod]
  rw [Nat.mul_comm ((o + gd xs (i + k)) % 10)]
  generalize (o + gd xs (i + k)) / 10 = q at *
  generalize (o + gd xs (i + k)) % 10 = r at *
  generalize ten (xs.drop (i + k + 1)) = s at *
  generalize 10 ^ k = P at *
  have e5 : P * 10 * (q + s) = P * (10 * q) + P * (10 * s) := by rw [Nat.mul_assoc, Nat.mul_add, Nat.mul_add]
  have e6 : P * (o + (gd xs (i + k) + 10 * s)) = P * (o + gd xs (i + k)) + P * (10 * s) := by rw [← Nat.mul_add, Nat.add_assoc]
  rw [e6, e4, Nat.mul_add] at h
  omega
theorem number_lt {x r k : Nat} (hx : x < 10 ^ k) (hr : r < 10) : x + r * 10 ^ k < 10 ^ (k + 1) := by
  rw [Nat.pow_succ]
  have : r * 10 ^ k ≤ 9 * 10 ^ k := Nat.mul_le_mul_right _ (by omega)
  omega
theorem pow9 (j : Nat) : 1000000000 ^ j = 10 ^ (9 * j) := by
  rw [Nat.pow_mul]
/-- A limb is told: what was to come (o and the rest of xs) is x and what is to come behind nine digits. -/
theorem number_limb {zs xs : List Nat} {x o o' i j T : Nat} (h : val zs + 1000000000 ^ j * (o + ten (xs.drop i)) = T) (hx : x + 10 ^ 9 * (o' + ten (xs.drop (i + 9))) = o + ten (xs.drop i)) (hl : zs.length = j) :
    val (zs ++ [x]) + 1000000000 ^ (j + 1) * (o' + ten (xs.drop (i + 9))) = T := by
  rw [val_snoc, hl, Nat.pow_succ, ← h, ← hx]
  generalize o' + ten (xs.drop (i + 9)) = R
  have e : (10 : Nat) ^ 9 = 1000000000 := rfl
  rw [e, Nat.mul_add, ← Nat.mul_assoc]
  omega
theorem number_end {zs xs : List Nat} {i j T : Nat} (h : val zs + 1000000000 ^ j * (0 + ten (xs.drop i)) = T) (hi : xs.length ≤ i) : val zs = T := by
  rw [List.drop_of_length_le hi, ten, Nat.add_zero, Nat.mul_zero] at h
  exact h

/-- A digit's product is laid on top. -/
theorem conv_step {zs xs ys : List Nat} {i k T : Nat} (h : ten zs = T + 10 ^ i * (gd xs i * ten (ys.take k))) (hk : i + k < zs.length) :
    ten (zs.set (i + k) (gd zs (i + k) + gd xs i * gd ys k)) = T + 10 ^ i * (gd xs i * ten (ys.take (k + 1))) := by
  have e := ten_set zs (i + k) (gd zs (i + k) + gd xs i * gd ys k) hk
  rw [ten_take_succ, Nat.mul_add, Nat.mul_add]
  rw [Nat.mul_add, Nat.pow_add] at e
  have e2 : 10 ^ i * (gd xs i * (10 ^ k * gd ys k)) = 10 ^ i * 10 ^ k * (gd xs i * gd ys k) := by
    rw [Nat.mul_left_comm (gd xs i), ← Nat.mul_assoc]
  rw [e2]
  omega
theorem conv_row {xs : List Nat} {b i v : Nat} (h : v = ten (xs.take i) * b + 10 ^ i * (gd xs i * b)) : v = ten (xs.take (i + 1)) * b := by
  rw [ten_take_succ, h, Nat.add_mul, Nat.mul_assoc]

/-! Products by halves. -/
theorem kara_mid (la ha lb hb : Nat) : (la + ha) * (lb + hb) - la * lb - ha * hb = la * hb + ha * lb := by
  simp only [Nat.mul_add, Nat.add_mul]; omega
theorem kara_sum (la ha lb hb P : Nat) : (la * lb + P * P * (ha * hb)) + P * ((la + ha) * (lb + hb) - la * lb - ha * hb) = (la + P * ha) * (lb + P * hb) := by
  rw [kara_mid]
  simp only [Nat.mul_add, Nat.mul_comm, Nat.mul_left_comm]
  omega
theorem half_split (a h : Nat) : a % 1000000000 ^ h + 1000000000 ^ h * (a / 1000000000 ^ h) = a := Nat.mod_add_div a (1000000000 ^ h)
theorem kara (a b h : Nat) : (a % 1000000000 ^ h * (b % 1000000000 ^ h) + 1000000000 ^ (2 * h) * (a / 1000000000 ^ h * (b / 1000000000 ^ h))) + 1000000000 ^ h * ((a % 1000000000 ^ h + a / 1000000000 ^ h) * (b % 1000000000 ^ h + b / 1000000000 ^ h) - a % 1000000000 ^ h * (b % 1000000000 ^ h) - a / 1000000000 ^ h * (b / 1000000000 ^ h)) = a * b := by
  have e := kara_sum (a % 1000000000 ^ h) (a / 1000000000 ^ h) (b % 1000000000 ^ h) (b / 1000000000 ^ h) (1000000000 ^ h)
  rw [half_split, half_split] at e
  rw [show 1000000000 ^ (2 * h) = 1000000000 ^ h * 1000000000 ^ h from by rw [← Nat.pow_add]; congr 1; omega]
  exact e
theorem mod_len (a h : Nat) : (dg (a % 1000000000 ^ h)).length ≤ h := dg_len_le (Nat.mod_lt _ (Nat.pow_pos (by omega)))
theorem div_len {a h n : Nat} (hn : (dg a).length = n) : (dg (a / 1000000000 ^ h)).length ≤ n - h := by
  subst hn
  rcases Nat.lt_or_ge (dg a).length h with h1 | h1
  · have : a / 1000000000 ^ h = 0 := Nat.div_eq_of_lt (Nat.lt_of_lt_of_le (lt_pow_dg a) (Nat.pow_le_pow_right (by omega) (by omega)))
    rw [this, dg_zero]; simp
  · apply dg_len_le
    rw [Nat.div_lt_iff_lt_mul (Nat.pow_pos (by omega)), ← Nat.pow_add]
    rw [show (dg a).length - h + h = (dg a).length by omega]
    exact lt_pow_dg a
theorem half_len {a h n : Nat} (hn : (dg a).length = n) (h2 : n ≤ 2 * h) : (dg (a % 1000000000 ^ h + a / 1000000000 ^ h)).length ≤ h + 1 := by
  have h3 := dg_len_add (a % 1000000000 ^ h) (a / 1000000000 ^ h)
  have h4 := mod_len a h
  have h5 := div_len (h := h) hn
  omega
theorem high_len {a b h n m : Nat} (hn : (dg a).length = n) (hm : (dg b).length = m) (h2 : 2 * h ≤ n + m) : (dg (a / 1000000000 ^ h * (b / 1000000000 ^ h))).length ≤ n + m - 2 * h := by
  apply dg_len_le
  have e1 := lt_pow_dg a
  have e2 := lt_pow_dg b
  rw [hn] at e1
  rw [hm] at e2
  have e3 := mul_lt_pow e1 e2
  have e4 := kara a b h
  have e5 : 1000000000 ^ (n + m) = 1000000000 ^ (2 * h) * 1000000000 ^ (n + m - 2 * h) := by rw [← Nat.pow_add]; congr 1; omega
  have e6 : 1000000000 ^ (2 * h) * (a / 1000000000 ^ h * (b / 1000000000 ^ h)) < 1000000000 ^ (2 * h) * 1000000000 ^ (n + m - 2 * h) := by
    rw [← e5]
    refine Nat.lt_of_le_of_lt ?_ e3
    rw [← e4]
    exact Nat.le_trans (Nat.le_add_left _ _) (Nat.le_add_right _ _)
  exact Nat.lt_of_mul_lt_mul_left e6
theorem low_len {a b h : Nat} : (dg (a % 1000000000 ^ h * (b % 1000000000 ^ h))).length ≤ 2 * h := by
  have := dg_len_mul (a % 1000000000 ^ h) (b % 1000000000 ^ h)
  have := mod_len a h
  have := mod_len b h
  omega
theorem mid_le1 (a b h : Nat) : a % 1000000000 ^ h * (b % 1000000000 ^ h) ≤ (a % 1000000000 ^ h + a / 1000000000 ^ h) * (b % 1000000000 ^ h + b / 1000000000 ^ h) := Nat.mul_le_mul (Nat.le_add_right _ _) (Nat.le_add_right _ _)
theorem mid_le2 (a b h : Nat) : a / 1000000000 ^ h * (b / 1000000000 ^ h) ≤ (a % 1000000000 ^ h + a / 1000000000 ^ h) * (b % 1000000000 ^ h + b / 1000000000 ^ h) - a % 1000000000 ^ h * (b % 1000000000 ^ h) := by
  have := kara_mid (a % 1000000000 ^ h) (a / 1000000000 ^ h) (b % 1000000000 ^ h) (b / 1000000000 ^ h)
  generalize a % 1000000000 ^ h = x at *
  generalize b % 1000000000 ^ h = y at *
  generalize a / 1000000000 ^ h = z at *
  generalize b / 1000000000 ^ h = u at *
  simp only [Nat.mul_add, Nat.add_mul]; omega

/-! Limbs that are laid over noughts. -/
theorem val_of_gd_zero {xs : List Nat} (h : ∀ j, gd xs j = 0) : val xs = 0 := (val_eq_of_gd xs [] (fun j => by rw [h j, gd_nil])).trans rfl
theorem val_splice {L cs : List Nat} {off : Nat} (hle : off + cs.length ≤ L.length) (hz : ∀ j, off ≤ j → gd L j = 0) : val (L.take off ++ (cs ++ L.drop (off + cs.length))) = val L + 1000000000 ^ off * val cs := by
  have h1 : val (L.drop (off + cs.length)) = 0 := val_of_gd_zero (fun j => by rw [gd_drop]; exact hz _ (by omega))
  have h2 : val (L.drop off) = 0 := val_of_gd_zero (fun j => by rw [gd_drop]; exact hz _ (by omega))
  have h3 := val_take_drop L off (by omega)
  rw [val_append, val_append, h1, List.length_take, Nat.min_eq_left (by omega), h3, h2]
  simp
theorem limbs_splice {L cs : List Nat} {off k : Nat} (hL : limbs L) (hc : limbs cs) : limbs (L.take off ++ (cs ++ L.drop k)) :=
  limbs_append.2 ⟨limbs_take hL _, limbs_append.2 ⟨hc, limbs_drop hL _⟩⟩
theorem gd_splice {L cs : List Nat} {off : Nat} (hle : off + cs.length ≤ L.length) (hz : ∀ j, off ≤ j → gd L j = 0) (j : Nat) (hj : off + cs.length ≤ j) : gd (L.take off ++ (cs ++ L.drop (off + cs.length))) j = 0 := by
  rw [gd_append, List.length_take, Nat.min_eq_left (by omega), if_neg (by omega), gd_append, if_neg (by omega), gd_drop]
  exact hz _ (by omega)
theorem len_splice {L cs : List Nat} {off : Nat} (hle : off + cs.length ≤ L.length) : (L.take off ++ (cs ++ L.drop (off + cs.length))).length = L.length := by
  simp; omega

end Go.Proofs.Ytafbkoejobkncaa

/-
  Contracts of layer 2, the first part: cut, addRow, add: what is written into a room.
-/
namespace Go.Proofs.Ytafbkoejobkncaa
open Go.RowKit

/-- But for block g the world w' is as w was. -/
structure Kept (g : Nat) (w w' : World) : Prop where
  os : w'.os = w.os
  tape : w'.tape = w.tape
  output : w'.output = w.output
  size : w'.heap.size = w.heap.size
  block : ∀ k, k ≠ g → w'.heap[k]? = w.heap[k]?

theorem Kept.refl (g : Nat) (w : World) : Kept g w w := ⟨rfl, rfl, rfl, rfl, fun _ _ => rfl⟩
theorem Kept.trans {g : Nat} {a b c : World} (h : Kept g a b) (k : Kept g b c) : Kept g a c :=
  ⟨k.os.trans h.os, k.tape.trans h.tape, k.output.trans h.output, k.size.trans h.size, fun i hi => (k.block i hi).trans (h.block i hi)⟩
theorem Kept.drew {g : Nat} {a w : World} (h : Kept g a w) : Kept g a w.drew := ⟨h.os, h.tape, h.output, h.size, h.block⟩
theorem Kept.setCell {g : Nat} {a w : World} (h : Kept g a w) (o : Nat) (u : Value) : Kept g a (w.setCell ⟨g, o, none⟩ u) :=
  h.trans ⟨rfl, rfl, rfl, by simp [World.setCell], fun k hk => Below.heap_setCell _ _ _ _ hk⟩
theorem Kept.below {g B : Nat} {a w : World} (h : Kept g a w) (hB : B ≤ g) : Below B a w := ⟨h.os, h.tape, h.output, Nat.le_of_eq h.size.symm, fun k hk => h.block k (by omega)⟩
theorem Kept.cell {g : Nat} {w w' : World} (h : Kept g w w') {p : Addr} (hp : p.block ≠ g) : w'.cell? p = w.cell? p := World.cell?_of_block (w := w) (h.block p.block hp)

/-- Limbs that lie anywhere but in block g. -/
def Off (g : Nat) (A : Option Addr) : Prop := ∀ ad, A = some ad → ad.block ≠ g
theorem Lim.off {w : World} {B n c g : Nat} {A : Option Addr} {xs : List Nat} (h : Lim w B A n c xs) (hB : B ≤ g) (hn : 0 < n) : Off g A := by
  intro ad hA
  obtain ⟨b, o, he, hb, _⟩ := h.at_ hn
  rw [hA] at he
  injection he with he
  subst he
  show b ≠ g
  omega
theorem Lim.kept {w w' : World} {B n c g : Nat} {A : Option Addr} {xs : List Nat} (h : Lim w B A n c xs) (ho : 0 < n → Off g A) (k : Kept g w w') : Lim w' B A n c xs := by
  refine ⟨h.len, h.cap, h.room, h.fit, ?_, h.addr⟩
  rcases Nat.eq_zero_or_pos n with h0 | h0
  · subst h0; left; rw [List.eq_nil_of_length_eq_zero h.len]; rfl
  replace ho := ho h0
  rcases h.row with h0 | ⟨b, o, rfl, hb, hc⟩
  · exact .inl h0
  · exact .inr ⟨b, o, rfl, hb, fun j u hu => (k.cell (p := ⟨b, o + j, none⟩) (ho ⟨b, o, none⟩ rfl)).trans (hc j u hu)⟩

/-- What cut hands back of limbs at A of which n are left. -/
def cutV (A : Option Addr) (n : Nat) : Value := if n = 0 then .slice none 0 0 else .slice A n n
theorem cutV_lim {A : Option Addr} {n c B : Nat} {xs : List Nat} {w : World} (h : Lim w B A n c xs) (hx : limbs xs) : ∃ A' n' c', cutV A (dg (val xs)).length = .slice A' n' c' ∧ n' ≤ n ∧ (A' = none ∨ A' = A) ∧ Lim w B A' n' c' (dg (val xs)) := by
  have hlen : (dg (val xs)).length ≤ n := by
    have := dg_len_le (val_lt hx)
    rwa [h.len] at this
  unfold cutV
  by_cases h0 : (dg (val xs)).length = 0
  · rw [if_pos h0, List.eq_nil_of_length_eq_zero h0]
    exact ⟨none, 0, 0, rfl, Nat.zero_le _, .inl rfl, Lim.nil⟩
  · rw [if_neg h0]
    have e : dg (val xs) = xs.take (dg (val xs)).length := by
      have hz : ∀ j, (dg (val xs)).length ≤ j → gd xs j = 0 := by
        intro j hj
        have e := val_take_drop xs (dg (val xs)).length (by rw [h.len]; exact hlen)
        have hd : val (xs.drop (dg (val xs)).length) = 0 := by
          rcases Nat.eq_zero_or_pos (val (xs.drop (dg (val xs)).length)) with h1 | h1
          · exact h1
          · have h2 := lt_pow_dg (val xs)
            have h3 : 1000000000 ^ (dg (val xs)).length * 1 ≤ 1000000000 ^ (dg (val xs)).length * val (xs.drop (dg (val xs)).length) := Nat.mul_le_mul_left _ h1
            generalize 1000000000 ^ (dg (val xs)).length = P at *
            omega
        have : ∀ k ys, val ys = 0 → gd ys k = 0 := by
          intro k
          induction k with
          | zero => intro ys hy; have := val_drop ys 0; rw [List.drop_zero] at this; omega
          | succ k ih =>
            intro ys hy
            have := val_drop ys 0
            rw [List.drop_zero, Nat.zero_add] at this
            have := ih (ys.drop 1) (by omega)
            rwa [gd_drop, Nat.add_comm 1 k] at this
        have h4 := this (j - (dg (val xs)).length) _ hd
        rwa [gd_drop, Nat.add_sub_cancel' hj] at h4
      refine dg_cut hx hz (.inr ?_) (by rw [h.len]; exact hlen)
      intro hl
      have e1 := val_take_drop xs ((dg (val xs)).length - 1) (by rw [h.len]; omega)
      have hz2 : val (xs.drop ((dg (val xs)).length - 1)) = 0 := by
        have : ∀ k i, xs.length - i = k → (dg (val xs)).length - 1 ≤ i → val (xs.drop i) = 0 := by
          intro k
          induction k with
          | zero => intro i hk _; rw [List.drop_of_length_le (by omega)]; rfl
          | succ k ih =>
            intro i hk hi
            rw [val_drop, ih (i + 1) (by omega) (by omega)]
            rcases Nat.eq_or_lt_of_le hi with h5 | h5
            · rw [← h5, hl]
            · rw [hz i (by omega)]
        exact this _ _ rfl (Nat.le_refl _)
      rw [hz2, Nat.mul_zero, Nat.add_zero] at e1
      have h6 := val_lt (limbs_take hx ((dg (val xs)).length - 1))
      rw [← e1, List.length_take, h.len, Nat.min_eq_left (by omega)] at h6
      have := dg_len_le h6
      omega
    have ht := h.take hlen
    rw [← e] at ht
    exact ⟨A, _, _, rfl, hlen, .inr rfl, ⟨ht.len, Nat.le_refl _, Nat.le_trans ht.cap ht.room, ht.fit, ht.row, fun hA => by have := ht.addr hA; have := ht.cap; omega⟩⟩

theorem cut_len {xs : List Nat} {n : Nat} (hx : limbs xs) (hz : ∀ j, n ≤ j → gd xs j = 0) (hn : n = 0 ∨ gd xs (n - 1) ≠ 0) (hle : n ≤ xs.length) : (dg (val xs)).length = n := by
  rw [dg_cut hx hz hn hle, List.length_take]; omega

/-- cut as a function. -/
theorem mcut_q (A : Option Addr) (n c B : Nat) (xs : List Nat) (w : World) (h : Lim w B A n c xs) (hx : limbs xs) :
    Calls Try.prog 82 #[.slice A n c] w fun e w' => e = .returned (cutV A (dg (val xs)).length) ∧ w' = w := by
  have hm := h.room
  have hn := h.cap
  unfold maxLen at hm
  have Z : Hid (∀ j, n ≤ j → gd xs j = 0) := fun j hj => gd_of_ge (by rw [h.len]; exact hj)
  go_enter Try.func82, Try.ntmps82
  go_wp2
  go_loop [3] (fun i => ∃ k : Nat, k ≤ n ∧ i = .int .i64 k ∧ ∀ j, k ≤ j → gd xs j = 0) (fun i => (intOf i).toNat)
  case atStart => exact ⟨n, Nat.le_refl _, rfl, Z.out⟩
  case round =>
    obtain ⟨k, hk, rfl, hall⟩ := hrel
    have HALL := Lib.hid hall
    have H := Lib.hid h
    have hg := h.gd_lt (k - 1)
    clear hall Z
    rcases Nat.eq_zero_or_pos k with h0 | h0
    · subst h0
      clear h hg
      go_wp2
      go_ret
      exact ⟨by rw [cut_len hx HALL.out (.inl rfl) (Nat.zero_le _)]; rfl, rfl⟩
    · obtain ⟨b, o, rfl, _, hc⟩ := h.at_ (show k - 1 < n by omega)
      clear h
      by_cases hz : gd xs (k - 1) = 0
      · go_wp2
        go_round
        case rel =>
          refine ⟨k - 1, by omega, by go_num, fun j hj => ?_⟩
          rcases Nat.lt_or_ge j k with h1 | h1
          · obtain rfl : j = k - 1 := by omega
            exact hz
          · exact HALL.out j h1
        case measure => simp [intOf]; omega
      · go_wp2
        go_ret
        exact ⟨by rw [cut_len hx HALL.out (.inr hz) (by have := H.out.len; omega), cutV, if_neg (by omega)]; rfl, rfl⟩

theorem mcut_any (A : Option Addr) (n c B : Nat) (xs : List Nat) (w : World) (h : Lim w B A n c xs) (hx : limbs xs) :
    Calls Try.prog 82 #[.slice A n c] w fun e w' => (∃ A' n' c', e = .returned (.slice A' n' c') ∧ n' ≤ n ∧ (A' = none ∨ A' = A) ∧ Lim w B A' n' c' (dg (val xs))) ∧ w = w' := by
  refine (mcut_q A n c B xs w h hx).mono ?_
  rintro e w' ⟨rfl, rfl⟩
  obtain ⟨A', n', c', he, h1, h2, h3⟩ := cutV_lim h hx
  exact ⟨⟨A', n', c', by rw [he], h1, h2, h3⟩, rfl⟩

theorem row_step {zs bs : List Nat} {i k l cy T : Nat} (h : val zs + 1000000000 ^ (i + k) * (cy + l * val (bs.drop k)) = T) (hk : i + k < zs.length) :
    val (zs.set (i + k) ((gd zs (i + k) + gd bs k * l + cy) % 1000000000)) + 1000000000 ^ (i + (k + 1)) * ((gd zs (i + k) + gd bs k * l + cy) / 1000000000 + l * val (bs.drop (k + 1))) = T := by
  rw [← Nat.add_assoc i k 1]
  refine acc_step h hk ?_
  rw [val_drop bs k, Nat.mul_add, Nat.mul_comm l (gd bs k), Nat.mul_left_comm l 1000000000]
  omega
theorem row_end {zs bs : List Nat} {i k l cy T : Nat} (h : val zs + 1000000000 ^ (i + k) * (cy + l * val (bs.drop k)) = T) (hk : i + k < zs.length) (hb : bs.length ≤ k) (hz : gd zs (i + k) = 0) :
    val (zs.set (i + k) cy) = T := by
  have := acc_step (v := cy) (R' := 0) h hk (by rw [hz, List.drop_of_length_le hb]; simp [val])
  rw [Nat.mul_zero, Nat.add_zero] at this
  exact this
theorem row_mul_le {y l : Nat} (hy : y < 1000000000) (hl : l < 1000000000) : y * l ≤ 999999998000000001 :=
  Nat.le_trans (Nat.mul_le_mul (show y ≤ 999999999 by omega) (show l ≤ 999999999 by omega)) (by omega)

/-- What a call hands back that writes into the room g: limbs of the number v. -/
def RetRoom (W : World) (g len v : Nat) (e : Ending) (w' : World) : Prop :=
  ∃ zs, e = .returned (.tuple #[]) ∧ Own w' g zs ∧ zs.length = len ∧ limbs zs ∧ val zs = v ∧ Kept g W w'

set_option maxHeartbeats 1000000 in
set_option maxRecDepth 100000 in
theorem addRow_any (A' : Option Addr) (g i n' c' m l b : Nat) (zs : List Nat) (w : World) (ho : Hid (Own w g zs)) (hl : Hid (limbs zs)) (hm : zs.length = m) (him : i + n' + 1 ≤ m) (_hmm : m ≤ 1000000000) (hz : gd zs (i + n') = 0)
    (h' : Num w g A' n' c' b) (hlim : l < 1000000000) :
    Calls Try.prog 90 #[.slice (some ⟨g, i, none⟩) (n' + 1) (n' + 1), .slice A' n' c', .int .u32 l] w (RetRoom w g m (val zs + 1000000000 ^ i * (l * b))) := by
  have hm' := h'.room
  have hn' := h'.cap
  unfold maxLen at hm'
  have H' := Lib.hid h'
  have HM := Lib.hid hm
  have HZ := Lib.hid hz
  clear h' hm hz
  go_enter Try.func90, Try.ntmps90
  go_wp2
  go_loopw [6, 11] (fun cv iv wr => ∃ (k cy : Nat) (ys : List Nat), k ≤ n' ∧ iv = .int .i64 k ∧ cv = .int .u64 cy ∧ cy < 1000000000 ∧ ys.length = m ∧ limbs ys ∧ gd ys (i + n') = 0 ∧ val ys + 1000000000 ^ (i + k) * (cy + l * val ((dg b).drop k)) = val zs + 1000000000 ^ i * (l * b) ∧ Own wr g ys ∧ Kept g w wr) (fun _ iv _ => n' - (intOf iv).toNat)
  case atStart =>
    exact ⟨0, 0, zs, Nat.zero_le _, rfl, rfl, by omega, HM.out, hl.out, HZ.out, by rw [List.drop_zero, val_dg, Nat.add_zero, Nat.zero_add], ho.out, Kept.refl _ _⟩
  case round =>
    obtain ⟨k, cy, ys, hk, rfl, rfl, hcy, hlen, hly, hzy, hval, hown, hkp⟩ := hrel
    have OW := Lib.hid hown
    have HL := Lib.hid hly
    have HV := Lib.hid hval
    have HK := Lib.hid hkp
    have LN := Lib.hid hlen
    have HZY := Lib.hid hzy
    clear hown hly hval hkp hlen hzy
    rcases Nat.lt_or_ge k n' with hkn | hkn
    · have hcell := OW.out.cell (i := i + k) (by rw [LN.out]; omega)
      have hfr := OW.out.frozen (i + k)
      have hx := gd_lt HL.out (i + k)
      obtain ⟨b2, o2, rfl, _, hc2⟩ := (H'.out.below (HK.out.below (Nat.le_refl _))).at_ hkn
      have hy := gd_lt (limbs_dg b) k
      have hp := row_mul_le hy hlim
      have E : Hid (((gd (dg b) k : Nat) : Int) * (l : Nat) = ((gd (dg b) k * l : Nat) : Int)) := by show _ = _; rw [Int.natCast_mul]
      have hp0 : 0 ≤ ((gd (dg b) k : Nat) : Int) * (l : Nat) := by rw [E.out]; omega
      have hp1 : ((gd (dg b) k : Nat) : Int) * (l : Nat) ≤ 999999998000000001 := by rw [E.out]; omega
      clear hp
      go_wp2
      go_region
      go_wp2
      go_roundw
      case rel =>
        have hpn : gd (dg b) k * l ≤ 999999998000000001 := row_mul_le hy hlim
        have ev : ((gd ys (i + k) : Nat) : Int) + ((gd (dg b) k : Nat) : Int) * (l : Nat) + (cy : Nat) = ((gd ys (i + k) + gd (dg b) k * l + cy : Nat) : Int) := by rw [E.out]; omega
        rw [ev]
        have HR := row_step HV.out (show i + k < ys.length by rw [LN.out]; omega)
        generalize gd ys (i + k) + gd (dg b) k * l + cy = t at *
        have ht : t < 1000000000000000000 := by omega
        exact ⟨k + 1, t / 1000000000, ys.set (i + k) (t % 1000000000), by omega, by go_num, rfl, by omega, by rw [List.length_set]; exact LN.out, limbs_set HL.out _ (by omega), by rw [gd_set _ _ _ _ (by rw [LN.out]; omega), if_neg (by omega)]; exact HZY.out, HR, (OW.out.store (i + k) (t % 1000000000) _ rfl).drew, (HK.out.setCell _ _).drew⟩
      case measure => simp [intOf]; omega
    · obtain rfl : k = n' := by omega
      have hcell := OW.out.cell (i := i + k) (by rw [LN.out]; omega)
      have hfr := OW.out.frozen (i + k)
      go_wp2
      go_end0
      exact ⟨ys.set (i + k) cy, rfl, OW.out.store (i + k) cy _ (by omega), by rw [List.length_set]; exact LN.out, limbs_set HL.out _ hcy, row_end HV.out (by rw [LN.out]; omega) (by rw [H'.out.len]; exact Nat.le_refl _) HZY.out, HK.out.setCell _ _⟩

theorem sum_step {zs xs : List Nat} {o k cy T : Nat} (h : val zs + 1000000000 ^ (o + k) * (cy + val (xs.drop k)) = T) (hk : o + k < zs.length) :
    val (zs.set (o + k) ((gd zs (o + k) + cy + gd xs k) % 1000000000)) + 1000000000 ^ (o + (k + 1)) * ((gd zs (o + k) + cy + gd xs k) / 1000000000 + val (xs.drop (k + 1))) = T := by
  rw [← Nat.add_assoc o k 1]
  refine acc_step h hk ?_
  rw [val_drop xs k]
  omega
theorem sum_end {zs xs : List Nat} {k j T : Nat} (h : val zs + 1000000000 ^ j * (0 + val (xs.drop k)) = T) (hk : xs.length ≤ k) : val zs = T := by
  rw [List.drop_of_length_le hk, val, Nat.add_zero, Nat.mul_zero] at h
  exact h

set_option maxHeartbeats 1000000 in
set_option maxRecDepth 100000 in
/-- The number a is laid on top of what the room's limbs from o on are, and there is room enough. -/
theorem madd_any (A A' : Option Addr) (g o r n' c' m a B : Nat) (zs : List Nat) (w : World) (ho : Hid (Own w g zs)) (hl : Hid (limbs zs)) (hm : zs.length = m) (hor : o + r = m) (hmm : m ≤ 1000000000) (hA : 0 < r → A = some ⟨g, o, none⟩)
    (h' : Num w B A' n' c' a) (hoff : 0 < n' → Off g A') (hfit : val zs + 1000000000 ^ o * a < 1000000000 ^ m) (cr : Nat) (hcr : r ≤ cr) :
    Calls Try.prog 81 #[.slice A r cr, .slice A' n' c'] w (RetRoom w g m (val zs + 1000000000 ^ o * a)) := by
  have hm' := h'.room
  have hn' := h'.cap
  unfold maxLen at hm'
  have H' := Lib.hid h'
  have HM := Lib.hid hm
  have HF := Lib.hid hfit
  have HO := Lib.hid hoff
  have HA := Lib.hid hA
  clear h' hm hfit hoff hA
  go_enter Try.func81, Try.ntmps81
  go_wp2
  go_loopw [4, 9] (fun cv iv wr => ∃ (k cy : Nat) (ys : List Nat), k ≤ r ∧ iv = .int .i64 k ∧ cv = .int .u32 cy ∧ cy ≤ 1 ∧ ys.length = m ∧ limbs ys ∧ val ys + 1000000000 ^ (o + k) * (cy + val ((dg a).drop k)) = val zs + 1000000000 ^ o * a ∧ Own wr g ys ∧ Kept g w wr) (fun _ iv _ => r - (intOf iv).toNat)
  case atStart =>
    exact ⟨0, 0, zs, Nat.zero_le _, rfl, rfl, by omega, HM.out, hl.out, by rw [List.drop_zero, val_dg, Nat.add_zero, Nat.zero_add], ho.out, Kept.refl _ _⟩
  case round =>
    obtain ⟨k, cy, ys, hk, rfl, rfl, hcy, hlen, hly, hval, hown, hkp⟩ := hrel
    have OW := Lib.hid hown
    have HL := Lib.hid hly
    have HV := Lib.hid hval
    have HK := Lib.hid hkp
    have LN := Lib.hid hlen
    clear hown hly hval hkp hlen
    rcases Nat.lt_or_ge k r with hkr | hkr
    · obtain rfl := HA.out (by omega)
      have hcell := OW.out.cell (i := o + k) (by rw [LN.out]; omega)
      have hfr := OW.out.frozen (o + k)
      have hx := gd_lt HL.out (o + k)
      rcases Nat.lt_or_ge k n' with hkn | hkn
      · obtain ⟨b2, o2, rfl, _, hc2⟩ := (H'.out.kept HO.out HK.out).at_ hkn
        have hy := gd_lt (limbs_dg a) k
        go_wp2
        go_roundw
        case rel =>
          have ev : (((gd ys (o + k) : Nat) : Int) + (cy : Nat) + ((gd (dg a) k : Nat) : Int)) = ((gd ys (o + k) + cy + gd (dg a) k : Nat) : Int) := by omega
          rw [ev]
          have HR := sum_step HV.out (show o + k < ys.length by rw [LN.out]; omega)
          generalize gd ys (o + k) + cy + gd (dg a) k = t at *
          have ht : t < 2000000000 := by omega
          exact ⟨k + 1, t / 1000000000, ys.set (o + k) (t % 1000000000), by omega, by go_num, rfl, by omega, by rw [List.length_set]; exact LN.out, limbs_set HL.out _ (by omega), HR, OW.out.store (o + k) (t % 1000000000) _ rfl, HK.out.setCell _ _⟩
        case measure => simp [intOf]; omega
      · rcases Nat.eq_zero_or_pos cy with h0 | h0
        · subst h0
          go_wp2
          refine bodyPost_ret (results_none rfl _ _ _) rfl ?_
          have hT := sum_end HV.out (show (dg a).length ≤ k by rw [H'.out.len]; exact hkn)
          exact ⟨ys, rfl, OW.out, LN.out, HL.out, hT, HK.out⟩
        · obtain rfl : cy = 1 := by omega
          go_wp2
          go_roundw
          case rel =>
            have ev : (((gd ys (o + k) : Nat) : Int) + 1) = ((gd ys (o + k) + 1 : Nat) : Int) := by omega
            rw [ev]
            have HR := sum_step HV.out (show o + k < ys.length by rw [LN.out]; omega)
            have hz : gd (dg a) k = 0 := gd_of_ge (by rw [H'.out.len]; exact hkn)
            rw [hz, Nat.add_zero] at HR
            clear hz
            generalize gd ys (o + k) + 1 = t at *
            have ht : t < 2000000000 := by omega
            exact ⟨k + 1, t / 1000000000, ys.set (o + k) (t % 1000000000), by omega, by go_num, rfl, by omega, by rw [List.length_set]; exact LN.out, limbs_set HL.out _ (by omega), HR, OW.out.store (o + k) (t % 1000000000) _ rfl, HK.out.setCell _ _⟩
          case measure => simp [intOf]; omega
    · obtain rfl : k = r := by omega
      go_wp2
      go_end0
      have hT := acc_end HV.out (by rw [hor]; exact HF.out)
      exact ⟨ys, rfl, OW.out, LN.out, HL.out, hT, HK.out⟩

end Go.Proofs.Ytafbkoejobkncaa

/-
  Contracts of layer 2, the second part: Mul, Times.
-/
namespace Go.Proofs.Ytafbkoejobkncaa
open Go.RowKit

/-- What a call hands back that makes limbs in memory of its own. -/
def RetFresh (W : World) (xs : List Nat) (e : Ending) (w' : World) : Prop :=
  ∃ A n c, e = .returned (.slice A n c) ∧ Lim w' w'.heap.size A n c xs ∧ (∀ ad, A = some ad → W.heap.size ≤ ad.block) ∧ Below W.heap.size W w'
abbrev RetNew (W : World) (a : Nat) (e : Ending) (w' : World) : Prop := RetFresh W (dg a) e w'
theorem RetFresh.lim {W : World} {xs : List Nat} {e : Ending} {w' : World} (h : RetFresh W xs e w') : RetLim W xs e w' := by
  obtain ⟨A, n, c, he, hl, _, hb⟩ := h
  exact ⟨A, n, c, he, hl, hb⟩

theorem zeros_limbs (n : Nat) : limbs (List.replicate n 0) := fun x hx => by rw [(List.mem_replicate.1 hx).2]; omega
theorem addRow_is {A' : Option Addr} {g i n' c' m l b p V : Nat} {zs : List Nat} {w : World} (ho : Hid (Own w g zs)) (hl : Hid (limbs zs)) (hm : zs.length = m) (him : i + n' + 1 ≤ m) (hmm : m ≤ 1000000000) (hv : val zs < 1000000000 ^ (i + n'))
    (h' : Num w g A' n' c' b) (hlim : l < 1000000000) (hp : p = n' + 1) (hV : val zs + 1000000000 ^ i * (l * b) = V) :
    Calls Try.prog 90 #[.slice (some ⟨g, i, none⟩) p p, .slice A' n' c', .int .u32 l] w (RetRoom w g m V) := by
  subst hp; subst hV
  exact addRow_any A' g i n' c' m l b zs w ho hl hm him hmm (gd_of_val_lt hv) h' hlim

set_option maxHeartbeats 1000000 in
set_option maxRecDepth 100000 in
theorem mul_both (A A' : Option Addr) (n c n' c' a b : Nat) (w : World) (h : Num w w.heap.size A n c a) (h' : Num w w.heap.size A' n' c' b) (hn : n ≤ 10000000) (hn' : n' ≤ 10000000) (args : Array Value)
    (hargs : (args = #[.slice A n c, .slice A' n' c'] ∧ n ≤ n') ∨ (args = #[.slice A' n' c', .slice A n c] ∧ n < n')) :
    Calls Try.prog 79 args w (RetNew w (a * b)) := by
  obtain ⟨i0, hi, hz0, hz1, hz2⟩ := info_parts info_limb
  have PB := Lib.hid (pow_of_len h'.len (Nat.le_refl _))
  have hmA := h.room
  have hcA := h.cap
  have hmB := h'.room
  have hcB := h'.cap
  unfold maxLen at hmA hmB
  have H := Lib.hid h
  have H' := Lib.hid h'
  clear h h'
  rcases hargs with ⟨rfl, hle⟩ | ⟨rfl, hle⟩
  all_goals
    go_enter Try.func79, Try.ntmps79
    go_wp2_with (at_make; go_must (refine wpList_make_full _ rfl _ _ 23 rfl w.heap.size 64 i0 (.int .u32 0) 1 Try.underlying23 hi hz0 hz1 _ _ _ _ (n + n') rfl rfl (by omega) (by omega) (by rw [hz2]; omega) (by unfold maxLen; omega) (Nat.le_refl _) ?_; intro w1 hown1 hgr1; have M1 : Hid (Own w1 w.heap.size (List.replicate (n + n') 0)) := Own.of_made hown1; have HB1 : Hid (Below w.heap.size w w1) := (Below.refl _ _).grown hgr1 (Nat.le_refl _) (fun k hk => by cases hk); clear hown1 hgr1))
    go_loopw [24] (fun iv wr => ∃ (i : Nat) (zs : List Nat), i ≤ n ∧ iv = .int .i64 i ∧ zs.length = n + n' ∧ limbs zs ∧ val zs = val ((dg a).take i) * b ∧ Own wr w.heap.size zs ∧ Below w.heap.size w wr) (fun iv _ => n - (intOf iv).toNat)
    case atStart =>
      exact ⟨0, List.replicate (n + n') 0, Nat.zero_le _, rfl, by simp, zeros_limbs _, by rw [val_zeros, List.take_zero, val, Nat.zero_mul], M1.out, HB1.out⟩
    case round =>
      obtain ⟨i, zs, hi1, rfl, hlen, hlim, hval, hown, hb⟩ := hrel
      clear M1 HB1
      have OW := Lib.hid hown
      have HL := Lib.hid hlim
      have HV := Lib.hid hval
      have HB := Lib.hid hb
      have LN := Lib.hid hlen
      clear hown hlim hval hb hlen
      rcases Nat.lt_or_ge i n with hin | hin
      · obtain ⟨b1, o1, rfl, _, hc1⟩ := (H.out.below HB.out).at_ hin
        have hx := gd_lt (limbs_dg a) i
        have hrow := mul_row_lt (i := i) (limbs_dg a) (show i ≤ (dg a).length by rw [H.out.len]; omega) PB.out
        rw [← HV.out] at hrow
        have HC := Lib.hid (addRow_is (V := val ((dg a).take (i + 1)) * b) (p := i + n' + 1 - i) OW HL LN.out (by omega) (by omega) hrow (H'.out.below HB.out) hx (by omega) (mul_row HV.out rfl))
        clear hrow
        go_wp2_with fail
        refine HC.out.mono ?_; rintro e w2 ⟨ys, rfl, hown2, hlen2, hlim2, hval2, hk2⟩
        have OW2 := Lib.hid hown2
        have HL2 := Lib.hid hlim2
        have HV2 := Lib.hid hval2
        have HB2 := Lib.hid (HB.out.trans (hk2.below (Nat.le_refl _)))
        have LN2 := Lib.hid hlen2
        clear hown2 hlim2 hval2 hk2 hlen2
        go_wp2
        go_roundw
        case rel => exact ⟨i + 1, ys, by omega, by go_num, LN2.out, HL2.out, HV2.out, OW2.out, HB2.out⟩
        case measure => simp [intOf]; omega
      · obtain rfl : i = n := by omega
        have LZ := OW.out.lim HL.out (by rw [LN.out]; omega)
        rw [LN.out] at LZ
        have HLZ := Lib.hid LZ
        clear LZ
        have HE : Hid (val zs = a * b) := by have := HV.out; rwa [List.take_of_length_le (by rw [H.out.len]; exact Nat.le_refl _), val_dg] at this
        go_wp2_with (go_at_call 82; refine (mcut_any _ _ _ _ _ _ HLZ.out HL.out).mono ?_; rintro e w' ⟨⟨A2, n2, c2, rfl, hn2, hA2, h2⟩, rfl⟩; have H2 := Lib.hid h2; have HA2 := Lib.hid hA2; clear h2 hA2)
        go_ret
        refine ⟨_, _, _, rfl, by rw [← HE.out]; exact H2.out, fun ad hA => ?_, HB.out⟩
        rcases HA2.out with h0 | h0
        · rw [h0] at hA; cases hA
        · rw [h0] at hA; injection hA with hA; subst hA; exact Nat.le_refl _

theorem mul_any (A A' : Option Addr) (n c n' c' a b : Nat) (w : World) (h : Num w w.heap.size A n c a) (h' : Num w w.heap.size A' n' c' b) (hn : n ≤ 10000000) (hn' : n' ≤ 10000000) :
    Calls Try.prog 79 #[.slice A n c, .slice A' n' c'] w (RetNew w (a * b)) := by
  rcases Nat.lt_or_ge n' n with hlt | hge
  · rw [Nat.mul_comm]
    exact mul_both A' A n' c' n c b a w h' h hn' hn _ (.inr ⟨rfl, hlt⟩)
  · exact mul_both A A' n c n' c' a b w h h' hn hn' _ (.inl ⟨rfl, hge⟩)
theorem mul_is {A A' : Option Addr} {n c n' c' a b m : Nat} {w : World} (h : Num w w.heap.size A n c a) (h' : Num w w.heap.size A' n' c' b) (hn : n ≤ 10000000) (hn' : n' ≤ 10000000) (hm : a * b = m) :
    Calls Try.prog 79 #[.slice A n c, .slice A' n' c'] w (RetNum w m) := by
  subst hm; exact (mul_any A A' n c n' c' a b w h h' hn hn').mono fun _ _ h => h.lim

theorem len_of_u64 {N : Nat} (h : N < 18446744073709551616) : (dg N).length ≤ 3 := dg_len_le (by omega)

theorem times_is {A : Option Addr} {n c a l m : Nat} {w : World} (h : Num w w.heap.size A n c a) (hn : n ≤ 10000000) (hl : l < 4294967296) (hm : a * l = m) :
    Calls Try.prog 88 #[.slice A n c, .int .u32 l] w (RetNum w m) := by
  have H := Lib.hid h
  have HM := Lib.hid hm
  clear h hm
  go_enter Try.func88, Try.ntmps88
  go_wp2_with fail
  refine (mk_any l _ rfl (by omega) _).mono ?_; rintro e w1 ⟨A1, n1, c1, rfl, h1, hb1⟩
  have hn1 : n1 ≤ 3 := by have := len_of_u64 (show l < 18446744073709551616 by omega); rwa [h1.len] at this
  have HB1 := Lib.hid hb1
  have H1 := Lib.hid h1
  clear h1 hb1
  go_wp2_with fail
  refine (mul_is ((H.out.below HB1.out).more HB1.out.size) H1.out hn (by omega) HM.out).mono ?_; rintro e w2 ⟨A2, n2, c2, rfl, h2, hb2⟩
  have HB2 := Lib.hid (HB1.out.trans (hb2.mono HB1.out.size))
  have H2 := Lib.hid h2
  clear h2 hb2
  go_wp2_with fail
  go_ret
  exact ⟨_, _, _, rfl, H2.out, HB2.out⟩

end Go.Proofs.Ytafbkoejobkncaa

/-
  Contracts of layer 2, the third part: halves, Fast, Square.
-/
namespace Go.Proofs.Ytafbkoejobkncaa
open Go.RowKit

theorem Lim.quiet {w : World} {B n c k : Nat} {A : Option Addr} {xs : List Nat} (h : Lim w B A n c xs) : Lim (w.drewN k) B A n c xs := h.below (below_drewN (Below.refl _ _) k)

theorem val_take_mod (a k : Nat) : val ((dg a).take k) = a % 1000000000 ^ k ∧ val ((dg a).drop k) = a / 1000000000 ^ k := by
  have hp : 0 < 1000000000 ^ k := Nat.pow_pos (by omega)
  have hlt : val ((dg a).take k) < 1000000000 ^ k := by
    refine Nat.lt_of_lt_of_le (val_lt (limbs_take (limbs_dg a) k)) (Nat.pow_le_pow_right (by omega) ?_)
    rw [List.length_take]; omega
  have e : a = val ((dg a).take k) + 1000000000 ^ k * val ((dg a).drop k) := by
    rcases Nat.lt_or_ge (dg a).length k with h | h
    · rw [List.take_of_length_le (by omega), List.drop_of_length_le (by omega), val_dg]; rfl
    · rw [← val_take_drop _ _ h, val_dg]
  generalize 1000000000 ^ k = P at *
  generalize val ((dg a).take k) = x at *
  generalize val ((dg a).drop k) = y at *
  subst e
  constructor
  · rw [Nat.add_mul_mod_self_left, Nat.mod_eq_of_lt hlt]
  · rw [Nat.add_mul_div_left _ _ hp, Nat.div_eq_of_lt hlt, Nat.zero_add]

theorem Lim.rest {w : World} {B n c b o k : Nat} {xs : List Nat} (h : Lim w B (some ⟨b, o, none⟩) n c xs) (hk : k ≤ n) (A : Option Addr) (hA : k < n → A = some ⟨b, o + k, none⟩) (hA' : A = none → c - k = 0) : Lim w B A (n - k) (c - k) (xs.drop k) := by
  refine ⟨by rw [List.length_drop, h.len], by have := h.cap; omega, by have := h.room; omega, fun x hx => h.fit x (List.mem_of_mem_drop hx), ?_, hA'⟩
  rcases Nat.lt_or_ge k n with hlt | hge
  · obtain rfl := hA hlt
    rcases h.row with h0 | ⟨b', o', he, hb, hc⟩
    · left
      have := congrArg List.length h0
      rw [vals_len, h.len] at this
      simp at this; omega
    · injection he with he
      injection he with he1 he2
      subst he1; subst he2
      refine .inr ⟨b, o + k, rfl, hb, fun j u hu => ?_⟩
      rw [Nat.add_assoc]
      refine hc (k + j) u ?_
      rw [vals, List.map_drop, List.getElem?_drop] at hu
      exact hu
  · left
    rw [List.drop_of_length_le (by rw [h.len]; exact hge)]; rfl

/-- What halves hands back. -/
def RetHalves (W : World) (x y : Nat) (e : Ending) (w' : World) : Prop :=
  ∃ A1 n1 c1 A2 n2 c2, e = .returned (.tuple #[.slice A1 n1 c1, .slice A2 n2 c2]) ∧ Num w' w'.heap.size A1 n1 c1 x ∧ Num w' w'.heap.size A2 n2 c2 y ∧ Below W.heap.size W w'

theorem halves_ret {W : World} {x y k n1 n2 : Nat} {V1 V2 : Value} {xs ys : List Nat} {A1 A2 : Option Addr} (hv : val xs = x ∧ val ys = y)
    (h1 : ∃ A' n' c', V1 = .slice A' n' c' ∧ n' ≤ n1 ∧ (A' = none ∨ A' = A1) ∧ Lim W W.heap.size A' n' c' (dg (val xs))) (h2 : ∃ A' n' c', V2 = .slice A' n' c' ∧ n' ≤ n2 ∧ (A' = none ∨ A' = A2) ∧ Lim W W.heap.size A' n' c' (dg (val ys))) :
    RetHalves W x y (.returned (.tuple #[V1, V2])) (W.drewN k) := by
  obtain ⟨rfl, rfl⟩ := hv
  obtain ⟨A1, n1, c1, rfl, _, _, l1⟩ := h1
  obtain ⟨A2, n2, c2, rfl, _, _, l2⟩ := h2
  exact ⟨A1, n1, c1, A2, n2, c2, rfl, l1.quiet, l2.quiet, below_drewN (Below.refl _ _) k⟩

set_option maxHeartbeats 1000000 in
set_option maxRecDepth 100000 in
theorem halves_any (A : Option Addr) (n c a k : Nat) (w : World) (h : Num w w.heap.size A n c a) (hn0 : 0 < n) (hk0 : 0 < k) (hk : k ≤ 1000000000) :
    Calls Try.prog 80 #[.slice A n c, .int .i64 k] w (RetHalves w (a % 1000000000 ^ k) (a / 1000000000 ^ k)) := by
  have hm := h.room
  have hcap := h.cap
  unfold maxLen at hm
  obtain ⟨m, hmk, hmn, hm0, htk, hdr, hmm⟩ : ∃ m, m ≤ k ∧ m ≤ n ∧ 0 < m ∧ (dg a).take m = (dg a).take k ∧ (dg a).drop m = (dg a).drop k ∧ ((n < k ∧ m = n) ∨ (k ≤ n ∧ m = k)) := by
    rcases Nat.lt_or_ge n k with h1 | h1
    · refine ⟨n, by omega, by omega, hn0, ?_, ?_, .inl ⟨h1, rfl⟩⟩
      · rw [List.take_of_length_le (by rw [h.len]; exact Nat.le_refl _), List.take_of_length_le (by rw [h.len]; omega)]
      · rw [List.drop_of_length_le (by rw [h.len]; exact Nat.le_refl _), List.drop_of_length_le (by rw [h.len]; omega)]
    · exact ⟨k, by omega, h1, hk0, rfl, rfl, .inr ⟨h1, rfl⟩⟩
  obtain ⟨b, o, rfl, hb, _⟩ := h.at_ hn0
  have HT : Hid (Lim w w.heap.size (some ⟨b, o, none⟩) m m ((dg a).take k)) := by
    have := h.take hmn
    rw [htk] at this
    exact ⟨this.len, Nat.le_refl _, Nat.le_trans this.cap this.room, this.fit, this.row, fun hA => by cases hA⟩
  have HD : Hid (∀ A' p q (v : World), p = n - m → q = c - m → (m < n → A' = some ⟨b, o + m, none⟩) → (A' = none → c - m = 0) → Below w.heap.size w v → Lim v w.heap.size A' p q ((dg a).drop k)) := by
    intro A' p q v hp hq h1 h2 hv
    subst hp; subst hq
    have := h.rest hmn A' h1 h2
    rw [hdr] at this
    exact this.below hv
  have ET := Lib.hid (val_take_mod a k)
  have LT := Lib.hid (limbs_take (limbs_dg a) k)
  have LD := Lib.hid (limbs_drop (limbs_dg a) k)
  clear h htk hdr
  rcases hmm with ⟨h1, h2⟩ | ⟨h1, h2⟩
  all_goals
    first | obtain rfl : n = m := h2.symm | obtain rfl : k = m := h2.symm
    rcases Nat.eq_or_lt_of_le (show _ ≤ c from Nat.le_trans hmn hcap) with hmc | hmc
    all_goals
      try subst hmc
      go_enter Try.func80, Try.ntmps80
      go_wp2
      go_quiet ((go_at_call 82; first | exact Calls.quiet_of_same (mcut_q _ _ _ _ ((dg a).take k) _ HT.out.quiet LT.out) | exact Calls.quiet_of_same (mcut_q _ _ _ _ ((dg a).drop k) _ (HD.out _ _ _ _ (by omega) (by omega) (fun _ => by first | rfl | omega) (fun h => by cases h) (below_drewN (Below.refl _ _) _)) LD.out)))
      go_wp2
      go_ret2
      exact halves_ret ET.out (cutV_lim HT.out LT.out) (cutV_lim (HD.out _ _ _ _ rfl rfl (fun _ => by first | rfl | omega) (fun h => by cases h) (Below.refl _ _)) LD.out)

end Go.Proofs.Ytafbkoejobkncaa

/-
  Contracts of layer 2, the fourth part: Fast, Square.
-/
namespace Go.Proofs.Ytafbkoejobkncaa
open Go.RowKit

set_option maxHeartbeats 400000 in
theorem fast_small (A A' : Option Addr) (n c n' c' a b : Nat) (w : World) (h : Num w w.heap.size A n c a) (h' : Num w w.heap.size A' n' c' b) (hn : n ≤ 1000000) (hn' : n' ≤ 1000000) (hs : n < 40 ∨ n' < 40) :
    Calls Try.prog 63 #[.slice A n c, .slice A' n' c'] w (RetNew w (a * b)) := by
  have H := Lib.hid h
  have H' := Lib.hid h'
  have C := Lib.hid (mul_any A A' n c n' c' a b w h h' (by omega) (by omega))
  clear h h'
  obtain ⟨hlt, hs⟩ | ⟨hlt, hs⟩ : (n' < n ∧ n' < 40) ∨ (n ≤ n' ∧ n < 40) := by omega
  all_goals
    go_enter Try.func63, Try.ntmps63
    go_wp2_with fail
    refine C.out.mono ?_; rintro e w1 ⟨A1, n1, c1, rfl, h1, hf1, hb1⟩
    have H1 := Lib.hid h1
    have HF := Lib.hid hf1
    have HB := Lib.hid hb1
    clear h1 hf1 hb1
    go_wp2_with fail
    go_ret
    exact ⟨_, _, _, rfl, H1.out, HF.out, HB.out⟩

/-- The halves of two numbers, by name. -/
theorem fast_facts {a b n m h : Nat} (hn : (dg a).length = n) (hm : (dg b).length = m) (h1 : n ≤ 2 * h) (h2 : m ≤ 2 * h) (h3 : 2 * h ≤ n + m) :
    ∃ la ha lb hb, a % 1000000000 ^ h = la ∧ a / 1000000000 ^ h = ha ∧ b % 1000000000 ^ h = lb ∧ b / 1000000000 ^ h = hb ∧
      (dg la).length ≤ h ∧ (dg ha).length ≤ n - h ∧ (dg lb).length ≤ h ∧ (dg hb).length ≤ m - h ∧ (dg (la + ha)).length ≤ h + 1 ∧ (dg (lb + hb)).length ≤ h + 1 ∧
      (dg (la * lb)).length ≤ 2 * h ∧ (dg (ha * hb)).length ≤ n + m - 2 * h ∧ la * lb ≤ (la + ha) * (lb + hb) ∧ ha * hb ≤ (la + ha) * (lb + hb) - la * lb ∧
      (la * lb + 1000000000 ^ (2 * h) * (ha * hb)) + 1000000000 ^ h * ((la + ha) * (lb + hb) - la * lb - ha * hb) = a * b :=
  ⟨_, _, _, _, rfl, rfl, rfl, rfl, mod_len a h, div_len hn, mod_len b h, div_len hm, half_len hn h1, half_len hm h2, low_len, high_len hn hm h3, mid_le1 a b h, mid_le2 a b h, kara a b h⟩

theorem Env.two {w : World} {A1 A2 : Option Addr} {n1 n2 c1 c2 a b : Nat} (h1 : Num w w.heap.size A1 n1 c1 a) (h2 : Num w w.heap.size A2 n2 c2 b) : Hid (Env w w [(A1, n1, c1, a), (A2, n2, c2, b)]) := by
  refine ⟨Below.refl _ _, fun q hq => ?_⟩
  rcases List.mem_cons.1 hq with rfl | hq
  · exact h1
  · rcases List.mem_cons.1 hq with rfl | hq
    · exact h2
    · cases hq
theorem halves_is {A : Option Addr} {n c a k x y : Nat} {v : Int} {w : World} (h : Num w w.heap.size A n c a) (hn0 : 0 < n) (hk0 : 0 < k) (hk : k ≤ 1000000000) (hv : v = k) (hx : a % 1000000000 ^ k = x) (hy : a / 1000000000 ^ k = y) :
    Calls Try.prog 80 #[.slice A n c, .int .i64 v] w (RetHalves w x y) := by
  subst hv; subst hx; subst hy
  exact halves_any A n c a k w h hn0 hk0 hk

theorem vals_splice (L cs : List Nat) (off : Nat) : splice (vals L) off (vals cs) = vals (splice L off cs) := by
  simp [splice, vals, List.map_append, List.map_take, List.map_drop]
theorem own_spliced {w : World} {g off : Nat} {L cs : List Nat} (h : Hid (w.heap[g]? = some (.cells (splice (vals L) off (vals cs)).toArray 64 (0, 0)))) : Hid (Own w g (splice L off cs)) := by
  have := h.out
  rw [vals_splice] at this
  exact this
theorem copy_ok {w : World} {B n c k off : Nat} {A : Option Addr} {xs L : List Nat} (h : Lim w B A n c xs) (hk : n ≤ k) (hl : off + k ≤ L.length) : (vals xs).length = Nat.min n k ∧ off + (vals xs).length ≤ (vals L).length := by
  rw [vals_len, vals_len, h.len]
  exact ⟨(Nat.min_eq_left hk).symm, by omega⟩

theorem madd_is {A' : Option Addr} {g n' c' m a B V : Nat} {zs : List Nat} {w : World} (o r : Nat) (ho : Hid (Own w g zs)) (hl : Hid (limbs zs)) (hm : zs.length = m) (hor : o + r = m) (hmm : m ≤ 1000000000)
    (h' : Num w B A' n' c' a) (hoff : 0 < n' → Off g A') {cr : Nat} (hcr : r ≤ cr) (hV : val zs + 1000000000 ^ o * a = V) (hfit : V < 1000000000 ^ m) :
    Calls Try.prog 81 #[.slice (some ⟨g, o, none⟩) r cr, .slice A' n' c'] w (RetRoom w g m V) := by
  subst hV
  exact madd_any (some ⟨g, o, none⟩) A' g o r n' c' m a B zs w ho hl hm hor hmm (fun _ => rfl) h' hoff hfit cr hcr
theorem own_lim_is {w : World} {g m : Nat} {zs : List Nat} (h : Own w g zs) (hz : limbs zs) (hl : zs.length = m) (hm : m ≤ 1000000000000) : Lim w w.heap.size (some ⟨g, 0, none⟩) m m zs := by
  subst hl; exact h.lim hz hm

/-- Two numbers are laid into a room of noughts: the first one at its head, the second one at place p. -/
theorem two_laid {N p x y : Nat} (h1 : (dg x).length ≤ p) (h2 : p + (dg y).length ≤ N) :
    (splice (splice (List.replicate N 0) 0 (dg x)) p (dg y)).length = N ∧ limbs (splice (splice (List.replicate N 0) 0 (dg x)) p (dg y)) ∧ val (splice (splice (List.replicate N 0) 0 (dg x)) p (dg y)) = x + 1000000000 ^ p * y := by
  have e1 : 0 + (dg x).length ≤ (List.replicate N 0).length := by simp; omega
  have e2 : p + (dg y).length ≤ (splice (List.replicate N 0) 0 (dg x)).length := by
    rw [splice, len_splice e1]; simp; omega
  refine ⟨?_, ?_, ?_⟩
  · rw [splice, len_splice e2, splice, len_splice e1]; simp
  · exact limbs_splice (limbs_splice (zeros_limbs _) (limbs_dg x)) (limbs_dg y)
  · rw [splice, val_splice e2, splice, val_splice e1, val_zeros, val_dg, val_dg]
    · simp
    · intro j _; exact gd_zeros _ _
    · intro j hj; exact gd_splice e1 (fun j _ => gd_zeros _ _) j (by omega)

/-- Numbers of at most k limbs are multiplied. -/
def FastTo (k : Nat) : Prop := ∀ (A A' : Option Addr) (n c n' c' a b m : Nat) (w : World), Num w w.heap.size A n c a → Num w w.heap.size A' n' c' b → n ≤ k → n' ≤ k → a * b = m → Calls Try.prog 63 #[.slice A n c, .slice A' n' c'] w (RetNew w m)

set_option maxHeartbeats 2000000 in
set_option maxRecDepth 100000 in
theorem fast_big (k : Nat) (ih : Hid (FastTo k)) (hk : k < 1000000) (A A' : Option Addr) (n c n' c' a b : Nat) (w : World) (h : Num w w.heap.size A n c a) (h' : Num w w.heap.size A' n' c' b) (hn : n ≤ k + 1) (hn' : n' ≤ k + 1) (hb1 : 40 ≤ n) (hb2 : 40 ≤ n') :
    Calls Try.prog 63 #[.slice A n c, .slice A' n' c'] w (RetNew w (a * b)) := by
  obtain ⟨i0, hi, hz0, hz1, hz2⟩ := info_parts info_limb
  have E := Env.two h h'
  have LA := Lib.hid h.len
  have LB := Lib.hid h'.len
  clear h h'
  obtain ⟨half, hh1, hh2, hh3, hh4, hh5, hh⟩ : ∃ half, n ≤ 2 * half ∧ n' ≤ 2 * half ∧ 2 * half < n + n' ∧ half + 1 ≤ k ∧ 0 < half ∧ ((n < n' ∧ n ≤ n' ∧ half = (n' + 1) / 2) ∨ (n' < n ∧ n' ≤ n ∧ half = (n + 1) / 2) ∨ (n ≤ n' ∧ n' ≤ n ∧ half = (n + 1) / 2)) := by
    rcases Nat.lt_trichotomy n n' with h1 | h1 | h1
    · exact ⟨(n' + 1) / 2, by omega, by omega, by omega, by omega, by omega, .inl ⟨h1, by omega, rfl⟩⟩
    · exact ⟨(n + 1) / 2, by omega, by omega, by omega, by omega, by omega, .inr (.inr ⟨by omega, by omega, rfl⟩)⟩
    · exact ⟨(n + 1) / 2, by omega, by omega, by omega, by omega, by omega, .inr (.inl ⟨h1, by omega, rfl⟩)⟩
  obtain ⟨la, ha, lb, hb, ea1, ea2, eb1, eb2, k1, k2, k3, k4, k5, k6, k7, k8, k9, k10, k11⟩ := fast_facts LA.out LB.out hh1 hh2 (by omega)
  have K1 := Lib.hid k1
  have K2 := Lib.hid k2
  have K3 := Lib.hid k3
  have K4 := Lib.hid k4
  have K5 := Lib.hid k5
  have K6 := Lib.hid k6
  have K7 := Lib.hid k7
  have K8 := Lib.hid k8
  have K9 := Lib.hid k9
  have K10 := Lib.hid k10
  have K11 := Lib.hid k11
  have EA1 := Lib.hid ea1
  have EA2 := Lib.hid ea2
  have EB1 := Lib.hid eb1
  have EB2 := Lib.hid eb2
  clear k1 k2 k3 k4 k5 k6 k7 k8 k9 k10 k11 ea1 ea2 eb1 eb2
  rcases hh with ⟨hlt, hlt2, hh⟩ | ⟨hlt, hlt2, hh⟩ | ⟨hlt, hlt2, hh⟩
  all_goals
    have HH := Lib.hid hh
    clear hh
    go_enter Try.func63, Try.ntmps63
    go_wp2_with fail
    first
      | rw [show ((n' : Int) + 1) / 2 = (half : Int) from by have := HH.out; omega]
      | rw [show ((n : Int) + 1) / 2 = (half : Int) from by have := HH.out; omega]
    refine (halves_is (k := half) (Env.get E (A := A) (n := n) (c := c) (a := a) (by simp)) (by omega) (by omega) (by omega) rfl EA1.out EA2.out).mono ?_; rintro e w1 ⟨A1, n1, c1, A2, n2, c2, rfl, h1, h2, hb⟩; replace E := Env.push E hb h1; replace E := Env.push E (Below.refl _ _) h2
    clear h1 h2 hb
    go_wp2_with fail
    refine (halves_is (k := half) (Env.get E (A := A') (n := n') (c := c') (a := b) (by simp)) (by omega) (by omega) (by omega) rfl EB1.out EB2.out).mono ?_; rintro e w2 ⟨A3, n3, c3, A4, n4, c4, rfl, h1, h2, hb⟩; replace E := Env.push E hb h1; replace E := Env.push E (Below.refl _ _) h2
    have L1 := (Env.get E (A := A1) (n := n1) (c := c1) (a := la) (by simp)).len
    have L2 := (Env.get E (A := A2) (n := n2) (c := c2) (a := ha) (by simp)).len
    have M1 : n1 ≤ half := by have := K1.out; omega
    have M2 : n2 ≤ n - half := by have := K2.out; omega
    have M3 : n3 ≤ half := by have := K3.out; have := h1.len; omega
    have M4 : n4 ≤ n' - half := by have := K4.out; have := h2.len; omega
    clear h1 h2 hb L1 L2
    go_wp2_with fail
    refine (ih.out A1 A3 n1 c1 n3 c3 la lb (la * lb) _ (Env.get E (by simp)) (Env.get E (by simp)) (by omega) (by omega) rfl).mono ?_; rintro e w3 ⟨A5, n5, c5, rfl, h1, hf, hb⟩; replace E := Env.push E hb h1
    have M5 : n5 ≤ 2 * half := by have := K7.out; have := h1.len; omega
    clear h1 hf hb
    go_wp2_with fail
    refine (ih.out A2 A4 n2 c2 n4 c4 ha hb (ha * hb) _ (Env.get E (by simp)) (Env.get E (by simp)) (by omega) (by omega) rfl).mono ?_; rintro e w4 ⟨A6, n6, c6, rfl, h1, hf, hb⟩; replace E := Env.push E hb h1
    have M6 : n6 ≤ n + n' - 2 * half := by have := K8.out; have := h1.len; omega
    clear h1 hf hb
    go_wp2_with fail
    refine (add_is (a := la) (b := ha) (m := la + ha) (Env.get E (A := A1) (n := n1) (c := c1) (by simp)) (Env.get E (by simp)) (by omega) (by omega) rfl).mono ?_; rintro e w5 ⟨A7, n7, c7, rfl, h1, hb⟩; replace E := Env.push E hb h1
    have M7 : n7 ≤ half + 1 := by have := K5.out; have := h1.len; omega
    clear h1 hb
    go_wp2_with fail
    refine (add_is (a := lb) (b := hb) (m := lb + hb) (Env.get E (A := A3) (n := n3) (c := c3) (by simp)) (Env.get E (by simp)) (by omega) (by omega) rfl).mono ?_; rintro e w6 ⟨A8, n8, c8, rfl, h1, hbb⟩; replace E := Env.push E hbb h1
    have M8 : n8 ≤ half + 1 := by have := K6.out; have := h1.len; omega
    clear h1 hbb
    go_wp2_with fail
    refine (ih.out A7 A8 n7 c7 n8 c8 (la + ha) (lb + hb) ((la + ha) * (lb + hb)) _ (Env.get E (by simp)) (Env.get E (by simp)) (by omega) (by omega) rfl).mono ?_; rintro e w7 ⟨A9, n9, c9, rfl, h1, hf, hbb⟩; replace E := Env.push E hbb h1
    have M9 : n9 ≤ 2 * half + 2 := by have := dg_len_mul (la + ha) (lb + hb); have := K5.out; have := K6.out; have := h1.len; omega
    clear h1 hf hbb
    go_wp2_with fail
    refine (sub_is (a := (la + ha) * (lb + hb)) (b := la * lb) (m := (la + ha) * (lb + hb) - la * lb) (Env.get E (A := A9) (n := n9) (c := c9) (by simp)) (Env.get E (A := A5) (n := n5) (c := c5) (by simp)) (by omega) K9.out rfl).mono ?_; rintro e w8 ⟨A10, n10, c10, rfl, h1, hbb⟩; replace E := Env.push E hbb h1
    have M10 : n10 ≤ 2 * half + 2 := by have := dg_len_mono (Nat.sub_le ((la + ha) * (lb + hb)) (la * lb)); have := dg_len_mul (la + ha) (lb + hb); have := K5.out; have := K6.out; have := h1.len; omega
    clear h1 hbb
    go_wp2_with fail
    refine (sub_is (a := (la + ha) * (lb + hb) - la * lb) (b := ha * hb) (m := (la + ha) * (lb + hb) - la * lb - ha * hb) (Env.get E (A := A10) (n := n10) (c := c10) (by simp)) (Env.get E (A := A6) (n := n6) (c := c6) (by simp)) (by omega) K10.out rfl).mono ?_; rintro e w9 ⟨A11, n11, c11, rfl, h1, hbb⟩; replace E := Env.push E hbb h1
    have OFF : Hid (0 < n11 → Off w9.heap.size A11) := fun hp => h1.off (Nat.le_refl _) hp
    clear h1 hbb
    have PAB := Lib.hid (mul_lt_pow (pow_of_len LA.out (Nat.le_refl _)) (pow_of_len LB.out (Nat.le_refl _)))
    have S5 := Lib.hid (Env.get E (A := A5) (n := n5) (c := c5) (a := la * lb) (by simp))
    have S6 := Lib.hid (Env.get E (A := A6) (n := n6) (c := c6) (a := ha * hb) (by simp))
    have S11 := Lib.hid (Env.get E (A := A11) (n := n11) (c := c11) (a := (la + ha) * (lb + hb) - la * lb - ha * hb) (by simp))
    have HB0 := Lib.hid E.out.1
    have HSZ := Lib.hid E.out.1.size
    clear E
    have TL := Lib.hid (two_laid (N := n + n') (p := 2 * half) (x := la * lb) (y := ha * hb) K7.out (by have := K8.out; omega))
    have hN : 2 * half < n + n' := hh3
    have L11 : Hid ((splice (List.replicate (n + n') 0) 0 (dg (la * lb))).length = n + n') := by show _ = _; rw [length_splice]; simp; have := K7.out; simp; omega
    go_wp2_with (first | (at_make; go_must (refine wpList_make_full _ rfl _ _ 23 rfl w9.heap.size 64 i0 (.int .u32 0) 1 Try.underlying23 hi hz0 hz1 _ _ _ _ (n + n') rfl rfl (by omega) (by omega) (by rw [hz2]; omega) (by unfold maxLen; omega) (Nat.le_refl _) ?_; intro w10 hown1 hgr1; have O10 : Hid (Own w10 w9.heap.size (List.replicate (n + n') 0)) := Own.of_made hown1; have HB10 : Hid (Below w9.heap.size w9 w10) := (Below.refl _ _).grown hgr1 (Nat.le_refl _) (fun k hk => by cases hk); clear hown1 hgr1)) | ((with_reducible show wpList _ _ _ (⟨some 84, _, _, _, _, _⟩ :: _) _ _); go_must (refine wpList_copy_splice rfl (.tmp 82) (.tmp 83) 23 23 rfl 64 Try.underlying23 info_one _ _ _ _ _ _ rfl rfl w9.heap.size 0 (vals (List.replicate (n + n') 0)) 64 O10.out (vals (dg (la * lb))) (copy_ok (L := List.replicate (n + n') 0) (off := 0) S5.out M5 (by simp; omega)).1 (fun hp => ⟨rfl, lim_src (S5.out.below HB10.out) hp⟩) (copy_ok (L := List.replicate (n + n') 0) (off := 0) S5.out M5 (by simp; omega)).2 (vals_one _) w9.heap.size w9 HB10.out (Nat.le_refl _) ?_; intro w11 hg2 hb2; have O11 := own_spliced hg2; have HB11 := Lib.hid hb2; clear hg2 hb2)) | ((with_reducible show wpList _ _ _ (⟨some 90, _, _, _, _, _⟩ :: _) _ _); go_must (refine wpList_copy_splice rfl (.tmp 88) (.tmp 89) 23 23 rfl 64 Try.underlying23 info_one _ _ _ _ _ _ rfl rfl w9.heap.size (2 * half) (vals (splice (List.replicate (n + n') 0) 0 (dg (la * lb)))) 64 O11.out (vals (dg (ha * hb))) (copy_ok (L := splice (List.replicate (n + n') 0) 0 (dg (la * lb))) (off := 2 * half) S6.out M6 (by rw [L11.out]; omega)).1 (fun hp => ⟨rfl, lim_src (S6.out.below HB11.out) hp⟩) (copy_ok (L := splice (List.replicate (n + n') 0) 0 (dg (la * lb))) (off := 2 * half) S6.out M6 (by rw [L11.out]; omega)).2 (vals_one _) w9.heap.size w9 HB11.out (Nat.le_refl _) ?_; intro w12 hg2 hb2; have O12 := own_spliced hg2; have HB12 := Lib.hid hb2; clear hg2 hb2; have HC := Lib.hid (madd_is (half) (n + n' - half) O12 TL.out.2.1 TL.out.1 (by omega) (by omega) (S11.out.below HB12.out) OFF.out (Nat.le_refl _) (by rw [TL.out.2.2]; exact K11.out) PAB.out))) | (go_at_call 81; go_must (refine HC.out.mono ?_; rintro e w13 ⟨zs, rfl, hown, hlen, hlim, hval, hkp⟩; have OZ := Lib.hid hown; have LZ := Lib.hid hlen; have HL := Lib.hid hlim; have HV := Lib.hid hval; have HB13 := Lib.hid (HB12.out.trans (hkp.below (Nat.le_refl _))); clear hown hlen hlim hval hkp; have LL := Lib.hid (own_lim_is OZ.out HL.out LZ.out (by omega)))) | (go_at_call 82; go_must (refine (mcut_any _ _ _ _ _ _ LL.out HL.out).mono ?_; rintro e w' ⟨⟨A12, n12, c12, rfl, hn12, hA12, h12⟩, rfl⟩; have H12 := Lib.hid h12; have HA12 := Lib.hid hA12; clear h12 hA12)))
    go_ret
    refine ⟨_, _, _, rfl, by rw [← HV.out]; exact H12.out, fun ad hA => ?_, HB0.out.trans (HB13.out.mono HSZ.out)⟩
    rcases HA12.out with h0 | h0
    · rw [h0] at hA; cases hA
    · rw [h0] at hA; injection hA with hA; subst hA; exact HSZ.out

theorem fast_to (k : Nat) (hk : k ≤ 1000000) : FastTo k := by
  induction k with
  | zero =>
    intro A A' n c n' c' a b m w h h' hn hn' hm
    subst hm
    exact fast_small A A' n c n' c' a b w h h' (by omega) (by omega) (by omega)
  | succ k ih =>
    intro A A' n c n' c' a b m w h h' hn hn' hm
    subst hm
    by_cases hs : n < 40 ∨ n' < 40
    · exact fast_small A A' n c n' c' a b w h h' (by omega) (by omega) hs
    · exact fast_big k (ih (by omega)) (by omega) A A' n c n' c' a b w h h' hn hn' (by omega) (by omega)
theorem fast_is {A A' : Option Addr} {n c n' c' a b m : Nat} {w : World} (h : Num w w.heap.size A n c a) (h' : Num w w.heap.size A' n' c' b) (hn : n ≤ 1000000) (hn' : n' ≤ 1000000) (hm : a * b = m) :
    Calls Try.prog 63 #[.slice A n c, .slice A' n' c'] w (RetNew w m) := fast_to 1000000 (Nat.le_refl _) A A' n c n' c' a b m w h h' hn hn' hm

theorem square_is {A : Option Addr} {n c a m : Nat} {w : World} (h : Num w w.heap.size A n c a) (hn : n ≤ 1000000) (hm : a * a = m) :
    Calls Try.prog 87 #[.slice A n c] w (RetNum w m) := by
  have C := Lib.hid (fast_is h h hn hn hm)
  clear h hm
  go_enter Try.func87, Try.ntmps87
  go_wp2_with fail
  refine C.out.mono ?_; rintro e w1 ⟨A1, n1, c1, rfl, h1, _, hb1⟩
  have H1 := Lib.hid h1
  have HB1 := Lib.hid hb1
  clear h1 hb1
  go_wp2_with fail
  go_ret
  exact ⟨_, _, _, rfl, H1.out, HB1.out⟩

end Go.Proofs.Ytafbkoejobkncaa

/-
  Contracts of layer 2, the fifth part: Shift, Ten, Power.
-/
namespace Go.Proofs.Ytafbkoejobkncaa
open Go.RowKit

set_option maxHeartbeats 4000000 in
set_option maxRecDepth 100000 in
theorem len64_small (x : Int) (h0 : 0 ≤ x) (hx : x ≤ 255) (w : World) :
    Calls Try.prog 95 #[.int .u64 x] w fun e w' => e = .returned (.int .i64 (Lib.bitLen x.toNat : Nat)) ∧ w = w' := by
  go_enter Try.func95, Try.ntmps95
  go_wp2
  all_goals (go_ret; refine ⟨congrArg Ending.returned (congrArg (Value.int IntKind.i64) ?_), rfl⟩)
  rw [Lib.len8_of x h0 hx]
  have l := Lib.bitLen_le8' x h0 hx
  unfold wrap64
  omega

theorem len_small_bits (x : Int) (h0 : 0 ≤ x) (hx : x ≤ 255) (w : World) :
    Calls Try.prog 86 #[.int .u64 x] w fun e w' => e = .returned (.int .i64 (Lib.bitLen x.toNat : Nat)) ∧ w = w' := by
  go_enter Try.func86, Try.ntmps86
  go_wp2_with (go_at_call 95; refine (len64_small x h0 hx _).mono ?_; rintro e w' ⟨rfl, rfl⟩)
  go_ret
  exact ⟨rfl, rfl⟩

theorem dg_shift {m low : Nat} (hm : 0 < m) : dg (1000000000 ^ low * m) = List.replicate low 0 ++ dg m := by
  have e : val (List.replicate low 0 ++ dg m) = 1000000000 ^ low * m := by
    rw [val_append, val_zeros, val_dg, List.length_replicate, Nat.zero_add]
  rw [← e]
  refine dg_val (limbs_append.2 ⟨zeros_limbs _, limbs_dg m⟩) ?_
  rw [List.getLast?_append]
  intro h
  cases hd : (dg m).getLast? with
  | none => rw [List.getLast?_eq_none_iff, dg_eq_nil] at hd; omega
  | some v =>
    rw [hd] at h
    exact dg_last m (by rw [hd]; exact h)
theorem shift_num (a n : Nat) : a * 10 ^ n = 1000000000 ^ (n / 9) * (a * 10 ^ (n % 9)) := by
  rw [pow9, Nat.mul_left_comm, ← Nat.pow_add]
  congr 2
  omega
theorem shift_splice (low : Nat) (xs : List Nat) : splice (List.replicate (low + xs.length) 0) low xs = List.replicate low 0 ++ xs := by
  simp [splice, List.drop_replicate, List.take_replicate]
theorem ten_le {j : Nat} (hj : j ≤ 8) : 10 ^ j ≤ 100000000 := Nat.le_trans (Nat.pow_le_pow_right (by omega) hj) (by decide)

theorem shift_neg (A : Option Addr) (n c : Nat) (k : Int) (w : World) (hk : k < 0) :
    Calls Try.prog 71 #[.slice A n c, .int .i64 k] w (RetVal w (.tuple #[.slice none 0 0, .int .i64 1])) := by
  go_enter Try.func71, Try.ntmps71
  go_wp2
  go_ret2
  exact ⟨rfl, Below.refl _ _⟩

set_option maxHeartbeats 1000000 in
set_option maxRecDepth 100000 in
theorem shift_any (A : Option Addr) (n c a k : Nat) (w : World) (h : Num w w.heap.size A n c a) (hn : n ≤ 1000000) (hk : k ≤ 1000000) :
    Calls Try.prog 71 #[.slice A n c, .int .i64 k] w (RetSub w (a * 10 ^ k)) := by
  obtain ⟨i0, hi, hz0, hz1, hz2⟩ := info_parts info_limb
  have H := Lib.hid h
  clear h
  go_enter Try.func71, Try.ntmps71
  go_wp2
  go_loop [6, 14] (fun tv iv => ∃ j t : Nat, j ≤ k % 9 ∧ iv = .int .i64 j ∧ tv = .int .u32 t ∧ t ≤ 100000000 ∧ Hid (t = 10 ^ j)) (fun _ iv => k % 9 - (intOf iv).toNat)
  case atStart => exact ⟨0, 1, Nat.zero_le _, rfl, rfl, by omega, rfl⟩
  case round =>
    obtain ⟨j, t, hj, rfl, rfl, ht, HT⟩ := hrel
    rcases Nat.lt_or_ge j (k % 9) with hjk | hjk
    · have ht2 : t ≤ 10000000 := by have := HT.out; rw [this]; exact Nat.le_trans (Nat.pow_le_pow_right (by omega) (show j ≤ 7 by omega)) (by decide)
      go_wp2
      go_round
      case rel => exact ⟨j + 1, t * 10, by omega, by go_num, by go_num, by omega, by show _ = _; rw [Nat.pow_succ, HT.out]⟩
      case measure => simp [intOf]; omega
    · obtain rfl : j = k % 9 := by omega
      have HP : Hid (t ≤ 1000000000) := by show _ ≤ _; omega
      go_wp2_with fail
      refine (times_is (m := a * t) H.out (by omega) (by omega) rfl).mono ?_; rintro e w1 ⟨A1, n1, c1, rfl, h1, hb1⟩
      have hm1 := h1.room
      have hc1 := h1.cap
      unfold maxLen at hm1
      have HV : Hid (a * 10 ^ k = 1000000000 ^ (k / 9) * (a * t)) := by show _ = _; rw [HT.out]; exact shift_num a k
      have hn1 : n1 ≤ n + 1 := by
        have := dg_len_mul a t
        have h2 : (dg t).length ≤ 1 := dg_len_le (by omega)
        have h3 := h1.len
        have h4 := H.out.len
        omega
      have H1 := Lib.hid h1
      have HB1 := Lib.hid hb1
      clear h1 hb1 HT hjk hj ht
      rcases Nat.eq_zero_or_pos n1 with h0 | h0
      · subst h0
        have hz : a * t = 0 := dg_eq_nil.1 (List.eq_nil_of_length_eq_zero H1.out.len)
        have HZ : Hid (a * 10 ^ k = 0) := by show _ = _; rw [HV.out, hz, Nat.mul_zero]
        clear hz
        go_wp2_with fail
        go_ret2
        exact ⟨_, _, _, rfl, by rw [HZ.out, Num, dg_zero]; exact Lim.nil, HB1.out⟩
      · have hpos : 0 < a * t := by
          rcases Nat.eq_zero_or_pos (a * t) with h2 | h2
          · have := H1.out.len; rw [h2, dg_zero] at this; simp at this; omega
          · exact h2
        have HS : Hid (splice (List.replicate (k / 9 + n1) 0) (k / 9) (dg (a * t)) = dg (a * 10 ^ k)) := by
          show _ = _
          rw [HV.out, dg_shift hpos, ← H1.out.len]
          exact shift_splice _ _
        clear hpos
        have hk9 : k / 9 ≤ 1000000 := by omega
        have hk0 : 0 ≤ ((k : Int) / 9) := by omega
        have hk1 : ((k : Int) / 9) ≤ 1000000 := by omega
        · go_wp2_with (first | (at_make; go_must (refine wpList_make_full _ rfl _ _ 23 rfl w1.heap.size 64 i0 (.int .u32 0) 1 Try.underlying23 hi hz0 hz1 _ _ _ _ (k / 9 + n1) (by first | rfl | (exact congrArg (Value.int IntKind.i64) (by omega))) (by first | rfl | (exact congrArg (Value.int IntKind.i64) (by omega))) (by omega) (by omega) (by rw [hz2]; omega) (by unfold maxLen; omega) (Nat.le_refl _) ?_; intro w2 hown1 hgr1; have O2 : Hid (Own w2 w1.heap.size (List.replicate (k / 9 + n1) 0)) := Own.of_made hown1; have HB2 : Hid (Below w1.heap.size w1 w2) := (Below.refl _ _).grown hgr1 (Nat.le_refl _) (fun k hk => by cases hk); clear hown1 hgr1)) | ((with_reducible show wpList _ _ _ (⟨some 36, _, _, _, _, _⟩ :: _) _ _); go_must (refine wpList_copy_splice rfl (.tmp 34) (.tmp 35) 23 23 rfl 64 Try.underlying23 info_one _ _ _ _ _ _ rfl rfl w1.heap.size (k / 9) (vals (List.replicate (k / 9 + n1) 0)) 64 O2.out (vals (dg (a * t))) (copy_ok (L := List.replicate (k / 9 + n1) 0) (off := k / 9) H1.out (show n1 ≤ k / 9 + n1 - k / 9 by omega) (by rw [List.length_replicate]; omega)).1 (fun hp => ⟨rfl, lim_src (H1.out.below HB2.out) hp⟩) (copy_ok (L := List.replicate (k / 9 + n1) 0) (off := k / 9) H1.out (show n1 ≤ k / 9 + n1 - k / 9 by omega) (by rw [List.length_replicate]; omega)).2 (vals_one _) w1.heap.size w1 HB2.out (Nat.le_refl _) ?_; intro w3 hg2 hb2; have O3 := own_spliced hg2; have HB3 := Lib.hid hb2; clear hg2 hb2)))
          go_ret2
          have O4 := O3.out
          rw [HS.out] at O4
          have hl4 : (dg (a * 10 ^ k)).length = k / 9 + n1 := by rw [← HS.out, length_splice _ _ _ (by rw [H1.out.len]; simp), List.length_replicate]
          exact ⟨_, _, _, rfl, own_lim_is O4 (limbs_dg _) hl4 (by omega), HB1.out.trans (HB3.out.mono HB1.out.size)⟩

theorem shift_is {A : Option Addr} {n c a k m : Nat} {v : Int} {w : World} (h : Num w w.heap.size A n c a) (hn : n ≤ 1000000) (hk : k ≤ 1000000) (hv : v = k) (hm : a * 10 ^ k = m) :
    Calls Try.prog 71 #[.slice A n c, .int .i64 v] w (RetSub w m) := by
  subst hm; subst hv; exact shift_any A n c a k w h hn hk

theorem power_neg (A : Option Addr) (n c : Nat) (k : Int) (w : World) (hk : k < 0) :
    Calls Try.prog 68 #[.slice A n c, .int .i64 k] w (RetVal w (.tuple #[.slice none 0 0, .int .i64 1])) := by
  go_enter Try.func68, Try.ntmps68
  go_wp2
  go_ret2
  exact ⟨rfl, Below.refl _ _⟩

theorem dg_len_pow (a k : Nat) : (dg (a ^ k)).length ≤ k * (dg a).length + 1 := by
  induction k with
  | zero => rw [Nat.pow_zero, dg_pos (by decide)]; simp [dg_zero]
  | succ k ih =>
    rw [Nat.pow_succ, Nat.succ_mul]
    have := dg_len_mul (a ^ k) a
    omega

theorem bit_step (a k j : Nat) : a ^ (k / 2 ^ j) = a ^ (k / 2 ^ (j + 1)) * a ^ (k / 2 ^ (j + 1)) * (if k / 2 ^ j % 2 = 1 then a else 1) := by
  have e : k / 2 ^ j = 2 * (k / 2 ^ (j + 1)) + k / 2 ^ j % 2 := by
    rw [Nat.pow_succ, ← Nat.div_div_eq_div_mul]; omega
  have e2 : k / 2 ^ j % 2 = 0 ∨ k / 2 ^ j % 2 = 1 := by omega
  generalize k / 2 ^ (j + 1) = q at *
  rw [e]
  rcases e2 with h | h
  · rw [h, Nat.add_zero, Nat.two_mul, Nat.pow_add, if_neg (by omega), Nat.mul_one]
  · rw [h, Nat.pow_succ, Nat.two_mul, Nat.pow_add, if_pos (by omega)]

theorem and_one : ∀ x : Fin 256, bits .and .i64 (x.val : Int) 1 = ((x.val % 2 : Nat) : Int) := by decide +kernel
theorem lt_bitLen : ∀ x : Fin 256, x.val < 2 ^ Lib.bitLen x.val := by decide +kernel
theorem bit_of {k j : Nat} (hk : k ≤ 255) : bits BinOp.and IntKind.i64 ((k : Int) / 2 ^ j) 1 = ((k / 2 ^ j % 2 : Nat) : Int) := by
  have e : (k : Int) / 2 ^ j = ((k / 2 ^ j : Nat) : Int) := by rw [Int.natCast_ediv, Int.natCast_pow]; rfl
  rw [e]
  exact and_one ⟨k / 2 ^ j, Nat.lt_of_le_of_lt (Nat.div_le_self _ _) (by omega)⟩
theorem bit_yes {a k j q : Nat} (hj : 0 < j) (hq : q = a ^ (k / 2 ^ j) * a ^ (k / 2 ^ j)) (h : k / 2 ^ (j - 1) % 2 = 1) : q * a = a ^ (k / 2 ^ (j - 1)) := by
  have := bit_step a k (j - 1)
  rw [show j - 1 + 1 = j by omega, if_pos h] at this
  rw [this, hq]
theorem bit_no {a k j q : Nat} (hj : 0 < j) (hq : q = a ^ (k / 2 ^ j) * a ^ (k / 2 ^ j)) (h : k / 2 ^ (j - 1) % 2 = 0) : q = a ^ (k / 2 ^ (j - 1)) := by
  have := bit_step a k (j - 1)
  rw [show j - 1 + 1 = j by omega, if_neg (by omega), Nat.mul_one] at this
  rw [this, hq]
theorem pow_len {a k j n m : Nat} (hn : (dg a).length = n) (hk : k ≤ 255) (hn1 : n ≤ 1000) (h : (dg (a ^ (k / 2 ^ j))).length = m) : m ≤ 255001 := by
  have h1 := dg_len_pow a (k / 2 ^ j)
  have h2 : k / 2 ^ j ≤ 255 := Nat.le_trans (Nat.div_le_self _ _) hk
  have h3 : k / 2 ^ j * n ≤ 255 * 1000 := Nat.mul_le_mul h2 hn1
  rw [hn] at h1
  omega

set_option maxHeartbeats 1000000 in
set_option maxRecDepth 100000 in
theorem power_any (A : Option Addr) (n c a k : Nat) (w : World) (h : Num w w.heap.size A n c a) (hn : n ≤ 1000) (hk : k ≤ 255) :
    Calls Try.prog 68 #[.slice A n c, .int .i64 k] w (RetSub w (a ^ k)) := by
  have H := Lib.hid h
  clear h
  have l := Lib.bitLen_le8' k (by omega) (by omega)
  rw [show ((k : Int)).toNat = k by omega] at l
  go_enter Try.func68, Try.ntmps68
  go_wp2_with fail
  refine (mk_any 1 _ rfl (by decide) _).mono ?_; rintro e w1 ⟨A1, n1, c1, rfl, h1, hb1⟩
  have H1 := Lib.hid h1
  have HB1 := Lib.hid hb1
  clear h1 hb1
  go_wp2_with fail
  refine (len_small_bits k (by omega) (by omega) w1).mono ?_; rintro e w2 ⟨rfl, rfl⟩
  rw [show ((k : Int)).toNat = k by omega]
  have HL := Lib.hid (lt_bitLen ⟨k, by omega⟩)
  go_wp2_with fail
  go_loopw [6, 7] (fun pv iv wr => ∃ (j : Nat) (A2 : Option Addr) (n2 c2 : Nat), j ≤ 8 ∧ iv = .int .i64 ((j : Int) - 1) ∧ pv = .slice A2 n2 c2 ∧ Num wr wr.heap.size A2 n2 c2 (a ^ (k / 2 ^ j)) ∧ Below w.heap.size w wr) (fun _ iv _ => (intOf iv + 1).toNat)
  case atStart => exact ⟨Lib.bitLen k, A1, n1, c1, l, rfl, rfl, by rw [Nat.div_eq_of_lt HL.out, Nat.pow_zero]; exact H1.out, HB1.out⟩
  case round =>
    obtain ⟨j, A2, n2, c2, hj, rfl, rfl, hnum, hb⟩ := hrel
    have HN := Lib.hid hnum
    have HB := Lib.hid hb
    have hm2 : n2 ≤ 255001 := pow_len H.out.len hk hn hnum.len
    clear hnum hb
    rcases Nat.eq_zero_or_pos j with h0 | h0
    · subst h0
      go_wp2_with fail
      go_ret2
      exact ⟨_, _, _, rfl, by have := HN.out; rwa [Nat.pow_zero, Nat.div_one] at this, HB.out⟩
    · have hbit := bit_of (k := k) (j := j - 1) hk
      have HQ : Hid (a ^ (k / 2 ^ j) * a ^ (k / 2 ^ j) = a ^ (k / 2 ^ j) * a ^ (k / 2 ^ j)) := by show _ = _; rfl
      obtain ⟨q, hq⟩ : ∃ q, q = a ^ (k / 2 ^ j) * a ^ (k / 2 ^ j) := ⟨_, rfl⟩
      have Q := Lib.hid hq
      have LQ : (dg q).length ≤ n2 + n2 := by have := dg_len_mul (a ^ (k / 2 ^ j)) (a ^ (k / 2 ^ j)); rw [← hq] at this; have := HN.out.len; omega
      have S := Lib.hid (square_is HN.out (by omega) hq.symm)
      clear hq HQ
      rcases Nat.mod_two_eq_zero_or_one (k / 2 ^ (j - 1)) with hb | hb
      · have hbb : (bits BinOp.and IntKind.i64 ((k : Int) / 2 ^ (j - 1)) 1 == 1) = false := by rw [hbit, hb]; rfl
        have HBB := Lib.hid hb
        clear hbit hb
        go_wp2_with fail
        refine S.out.mono ?_; rintro e w3 ⟨A3, n3, c3, rfl, h3, hb3⟩
        have H3 := Lib.hid h3
        have HB3 := Lib.hid (HB.out.trans (hb3.mono HB.out.size))
        clear h3 hb3
        go_wp2_with fail
        go_roundw
        case rel => exact ⟨j - 1, A3, n3, c3, by omega, by go_num, rfl, by rw [← bit_no h0 Q.out HBB.out]; exact H3.out, HB3.out⟩
        case measure => simp [intOf]; omega
      · have hbb : (bits BinOp.and IntKind.i64 ((k : Int) / 2 ^ (j - 1)) 1 == 1) = true := by rw [hbit, hb]; rfl
        have HBB := Lib.hid hb
        clear hbit hb
        go_wp2_with fail
        refine S.out.mono ?_; rintro e w3 ⟨A3, n3, c3, rfl, h3, hb3⟩
        have hn3 : n3 ≤ n2 + n2 := by rw [← h3.len]; exact LQ
        have H3 := Lib.hid h3
        have HB3 := Lib.hid (HB.out.trans (hb3.mono HB.out.size))
        clear h3 hb3
        go_wp2_with fail
        refine (fast_is (m := a ^ (k / 2 ^ (j - 1))) H3.out ((H.out.below HB3.out).more HB3.out.size) (by omega) (by omega) (bit_yes h0 Q.out HBB.out)).mono ?_; rintro e w4 ⟨A4, n4, c4, rfl, h4, _, hb4⟩
        have H4 := Lib.hid h4
        have HB4 := Lib.hid (HB3.out.trans (hb4.mono HB3.out.size))
        clear h4 hb4
        go_wp2_with fail
        go_roundw
        case rel => exact ⟨j - 1, A4, n4, c4, by omega, by go_num, rfl, H4.out, HB4.out⟩
        case measure => simp [intOf]; omega
theorem power_is {A : Option Addr} {n c a k m : Nat} {v : Int} {w : World} (h : Num w w.heap.size A n c a) (hn : n ≤ 1000) (hk : k ≤ 255) (hv : v = k) (hm : a ^ k = m) :
    Calls Try.prog 68 #[.slice A n c, .int .i64 v] w (RetSub w m) := by
  subst hm; subst hv; exact power_any A n c a k w h hn hk

end Go.Proofs.Ytafbkoejobkncaa

/-
  The law's own examples of layer 2 (awake) answer true, whatever the memory.
-/
namespace Go.Proofs.Ytafbkoejobkncaa
open Go.RowKit

def p1 : Nat := 999999999
def p2 : Nat := 999999998000000001
def p3 : Nat := 18446744073709551616
def p4 : Nat := 10000000000
def p5 : Nat := 7000
theorem dg_p2 : dg p2 = [1, 999999998] := by unfold p2; rw [dg_pos (by omega), dg_pos (by omega), dg_zero]
theorem dg_p4 : dg p4 = [0, 10] := by unfold p4; rw [dg_pos (by omega), dg_pos (by omega), dg_zero]
theorem Env.pushsub {w0 w w' : World} {l : List (Option Addr × Nat × Nat × Nat)} (h : Hid (Env w0 w l)) (hb : Below w.heap.size w w') {A : Option Addr} {n c a : Nat} (hn : Num w' w'.heap.size A n c a) : Hid (Env w0 w' ((A, n, c, a) :: l)) := Env.push h hb hn

end Go.Proofs.Ytafbkoejobkncaa

/-
  Memory words for slices of int; the document's digits.
-/
namespace Go.Proofs.Ytafbkoejobkncaa
open Go.RowKit

/-- Digits as they lie in cells. -/
def valsI (xs : List Nat) : List Value := xs.map (fun (x : Nat) => Value.int .i64 (x : Int))
theorem valsI_get {xs : List Nat} {j : Nat} (h : j < xs.length) : (valsI xs)[j]? = some (.int .i64 (gd xs j : Nat)) := by
  unfold valsI; rw [List.getElem?_map, gd_of_lt h]; rfl
theorem valsI_len (xs : List Nat) : (valsI xs).length = xs.length := by simp [valsI]
theorem valsI_one (xs : List Nat) : ∀ u ∈ valsI xs, u.oneCell' = true := by
  intro u hu
  obtain ⟨x, _, rfl⟩ := List.mem_map.1 hu
  rfl
theorem valsI_append (xs ys : List Nat) : valsI (xs ++ ys) = valsI xs ++ valsI ys := by simp [valsI]
theorem valsI_set (xs : List Nat) (i x : Nat) : valsI (xs.set i x) = (valsI xs).set i (.int .i64 (x : Int)) := by simp [valsI, List.map_set]

/-- The slice of int at A of n elements and capacity c reads as the digits xs. -/
structure Dig (w : World) (B : Nat) (A : Option Addr) (n c : Nat) (xs : List Nat) : Prop where
  len : xs.length = n
  cap : n ≤ c
  room : c ≤ maxLen
  row : Row w B A (valsI xs)
  addr : A = none → c = 0

section
variable {w w' : World} {B n c : Nat} {A : Option Addr} {xs : List Nat}
theorem Dig.keep (h : Dig w B A n c xs) (hk : ∀ p : Addr, p.block < B → w'.cell? p = w.cell? p) : Dig w' B A n c xs := ⟨h.len, h.cap, h.room, h.row.keep hk, h.addr⟩
theorem Dig.more {B' : Nat} (h : Dig w B A n c xs) (hB : B ≤ B') : Dig w B' A n c xs := ⟨h.len, h.cap, h.room, h.row.more hB, h.addr⟩
theorem Dig.below (h : Dig w B A n c xs) (hb : Below B w w') : Dig w' B A n c xs := h.keep fun _ hp => hb.cell hp
theorem Dig.at_ {k : Nat} (h : Dig w B A n c xs) (hk : k < n) : ∃ b o, A = some ⟨b, o, none⟩ ∧ b < B ∧ w.cell? ⟨b, o + k, none⟩ = some (.int .i64 (gd xs k : Nat)) := by
  rcases h.row with h0 | ⟨b, o, rfl, hb, hc⟩
  · have := congrArg List.length h0
    rw [valsI_len, h.len] at this
    simp at this; omega
  · exact ⟨b, o, rfl, hb, hc k _ (valsI_get (by rw [h.len]; exact hk))⟩
theorem Dig.nil : Dig w B none 0 0 [] := ⟨rfl, Nat.le_refl _, by simp [maxLen], .inl rfl, fun _ => rfl⟩
theorem Dig.of_own {base : Nat} {e : TypeId} (h : w.ownsRow base e 1 (.slice A n c) n (valsI xs)) : Dig w w.heap.size A n c xs := by
  have hl : xs.length = n := by have := h.1; rw [valsI_len] at this; omega
  rcases h.2 with ⟨h1, h2⟩ | ⟨g, cap, cur, hv, hg, hh, hnc, hcm, hsz, htk⟩
  · injection h1 with h1 h3 h4
    subst h1; subst h4
    subst h3
    obtain rfl : xs = [] := List.eq_nil_of_length_eq_zero hl
    exact Dig.nil
  · injection hv with h1 h3 h4
    subst h1; subst h4
    refine ⟨hl, hnc, hcm, .inr ⟨g, 0, rfl, ?_, fun j u hu => ?_⟩, fun h => by cases h⟩
    · rcases Nat.lt_or_ge g w.heap.size with hlt | hge
      · exact hlt
      · rw [Array.getElem?_eq_none hge] at hh; cases hh
    · have := h.cells (g := g) rfl j u hu
      simpa [Addr.add_lit] using this
end

theorem info_int : (Try.prog.info? 3).map (fun i => (i.zero, i.size, i.bytes)) = some (some (.int .i64 0), 1, 8) := by kernel_rfl
theorem info_int1 : (Try.prog.info? 3).map (·.size) = some 1 := by kernel_rfl

/-- 'append' of digits to digits of the call's own, nil or not. -/
theorem wpList_append_dig {P : Program} {w : World} {ops : Array Oper} {rest : List Oper} {o : Oper} {a : Act} {Q : Exit → Act → World → Prop} (hgd : o.guard = none) (s x : Operand) (t tx : TypeId)
    (ho : o.op = .call { callee := .builtin .append, args := #[s, x], argTypes := #[t, tx] })
    (base e e' : TypeId) (i : TypeInfo) (ht : P.underlying t = some (.slice e)) (htx : P.underlying tx = some (.slice e')) (hi : P.info? e = some i) (hz : i.zero = some (.int .i64 0)) (hz1 : i.size = 1) (hz2 : i.bytes = 8)
    (A : Option Addr) (n c : Nat) (xs : List Nat) (hs : a.eval s = .slice A n c) (hown : w.ownsRow base e 1 (.slice A n c) n (valsI xs))
    (B : Nat) (A' : Option Addr) (m c' : Nat) (ys : List Nat) (hx : a.eval x = .slice A' m c') (hy : Dig w B A' m c' ys) (hlen : n + m ≤ 1000000000000) (hbase : base ≤ w.heap.size)
    (h : ∀ A2 c2 w', w'.ownsRow base e 1 (.slice A2 (n + m) c2) (n + m) (valsI (xs ++ ys)) → w.grownBy w' (Value.slice A n c).ownBlock → wpList P ops Q rest (a.put o.dst (.slice A2 (n + m) c2)) w') : wpList P ops Q (o :: rest) a w := by
  refine wpList_plain hgd fun K hK => ?_
  cases A' with
  | none =>
    have hc := hy.addr rfl
    have hm : m = 0 := by have := hy.cap; omega
    subst hc; subst hm
    obtain rfl : ys = [] := List.eq_nil_of_length_eq_zero hy.len
    have hrun := run_append_owned_none (P := P) (w := w) base t o.type e i 1 ht hi _ n (valsI xs) hown
    rw [← append_types ht htx hi] at hrun
    unfold Oper.wp execOp
    simp only [ho, resolve, invoke, builtin, Sem.run_bind, Sem.run_pure, Result.andThen_ok, List.map_toArray, List.map_cons, List.map_nil, hs, hx, hrun]
    exact hK _ _ (h A c w (by simpa using hown) (World.grownBy.refl _ _))
  | some ad =>
    have hcells : ∀ j u, (valsI ys)[j]? = some u → w.cell? (ad.add j) = some u := by
      intro j u hu
      rcases hy.row with h0 | ⟨b, o', he, _, hc⟩
      · rw [h0] at hu; simp at hu
      · injection he with he
        subst he
        rw [Addr.add_lit]
        exact hc j u hu
    obtain ⟨v', w', hr, h2, h3, _⟩ := run_append_own (P := P) w base t o.type e i (.int .i64 0) 1 8 ht hi hz hz1 hz2 rfl (by decide) _ n (valsI xs) hown ad m c' (valsI ys) (by rw [valsI_len, hy.len, Nat.mul_one]) hcells (valsI_one ys) (by unfold maxLen; omega) (by omega) hbase
    rw [← append_types ht htx hi] at hr
    obtain ⟨A2, c2, rfl⟩ := own_shape h2
    rw [← valsI_append] at h2
    unfold Oper.wp execOp
    simp only [ho, resolve, invoke, builtin, Sem.run_bind, Sem.run_pure, Result.andThen_ok, List.map_toArray, List.map_cons, List.map_nil, hs, hx, hr]
    exact hK _ _ (h A2 c2 w' h2 h3)

theorem Dig.one (w : World) (x : Nat) (v : Int) (hv : v = x) (t : TypeId) : Dig (w.alloc (.cells #[.int .i64 v] t)) (w.heap.size + 1) (some ⟨w.heap.size, 0, none⟩) 1 1 [x] := by
  subst hv
  refine ⟨rfl, Nat.le_refl _, by simp [maxLen], .inr ⟨w.heap.size, 0, rfl, Nat.lt_succ_self _, fun j u hu => ?_⟩, fun h => by cases h⟩
  match j, hu with
  | 0, hu =>
    simp [valsI] at hu
    subst hu
    rw [cell_of_row _ w.heap.size 0 _ t (0, 0) (heap_alloc_new w _)]
    rfl

/-- Digits in a row of the call's own: n of them, of the number v. -/
def RetDig (W : World) (n v : Nat) (e : Ending) (w' : World) : Prop :=
  ∃ A c xs, e = .returned (.slice A n c) ∧ w'.ownsRow W.heap.size 3 1 (.slice A n c) n (valsI xs) ∧ xs.length = n ∧ (∀ j, gd xs j < 10) ∧ ten xs = v ∧ Below W.heap.size W w'

theorem dig_snoc {zs : List Nat} {d : Nat} (h : ∀ j, gd zs j < 10) (hd : d < 10) : ∀ j, gd (zs ++ [d]) j < 10 := by
  intro j
  rw [gd_append]
  split
  · exact h j
  · rcases Nat.eq_zero_or_pos (j - zs.length) with h0 | h0
    · rw [h0, gd_cons_zero]; exact hd
    · rw [gd_of_ge (by simp; omega)]; omega
theorem digit_lt {x j : Nat} (hx : x < 10 ^ (9 - j)) (hj : j < 9) : x / 10 < 10 ^ (9 - (j + 1)) := by
  rw [show 9 - j = (9 - (j + 1)) + 1 by omega, Nat.pow_succ] at hx
  omega

set_option maxHeartbeats 1000000 in
theorem digits_any (A : Option Addr) (n c a : Nat) (w : World) (h : Num w w.heap.size A n c a) (hn : n ≤ 1000000) :
    Calls Try.prog 73 #[.slice A n c] w (RetDig w (9 * n) a) := by
  obtain ⟨i0, hi, hz0, hz1, hz2⟩ := info_parts info_int
  have hm := h.room
  have hcap := h.cap
  unfold maxLen at hm
  have H := Lib.hid h
  clear h
  go_enter Try.func73, Try.ntmps73
  go_wp2
  go_loopw [3, 8] (fun v iv wr => ∃ (i m : Nat) (A2 : Option Addr) (c2 : Nat) (zs : List Nat), i ≤ n ∧ iv = .int .i64 i ∧ v = .slice A2 m c2 ∧ Hid (m = 9 * i) ∧ wr.ownsRow w.heap.size 3 1 (.slice A2 m c2) m (valsI zs) ∧ zs.length = m ∧ (∀ j, gd zs j < 10) ∧ ten zs = val ((dg a).take i) ∧ Below w.heap.size w wr) (fun _ iv _ => n - (intOf iv).toNat)
  case atStart => exact ⟨0, 0, none, 0, [], Nat.zero_le _, rfl, rfl, rfl, World.ownsRow_nil _ _ _ _, rfl, (fun j => by rw [gd_nil]; omega), rfl, Below.refl _ _⟩
  case round =>
    obtain ⟨i, m, A2, c2, zs, hin, rfl, rfl, hmi, hown, hlen, hdig, hten, hb⟩ := hrel
    have HO := Lib.hid hown
    have HB := Lib.hid hb
    have HL := Lib.hid hlen
    have HD := Lib.hid hdig
    have HT := Lib.hid hten
    clear hown hb hlen hdig hten
    rcases Nat.lt_or_ge i n with hlt | hge
    · obtain ⟨b, o, rfl, _, hc⟩ := (H.out.below HB.out).at_ hlt
      have hx := gd_lt (limbs_dg a) i
      have hm9 : m ≤ 9000000 := by have := hmi.out; omega
      obtain ⟨wo, rfl⟩ : ∃ wo : World, wo = wr := ⟨_, rfl⟩
      go_wp2
      go_loopw [3, 5, 12] (fun v xv jv wr => ∃ (j x : Nat) (A3 : Option Addr) (c3 : Nat) (ys : List Nat), j ≤ 9 ∧ jv = .int .i64 j ∧ xv = .int .u32 x ∧ v = .slice A3 (m + j) c3 ∧ x < 1000000000 ∧ Hid (x < 10 ^ (9 - j)) ∧ wr.ownsRow w.heap.size 3 1 (.slice A3 (m + j) c3) (m + j) (valsI ys) ∧ ys.length = m + j ∧ (∀ j, gd ys j < 10) ∧ Hid (ten ys + 10 ^ (m + j) * x = val ((dg a).take (i + 1))) ∧ Below w.heap.size w wr) (fun _ _ jv _ => 9 - (intOf jv).toNat)
      case atStart => exact ⟨0, gd (dg a) i, A2, c2, zs, Nat.zero_le _, rfl, rfl, rfl, hx, hx, HO.out, HL.out, HD.out, by show _ = _; rw [HT.out, val_take_succ, Nat.add_zero, hmi.out, ← pow9], HB.out⟩
      case round =>
        obtain ⟨j, x, A3, c3, ys, hj9, rfl, rfl, rfl, hxx, HXL, hown, hlen, hdig, HTY, hb⟩ := hrel
        have HO3 := Lib.hid hown
        have HB3 := Lib.hid hb
        have HL3 := Lib.hid hlen
        have HD3 := Lib.hid hdig
        clear hown hb hlen hdig
        rcases Nat.lt_or_ge j 9 with hj | hj
        · go_wp2_with (at_builtin; go_must (refine wpList_append_dig rfl (.tmp 14) (.tmp 18) 66 66 rfl w.heap.size 3 3 i0 Try.underlying66 Try.underlying66 hi hz0 hz1 hz2 A3 (m + j) c3 ys rfl (HO3.out.alloc _) _ _ 1 1 [x % 10] rfl (Dig.one _ _ _ (by omega) _) (by omega) (Nat.le_trans HB3.out.size (by simp)) ?_; intro A4 c4 w4 hown hgr))
          go_roundw
          case rel => exact ⟨j + 1, x / 10, A4, c4, ys ++ [x % 10], by omega, by go_num, by go_num, rfl, by omega, digit_lt HXL.out hj, hown, by rw [List.length_append, HL3.out]; rfl, dig_snoc HD3.out (by omega), digits_step HTY.out HL3.out rfl, (HB3.out.alloc HB3.out.size _).grown hgr (Nat.le_trans HB3.out.size (by simp)) (fun g hg => (HO3.out.lt g hg).1)⟩
          case measure => simp [intOf]; omega
        · obtain rfl : j = 9 := by omega
          have hx0 : x = 0 := by have := HXL.out; simpa using this
          have HE : Hid (ten ys = val ((dg a).take (i + 1))) := by have := HTY.out; rwa [hx0, Nat.mul_zero, Nat.add_zero] at this
          clear hx0
          go_wp2
          go_roundw
          case rel => exact ⟨i + 1, m + 9, A3, c3, ys, by omega, by go_num, rfl, by show _ = _; rw [hmi.out]; omega, HO3.out, HL3.out, HD3.out, HE.out, HB3.out⟩
          case measure => simp [intOf]; omega
    · obtain rfl : i = n := by omega
      obtain rfl : m = 9 * i := hmi.out
      have HE : Hid (ten zs = a) := by have := HT.out; rwa [List.take_of_length_le (by rw [H.out.len]; exact Nat.le_refl _), val_dg] at this
      go_wp2
      go_ret
      exact ⟨_, _, _, rfl, HO.out, HL.out, HD.out, HE.out, HB.out⟩

end Go.Proofs.Ytafbkoejobkncaa

/-
  The document's number: digits of ten, each as great as it comes, as limbs.
-/
namespace Go.Proofs.Ytafbkoejobkncaa
open Go.RowKit

theorem num_prod {o u : Nat} (hu : u ≤ 100000000) : o % 10 * u ≤ 900000000 := Nat.le_trans (Nat.mul_le_mul (show o % 10 ≤ 9 by omega) hu) (by omega)
theorem num_small {o o' x : Nat} {xs : List Nat} {i : Nat} (h : x + 10 ^ 9 * (o' + ten (xs.drop (i + 9))) = o + ten (xs.drop i)) (hi : xs.length ≤ i) (ho : 0 < o) : o' < o := by
  rw [List.drop_of_length_le hi, List.drop_of_length_le (by omega), ten] at h
  omega
theorem pow_le_8 {k : Nat} (hk : k < 9) : 10 ^ k ≤ 100000000 := Nat.le_trans (Nat.pow_le_pow_right (by omega) (show k ≤ 8 by omega)) (by decide)

theorem num_i64 {a b : Int} (h : a = b) : Value.int .i64 a = .int .i64 b := by rw [h]
theorem num_lt9 {x k : Nat} (h : x < 10 ^ (k + 1)) (hk : k < 9) : x < 1000000000 :=
  Nat.lt_of_lt_of_le h (Nat.le_trans (Nat.pow_le_pow_right (by omega) (show k + 1 ≤ 9 by omega)) (by decide))
theorem num_meas {n i M o o2 : Nat} (hi : i < n) (ho : o2 ≤ M) : (n - (i + 9)) * (M + 1) + o2 < (n - i) * (M + 1) + o := by
  have h1 : (n - (i + 9)) * (M + 1) ≤ (n - i - 1) * (M + 1) := Nat.mul_le_mul_right _ (by omega)
  have h2 : (n - i) * (M + 1) = (n - i - 1) * (M + 1) + (M + 1) := by rw [← Nat.succ_mul]; congr 1; omega
  omega

set_option maxHeartbeats 2000000 in
set_option maxRecDepth 100000 in
theorem number_any (A : Option Addr) (n c M : Nat) (xs : List Nat) (w : World) (h : Dig w w.heap.size A n c xs) (hn : n ≤ 100000000) (hM : M ≤ 100000000) (hx : ∀ j, gd xs j ≤ M) :
    Calls Try.prog 72 #[.slice A n c] w (RetNum w (ten xs)) := by
  obtain ⟨i0, hi, hz0, hz1, hz2⟩ := info_parts info_limb
  have hm := h.room
  have hcap := h.cap
  unfold maxLen at hm
  have H := Lib.hid h
  have HX := Lib.hid hx
  clear h hx
  go_enter Try.func72, Try.ntmps72
  go_wp2
  go_loopw [3, 4, 5] (fun v ov iv wr => ∃ (j i o : Nat) (A2 : Option Addr) (c2 : Nat) (zs : List Nat), iv = .int .i64 i ∧ Hid (i = 9 * j) ∧ ov = .int .i64 o ∧ o ≤ M ∧ j + o ≤ n + M + 1 ∧ v = .slice A2 j c2 ∧ wr.ownsRow w.heap.size 64 1 (.slice A2 j c2) j (vals zs) ∧ limbs zs ∧ Hid (val zs + 1000000000 ^ j * (o + ten (xs.drop i)) = ten xs) ∧ Below w.heap.size w wr) (fun _ ov iv _ => (n - (intOf iv).toNat) * (M + 1) + (intOf ov).toNat)
  case atStart => exact ⟨0, 0, 0, none, 0, [], rfl, rfl, rfl, Nat.zero_le _, by omega, rfl, World.ownsRow_nil _ _ _ _, limbs_nil, by show _ = _; rw [List.drop_zero]; simp [val], Below.refl _ _⟩
  case round =>
    obtain ⟨j, i, o, A2, c2, zs, rfl, HI, rfl, ho, hjo, rfl, hown, hlim, HV, hb⟩ := hrel
    have HO := Lib.hid hown
    have HB := Lib.hid hb
    have HL := Lib.hid hlim
    have HZ : Hid (zs.length = j) := by have := hown.1; rw [vals_len, Nat.mul_one] at this; exact this
    have hi9 : i ≤ 9 * (n + M + 1) := by have := HI.out; omega
    clear hown hb hlim
    have hgo : (i < n) ∨ (n ≤ i ∧ 0 < o) ∨ (n ≤ i ∧ o = 0) := by omega
    rcases hgo with hin | ⟨hin, h0⟩ | ⟨hin, h0⟩
    case inr.inr =>
      subst h0
      have HE := Lib.hid (number_end HV.out (show xs.length ≤ i by rw [H.out.len]; exact hin))
      have HT : Hid (Calls Try.prog 78 #[.slice A2 j c2] wr (RetLim wr (dg (val zs)))) :=
        refTrim_any j A2 j c2 zs wr (Lim.of_own HO.out (fun x hx => by have := HL.out x hx; omega)) HL (Nat.le_refl _) (by omega)
      clear HV
      go_wp2_with (go_at_call 78; go_must (refine HT.out.mono ?_; rintro e w' ⟨A3, n3, c3, rfl, h3, hb3⟩; have H3 := Lib.hid h3; have HB3 := Lib.hid hb3; clear h3 hb3))
      go_ret
      exact ⟨_, _, _, rfl, by rw [← HE.out]; exact H3.out, HB.out.trans (HB3.out.mono HB.out.size)⟩
    all_goals
      obtain ⟨wo, rfl⟩ : ∃ wo : World, wo = wr := ⟨_, rfl⟩
      go_wp2
      go_loop [4, 6, 7, 8] (fun ov xv uv kv => ∃ (k o2 x u : Nat), k ≤ 9 ∧ kv = .int .i64 ((i : Int) + k) ∧ ov = .int .i64 o2 ∧ o2 ≤ M ∧ xv = .int .i64 x ∧ uv = .int .i64 u ∧ Hid (u = 10 ^ k) ∧ u ≤ 1000000000 ∧ Hid (x < 10 ^ k) ∧ x < 1000000000 ∧ Hid (x + 10 ^ k * (o2 + ten (xs.drop (i + k))) = o + ten (xs.drop i))) (fun _ _ _ kv => i + 9 - (intOf kv).toNat)
      case atStart => exact ⟨0, o, 0, 1, Nat.zero_le _, by go_num, rfl, ho, rfl, rfl, rfl, by omega, by show _ < _; simp, by omega, by show _ = _; simp⟩
      case round =>
        obtain ⟨k, o2, x, u, hk, rfl, rfl, ho2, rfl, rfl, HU, hu, HXL, hxl, HS⟩ := hrel
        rcases Nat.lt_or_ge k 9 with hk9 | hk9
        · have hu8 : u ≤ 100000000 := by rw [HU.out]; exact pow_le_8 hk9
          have HU2 : Hid (u * 10 = 10 ^ (k + 1)) := by show _ = _; rw [HU.out, Nat.pow_succ]
          rcases Nat.lt_or_ge (i + k) n with hik | hik
          · first
            | (exfalso; omega)
            | (obtain ⟨b5, o5, rfl, _, hc⟩ := (H.out.below HB.out).at_ hik
               have hd := HX.out (i + k)
               have HN := Lib.hid (number_step HS.out)
               have HLT := Lib.hid (number_lt HXL.out (show (o2 + gd xs (i + k)) % 10 < 10 by omega))
               have hpn : (o2 + gd xs (i + k)) % 10 * u ≤ 900000000 := num_prod hu8
               have E : Hid ((((o2 : Nat) : Int) + ((gd xs (i + k) : Nat) : Int)) % 10 * (u : Nat) = (((o2 + gd xs (i + k)) % 10 * u : Nat) : Int)) := by show _ = _; rw [Int.natCast_mul, Int.natCast_emod, Int.natCast_add]; try rfl
               have hp0 : 0 ≤ (((o2 : Nat) : Int) + ((gd xs (i + k) : Nat) : Int)) % 10 * (u : Nat) := by rw [E.out]; omega
               have hp1 : (((o2 : Nat) : Int) + ((gd xs (i + k) : Nat) : Int)) % 10 * (u : Nat) ≤ 900000000 := by rw [E.out]; omega
               clear hpn HS
               rw [← HU.out] at HN HLT
               go_wp2
               go_round
               case rel => exact ⟨k + 1, (o2 + gd xs (i + k)) / 10, x + (o2 + gd xs (i + k)) % 10 * u, u * 10, by omega, by go_num, by go_num, by omega, num_i64 (by rw [E.out]; omega), by go_num, HU2.out, by omega, HLT.out, num_lt9 HLT.out hk9, HN.out⟩
               case measure => simp [intOf]; omega)
          · have hd : Hid (gd xs (i + k) = 0) := gd_of_ge (by rw [H.out.len]; exact hik)
            have HN := number_step HS.out
            have HLT := number_lt HXL.out (show o2 % 10 < 10 by omega)
            rw [hd.out, Nat.add_zero] at HN
            have HN := Lib.hid HN
            have HLT := Lib.hid HLT
            have hpn : o2 % 10 * u ≤ 900000000 := num_prod hu8
            have E : Hid (((o2 : Nat) : Int) % 10 * (u : Nat) = ((o2 % 10 * u : Nat) : Int)) := by show _ = _; rw [Int.natCast_mul, Int.natCast_emod]; try rfl
            have hp0 : 0 ≤ ((o2 : Nat) : Int) % 10 * (u : Nat) := by rw [E.out]; omega
            have hp1 : ((o2 : Nat) : Int) % 10 * (u : Nat) ≤ 900000000 := by rw [E.out]; omega
            clear hpn HS
            rw [← HU.out] at HN HLT
            go_wp2
            go_round
            case rel => exact ⟨k + 1, o2 / 10, x + o2 % 10 * u, u * 10, by omega, by go_num, by go_num, by omega, num_i64 (by rw [E.out]; omega), by go_num, HU2.out, by omega, HLT.out, num_lt9 HLT.out hk9, HN.out⟩
            case measure => simp [intOf]; omega
        · obtain rfl : k = 9 := by omega
          have HS9 : Hid (x + 10 ^ 9 * (o2 + ten (xs.drop (i + 9))) = o + ten (xs.drop i)) := HS
          go_wp2_with (at_builtin; go_must (refine wpList_append_lim rfl (.tmp 46) (.tmp 49) 22 22 rfl w.heap.size 64 64 i0 Try.underlying22 Try.underlying22 hi hz0 hz1 hz2 A2 j c2 zs rfl (HO.out.alloc _) _ _ 1 1 [x] rfl (Lim.one _ _ _ (by omega) (by omega) _) (by omega) (Nat.le_trans HB.out.size (by simp)) ?_; intro A3 c3 w3 hown hgr))
          go_roundw
          case rel => exact ⟨j + 1, i + 9, o2, A3, c3, zs ++ [x], by go_num, by show _ = _; rw [HI.out]; omega, rfl, ho2, (by first | (have := HI.out; omega) | (have := num_small HS9.out (show xs.length ≤ i by rw [H.out.len]; exact hin) h0; omega)), rfl, hown, limbs_append.2 ⟨HL.out, limbs_cons.2 ⟨hxl, limbs_nil⟩⟩, number_limb HV.out HS9.out HZ.out, (HB.out.alloc HB.out.size _).grown hgr (Nat.le_trans HB.out.size (by simp)) (fun g hg => (HO.out.lt g hg).1)⟩
          case measure =>
            simp only [intOf]
            rw [show ((i : Int) + 9).toNat = i + 9 by omega, Int.toNat_natCast, Int.toNat_natCast, Int.toNat_natCast]
            first | exact num_meas hin ho2 | (rw [show n - (i + 9) = 0 by omega, show n - i = 0 by omega]; have := num_small HS9.out (show xs.length ≤ i by rw [H.out.len]; exact hin) h0; omega)

end Go.Proofs.Ytafbkoejobkncaa

/-
  The document's Mul, Times, Square, Power, Ten, Shift.
-/
namespace Go.Proofs.Ytafbkoejobkncaa
open Go.RowKit

/-- Block g is just the digits zs. -/
def OwnI (w : World) (g : Nat) (zs : List Nat) : Prop := w.heap[g]? = some (.cells (valsI zs).toArray 3 (0, 0))
theorem OwnI.cell {w : World} {g : Nat} {zs : List Nat} (h : OwnI w g zs) {i : Nat} (hi : i < zs.length) : w.cell? ⟨g, i, none⟩ = some (.int .i64 (gd zs i : Nat)) := by
  rw [cell_of_row w g i _ _ (0, 0) h]
  simpa using valsI_get hi
theorem OwnI.frozen {w : World} {g : Nat} {zs : List Nat} (h : OwnI w g zs) (i : Nat) : w.frozen? ⟨g, i, none⟩ = false := frozen_of_row w g i _ _ h
theorem OwnI.lt {w : World} {g : Nat} {zs : List Nat} (h : OwnI w g zs) : g < w.heap.size := by
  rcases Nat.lt_or_ge g w.heap.size with hlt | hge
  · exact hlt
  · unfold OwnI at h; rw [Array.getElem?_eq_none hge] at h; cases h
theorem OwnI.store {w : World} {g : Nat} {zs : List Nat} (h : OwnI w g zs) (i : Nat) (x : Nat) (v : Int) (hv : v = x) : OwnI (w.setCell ⟨g, i, none⟩ (.int .i64 v)) g (zs.set i x) := by
  subst hv
  unfold OwnI at h ⊢
  rw [heap_setCell_same w g i _ _ _ h, valsI_set]
  simp
theorem OwnI.drew {w : World} {g : Nat} {zs : List Nat} (h : OwnI w g zs) : OwnI w.drew g zs := h
theorem OwnI.dig {w : World} {g m : Nat} {zs : List Nat} (h : OwnI w g zs) (hl : zs.length = m) (hm : m ≤ 1000000000000) : Dig w w.heap.size (some ⟨g, 0, none⟩) m m zs := by
  subst hl
  refine ⟨rfl, Nat.le_refl _, by unfold maxLen; omega, .inr ⟨g, 0, rfl, h.lt, fun j u hu => ?_⟩, fun h => by cases h⟩
  rw [cell_of_row w g (0 + j) _ _ (0, 0) h, Nat.zero_add]
  simpa using hu
theorem made_vals (n : Nat) : (madeCells (Value.int .i64 0).cells (n * 1)).toList = valsI (List.replicate n 0) := by
  rw [Nat.mul_one]
  show (madeCells #[Value.int .i64 0] n).toList = _
  rw [toList_madeCells_one]
  simp [valsI]
theorem OwnI.of_made {w : World} {base n : Nat} (h : w.ownsRow base 3 1 (.slice (some ⟨base, 0, none⟩) n n) n (madeCells (Value.int .i64 0).cells (n * 1)).toList) : OwnI w base (List.replicate n 0) := by
  rw [made_vals] at h
  rcases h.2 with ⟨h1, _⟩ | ⟨g, cap, cur, hv, _, hh, _, _, hsz, htk⟩
  · cases h1
  · injection hv with h1 h2 h3
    injection h1 with h1
    injection h1 with h1
    subst h1; subst h3
    unfold OwnI
    rw [hh, ← htk, List.take_of_length_le (by simp; omega)]

theorem conv_lo {zs : List Nat} {i k v B : Nat} (hk : i + k < zs.length) (h : ∀ j, j < i + k → gd zs j ≤ B) (hv : v ≤ B) : ∀ j, j < i + (k + 1) → gd (zs.set (i + k) v) j ≤ B := by
  intro j hj
  rw [gd_set _ _ _ _ hk]
  split
  · exact hv
  · exact h j (by omega)
theorem conv_hi {zs : List Nat} {i k v B : Nat} (hk : i + k < zs.length) (h : ∀ j, i + k ≤ j → gd zs j ≤ B) : ∀ j, i + (k + 1) ≤ j → gd (zs.set (i + k) v) j ≤ B := by
  intro j hj
  rw [gd_set _ _ _ _ hk, if_neg (by omega)]
  exact h j (by omega)

set_option maxHeartbeats 2000000 in
set_option maxRecDepth 100000 in
theorem refMul_any (A A' : Option Addr) (n c n' c' a b : Nat) (w : World) (h : Num w w.heap.size A n c a) (h' : Num w w.heap.size A' n' c' b) (hn : n ≤ 100000) (hn' : n' ≤ 100000) :
    Calls Try.prog 64 #[.slice A n c, .slice A' n' c'] w (RetNum w (a * b)) := by
  obtain ⟨i0, hi, hz0, hz1, hz2⟩ := info_parts info_int
  have H' := Lib.hid h'
  have C1 := Lib.hid (digits_any A n c a w h (by omega))
  clear h h'
  go_enter Try.func64, Try.ntmps64
  go_wp2_with fail
  refine C1.out.mono ?_; rintro e w1 ⟨A1, c1, xs, rfl, ho1, hl1, hd1, ht1, hb1⟩
  have X1 := Lib.hid (Dig.of_own ho1)
  have HB1 := Lib.hid hb1
  have D1 := Lib.hid hd1
  have T1 := Lib.hid ht1
  have C2 := Lib.hid (digits_any A' n' c' b w1 ((H'.out.below hb1).more hb1.size) (by omega))
  clear ho1 hl1 hd1 ht1 hb1 C1
  go_wp2_with fail
  refine C2.out.mono ?_; rintro e w2 ⟨A2, c2, ys, rfl, ho2, hl2, hd2, ht2, hb2⟩
  have X2 := Lib.hid (Dig.of_own ho2)
  have X1 := Lib.hid ((X1.out.below hb2).more hb2.size)
  have HB2 := Lib.hid (HB1.out.trans (hb2.mono HB1.out.size))
  have D2 := Lib.hid hd2
  have T2 := Lib.hid ht2
  have HSZ := Lib.hid (Nat.le_trans HB1.out.size hb2.size)
  clear ho2 hl2 hd2 ht2 hb2 C2
  obtain ⟨N, hN⟩ : ∃ N, N = 9 * n := ⟨_, rfl⟩
  obtain ⟨N', hN'⟩ : ∃ N', N' = 9 * n' := ⟨_, rfl⟩
  have hNb : N ≤ 900000 := by omega
  have hNb' : N' ≤ 900000 := by omega
  rw [← hN] at X1 ⊢
  rw [← hN'] at X2 ⊢
  clear hN hN'
  go_wp2_with (at_make; go_must (refine wpList_make_full _ rfl _ _ 66 rfl w2.heap.size 3 i0 (.int .i64 0) 1 Try.underlying66 hi hz0 hz1 _ _ _ _ (N + N') rfl rfl (by omega) (by omega) (by rw [hz2]; omega) (by unfold maxLen; omega) (Nat.le_refl _) ?_; intro w3 hown1 hgr1; have O3 : Hid (OwnI w3 w2.heap.size (List.replicate (N + N') 0)) := OwnI.of_made hown1; have HB3 : Hid (Below w2.heap.size w2 w3) := (Below.refl _ _).grown hgr1 (Nat.le_refl _) (fun k hk => by cases hk); clear hown1 hgr1))
  go_loopw [22] (fun iv wr => ∃ (i : Nat) (zs : List Nat), i ≤ N ∧ iv = .int .i64 i ∧ zs.length = N + N' ∧ (∀ j, gd zs j ≤ 81 * i) ∧ ten zs = ten (xs.take i) * ten ys ∧ OwnI wr w2.heap.size zs ∧ Below w2.heap.size w2 wr) (fun iv _ => N - (intOf iv).toNat)
  case atStart =>
    exact ⟨0, List.replicate (N + N') 0, Nat.zero_le _, rfl, by simp, (fun j => by rw [gd_zeros]; omega), by rw [ten_zeros, List.take_zero, ten, Nat.zero_mul], O3.out, HB3.out⟩
  case round =>
    obtain ⟨i, zs, hi1, rfl, hlen, hle, hval, hown, hb⟩ := hrel
    clear O3 HB3
    have OW := Lib.hid hown
    have HL := Lib.hid hle
    have HV := Lib.hid hval
    have HB := Lib.hid hb
    have LN := Lib.hid hlen
    clear hown hle hval hb hlen
    rcases Nat.lt_or_ge i N with hin | hin
    · obtain ⟨wo, rfl⟩ : ∃ wo : World, wo = wr := ⟨_, rfl⟩
      go_wp2
      go_loopw [27] (fun kv wr => ∃ (k : Nat) (zs : List Nat), k ≤ N' ∧ kv = .int .i64 k ∧ zs.length = N + N' ∧ (∀ j, j < i + k → gd zs j ≤ 81 * (i + 1)) ∧ (∀ j, i + k ≤ j → gd zs j ≤ 81 * i) ∧ ten zs = ten (xs.take i) * ten ys + 10 ^ i * (gd xs i * ten (ys.take k)) ∧ OwnI wr w2.heap.size zs ∧ Below w2.heap.size w2 wr) (fun kv _ => N' - (intOf kv).toNat)
      case atStart =>
        exact ⟨0, zs, Nat.zero_le _, rfl, LN.out, (fun j _ => Nat.le_trans (HL.out j) (by omega)), (fun j _ => HL.out j), by rw [HV.out, List.take_zero, ten]; simp, OW.out, HB.out⟩
      case round =>
        obtain ⟨k, us, hk1, rfl, hlen, hlo, hhi, hval, hown, hb⟩ := hrel
        have OU := Lib.hid hown
        have LO := Lib.hid hlo
        have HI := Lib.hid hhi
        have HU := Lib.hid hval
        have HC := Lib.hid hb
        have LU := Lib.hid hlen
        clear hown hlo hhi hval hb hlen
        rcases Nat.lt_or_ge k N' with hkn | hkn
        · obtain ⟨b1, o1, rfl, _, hc1⟩ := (X1.out.below HC.out).at_ hin
          obtain ⟨b2, o2, rfl, _, hc2⟩ := (X2.out.below HC.out).at_ hkn
          have hc3 := OU.out.cell (i := i + k) (by rw [LU.out]; omega)
          have hfr := OU.out.frozen (i + k)
          have hx := D1.out i
          have hy := D2.out k
          have hz := HI.out (i + k) (Nat.le_refl _)
          have hpn : gd xs i * gd ys k ≤ 81 := Nat.le_trans (Nat.mul_le_mul (show gd xs i ≤ 9 by omega) (show gd ys k ≤ 9 by omega)) (by omega)
          have E : Hid (((gd xs i : Nat) : Int) * ((gd ys k : Nat) : Int) = ((gd xs i * gd ys k : Nat) : Int)) := by show _ = _; rw [Int.natCast_mul]
          have hp0 : 0 ≤ ((gd xs i : Nat) : Int) * ((gd ys k : Nat) : Int) := by rw [E.out]; omega
          have hp1 : ((gd xs i : Nat) : Int) * ((gd ys k : Nat) : Int) ≤ 81 := by rw [E.out]; omega
          have HPN := Lib.hid hpn
          clear hpn
          go_wp2
          go_region
          go_wp2
          go_roundw
          case rel =>
            have hv : ((gd us (i + k) : Nat) : Int) + ((gd xs i : Nat) : Int) * ((gd ys k : Nat) : Int) = ((gd us (i + k) + gd xs i * gd ys k : Nat) : Int) := by rw [E.out]; omega
            have hlt : i + k < us.length := by rw [LU.out]; omega
            exact ⟨k + 1, us.set (i + k) (gd us (i + k) + gd xs i * gd ys k), by omega, by go_num, by rw [List.length_set]; exact LU.out, conv_lo hlt LO.out (by have := HPN.out; omega), conv_hi hlt HI.out, conv_step HU.out hlt, (OU.out.store _ _ _ hv).drew, (HC.out.setCell (Nat.le_refl _) _).drew⟩
          case measure => simp [intOf]; omega
        · obtain rfl : k = N' := by omega
          go_wp2
          go_roundw
          case rel =>
            refine ⟨i + 1, us, by omega, by go_num, LU.out, fun j => ?_, ?_, OU.out, HC.out⟩
            · rcases Nat.lt_or_ge j (i + k) with h1 | h1
              · exact LO.out j h1
              · exact Nat.le_trans (HI.out j h1) (by omega)
            · have := HU.out
              rw [List.take_of_length_le (show ys.length ≤ k by rw [X2.out.len]; exact Nat.le_refl _)] at this
              exact conv_row this
          case measure => simp [intOf]; omega
    · obtain rfl : i = N := by omega
      have HE : Hid (ten zs = a * b) := by have := HV.out; rw [List.take_of_length_le (by rw [X1.out.len]; exact Nat.le_refl _)] at this; show _ = _; rw [this, T1.out, T2.out]
      have CN := Lib.hid (number_any (some ⟨w2.heap.size, 0, none⟩) (i + N') (i + N') 72900000 zs wr (OW.out.dig LN.out (by omega)) (by omega) (by omega) (fun j => Nat.le_trans (HL.out j) (by omega)))
      go_wp2_with fail
      refine CN.out.mono ?_; rintro e w4 ⟨A4, n4, c4, rfl, h4, hb4⟩
      have H4 := Lib.hid h4
      have HB4 := Lib.hid (HB2.out.trans ((HB.out.mono HSZ.out).trans (hb4.mono (Nat.le_trans HSZ.out HB.out.size))))
      clear h4 hb4
      go_wp2_with fail
      go_ret
      exact ⟨_, _, _, rfl, by rw [← HE.out]; exact H4.out, HB4.out⟩

theorem refMul_is {A A' : Option Addr} {n c n' c' a b m : Nat} {w : World} (h : Num w w.heap.size A n c a) (h' : Num w w.heap.size A' n' c' b) (hn : n ≤ 100000) (hn' : n' ≤ 100000) (hm : a * b = m) :
    Calls Try.prog 64 #[.slice A n c, .slice A' n' c'] w (RetNum w m) := by
  subst hm; exact refMul_any A A' n c n' c' a b w h h' hn hn'

theorem refMk_any (N : Nat) (v : Int) (hv : v = N) (hN : N < 18446744073709551616) (w : World) : Calls Try.prog 50 #[.int .u64 v] w (RetNum w N) := by
  subst hv; exact refMake_any 3 N w hN (len_of_u64 hN)

theorem refTimes_is {A : Option Addr} {n c a l m : Nat} {w : World} (h : Num w w.heap.size A n c a) (hn : n ≤ 100000) (hl : l < 4294967296) (hm : a * l = m) :
    Calls Try.prog 93 #[.slice A n c, .int .u32 l] w (RetNum w m) := by
  have H := Lib.hid h
  have HM := Lib.hid hm
  clear h hm
  go_enter Try.func93, Try.ntmps93
  go_wp2_with fail
  refine (refMk_any l _ rfl (by omega) _).mono ?_; rintro e w1 ⟨A1, n1, c1, rfl, h1, hb1⟩
  have hn1 : n1 ≤ 3 := by have := len_of_u64 (show l < 18446744073709551616 by omega); rwa [h1.len] at this
  have HB1 := Lib.hid hb1
  have H1 := Lib.hid h1
  clear h1 hb1
  go_wp2_with fail
  refine (refMul_is ((H.out.below HB1.out).more HB1.out.size) H1.out hn (by omega) HM.out).mono ?_; rintro e w2 ⟨A2, n2, c2, rfl, h2, hb2⟩
  have HB2 := Lib.hid (HB1.out.trans (hb2.mono HB1.out.size))
  have H2 := Lib.hid h2
  clear h2 hb2
  go_wp2_with fail
  go_ret
  exact ⟨_, _, _, rfl, H2.out, HB2.out⟩

theorem refPower_neg (A : Option Addr) (n c : Nat) (k : Int) (w : World) (hk : k < 0) :
    Calls Try.prog 69 #[.slice A n c, .int .i64 k] w (RetVal w (.tuple #[.slice none 0 0, .int .i64 1])) := by
  go_enter Try.func69, Try.ntmps69
  go_wp2
  go_ret2
  exact ⟨rfl, Below.refl _ _⟩

set_option maxHeartbeats 1000000 in
theorem refPower_any (A : Option Addr) (n c a k : Nat) (w : World) (h : Num w w.heap.size A n c a) (hn : n ≤ 100) (hk : k ≤ 255) :
    Calls Try.prog 69 #[.slice A n c, .int .i64 k] w (RetSub w (a ^ k)) := by
  have H := Lib.hid h
  clear h
  go_enter Try.func69, Try.ntmps69
  go_wp2_with fail
  refine (refMk_any 1 _ rfl (by decide) _).mono ?_; rintro e w1 ⟨A1, n1, c1, rfl, h1, hb1⟩
  have H1 := Lib.hid h1
  have HB1 := Lib.hid hb1
  clear h1 hb1
  go_wp2_with fail
  go_loopw [6, 11] (fun pv iv wr => ∃ (j : Nat) (A2 : Option Addr) (n2 c2 : Nat), j ≤ k ∧ iv = .int .i64 j ∧ pv = .slice A2 n2 c2 ∧ Num wr wr.heap.size A2 n2 c2 (a ^ j) ∧ Below w.heap.size w wr) (fun _ iv _ => k - (intOf iv).toNat)
  case atStart => exact ⟨0, A1, n1, c1, Nat.zero_le _, rfl, rfl, H1.out, HB1.out⟩
  case round =>
    obtain ⟨j, A2, n2, c2, hj, rfl, rfl, hnum, hb⟩ := hrel
    have HN := Lib.hid hnum
    have HB := Lib.hid hb
    have hm2 : n2 ≤ 25501 := by
      have h1 := dg_len_pow a j
      have h3 : j * n ≤ 255 * 100 := Nat.mul_le_mul (by omega) hn
      rw [hnum.len, H.out.len] at h1
      omega
    clear hnum hb
    rcases Nat.lt_or_ge j k with hjk | hjk
    · have HC := Lib.hid (refMul_is (m := a ^ (j + 1)) HN.out ((H.out.below HB.out).more HB.out.size) (by omega) (by omega) (Nat.pow_succ _ _).symm)
      go_wp2_with fail
      refine HC.out.mono ?_; rintro e w3 ⟨A3, n3, c3, rfl, h3, hb3⟩
      have H3 := Lib.hid h3
      have HB3 := Lib.hid (HB.out.trans (hb3.mono HB.out.size))
      clear h3 hb3
      go_wp2_with fail
      go_roundw
      case rel => exact ⟨j + 1, A3, n3, c3, by omega, by go_num, rfl, H3.out, HB3.out⟩
      case measure => simp [intOf]; omega
    · obtain rfl : j = k := by omega
      go_wp2_with fail
      go_ret2
      exact ⟨_, _, _, rfl, HN.out, HB.out⟩
theorem refPower_is {A : Option Addr} {n c a k m : Nat} {v : Int} {w : World} (h : Num w w.heap.size A n c a) (hn : n ≤ 100) (hk : k ≤ 255) (hv : v = k) (hm : a ^ k = m) :
    Calls Try.prog 69 #[.slice A n c, .int .i64 v] w (RetSub w m) := by
  subst hm; subst hv; exact refPower_any A n c a k w h hn hk

end Go.Proofs.Ytafbkoejobkncaa

/-
  The document's Ten and Shift.
-/
namespace Go.Proofs.Ytafbkoejobkncaa
open Go.RowKit

section
variable {P : Program} {w : World} {o : Oper} {a : Act}
/-- 'append' of digits to digits of the call's own, as one operation. -/
theorem wp_append_dig {K : Act → World → Prop} {Q : Exit → Act → World → Prop} (s x : Operand) (t tx : TypeId)
    (ho : o.op = .call { callee := .builtin .append, args := #[s, x], argTypes := #[t, tx] })
    (base e e' : TypeId) (i : TypeInfo) (ht : P.underlying t = some (.slice e)) (htx : P.underlying tx = some (.slice e')) (hi : P.info? e = some i) (hz : i.zero = some (.int .i64 0)) (hz1 : i.size = 1) (hz2 : i.bytes = 8)
    (A : Option Addr) (n c : Nat) (xs : List Nat) (hs : a.eval s = .slice A n c) (hown : w.ownsRow base e 1 (.slice A n c) n (valsI xs))
    (B : Nat) (A' : Option Addr) (m c' : Nat) (ys : List Nat) (hx : a.eval x = .slice A' m c') (hy : Dig w B A' m c' ys) (hlen : n + m ≤ 1000000000000) (hbase : base ≤ w.heap.size)
    (hK : ∀ A2 c2 w', w'.ownsRow base e 1 (.slice A2 (n + m) c2) (n + m) (valsI (xs ++ ys)) → w.grownBy w' (Value.slice A n c).ownBlock → K (a.put o.dst (.slice A2 (n + m) c2)) w') : Oper.wp P o a w K Q := by
  cases A' with
  | none =>
    have hc := hy.addr rfl
    have hm : m = 0 := by have := hy.cap; omega
    subst hc; subst hm
    obtain rfl : ys = [] := List.eq_nil_of_length_eq_zero hy.len
    have hrun := run_append_owned_none (P := P) (w := w) base t o.type e i 1 ht hi _ n (valsI xs) hown
    rw [← append_types ht htx hi] at hrun
    unfold Oper.wp execOp
    simp only [ho, resolve, invoke, builtin, Sem.run_bind, Sem.run_pure, Result.andThen_ok, List.map_toArray, List.map_cons, List.map_nil, hs, hx, hrun]
    exact hK A c w (by simpa using hown) (World.grownBy.refl _ _)
  | some ad =>
    have hcells : ∀ j u, (valsI ys)[j]? = some u → w.cell? (ad.add j) = some u := by
      intro j u hu
      rcases hy.row with h0 | ⟨b, o', he, _, hc⟩
      · rw [h0] at hu; simp at hu
      · injection he with he
        subst he
        rw [Addr.add_lit]
        exact hc j u hu
    obtain ⟨v', w', hr, h2, h3, _⟩ := run_append_own (P := P) w base t o.type e i (.int .i64 0) 1 8 ht hi hz hz1 hz2 rfl (by decide) _ n (valsI xs) hown ad m c' (valsI ys) (by rw [valsI_len, hy.len, Nat.mul_one]) hcells (valsI_one ys) (by unfold maxLen; omega) (by omega) hbase
    rw [← append_types ht htx hi] at hr
    obtain ⟨A2, c2, rfl⟩ := own_shape h2
    rw [← valsI_append] at h2
    unfold Oper.wp execOp
    simp only [ho, resolve, invoke, builtin, Sem.run_bind, Sem.run_pure, Result.andThen_ok, List.map_toArray, List.map_cons, List.map_nil, hs, hx, hr]
    exact hK A2 c2 w' h2 h3
/-- The same at a step of a region that draws its order. -/
theorem step_append_dig {ops : Array Oper} {K : Act → World → Prop} {Q : Exit → Act → World → Prop} {E : Prop} (hgd : o.guard = none) (s x : Operand) (t tx : TypeId)
    (ho : o.op = .call { callee := .builtin .append, args := #[s, x], argTypes := #[t, tx] })
    (base e e' : TypeId) (i : TypeInfo) (ht : P.underlying t = some (.slice e)) (htx : P.underlying tx = some (.slice e')) (hi : P.info? e = some i) (hz : i.zero = some (.int .i64 0)) (hz1 : i.size = 1) (hz2 : i.bytes = 8)
    (A : Option Addr) (n c : Nat) (xs : List Nat) (hs : a.eval s = .slice A n c) (hown : w.ownsRow base e 1 (.slice A n c) n (valsI xs))
    (B : Nat) (A' : Option Addr) (m c' : Nat) (ys : List Nat) (hx : a.eval x = .slice A' m c') (hy : Dig w B A' m c' ys) (hlen : n + m ≤ 1000000000000) (hbase : base ≤ w.heap.size)
    (hK : ∀ A2 c2 w', w'.ownsRow base e 1 (.slice A2 (n + m) c2) (n + m) (valsI (xs ++ ys)) → w.grownBy w' (Value.slice A n c).ownBlock → K (a.put o.dst (.slice A2 (n + m) c2)) w') :
    if Region.wanted o (yielded ops a.tmps) = true then Oper.wp P o a w K Q else E := by
  have hw : Region.wanted o (yielded ops a.tmps) = true := by simp [Region.wanted, hgd]
  rw [if_pos hw]
  exact wp_append_dig s x t tx ho base e e' i ht htx hi hz hz1 hz2 A n c xs hs hown B A' m c' ys hx hy hlen hbase hK
end

theorem ten_noughts (k : Nat) (xs : List Nat) : ten (List.replicate k 0 ++ xs) = ten xs * 10 ^ k := by
  rw [ten_append, ten_zeros, List.length_replicate, Nat.zero_add, Nat.mul_comm]
theorem gd_noughts {k M : Nat} {xs : List Nat} (h : ∀ j, gd xs j ≤ M) : ∀ j, gd (List.replicate k 0 ++ xs) j ≤ M := by
  intro j
  rw [gd_append]
  split
  · rw [gd_zeros]; omega
  · exact h _
theorem shift_ten {a k : Nat} {xs : List Nat} (h : ten xs = a) : ten (List.replicate k 0 ++ xs) = a * 10 ^ k := by rw [ten_noughts, h]
theorem gd_one (j : Nat) : gd [1] j ≤ 1 := by
  rcases Nat.eq_zero_or_pos j with h | h
  · subst h; exact Nat.le_refl _
  · rw [gd_of_ge (by simp; omega)]; omega

theorem refShift_neg (A : Option Addr) (n c : Nat) (k : Int) (w : World) (hk : k < 0) :
    Calls Try.prog 52 #[.slice A n c, .int .i64 k] w (RetVal w (.tuple #[.slice none 0 0, .int .i64 1])) := by
  go_enter Try.func52, Try.ntmps52
  go_wp2
  go_ret2
  exact ⟨rfl, Below.refl _ _⟩

theorem made_first {w w2 : World} {Z : Array Value} {k : Nat} {xs : List Nat} (HZ : Hid (Z.toList = valsI xs)) (HS : Hid (Z.size = k * 1)) (HB : Hid (Below ((w.alloc (.cells Z 3)).drew).heap.size (w.alloc (.cells Z 3)).drew w2)) (hk : k ≤ 1000000) :
    w2.ownsRow w.heap.size 3 1 (.slice (some ⟨w.heap.size, 0, none⟩) k k) k (valsI xs) ∧ Below w.heap.size w w2 := by
  have h := World.ownsRow_lit (base := w.heap.size) (e := 3) (size := 1) w Z k (Nat.le_refl _) (by unfold maxLen; omega) HS.out
  rw [HZ.out] at h
  have h2 : (w.alloc (.cells Z 3)).drew.ownsRow w.heap.size 3 1 (.slice (some ⟨w.heap.size, 0, none⟩) k k) k (valsI xs) := h
  refine ⟨own_below h2 HB.out, ?_⟩
  have h3 : Below w.heap.size w (w.alloc (.cells Z 3)).drew := ((Below.refl _ _).alloc (Nat.le_refl _) _).drew
  exact h3.trans (HB.out.mono h3.size)
theorem made_last {w w2 : World} {Z : Array Value} {k : Nat} {xs : List Nat} (HZ : Hid (Z.toList = valsI xs)) (HS : Hid (Z.size = k * 1)) (HB : Hid (Below w.drew.heap.size w.drew w2)) (hk : k ≤ 1000000) :
    (w2.alloc (.cells Z 3)).ownsRow w.heap.size 3 1 (.slice (some ⟨w2.heap.size, 0, none⟩) k k) k (valsI xs) ∧ Below w.heap.size w (w2.alloc (.cells Z 3)) ∧ w.heap.size ≤ w2.heap.size := by
  have hs : w.heap.size ≤ w2.heap.size := HB.out.size
  have h := World.ownsRow_lit (base := w.heap.size) (e := 3) (size := 1) w2 Z k hs (by unfold maxLen; omega) HS.out
  rw [HZ.out] at h
  have h3 : Below w.heap.size w w2 := (Below.refl _ _).drew.trans HB.out
  exact ⟨h, h3.alloc hs _, hs⟩

set_option maxHeartbeats 2000000 in
set_option maxRecDepth 100000 in
theorem refShift_any (A : Option Addr) (n c a k : Nat) (w : World) (h : Num w w.heap.size A n c a) (hn : n ≤ 1000000) (hk : k ≤ 1000000) :
    Calls Try.prog 52 #[.slice A n c, .int .i64 k] w (RetSub w (a * 10 ^ k)) := by
  obtain ⟨i0, hi, hz0, hz1, hz2⟩ := info_parts info_int
  have DG : Hid (∀ v, Below w.heap.size w v → Calls Try.prog 73 #[.slice A n c] v (RetDig v (9 * n) a)) := fun v hv => digits_any A n c a v ((h.below hv).more hv.size) hn
  obtain ⟨Z, hZ⟩ : ∃ Z, Z = madeCells #[Value.int .i64 0] k := ⟨_, rfl⟩
  have hmk : ∀ v : World, (Instr.makeSlice 66 (.int .i64 (k : Int)) (.int .i64 (k : Int))).run Try.prog v = .ok (.slice (some ⟨v.heap.size, 0, none⟩) k k) (v.alloc (.cells Z 3)) := by
    intro v
    have := run_make (P := Try.prog) (w := v) 66 3 i0 (.int .i64 0) Try.underlying66 hi hz0 .i64 .i64 k k (by omega) (Int.le_refl _) (by rw [hz2]; omega) (by omega)
    rw [this, hz1, Nat.mul_one, hZ, Int.toNat_natCast]; rfl
  have HZ : Hid (Z.toList = valsI (List.replicate k 0)) := by show _ = _; rw [hZ, toList_madeCells_one]; simp [valsI]
  have HS : Hid (Z.size = k * 1) := by show _ = _; rw [hZ]; simp [madeCells]
  clear h hZ
  go_enter Try.func52, Try.ntmps52
  go_wp2
  go_region_law (first | (go_simp; go_at_call 73; refine (DG.out _ ?_).mono ?_; (first | exact ((Below.refl _ _).alloc (Nat.le_refl _) _).drew | exact (Below.refl _ _).drew); rintro e w2 ⟨A2, c2, xs, rfl, ho, hl, hd, ht, hb⟩; have X2 := Lib.hid (Dig.of_own ho); have D2 := Lib.hid hd; have T2 := Lib.hid ht; have HB2 := Lib.hid hb; clear ho hl hd ht hb) | (refine step_append_dig rfl (.tmp 9) (.tmp 11) 66 66 rfl w.heap.size 3 3 i0 Try.underlying66 Try.underlying66 hi hz0 hz1 hz2 _ k k (List.replicate k 0) rfl ?_ w2.heap.size A2 (9 * n) c2 xs rfl ?_ ?_ ?_ ?_; (first | exact (made_first HZ HS HB2 hk).1 | exact (made_last HZ HS HB2 hk).1); (first | exact X2.out | exact X2.out.below ((Below.refl _ _).alloc (Nat.le_refl _) _)); omega; (first | exact (made_first HZ HS HB2 hk).2.size | exact (made_last HZ HS HB2 hk).2.1.size); intro A3 c3 w3 hown hgr; have X3 := Lib.hid (Dig.of_own hown); have HB3 : Hid (Below w.heap.size w w3) := (by first | exact (made_first HZ HS HB2 hk).2.grown hgr (made_first HZ HS HB2 hk).2.size (fun g hg => own_block_le hg) | exact (made_last HZ HS HB2 hk).2.1.grown hgr (made_last HZ HS HB2 hk).2.1.size (fun g hg => Nat.le_trans (made_last HZ HS HB2 hk).2.2 (own_block_le hg))); clear hown hgr) | (go_simp; go_at_call 72; refine (number_any A3 (k + 9 * n) c3 9 (List.replicate k 0 ++ xs) w3 X3.out ?_ ?_ ?_).mono ?_; omega; omega; exact gd_noughts (fun j => Nat.le_of_lt_succ (D2.out j)); rintro e w4 ⟨A4, n4, c4, rfl, h4, hb4⟩; have H4 := Lib.hid h4; have HB4 := Lib.hid (HB3.out.trans (hb4.mono HB3.out.size)); have HE := Lib.hid (shift_ten (k := k) T2.out); clear h4 hb4))
  all_goals
    go_wp2
    go_ret2
    exact ⟨_, _, _, rfl, by rw [← HE.out]; exact H4.out, HB4.out⟩
theorem refShift_is {A : Option Addr} {n c a k m : Nat} {v : Int} {w : World} (h : Num w w.heap.size A n c a) (hn : n ≤ 1000000) (hk : k ≤ 1000000) (hv : v = k) (hm : a * 10 ^ k = m) :
    Calls Try.prog 52 #[.slice A n c, .int .i64 v] w (RetSub w m) := by
  subst hm; subst hv; exact refShift_any A n c a k w h hn hk

end Go.Proofs.Ytafbkoejobkncaa
