/- What the proofs of this layer need of the layer Nat, in one text. -/

/-
  Plain mathematics of layer 1: limbs to the base 10^9, low limb first; a number's own limbs; which of two numbers is above.
-/
namespace Go.Proofs.YtjkandnbjbfeiaaDoor.Num

/-- The number that limbs make, the low one first. -/
def val : List Nat → Nat
  | [] => 0
  | x :: xs => x + 1000000000 * val xs

/-- A number's own limbs. -/
def dg (n : Nat) : List Nat := if h : n = 0 then [] else n % 1000000000 :: dg (n / 1000000000)
termination_by n
decreasing_by omega

/-- Each limb is below the base. -/
def limbs (xs : List Nat) : Prop := ∀ x ∈ xs, x < 1000000000
/-- The limb at a place; nought behind the last one. -/
def gd (xs : List Nat) (i : Nat) : Nat := xs.getD i 0
def rightB (xs : List Nat) : Bool := xs.all (fun x => decide (x < 1000000000)) && decide (xs.getLast? ≠ some 0)
def cmpN (a b : Nat) : Int := if a < b then -1 else if b < a then 1 else 0

theorem dg_zero : dg 0 = [] := by rw [dg]; simp
theorem dg_pos {n : Nat} (h : 0 < n) : dg n = n % 1000000000 :: dg (n / 1000000000) := by
  rw [dg, dif_neg (by omega)]
theorem val_dg (n : Nat) : val (dg n) = n := by
  induction n using Nat.strongRecOn with
  | ind n ih =>
    rcases Nat.eq_zero_or_pos n with h | h
    · subst h; rw [dg_zero]; rfl
    · rw [dg_pos h, val, ih (n / 1000000000) (by omega)]; omega
theorem limbs_nil : limbs [] := fun _ h => by cases h
theorem limbs_cons {x : Nat} {xs : List Nat} : limbs (x :: xs) ↔ x < 1000000000 ∧ limbs xs := by
  unfold limbs; simp
theorem limbs_append {xs ys : List Nat} : limbs (xs ++ ys) ↔ limbs xs ∧ limbs ys := by
  unfold limbs
  constructor
  · intro h; exact ⟨fun x hx => h x (List.mem_append_left _ hx), fun x hx => h x (List.mem_append_right _ hx)⟩
  · rintro ⟨h, k⟩ x hx
    rcases List.mem_append.1 hx with hx | hx
    · exact h x hx
    · exact k x hx
theorem limbs_dg (n : Nat) : limbs (dg n) := by
  induction n using Nat.strongRecOn with
  | ind n ih =>
    rcases Nat.eq_zero_or_pos n with h | h
    · subst h; rw [dg_zero]; exact limbs_nil
    · rw [dg_pos h]; exact limbs_cons.2 ⟨by omega, ih _ (by omega)⟩
theorem gd_cons_zero (x : Nat) (xs : List Nat) : gd (x :: xs) 0 = x := rfl
theorem gd_cons_succ (x : Nat) (xs : List Nat) (i : Nat) : gd (x :: xs) (i + 1) = gd xs i := by simp [gd]
theorem gd_nil (i : Nat) : gd [] i = 0 := by simp [gd]
theorem gd_lt {xs : List Nat} (h : limbs xs) (i : Nat) : gd xs i < 1000000000 := by
  unfold gd
  rcases Nat.lt_or_ge i xs.length with hi | hi
  · rw [List.getD_eq_getElem?_getD, List.getElem?_eq_getElem hi]; exact h _ (List.getElem_mem hi)
  · rw [List.getD_eq_getElem?_getD, List.getElem?_eq_none hi]; simp
theorem gd_of_ge {xs : List Nat} {i : Nat} (h : xs.length ≤ i) : gd xs i = 0 := by
  unfold gd; rw [List.getD_eq_getElem?_getD, List.getElem?_eq_none h]; rfl
theorem gd_of_lt {xs : List Nat} {i : Nat} (h : i < xs.length) : xs[i]? = some (gd xs i) := by
  unfold gd; rw [List.getD_eq_getElem?_getD, List.getElem?_eq_getElem h]; rfl

theorem val_lt {xs : List Nat} (h : limbs xs) : val xs < 1000000000 ^ xs.length := by
  induction xs with
  | nil => simp [val]
  | cons x xs ih =>
    obtain ⟨hx, hxs⟩ := limbs_cons.1 h
    have := ih hxs
    rw [val, List.length_cons, Nat.pow_succ]
    omega
theorem val_append (xs ys : List Nat) : val (xs ++ ys) = val xs + 1000000000 ^ xs.length * val ys := by
  induction xs with
  | nil => simp [val]
  | cons x xs ih =>
    rw [List.cons_append, val, val, ih, List.length_cons, Nat.pow_succ, Nat.mul_add, ← Nat.mul_assoc, Nat.mul_comm 1000000000 (1000000000 ^ xs.length)]
    omega
theorem val_take_drop (xs : List Nat) (i : Nat) (h : i ≤ xs.length) : val xs = val (xs.take i) + 1000000000 ^ i * val (xs.drop i) := by
  have e := val_append (xs.take i) (xs.drop i)
  rw [List.take_append_drop, List.length_take, Nat.min_eq_left h] at e
  exact e
theorem val_drop (xs : List Nat) (i : Nat) : val (xs.drop i) = gd xs i + 1000000000 * val (xs.drop (i + 1)) := by
  rcases Nat.lt_or_ge i xs.length with h | h
  · rw [List.drop_eq_getElem_cons h, val]
    have : gd xs i = xs[i] := by unfold gd; rw [List.getD_eq_getElem?_getD, List.getElem?_eq_getElem h]; rfl
    rw [this]
  · rw [List.drop_of_length_le h, List.drop_of_length_le (by omega), gd_of_ge h]; rfl
theorem val_zeros (k : Nat) : val (List.replicate k 0) = 0 := by
  induction k with
  | zero => rfl
  | succ k ih => rw [List.replicate_succ, val, ih]
theorem val_set (xs : List Nat) (i v : Nat) (h : i < xs.length) : val (xs.set i v) + 1000000000 ^ i * gd xs i = val xs + 1000000000 ^ i * v := by
  induction xs generalizing i with
  | nil => simp at h
  | cons x xs ih =>
    cases i with
    | zero => simp only [List.set_cons_zero, val, gd_cons_zero, Nat.pow_zero, Nat.one_mul]; omega
    | succ i =>
      have := ih i (by simpa using h)
      rw [List.set_cons_succ, val, val, gd_cons_succ, Nat.pow_succ]
      have e1 : 1000000000 ^ i * 1000000000 * gd xs i = 1000000000 * (1000000000 ^ i * gd xs i) := by rw [Nat.mul_comm (1000000000 ^ i), Nat.mul_assoc]
      have e2 : 1000000000 ^ i * 1000000000 * v = 1000000000 * (1000000000 ^ i * v) := by rw [Nat.mul_comm (1000000000 ^ i), Nat.mul_assoc]
      rw [e1, e2]; omega
theorem limbs_set {xs : List Nat} (h : limbs xs) (i : Nat) {v : Nat} (hv : v < 1000000000) : limbs (xs.set i v) := by
  intro x hx
  rcases List.mem_or_eq_of_mem_set hx with hx | hx
  · exact h x hx
  · rw [hx]; exact hv
theorem limbs_take {xs : List Nat} (h : limbs xs) (i : Nat) : limbs (xs.take i) := fun x hx => h x (List.mem_of_mem_take hx)
theorem limbs_drop {xs : List Nat} (h : limbs xs) (i : Nat) : limbs (xs.drop i) := fun x hx => h x (List.mem_of_mem_drop hx)

/-! Limbs whose last one is not nought are the number's own. -/
theorem dg_val {xs : List Nat} (h : limbs xs) (hl : xs.getLast? ≠ some 0) : dg (val xs) = xs := by
  induction xs with
  | nil => rw [val, dg_zero]
  | cons x xs ih =>
    obtain ⟨hx, hxs⟩ := limbs_cons.1 h
    have hv : 0 < val (x :: xs) := by
      rw [val]
      cases xs with
      | nil => simp at hl; omega
      | cons y ys =>
        have hi := ih hxs (by simpa [List.getLast?_cons_cons] using hl)
        have : 0 < val (y :: ys) := by
          rcases Nat.eq_zero_or_pos (val (y :: ys)) with h0 | h0
          · rw [h0, dg_zero] at hi; cases hi
          · exact h0
        omega
    rw [dg_pos hv, val]
    have e1 : (x + 1000000000 * val xs) % 1000000000 = x := by omega
    have e2 : (x + 1000000000 * val xs) / 1000000000 = val xs := by omega
    rw [e1, e2]
    cases xs with
    | nil => rw [val, dg_zero]
    | cons y ys => rw [ih hxs (by simpa [List.getLast?_cons_cons] using hl)]
theorem dg_last (n : Nat) : (dg n).getLast? ≠ some 0 := by
  induction n using Nat.strongRecOn with
  | ind n ih =>
    rcases Nat.eq_zero_or_pos n with h | h
    · subst h; rw [dg_zero]; simp
    · rw [dg_pos h]
      rcases Nat.eq_zero_or_pos (n / 1000000000) with h0 | h0
      · rw [h0, dg_zero]; simp; omega
      · have := ih (n / 1000000000) (by omega)
        rw [dg_pos h0] at this ⊢
        rw [List.getLast?_cons_cons]
        exact this
theorem rightB_iff {xs : List Nat} : rightB xs = true ↔ limbs xs ∧ xs.getLast? ≠ some 0 := by
  unfold rightB limbs; simp
theorem dg_of_right {xs : List Nat} (h : rightB xs = true) : dg (val xs) = xs := dg_val (rightB_iff.1 h).1 (rightB_iff.1 h).2
theorem right_dg (n : Nat) : rightB (dg n) = true := rightB_iff.2 ⟨limbs_dg n, dg_last n⟩
theorem dg_inj {a b : Nat} (h : dg a = dg b) : a = b := by rw [← val_dg a, ← val_dg b, h]

/-! Limbs with noughts at their end. -/
theorem dg_cut {xs : List Nat} (h : limbs xs) {n : Nat} (hz : ∀ j, n ≤ j → gd xs j = 0) (hn : n = 0 ∨ gd xs (n - 1) ≠ 0) (hle : n ≤ xs.length) : dg (val xs) = xs.take n := by
  have hv : val xs = val (xs.take n) := by
    rw [val_take_drop xs n hle]
    have : val (xs.drop n) = 0 := by
      have : ∀ k i, xs.length - i = k → n ≤ i → val (xs.drop i) = 0 := by
        intro k
        induction k with
        | zero => intro i hk _; rw [List.drop_of_length_le (by omega)]; rfl
        | succ k ih => intro i hk hi; rw [val_drop, hz i hi, ih (i + 1) (by omega) (by omega)]
      exact this _ n rfl (Nat.le_refl _)
    rw [this]; simp
  rw [hv]
  refine dg_val (limbs_take h n) ?_
  rcases hn with rfl | hn
  · simp
  · rcases Nat.eq_zero_or_pos n with h0 | h0
    · subst h0; simp
    · rw [List.getLast?_eq_getElem?, List.length_take, Nat.min_eq_left hle, List.getElem?_take_of_lt (by omega), gd_of_lt (by omega)]
      intro he; exact hn (Option.some.inj he)

/-! Which of two is above: by the highest limb that is another one. -/
theorem val_eq_of_gd : ∀ (xs ys : List Nat), (∀ j, gd xs j = gd ys j) → val xs = val ys := by
  have aux : ∀ (k : Nat) (xs ys : List Nat), xs.length + ys.length = k → (∀ j, gd xs j = gd ys j) → val xs = val ys := by
    intro k
    induction k using Nat.strongRecOn with
    | ind k ih =>
      intro xs ys hk h
      have e := val_drop xs 0
      have f := val_drop ys 0
      simp only [List.drop_zero, Nat.zero_add, List.drop_one] at e f
      cases xs with
      | nil =>
        cases ys with
        | nil => rfl
        | cons y ys =>
          have := ih ([].length + ys.length) (by simp at hk ⊢; omega) [] ys rfl (fun j => by have := h (j + 1); rw [gd_cons_succ] at this; rw [← this, gd_nil, gd_nil])
          have h0 := h 0
          rw [gd_nil, gd_cons_zero] at h0
          show val [] = y + 1000000000 * val ys
          rw [← this, ← h0]; rfl
      | cons x xs =>
        cases ys with
        | nil =>
          have := ih (xs.length + [].length) (by simp at hk ⊢; omega) xs [] rfl (fun j => by have := h (j + 1); rw [gd_cons_succ] at this; rw [this, gd_nil, gd_nil])
          have h0 := h 0
          rw [gd_nil, gd_cons_zero] at h0
          show x + 1000000000 * val xs = val []
          rw [this, h0]; rfl
        | cons y ys =>
          have := ih (xs.length + ys.length) (by simp at hk ⊢; omega) xs ys rfl (fun j => by have := h (j + 1); rwa [gd_cons_succ, gd_cons_succ] at this)
          have h0 := h 0
          rw [gd_cons_zero, gd_cons_zero] at h0
          rw [val, val, this, h0]
  exact fun xs ys h => aux _ xs ys rfl h

theorem gd_drop (xs : List Nat) (i j : Nat) : gd (xs.drop i) j = gd xs (i + j) := by
  unfold gd; rw [List.getD_eq_getElem?_getD, List.getD_eq_getElem?_getD, List.getElem?_drop]

theorem val_lt_of_gd {xs ys : List Nat} (hx : limbs xs) : ∀ {i : Nat}, (∀ j, i < j → gd xs j = gd ys j) → gd xs i < gd ys i → val xs < val ys := by
  intro i h hlt
  have key : ∀ k, k ≤ i → val (xs.drop (i - k)) < val (ys.drop (i - k)) := by
    intro k
    induction k with
    | zero =>
      intro _
      have e : val (xs.drop (i + 1)) = val (ys.drop (i + 1)) := val_eq_of_gd _ _ (fun j => by rw [gd_drop, gd_drop]; exact h _ (by omega))
      rw [Nat.sub_zero, val_drop xs, val_drop ys, e]; omega
    | succ k ih =>
      intro hk
      have := ih (by omega)
      have e : i - (k + 1) + 1 = i - k := by omega
      rw [val_drop xs (i - (k + 1)), val_drop ys (i - (k + 1)), e]
      have := gd_lt hx (i - (k + 1))
      omega
  have := key i (Nat.le_refl _)
  rwa [Nat.sub_self, List.drop_zero, List.drop_zero] at this

theorem cmpN_lt {a b : Nat} (h : a < b) : cmpN a b = -1 := by unfold cmpN; rw [if_pos h]
theorem cmpN_gt {a b : Nat} (h : b < a) : cmpN a b = 1 := by unfold cmpN; rw [if_neg (by omega), if_pos h]
theorem cmpN_eq {a b : Nat} (h : a = b) : cmpN a b = 0 := by unfold cmpN; rw [if_neg (by omega), if_neg (by omega)]
theorem cmpN_cases (a b : Nat) : (a < b ∧ cmpN a b = -1) ∨ (a = b ∧ cmpN a b = 0) ∨ (b < a ∧ cmpN a b = 1) := by
  rcases Nat.lt_trichotomy a b with h | h | h
  · exact .inl ⟨h, cmpN_lt h⟩
  · exact .inr (.inl ⟨h, cmpN_eq h⟩)
  · exact .inr (.inr ⟨h, cmpN_gt h⟩)
theorem cmpN_neg (a b : Nat) : (cmpN a b < 0) ↔ a < b := by
  rcases cmpN_cases a b with ⟨h, e⟩ | ⟨h, e⟩ | ⟨h, e⟩ <;> rw [e] <;> omega
theorem cmpN_zero (a b : Nat) : (cmpN a b = 0) ↔ a = b := by
  rcases cmpN_cases a b with ⟨h, e⟩ | ⟨h, e⟩ | ⟨h, e⟩ <;> rw [e] <;> omega
theorem cmpN_pos (a b : Nat) : (0 < cmpN a b) ↔ b < a := by
  rcases cmpN_cases a b with ⟨h, e⟩ | ⟨h, e⟩ | ⟨h, e⟩ <;> rw [e] <;> omega

/-- More limbs, the last one not nought: above. -/
theorem val_lt_of_length {xs ys : List Nat} (hx : limbs xs) (hy : ys.getLast? ≠ some 0) (h : xs.length < ys.length) : val xs < val ys := by
  have hl : gd ys (ys.length - 1) ≠ 0 := by
    intro he
    apply hy
    rw [List.getLast?_eq_getElem?, gd_of_lt (by omega), he]
  refine val_lt_of_gd hx (i := ys.length - 1) (fun j hj => ?_) ?_
  · rw [gd_of_ge (by omega), gd_of_ge (by omega)]
  · rw [gd_of_ge (by omega)]; omega
theorem dg_len_mono {a b : Nat} (h : a ≤ b) : (dg a).length ≤ (dg b).length := by
  rcases Nat.lt_or_ge (dg b).length (dg a).length with hl | hl
  · have := val_lt_of_length (limbs_dg b) (dg_last a) hl
    rw [val_dg, val_dg] at this
    omega
  · exact hl
theorem dg_len_le {a n : Nat} (h : a < 1000000000 ^ n) : (dg a).length ≤ n := by
  rcases Nat.lt_or_ge n (dg a).length with hl | hl
  · exfalso
    have hg : gd (dg a) ((dg a).length - 1) ≠ 0 := by
      intro he
      apply dg_last a
      rw [List.getLast?_eq_getElem?, gd_of_lt (by omega), he]
    have e := val_take_drop (dg a) ((dg a).length - 1) (by omega)
    rw [val_drop, val_dg] at e
    have hp : 1000000000 ^ n ≤ 1000000000 ^ ((dg a).length - 1) := Nat.pow_le_pow_right (by omega) (by omega)
    have : 1000000000 ^ ((dg a).length - 1) * 1 ≤ 1000000000 ^ ((dg a).length - 1) * (gd (dg a) ((dg a).length - 1) + 1000000000 * val ((dg a).drop ((dg a).length - 1 + 1))) := Nat.mul_le_mul_left _ (by omega)
    omega
  · exact hl
theorem lt_pow_dg (a : Nat) : a < 1000000000 ^ (dg a).length := by
  have := val_lt (limbs_dg a); rwa [val_dg] at this
theorem pow_le_of_dg {a : Nat} (h : 0 < a) : 1000000000 ^ ((dg a).length - 1) ≤ a := by
  rcases Nat.lt_or_ge a (1000000000 ^ ((dg a).length - 1)) with hl | hl
  · have := dg_len_le hl
    have : 0 < (dg a).length := by rw [dg_pos h]; simp
    omega
  · exact hl
theorem dg_len_add (a b : Nat) : (dg (a + b)).length ≤ max (dg a).length (dg b).length + 1 := by
  apply dg_len_le
  have ha := lt_pow_dg a
  have hb := lt_pow_dg b
  have h1 : 1000000000 ^ (dg a).length ≤ 1000000000 ^ max (dg a).length (dg b).length := Nat.pow_le_pow_right (by omega) (by omega)
  have h2 : 1000000000 ^ (dg b).length ≤ 1000000000 ^ max (dg a).length (dg b).length := Nat.pow_le_pow_right (by omega) (by omega)
  rw [Nat.pow_succ]; omega
theorem even_dg (n : Nat) : (gd (dg n) 0 % 2 = 0) ↔ n % 2 = 0 := by
  have e := val_drop (dg n) 0
  rw [List.drop_zero, val_dg] at e
  omega
theorem dg_eq_nil {n : Nat} : dg n = [] ↔ n = 0 := by
  constructor
  · intro h; rw [← val_dg n, h]; rfl
  · rintro rfl; exact dg_zero
end Go.Proofs.YtjkandnbjbfeiaaDoor.Num

/-
  Plain mathematics of layer 1, the second part: what a round of Add and Sub does to the number that the limbs make.
-/
namespace Go.Proofs.YtjkandnbjbfeiaaDoor.Num

theorem sub_step {zs ys : List Nat} {i v bw bw' a b : Nat} (h : val zs + b = a + bw * 1000000000 ^ i + 1000000000 ^ i * val (ys.drop i)) (hi : i < zs.length) (hv : v + bw + gd ys i = gd zs i + bw' * 1000000000) :
    val (zs.set i v) + b = a + bw' * 1000000000 ^ (i + 1) + 1000000000 ^ (i + 1) * val (ys.drop (i + 1)) := by
  have e1 := val_set zs i v hi
  have e2 := val_drop ys i
  generalize hP : 1000000000 ^ i = P at *
  have e3 : P * (v + bw + gd ys i) = P * (gd zs i + bw' * 1000000000) := by rw [hv]
  rw [Nat.pow_succ, hP]
  rw [e2] at h
  have e4 : P * (bw' * 1000000000) = bw' * (P * 1000000000) := by rw [Nat.mul_left_comm]
  have e5 : P * (1000000000 * val (ys.drop (i + 1))) = P * 1000000000 * val (ys.drop (i + 1)) := by rw [Nat.mul_assoc]
  rw [Nat.mul_add, e5] at h
  rw [Nat.mul_add, Nat.mul_add, Nat.mul_add, e4] at e3
  rw [Nat.mul_comm bw P] at h
  omega
theorem sub_end {zs ys : List Nat} {i bw a b n : Nat} (h : val zs + b = a + bw * 1000000000 ^ i + 1000000000 ^ i * val (ys.drop i)) (hz : limbs zs) (hlen : zs.length = n) (hi : i = n) (hy : ys.length ≤ n) (hba : b ≤ a) : val zs = a - b := by
  subst hi
  rw [List.drop_of_length_le (by omega), val, Nat.mul_zero] at h
  have := val_lt hz
  rw [hlen] at this
  rcases Nat.eq_zero_or_pos bw with h0 | h0
  · subst h0; omega
  · have : 1 * 1000000000 ^ i ≤ bw * 1000000000 ^ i := Nat.mul_le_mul_right _ h0
    omega
theorem sub_break {zs ys : List Nat} {i a b : Nat} (h : val zs + b = a + 0 * 1000000000 ^ i + 1000000000 ^ i * val (ys.drop i)) (hy : ys.length ≤ i) : val zs = a - b := by
  rw [List.drop_of_length_le hy, val, Nat.mul_zero, Nat.zero_mul] at h
  omega

theorem val_snoc (zs : List Nat) (d : Nat) : val (zs ++ [d]) = val zs + 1000000000 ^ zs.length * d := by
  rw [val_append]; simp [val]

theorem refAdd_step {zs xs ys : List Nat} {i ov t T : Nat} (hl : zs.length = i) (h : val zs + 1000000000 ^ i * ov + 1000000000 ^ i * (val (xs.drop i) + val (ys.drop i)) = T) (ht : t = ov + (gd xs i + gd ys i)) :
    val (zs ++ [t % 1000000000]) + 1000000000 ^ (i + 1) * (t / 1000000000) + 1000000000 ^ (i + 1) * (val (xs.drop (i + 1)) + val (ys.drop (i + 1))) = T := by
  have e2 := val_drop xs i
  have e3 := val_drop ys i
  rw [val_snoc, hl, Nat.pow_succ, ← h, e2, e3]
  generalize 1000000000 ^ i = P
  have ed : t = 1000000000 * (t / 1000000000) + t % 1000000000 := (Nat.div_add_mod t 1000000000).symm
  have e4 : P * t = P * (1000000000 * (t / 1000000000) + t % 1000000000) := by rw [← ed]
  rw [Nat.mul_add, ← Nat.mul_assoc] at e4
  have e5 : P * t = P * ov + (P * gd xs i + P * gd ys i) := by rw [ht, Nat.mul_add, Nat.mul_add]
  simp only [Nat.mul_add, ← Nat.mul_assoc]
  omega
theorem refAdd_fin {v P ov a b : Nat} (h : v + P * 1000000000 * ov = a + b) (ha : a < P) (hb : b < P) : v = a + b := by
  rcases Nat.eq_zero_or_pos ov with h0 | h0
  · subst h0; rw [Nat.mul_zero, Nat.add_zero] at h; exact h
  · have h1 : P * 1000000000 ≤ P * 1000000000 * ov := Nat.le_mul_of_pos_right _ h0
    omega
theorem refAdd_end {zs xs ys : List Nat} {i ov a b m : Nat} (h : val zs + 1000000000 ^ i * ov + 1000000000 ^ i * (val (xs.drop i) + val (ys.drop i)) = a + b) (hi : i = m + 1) (hx : xs.length ≤ m) (hy : ys.length ≤ m) (ha : a < 1000000000 ^ m) (hb : b < 1000000000 ^ m) : val zs = a + b := by
  have hx' : xs.drop i = [] := List.drop_of_length_le (by omega)
  have hy' : ys.drop i = [] := List.drop_of_length_le (by omega)
  have hv : val ([] : List Nat) = 0 := rfl
  have e : 1000000000 ^ i = 1000000000 ^ m * 1000000000 := by rw [hi, Nat.pow_succ]
  rw [hx', hy', hv, Nat.add_zero, Nat.mul_zero, Nat.add_zero, e] at h
  exact refAdd_fin h ha hb
theorem refSub_step {zs xs ys : List Nat} {i ls t a b : Nat} (hl : zs.length = i) (h : val zs + 1000000000 ^ i * val (xs.drop i) + b = a + ls * 1000000000 ^ i + 1000000000 ^ i * val (ys.drop i)) (ht : t + gd ys i + ls = gd xs i + 1000000000) (hq : t / 1000000000 ≤ 1) :
    val (zs ++ [t % 1000000000]) + 1000000000 ^ (i + 1) * val (xs.drop (i + 1)) + b = a + (1 - t / 1000000000) * 1000000000 ^ (i + 1) + 1000000000 ^ (i + 1) * val (ys.drop (i + 1)) := by
  have e2 := val_drop xs i
  have e3 := val_drop ys i
  rw [e2, e3] at h
  rw [val_snoc, hl, Nat.pow_succ]
  generalize 1000000000 ^ i = P at *
  have ed : t % 1000000000 + gd ys i + ls = gd xs i + (1 - t / 1000000000) * 1000000000 := by omega
  have e4 : P * (t % 1000000000 + gd ys i + ls) = P * (gd xs i + (1 - t / 1000000000) * 1000000000) := by rw [ed]
  generalize 1 - t / 1000000000 = q at *
  simp only [Nat.mul_add, ← Nat.mul_assoc] at h e4 ⊢
  rw [Nat.mul_comm P q] at e4
  rw [Nat.mul_comm ls P] at h
  have e6 : q * (P * 1000000000) = q * P * 1000000000 := by rw [Nat.mul_assoc]
  omega
theorem refSub_end {zs xs ys : List Nat} {i ls a b n : Nat} (h : val zs + 1000000000 ^ i * val (xs.drop i) + b = a + ls * 1000000000 ^ i + 1000000000 ^ i * val (ys.drop i)) (hz : limbs zs) (hlen : zs.length = i) (hi : i = n) (hx : xs.length ≤ n) (hy : ys.length ≤ n) (hba : b ≤ a) : val zs = a - b := by
  refine sub_end (i := i) (bw := ls) (ys := ys) ?_ hz (hlen.trans hi) hi hy hba
  rw [List.drop_of_length_le (by omega), val, Nat.mul_zero] at h
  omega


end Go.Proofs.YtjkandnbjbfeiaaDoor.Num
