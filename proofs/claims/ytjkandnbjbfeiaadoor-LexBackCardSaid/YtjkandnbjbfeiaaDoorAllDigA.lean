/- What the proofs of this layer need of the layer Dig, in one text. -/
import Derived.Test.YtjkandnbjbfeiaaDoorAllMulB
set_option linter.unusedVariables false
set_option linter.unusedSimpArgs false

/-
  Mathematics of layer 4: numbers as texts of digits (48 is the sign of nought): texts of k digits, texts without noughts ahead, numbers of texts, noughts at the end.
-/
namespace Go.Proofs.YtjkandnbjbfeiaaDoor.Num

/-- The last k digits of a. -/
def pad : Nat → Nat → List Nat
  | 0, _ => []
  | k + 1, a => pad k (a / 10) ++ [48 + a % 10]
/-- The digits of a, without noughts ahead. -/
def txt (a : Nat) : List Nat := if h : a < 10 then [48 + a] else txt (a / 10) ++ [48 + a % 10]
termination_by a
decreasing_by omega
/-- How many digits a has. -/
def nd (a : Nat) : Nat := (txt a).length
/-- The number of a text of digits. -/
def pv (l : List Nat) : Nat := l.foldl (fun v c => 10 * v + (c - 48)) 0
/-- All of them are digits. -/
def digs (l : List Nat) : Prop := ∀ c ∈ l, 48 ≤ c ∧ c ≤ 57
/-- How many noughts stand at the end of a. -/
def tz (a : Nat) : Nat := if h : a = 0 then 0 else if a % 10 = 0 then tz (a / 10) + 1 else 0
termination_by a
decreasing_by omega

theorem txt_lt {a : Nat} (h : a < 10) : txt a = [48 + a] := by rw [txt, dif_pos h]
theorem txt_ge {a : Nat} (h : 10 ≤ a) : txt a = txt (a / 10) ++ [48 + a % 10] := by rw [txt, dif_neg (by omega)]
theorem txt_zero : txt 0 = [48] := txt_lt (by omega)
theorem nd_lt {a : Nat} (h : a < 10) : nd a = 1 := by unfold nd; rw [txt_lt h]; rfl
theorem nd_ge {a : Nat} (h : 10 ≤ a) : nd a = nd (a / 10) + 1 := by unfold nd; rw [txt_ge h, List.length_append]; rfl
theorem nd_pos (a : Nat) : 0 < nd a := by
  rcases Nat.lt_or_ge a 10 with h | h
  · rw [nd_lt h]; omega
  · rw [nd_ge h]; omega
theorem txt_ne (a : Nat) : txt a ≠ [] := fun h => by have := nd_pos a; unfold nd at this; rw [h] at this; simp at this
theorem pad_len (k : Nat) : ∀ a, (pad k a).length = k := by
  induction k with
  | zero => intro a; rfl
  | succ k ih => intro a; rw [pad, List.length_append, ih]; rfl
theorem pad_cons (k : Nat) : ∀ a, pad (k + 1) a = (48 + a / 10 ^ k % 10) :: pad k a := by
  induction k with
  | zero => intro a; simp [pad]
  | succ k ih =>
    intro a
    rw [pad, ih (a / 10), Nat.div_div_eq_div_mul, Nat.mul_comm 10, ← Nat.pow_succ]
    rfl
theorem digs_append {x y : List Nat} : digs (x ++ y) ↔ digs x ∧ digs y := by
  unfold digs
  constructor
  · exact fun h => ⟨fun c hc => h c (List.mem_append_left _ hc), fun c hc => h c (List.mem_append_right _ hc)⟩
  · rintro ⟨h1, h2⟩ c hc
    rcases List.mem_append.1 hc with h | h
    · exact h1 c h
    · exact h2 c h
theorem digs_one {c : Nat} (h : 48 ≤ c ∧ c ≤ 57) : digs [c] := fun x hx => by
  rw [List.mem_singleton] at hx; subst hx; exact h
theorem digs_digit (a : Nat) : digs [48 + a % 10] := digs_one ⟨by omega, by omega⟩
theorem digs_pad (k : Nat) : ∀ a, digs (pad k a) := by
  induction k with
  | zero => intro a c hc; cases hc
  | succ k ih => intro a; exact digs_append.2 ⟨ih _, digs_digit a⟩
theorem digs_txt (a : Nat) : digs (txt a) := by
  induction a using Nat.strongRecOn with
  | _ a ih =>
    rcases Nat.lt_or_ge a 10 with h | h
    · rw [txt_lt h]; exact digs_one ⟨by omega, by omega⟩
    · rw [txt_ge h]; exact digs_append.2 ⟨ih _ (by omega), digs_digit a⟩
theorem digs_zeros (k : Nat) : digs (List.replicate k 48) := fun c hc => by rw [(List.mem_replicate.1 hc).2]; omega

theorem txt_pad (k : Nat) : ∀ {a : Nat}, 10 ^ k ≤ a → a < 10 ^ (k + 1) → txt a = pad (k + 1) a := by
  induction k with
  | zero =>
    intro a h1 h2
    have h2' : a < 10 := by simpa using h2
    rw [txt_lt h2', pad, pad, Nat.mod_eq_of_lt h2']; rfl
  | succ k ih =>
    intro a h1 h2
    have p : 10 ^ (k + 1) = 10 * 10 ^ k := by rw [Nat.pow_succ, Nat.mul_comm]
    have p2 : 10 ^ (k + 1 + 1) = 10 * 10 ^ (k + 1) := by rw [Nat.pow_succ, Nat.mul_comm]
    have hp : 0 < 10 ^ k := Nat.pow_pos (by omega)
    rw [txt_ge (by omega), pad, ih (a := a / 10) (by omega) (by omega)]
/-- The text without the noughts ahead. -/
def lz (l : List Nat) : List Nat := l.dropWhile (fun c => c == 48)
theorem lz_cons_yes (l : List Nat) : lz (48 :: l) = lz l := by simp [lz]
theorem lz_cons_no {c : Nat} (l : List Nat) (h : c ≠ 48) : lz (c :: l) = c :: l := by
  unfold lz; rw [List.dropWhile_cons_of_neg (by simpa using h)]
theorem lz_pad (k : Nat) : ∀ {a : Nat}, a < 10 ^ k → lz (pad k a) = if a = 0 then [] else txt a := by
  induction k with
  | zero =>
    intro a h
    have : a = 0 := by simpa using h
    subst this; rfl
  | succ k ih =>
    intro a h
    rcases Nat.lt_or_ge a (10 ^ k) with h1 | h1
    · rw [pad_cons, Nat.div_eq_of_lt h1]
      show lz (48 :: pad k a) = _
      rw [lz_cons_yes, ih h1]
    · have hp : 0 < 10 ^ k := Nat.pow_pos (by omega)
      have ht := txt_pad k h1 h
      rw [if_neg (by omega), ht, pad_cons]
      refine lz_cons_no _ ?_
      have e1 : 1 ≤ a / 10 ^ k := (Nat.le_div_iff_mul_le hp).2 (by omega)
      have e2 : a / 10 ^ k < 10 := Nat.div_lt_of_lt_mul (by rw [Nat.pow_succ, Nat.mul_comm] at h; omega)
      omega

theorem pv_snoc (l : List Nat) (c : Nat) : pv (l ++ [c]) = 10 * pv l + (c - 48) := by
  unfold pv; rw [List.foldl_append]; rfl
theorem pv_nil : pv [] = 0 := rfl
theorem pv_txt (a : Nat) : pv (txt a) = a := by
  induction a using Nat.strongRecOn with
  | _ a ih =>
    rcases Nat.lt_or_ge a 10 with h | h
    · rw [txt_lt h]
      have := pv_snoc [] (48 + a)
      rw [pv_nil, List.nil_append] at this
      omega
    · rw [txt_ge h, pv_snoc, ih _ (by omega)]; omega
theorem pv_foldl (l : List Nat) : ∀ v, l.foldl (fun v c => 10 * v + (c - 48)) v = 10 ^ l.length * v + pv l := by
  induction l with
  | nil => intro v; simp [pv]
  | cons c l ih =>
    intro v
    have e := ih (10 * 0 + (c - 48))
    have e' : pv (c :: l) = l.foldl (fun v c => 10 * v + (c - 48)) (10 * 0 + (c - 48)) := rfl
    rw [List.foldl_cons, ih, e', e, List.length_cons, Nat.pow_succ]
    generalize 10 ^ l.length = P
    generalize pv l = z
    generalize c - 48 = d
    grind
theorem pv_cons (c : Nat) (l : List Nat) : pv (c :: l) = 10 ^ l.length * (c - 48) + pv l := by
  show l.foldl (fun v c => 10 * v + (c - 48)) (10 * 0 + (c - 48)) = _
  rw [pv_foldl, Nat.mul_zero, Nat.zero_add]
theorem pv_zeros (k : Nat) (l : List Nat) : pv (List.replicate k 48 ++ l) = pv l := by
  induction k with
  | zero => rfl
  | succ k ih => rw [List.replicate_succ, List.cons_append, pv_cons, ih]; simp
theorem pv_tail (l : List Nat) : pv (48 :: l) = pv l := by rw [pv_cons]; simp
theorem pv_lt {l : List Nat} (h : digs l) : pv l < 10 ^ l.length := by
  induction l with
  | nil => simp [pv]
  | cons c l ih =>
    have h1 := h c (List.mem_cons_self ..)
    have h2 := ih (fun x hx => h x (List.mem_cons_of_mem _ hx))
    rw [pv_cons, List.length_cons, Nat.pow_succ]
    have e : 10 ^ l.length * (c - 48) ≤ 10 ^ l.length * 9 := Nat.mul_le_mul_left _ (by omega)
    omega

/-- What was read is told so, if it has no nought ahead. -/
theorem txt_pv (n : Nat) : ∀ (l : List Nat), l.length = n + 1 → digs l → (n = 0 ∨ l.head? ≠ some 48) → txt (pv l) = l := by
  induction n with
  | zero =>
    intro l hl hd _
    match l, hl with
    | [c], _ =>
      have h := hd c (List.mem_cons_self ..)
      have e : pv [c] = c - 48 := by rw [pv_cons]; simp [pv]
      rw [e, txt_lt (by omega)]
      congr 1; omega
  | succ n ih =>
    intro l hl hd hh
    have hne : l ≠ [] := fun h => by rw [h] at hl; simp at hl
    have hs : l = l.dropLast ++ [l.getLast hne] := (List.dropLast_concat_getLast hne).symm
    generalize l.getLast hne = c at hs
    have hl' : l.dropLast.length = n + 1 := by rw [List.length_dropLast]; omega
    generalize l.dropLast = l' at *
    subst hs
    have hd' := digs_append.1 hd
    have hc := hd'.2 c (List.mem_singleton.2 rfl)
    have hhead : l'.head? ≠ some 48 := by
      rcases hh with h | h
      · omega
      · match l', hl' with
        | x :: r, _ => exact h
    have e := ih l' hl' hd'.1 (.inr hhead)
    have hpos : 0 < pv l' := by
      rcases Nat.eq_zero_or_pos (pv l') with h0 | h0
      · rw [h0, txt_zero] at e
        rw [← e] at hhead
        exact absurd rfl hhead
      · exact h0
    rw [pv_snoc, txt_ge (by omega)]
    have e1 : (10 * pv l' + (c - 48)) / 10 = pv l' := by omega
    have e2 : 48 + (10 * pv l' + (c - 48)) % 10 = c := by omega
    rw [e1, e2, e]

theorem take_txt (n : Nat) : ∀ a, n < nd a → (txt a).take (nd a - n) = txt (a / 10 ^ n) := by
  induction n with
  | zero => intro a _; unfold nd; simp
  | succ n ih =>
    intro a h
    have h10 : 10 ≤ a := by
      rcases Nat.lt_or_ge a 10 with h1 | h1
      · rw [nd_lt h1] at h; omega
      · exact h1
    have e := nd_ge h10
    have i := ih (a / 10) (by omega)
    rw [txt_ge h10, e, show nd (a / 10) + 1 - (n + 1) = nd (a / 10) - n by omega, List.take_append_of_le_length (by unfold nd; omega), i, Nat.div_div_eq_div_mul, Nat.mul_comm 10, ← Nat.pow_succ]
theorem nd_le_of_lt {a : Nat} (k : Nat) (h : a < 10 ^ (k + 1)) : nd a ≤ k + 1 := by
  induction k generalizing a with
  | zero => rw [nd_lt (by simpa using h)]; omega
  | succ k ih =>
    rcases Nat.lt_or_ge a 10 with h1 | h1
    · rw [nd_lt h1]; omega
    · rw [nd_ge h1]
      have := ih (a := a / 10) (by rw [Nat.pow_succ] at h; omega)
      omega
theorem lt_pow_nd (a : Nat) : a < 10 ^ nd a := by
  have := pv_lt (digs_txt a)
  rwa [pv_txt] at this
theorem div_ge_nd {a n : Nat} (h : nd a ≤ n) : a / 10 ^ n = 0 := Nat.div_eq_of_lt (Nat.lt_of_lt_of_le (lt_pow_nd a) (Nat.pow_le_pow_right (by omega) h))
/-- The n-th digit from the end. -/
theorem txt_get (n : Nat) : ∀ a, n < nd a → (txt a).getD (nd a - 1 - n) 0 = 48 + a / 10 ^ n % 10 := by
  induction n with
  | zero =>
    intro a _
    rcases Nat.lt_or_ge a 10 with h1 | h1
    · rw [txt_lt h1, nd_lt h1]; simp [Nat.mod_eq_of_lt h1]
    · rw [txt_ge h1, nd_ge h1]; unfold nd; simp
  | succ n ih =>
    intro a h
    have h10 : 10 ≤ a := by
      rcases Nat.lt_or_ge a 10 with h1 | h1
      · rw [nd_lt h1] at h; omega
      · exact h1
    have e := nd_ge h10
    have i := ih (a / 10) (by omega)
    rw [txt_ge h10, e, show nd (a / 10) + 1 - 1 - (n + 1) = nd (a / 10) - 1 - n by omega]
    rw [Nat.div_div_eq_div_mul, Nat.mul_comm 10, ← Nat.pow_succ] at i
    rw [← i, List.getD_eq_getElem?_getD, List.getD_eq_getElem?_getD, List.getElem?_append_left (by unfold nd at *; omega)]

theorem nd_div (k : Nat) : ∀ {a : Nat}, 0 < a / 10 ^ k → nd a = nd (a / 10 ^ k) + k := by
  induction k with
  | zero => intro a _; simp
  | succ k ih =>
    intro a h
    have e : a / 10 ^ (k + 1) = a / 10 / 10 ^ k := by rw [Nat.div_div_eq_div_mul, Nat.mul_comm 10, ← Nat.pow_succ]
    rw [e] at h ⊢
    have h10 : 10 ≤ a := by
      rcases Nat.lt_or_ge a 10 with h1 | h1
      · rw [Nat.div_eq_of_lt h1] at h; simp at h
      · exact h1
    rw [nd_ge h10, ih h]; omega
theorem nd_mul {a : Nat} (h : 0 < a) (n : Nat) : nd (a * 10 ^ n) = nd a + n := by
  have hp : 0 < 10 ^ n := Nat.pow_pos (by omega)
  have e := nd_div n (a := a * 10 ^ n) (by rw [Nat.mul_div_cancel _ hp]; exact h)
  rwa [Nat.mul_div_cancel _ hp] at e

theorem tz_zero : tz 0 = 0 := by rw [tz]; simp
theorem tz_yes {a : Nat} (h0 : 0 < a) (h : a % 10 = 0) : tz a = tz (a / 10) + 1 := by rw [tz, dif_neg (by omega), if_pos h]
theorem tz_no {a : Nat} (h : a % 10 ≠ 0) : tz a = 0 := by rw [tz, dif_neg (by intro e; subst e; exact h rfl), if_neg h]
theorem tz_lt {a : Nat} (h : 0 < a) : tz a < nd a := by
  induction a using Nat.strongRecOn with
  | _ a ih =>
    by_cases h1 : a % 10 = 0
    · rw [tz_yes h h1, nd_ge (by omega)]
      have := ih (a / 10) (by omega) (by omega)
      omega
    · rw [tz_no h1]; exact nd_pos a
theorem tz_mul {a : Nat} (h : 0 < a) (n : Nat) : tz (a * 10 ^ n) = tz a + n := by
  induction n with
  | zero => simp
  | succ n ih =>
    have hp : 0 < 10 ^ n := Nat.pow_pos (by omega)
    have hm : 0 < a * 10 ^ n := Nat.mul_pos h hp
    have e : a * 10 ^ (n + 1) = 10 * (a * 10 ^ n) := by rw [Nat.pow_succ, ← Nat.mul_assoc, Nat.mul_comm]
    rw [e, tz_yes (by omega) (by omega), Nat.mul_div_cancel_left _ (by omega), ih]; omega
/-- The n-th digit from the end is no nought: there the noughts end. -/
theorem tz_step {a n : Nat} (h : tz a = n + tz (a / 10 ^ n)) (hp : 0 < a / 10 ^ n) (hz : a / 10 ^ n % 10 = 0) : tz a = n + 1 + tz (a / 10 ^ (n + 1)) ∧ 0 < a / 10 ^ (n + 1) := by
  have e : a / 10 ^ (n + 1) = a / 10 ^ n / 10 := by rw [Nat.pow_succ, Nat.div_div_eq_div_mul]
  rw [e, h, tz_yes hp hz]
  generalize a / 10 ^ n = b at *
  exact ⟨by omega, by omega⟩
theorem tz_stop {a n : Nat} (h : tz a = n + tz (a / 10 ^ n)) (hz : a / 10 ^ n % 10 ≠ 0) : tz a = n := by
  rw [h, tz_no hz]; omega
/-- Noughts of a number that is no multiple of the base: those of its last limb. -/
theorem tz_limb {b : Nat} (h : b % 1000000000 ≠ 0) : tz b = tz (b % 1000000000) := by
  suffices H : ∀ k b, b % 10 ^ k ≠ 0 → tz b = tz (b % 10 ^ k) from H 9 b h
  intro k
  induction k with
  | zero => intro b h; exact absurd (Nat.mod_one b) h
  | succ k ih =>
    intro b h
    have hp : 0 < 10 ^ k := Nat.pow_pos (by omega)
    have e1 : b % 10 ^ (k + 1) % 10 = b % 10 := by rw [Nat.pow_succ]; exact Nat.mod_mod_of_dvd _ (Nat.dvd_mul_left _ _)
    have e2 : b % 10 ^ (k + 1) / 10 = b / 10 % 10 ^ k := by
      rw [Nat.pow_succ, Nat.mul_comm (10 ^ k), Nat.mod_mul_right_div_self]
    by_cases hz : b % 10 = 0
    · have h0 : 0 < b % 10 ^ (k + 1) := Nat.pos_of_ne_zero h
      have hb : 0 < b := by rcases Nat.eq_zero_or_pos b with h1 | h1; (· subst h1; simp at h); exact h1
      have hq : b / 10 % 10 ^ k ≠ 0 := by rw [← e2]; omega
      rw [tz_yes hb hz, tz_yes h0 (by omega), e2, ih _ hq]
    · rw [tz_no hz, tz_no (by omega)]

/-- How many digits a number has, told by its last limb. -/
theorem nd_limbs {a n : Nat} (hn : (dg a).length = n + 1) : nd a = 9 * n + nd (gd (dg a) n) ∧ 0 < gd (dg a) n ∧ gd (dg a) n = a / 10 ^ (9 * n) := by
  have e := val_take_drop (dg a) n (by omega)
  have hd : val ((dg a).drop n) = gd (dg a) n := by rw [val_drop, List.drop_of_length_le (by omega)]; simp [val]
  have hlt : val ((dg a).take n) < 1000000000 ^ n := by
    have := val_lt (limbs_take (limbs_dg a) n)
    rwa [List.length_take, Nat.min_eq_left (by omega)] at this
  rw [val_dg, hd] at e
  have hq : a / 1000000000 ^ n = gd (dg a) n := by
    have hp : 0 < 1000000000 ^ n := Nat.pow_pos (by omega)
    generalize val ((dg a).take n) = v at *
    generalize gd (dg a) n = x at *
    generalize 1000000000 ^ n = P at *
    rw [e, Nat.add_mul_div_left _ _ hp, Nat.div_eq_of_lt hlt, Nat.zero_add]
  have h0 : 0 < gd (dg a) n := by
    rcases Nat.eq_zero_or_pos (gd (dg a) n) with h | h
    · have hl := dg_last a
      rw [List.getLast?_eq_getElem?, hn, Nat.add_sub_cancel, gd_of_lt (by omega), h] at hl
      exact absurd rfl hl
    · exact h
  rw [pow9] at hq
  refine ⟨?_, h0, hq.symm⟩
  have := nd_div (9 * n) (a := a) (by omega)
  rw [hq] at this
  omega
theorem dg_rest (a k : Nat) : (dg a).drop k = dg (a / 1000000000 ^ k) := by
  rw [← (val_take_mod a k).2]
  refine (dg_val (limbs_drop (limbs_dg a) k) ?_).symm
  rw [List.getLast?_drop]
  split
  · simp
  · exact dg_last a
/-- A digit of a limb is a digit of the number. -/
theorem limb_digit {a i r : Nat} (hr : r < 9) : gd (dg a) i / 10 ^ r % 10 = a / 10 ^ (9 * i + r) % 10 := by
  have e : gd (dg a) i = a / 10 ^ (9 * i) % 10 ^ 9 := by
    have h1 := val_drop (dg a) i
    rw [(val_take_mod a i).2] at h1
    have hg := gd_lt (limbs_dg a) i
    rw [pow9] at h1
    generalize gd (dg a) i = x at *
    generalize val ((dg a).drop (i + 1)) = y at *
    omega
  rw [e, Nat.pow_add, ← Nat.div_div_eq_div_mul]
  generalize a / 10 ^ (9 * i) = b
  rw [show 9 = r + ((8 - r) + 1) by omega, Nat.pow_add, Nat.mod_mul_right_div_self, Nat.pow_succ]
  exact Nat.mod_mod_of_dvd _ (Nat.dvd_mul_left _ _)

end Go.Proofs.YtjkandnbjbfeiaaDoor.Num
