/- What the proofs of this layer need of the layer Dig, in one text. -/
import Derived.Test.YtafbkoejobkncaaAllMul
import Derived.Test.YtafbkoejobkncaaAllDiv
import Derived.Laws.BytesArg
import Derived.Lib.OthersKept
import Derived.WalkSmall
import Derived.Laws.RangeAny
import Derived.Laws.RangeString
import Derived.Deep.RegionWith
import Derived.IntWalk
import Derived.Test.YtafbkoejobkncaaAllNat

/-
  Mathematics of layer 4: numbers as texts of digits (48 is the sign of nought): texts of k digits, texts without noughts ahead, numbers of texts, noughts at the end.
-/
namespace Go.Proofs.Ytafbkoejobkncaa

/-- The last k digits of a. -/
def pad : Nat → Nat → List Nat
  | 0, _ => []
  | k + 1, a => pad k (a / 10) ++ [48 + a % 10]
/-- The digits of a, without noughts ahead. -/
def txt (a : Nat) : List Nat := if h : a < 10 then [48 + a] else txt (a / 10) ++ [48 + a % 10]
termination_by a
decreasing_by omega
/-- How many digits a has. -/
def nd (a : Nat) : Nat := (txt a).length
/-- The number of a text of digits. -/
def pv (l : List Nat) : Nat := l.foldl (fun v c => 10 * v + (c - 48)) 0
/-- All of them are digits. -/
def digs (l : List Nat) : Prop := ∀ c ∈ l, 48 ≤ c ∧ c ≤ 57
/-- How many noughts stand at the end of a. -/
def tz (a : Nat) : Nat := if h : a = 0 then 0 else if a % 10 = 0 then tz (a / 10) + 1 else 0
termination_by a
decreasing_by omega

theorem txt_lt {a : Nat} (h : a < 10) : txt a = [48 + a] := by rw [txt, dif_pos h]
theorem txt_ge {a : Nat} (h : 10 ≤ a) : txt a = txt (a / 10) ++ [48 + a % 10] := by rw [txt, dif_neg (by omega)]
theorem txt_zero : txt 0 = [48] := txt_lt (by omega)
theorem nd_lt {a : Nat} (h : a < 10) : nd a = 1 := by unfold nd; rw [txt_lt h]; rfl
theorem nd_ge {a : Nat} (h : 10 ≤ a) : nd a = nd (a / 10) + 1 := by unfold nd; rw [txt_ge h, List.length_append]; rfl
theorem nd_pos (a : Nat) : 0 < nd a := by
  rcases Nat.lt_or_ge a 10 with h | h
  · rw [nd_lt h]; omega
  · rw [nd_ge h]; omega
theorem txt_ne (a : Nat) : txt a ≠ [] := fun h => by have := nd_pos a; unfold nd at this; rw [h] at this; simp at this
theorem pad_len (k : Nat) : ∀ a, (pad k a).length = k := by
  induction k with
  | zero => intro a; rfl
  | succ k ih => intro a; rw [pad, List.length_append, ih]; rfl
theorem pad_cons (k : Nat) : ∀ a, pad (k + 1) a = (48 + a / 10 ^ k % 10) :: pad k a := by
  induction k with
  | zero => intro a; simp [pad]
  | succ k ih =>
    intro a
    rw [pad, ih (a / 10), Nat.div_div_eq_div_mul, Nat.mul_comm 10, ← Nat.pow_succ]
    rfl
theorem digs_append {x y : List Nat} : digs (x ++ y) ↔ digs x ∧ digs y := by
  unfold digs
  constructor
  · exact fun h => ⟨fun c hc => h c (List.mem_append_left _ hc), fun c hc => h c (List.mem_append_right _ hc)⟩
  · rintro ⟨h1, h2⟩ c hc
    rcases List.mem_append.1 hc with h | h
    · exact h1 c h
    · exact h2 c h
theorem digs_one {c : Nat} (h : 48 ≤ c ∧ c ≤ 57) : digs [c] := fun x hx => by
  rw [List.mem_singleton] at hx; subst hx; exact h
theorem digs_digit (a : Nat) : digs [48 + a % 10] := digs_one ⟨by omega, by omega⟩
theorem digs_pad (k : Nat) : ∀ a, digs (pad k a) := by
  induction k with
  | zero => intro a c hc; cases hc
  | succ k ih => intro a; exact digs_append.2 ⟨ih _, digs_digit a⟩
theorem digs_txt (a : Nat) : digs (txt a) := by
  induction a using Nat.strongRecOn with
  | _ a ih =>
    rcases Nat.lt_or_ge a 10 with h | h
    · rw [txt_lt h]; exact digs_one ⟨by omega, by omega⟩
    · rw [txt_ge h]; exact digs_append.2 ⟨ih _ (by omega), digs_digit a⟩
theorem digs_zeros (k : Nat) : digs (List.replicate k 48) := fun c hc => by rw [(List.mem_replicate.1 hc).2]; omega

theorem txt_pad (k : Nat) : ∀ {a : Nat}, 10 ^ k ≤ a → a < 10 ^ (k + 1) → txt a = pad (k + 1) a := by
  induction k with
  | zero =>
    intro a h1 h2
    have h2' : a < 10 := by simpa using h2
    rw [txt_lt h2', pad, pad, Nat.mod_eq_of_lt h2']; rfl
  | succ k ih =>
    intro a h1 h2
    have p : 10 ^ (k + 1) = 10 * 10 ^ k := by rw [Nat.pow_succ, Nat.mul_comm]
    have p2 : 10 ^ (k + 1 + 1) = 10 * 10 ^ (k + 1) := by rw [Nat.pow_succ, Nat.mul_comm]
    have hp : 0 < 10 ^ k := Nat.pow_pos (by omega)
    rw [txt_ge (by omega), pad, ih (a := a / 10) (by omega) (by omega)]
/-- The text without the noughts ahead. -/
def lz (l : List Nat) : List Nat := l.dropWhile (fun c => c == 48)
theorem lz_cons_yes (l : List Nat) : lz (48 :: l) = lz l := by simp [lz]
theorem lz_cons_no {c : Nat} (l : List Nat) (h : c ≠ 48) : lz (c :: l) = c :: l := by
  unfold lz; rw [List.dropWhile_cons_of_neg (by simpa using h)]
theorem lz_pad (k : Nat) : ∀ {a : Nat}, a < 10 ^ k → lz (pad k a) = if a = 0 then [] else txt a := by
  induction k with
  | zero =>
    intro a h
    have : a = 0 := by simpa using h
    subst this; rfl
  | succ k ih =>
    intro a h
    rcases Nat.lt_or_ge a (10 ^ k) with h1 | h1
    · rw [pad_cons, Nat.div_eq_of_lt h1]
      show lz (48 :: pad k a) = _
      rw [lz_cons_yes, ih h1]
    · have hp : 0 < 10 ^ k := Nat.pow_pos (by omega)
      have ht := txt_pad k h1 h
      rw [if_neg (by omega), ht, pad_cons]
      refine lz_cons_no _ ?_
      have e1 : 1 ≤ a / 10 ^ k := (Nat.le_div_iff_mul_le hp).2 (by omega)
      have e2 : a / 10 ^ k < 10 := Nat.div_lt_of_lt_mul (by rw [Nat.pow_succ, Nat.mul_comm] at h; omega)
      omega

theorem pv_snoc (l : List Nat) (c : Nat) : pv (l ++ [c]) = 10 * pv l + (c - 48) := by
  unfold pv; rw [List.foldl_append]; rfl
theorem pv_nil : pv [] = 0 := rfl
theorem pv_txt (a : Nat) : pv (txt a) = a := by
  induction a using Nat.strongRecOn with
  | _ a ih =>
    rcases Nat.lt_or_ge a 10 with h | h
    · rw [txt_lt h]
      have := pv_snoc [] (48 + a)
      rw [pv_nil, List.nil_append] at this
      omega
    · rw [txt_ge h, pv_snoc, ih _ (by omega)]; omega
theorem pv_foldl (l : List Nat) : ∀ v, l.foldl (fun v c => 10 * v + (c - 48)) v = 10 ^ l.length * v + pv l := by
  induction l with
  | nil => intro v; simp [pv]
  | cons c l ih =>
    intro v
    have e := ih (10 * 0 + (c - 48))
    have e' : pv (c :: l) = l.foldl (fun v c => 10 * v + (c - 48)) (10 * 0 + (c - 48)) := rfl
    rw [List.foldl_cons, ih, e', e, List.length_cons, Nat.pow_succ]
    generalize 10 ^ l.length = P
    generalize pv l = z
    generalize c - 48 = d
    grind
theorem pv_cons (c : Nat) (l : List Nat) : pv (c :: l) = 10 ^ l.length * (c - 48) + pv l := by
  show l.foldl (fun v c => 10 * v + (c - 48)) (10 * 0 + (c - 48)) = _
  rw [pv_foldl, Nat.mul_zero, Nat.zero_add]
theorem pv_zeros (k : Nat) (l : List Nat) : pv (List.replicate k 48 ++ l) = pv l := by
  induction k with
  | zero => rfl
  | succ k ih => rw [List.replicate_succ, List.cons_append, pv_cons, ih]; simp
theorem pv_tail (l : List Nat) : pv (48 :: l) = pv l := by rw [pv_cons]; simp
theorem pv_lt {l : List Nat} (h : digs l) : pv l < 10 ^ l.length := by
  induction l with
  | nil => simp [pv]
  | cons c l ih =>
    have h1 := h c (List.mem_cons_self ..)
    have h2 := ih (fun x hx => h x (List.mem_cons_of_mem _ hx))
    rw [pv_cons, List.length_cons, Nat.pow_succ]
    have e : 10 ^ l.length * (c - 48) ≤ 10 ^ l.length * 9 := Nat.mul_le_mul_left _ (by omega)
    omega

/-- What was read is told so, if it has no nought ahead. -/
theorem txt_pv (n : Nat) : ∀ (l : List Nat), l.length = n + 1 → digs l → (n = 0 ∨ l.head? ≠ some 48) → txt (pv l) = l := by
  induction n with
  | zero =>
    intro l hl hd _
    match l, hl with
    | [c], _ =>
      have h := hd c (List.mem_cons_self ..)
      have e : pv [c] = c - 48 := by rw [pv_cons]; simp [pv]
      rw [e, txt_lt (by omega)]
      congr 1; omega
  | succ n ih =>
    intro l hl hd hh
    have hne : l ≠ [] := fun h => by rw [h] at hl; simp at hl
    have hs : l = l.dropLast ++ [l.getLast hne] := (List.dropLast_concat_getLast hne).symm
    generalize l.getLast hne = c at hs
    have hl' : l.dropLast.length = n + 1 := by rw [List.length_dropLast]; omega
    generalize l.dropLast = l' at *
    subst hs
    have hd' := digs_append.1 hd
    have hc := hd'.2 c (List.mem_singleton.2 rfl)
    have hhead : l'.head? ≠ some 48 := by
      rcases hh with h | h
      · omega
      · match l', hl' with
        | x :: r, _ => exact h
    have e := ih l' hl' hd'.1 (.inr hhead)
    have hpos : 0 < pv l' := by
      rcases Nat.eq_zero_or_pos (pv l') with h0 | h0
      · rw [h0, txt_zero] at e
        rw [← e] at hhead
        exact absurd rfl hhead
      · exact h0
    rw [pv_snoc, txt_ge (by omega)]
    have e1 : (10 * pv l' + (c - 48)) / 10 = pv l' := by omega
    have e2 : 48 + (10 * pv l' + (c - 48)) % 10 = c := by omega
    rw [e1, e2, e]

theorem take_txt (n : Nat) : ∀ a, n < nd a → (txt a).take (nd a - n) = txt (a / 10 ^ n) := by
  induction n with
  | zero => intro a _; unfold nd; simp
  | succ n ih =>
    intro a h
    have h10 : 10 ≤ a := by
      rcases Nat.lt_or_ge a 10 with h1 | h1
      · rw [nd_lt h1] at h; omega
      · exact h1
    have e := nd_ge h10
    have i := ih (a / 10) (by omega)
    rw [txt_ge h10, e, show nd (a / 10) + 1 - (n + 1) = nd (a / 10) - n by omega, List.take_append_of_le_length (by unfold nd; omega), i, Nat.div_div_eq_div_mul, Nat.mul_comm 10, ← Nat.pow_succ]
theorem nd_le_of_lt {a : Nat} (k : Nat) (h : a < 10 ^ (k + 1)) : nd a ≤ k + 1 := by
  induction k generalizing a with
  | zero => rw [nd_lt (by simpa using h)]; omega
  | succ k ih =>
    rcases Nat.lt_or_ge a 10 with h1 | h1
    · rw [nd_lt h1]; omega
    · rw [nd_ge h1]
      have := ih (a := a / 10) (by rw [Nat.pow_succ] at h; omega)
      omega
theorem lt_pow_nd (a : Nat) : a < 10 ^ nd a := by
  have := pv_lt (digs_txt a)
  rwa [pv_txt] at this
theorem div_ge_nd {a n : Nat} (h : nd a ≤ n) : a / 10 ^ n = 0 := Nat.div_eq_of_lt (Nat.lt_of_lt_of_le (lt_pow_nd a) (Nat.pow_le_pow_right (by omega) h))
/-- The n-th digit from the end. -/
theorem txt_get (n : Nat) : ∀ a, n < nd a → (txt a).getD (nd a - 1 - n) 0 = 48 + a / 10 ^ n % 10 := by
  induction n with
  | zero =>
    intro a _
    rcases Nat.lt_or_ge a 10 with h1 | h1
    · rw [txt_lt h1, nd_lt h1]; simp [Nat.mod_eq_of_lt h1]
    · rw [txt_ge h1, nd_ge h1]; unfold nd; simp
  | succ n ih =>
    intro a h
    have h10 : 10 ≤ a := by
      rcases Nat.lt_or_ge a 10 with h1 | h1
      · rw [nd_lt h1] at h; omega
      · exact h1
    have e := nd_ge h10
    have i := ih (a / 10) (by omega)
    rw [txt_ge h10, e, show nd (a / 10) + 1 - 1 - (n + 1) = nd (a / 10) - 1 - n by omega]
    rw [Nat.div_div_eq_div_mul, Nat.mul_comm 10, ← Nat.pow_succ] at i
    rw [← i, List.getD_eq_getElem?_getD, List.getD_eq_getElem?_getD, List.getElem?_append_left (by unfold nd at *; omega)]

theorem nd_div (k : Nat) : ∀ {a : Nat}, 0 < a / 10 ^ k → nd a = nd (a / 10 ^ k) + k := by
  induction k with
  | zero => intro a _; simp
  | succ k ih =>
    intro a h
    have e : a / 10 ^ (k + 1) = a / 10 / 10 ^ k := by rw [Nat.div_div_eq_div_mul, Nat.mul_comm 10, ← Nat.pow_succ]
    rw [e] at h ⊢
    have h10 : 10 ≤ a := by
      rcases Nat.lt_or_ge a 10 with h1 | h1
      · rw [Nat.div_eq_of_lt h1] at h; simp at h
      · exact h1
    rw [nd_ge h10, ih h]; omega
theorem nd_mul {a : Nat} (h : 0 < a) (n : Nat) : nd (a * 10 ^ n) = nd a + n := by
  have hp : 0 < 10 ^ n := Nat.pow_pos (by omega)
  have e := nd_div n (a := a * 10 ^ n) (by rw [Nat.mul_div_cancel _ hp]; exact h)
  rwa [Nat.mul_div_cancel _ hp] at e

theorem tz_zero : tz 0 = 0 := by rw [tz]; simp
theorem tz_yes {a : Nat} (h0 : 0 < a) (h : a % 10 = 0) : tz a = tz (a / 10) + 1 := by rw [tz, dif_neg (by omega), if_pos h]
theorem tz_no {a : Nat} (h : a % 10 ≠ 0) : tz a = 0 := by rw [tz, dif_neg (by intro e; subst e; exact h rfl), if_neg h]
theorem tz_lt {a : Nat} (h : 0 < a) : tz a < nd a := by
  induction a using Nat.strongRecOn with
  | _ a ih =>
    by_cases h1 : a % 10 = 0
    · rw [tz_yes h h1, nd_ge (by omega)]
      have := ih (a / 10) (by omega) (by omega)
      omega
    · rw [tz_no h1]; exact nd_pos a
theorem tz_mul {a : Nat} (h : 0 < a) (n : Nat) : tz (a * 10 ^ n) = tz a + n := by
  induction n with
  | zero => simp
  | succ n ih =>
    have hp : 0 < 10 ^ n := Nat.pow_pos (by omega)
    have hm : 0 < a * 10 ^ n := Nat.mul_pos h hp
    have e : a * 10 ^ (n + 1) = 10 * (a * 10 ^ n) := by rw [Nat.pow_succ, ← Nat.mul_assoc, Nat.mul_comm]
    rw [e, tz_yes (by omega) (by omega), Nat.mul_div_cancel_left _ (by omega), ih]; omega
/-- The n-th digit from the end is no nought: there the noughts end. -/
theorem tz_step {a n : Nat} (h : tz a = n + tz (a / 10 ^ n)) (hp : 0 < a / 10 ^ n) (hz : a / 10 ^ n % 10 = 0) : tz a = n + 1 + tz (a / 10 ^ (n + 1)) ∧ 0 < a / 10 ^ (n + 1) := by
  have e : a / 10 ^ (n + 1) = a / 10 ^ n / 10 := by rw [Nat.pow_succ, Nat.div_div_eq_div_mul]
  rw [e, h, tz_yes hp hz]
  generalize a / 10 ^ n = b at *
  exact ⟨by omega, by omega⟩
theorem tz_stop {a n : Nat} (h : tz a = n + tz (a / 10 ^ n)) (hz : a / 10 ^ n % 10 ≠ 0) : tz a = n := by
  rw [h, tz_no hz]; omega
/-- Noughts of a number that is no multiple of the base: those of its last limb. -/
theorem tz_limb {b : Nat} (h : b % 1000000000 ≠ 0) : tz b = tz (b % 1000000000) := by
  suffices H : ∀ k b, b % 10 ^ k ≠ 0 → tz b = tz (b % 10 ^ k) from H 9 b h
  intro k
  induction k with
  | zero => intro b h; exact absurd (Nat.mod_one b) h
  | succ k ih =>
    intro b h
    have hp : 0 < 10 ^ k := Nat.pow_pos (by omega)
    have e1 : b % 10 ^ (k + 1) % 10 = b % 10 := by rw [Nat.pow_succ]; exact Nat.mod_mod_of_dvd _ (Nat.dvd_mul_left _ _)
    have e2 : b % 10 ^ (k + 1) / 10 = b / 10 % 10 ^ k := by
      rw [Nat.pow_succ, Nat.mul_comm (10 ^ k), Nat.mod_mul_right_div_self]
    by_cases hz : b % 10 = 0
    · have h0 : 0 < b % 10 ^ (k + 1) := Nat.pos_of_ne_zero h
      have hb : 0 < b := by rcases Nat.eq_zero_or_pos b with h1 | h1; (· subst h1; simp at h); exact h1
      have hq : b / 10 % 10 ^ k ≠ 0 := by rw [← e2]; omega
      rw [tz_yes hb hz, tz_yes h0 (by omega), e2, ih _ hq]
    · rw [tz_no hz, tz_no (by omega)]

/-- How many digits a number has, told by its last limb. -/
theorem nd_limbs {a n : Nat} (hn : (dg a).length = n + 1) : nd a = 9 * n + nd (gd (dg a) n) ∧ 0 < gd (dg a) n ∧ gd (dg a) n = a / 10 ^ (9 * n) := by
  have e := val_take_drop (dg a) n (by omega)
  have hd : val ((dg a).drop n) = gd (dg a) n := by rw [val_drop, List.drop_of_length_le (by omega)]; simp [val]
  have hlt : val ((dg a).take n) < 1000000000 ^ n := by
    have := val_lt (limbs_take (limbs_dg a) n)
    rwa [List.length_take, Nat.min_eq_left (by omega)] at this
  rw [val_dg, hd] at e
  have hq : a / 1000000000 ^ n = gd (dg a) n := by
    have hp : 0 < 1000000000 ^ n := Nat.pow_pos (by omega)
    generalize val ((dg a).take n) = v at *
    generalize gd (dg a) n = x at *
    generalize 1000000000 ^ n = P at *
    rw [e, Nat.add_mul_div_left _ _ hp, Nat.div_eq_of_lt hlt, Nat.zero_add]
  have h0 : 0 < gd (dg a) n := by
    rcases Nat.eq_zero_or_pos (gd (dg a) n) with h | h
    · have hl := dg_last a
      rw [List.getLast?_eq_getElem?, hn, Nat.add_sub_cancel, gd_of_lt (by omega), h] at hl
      exact absurd rfl hl
    · exact h
  rw [pow9] at hq
  refine ⟨?_, h0, hq.symm⟩
  have := nd_div (9 * n) (a := a) (by omega)
  rw [hq] at this
  omega
theorem dg_rest (a k : Nat) : (dg a).drop k = dg (a / 1000000000 ^ k) := by
  rw [← (val_take_mod a k).2]
  refine (dg_val (limbs_drop (limbs_dg a) k) ?_).symm
  rw [List.getLast?_drop]
  split
  · simp
  · exact dg_last a
/-- A digit of a limb is a digit of the number. -/
theorem limb_digit {a i r : Nat} (hr : r < 9) : gd (dg a) i / 10 ^ r % 10 = a / 10 ^ (9 * i + r) % 10 := by
  have e : gd (dg a) i = a / 10 ^ (9 * i) % 10 ^ 9 := by
    have h1 := val_drop (dg a) i
    rw [(val_take_mod a i).2] at h1
    have hg := gd_lt (limbs_dg a) i
    rw [pow9] at h1
    generalize gd (dg a) i = x at *
    generalize val ((dg a).drop (i + 1)) = y at *
    omega
  rw [e, Nat.pow_add, ← Nat.div_div_eq_div_mul]
  generalize a / 10 ^ (9 * i) = b
  rw [show 9 = r + ((8 - r) + 1) by omega, Nat.pow_add, Nat.mod_mul_right_div_self, Nat.pow_succ]
  exact Nat.mod_mod_of_dvd _ (Nat.dvd_mul_left _ _)

end Go.Proofs.Ytafbkoejobkncaa

/-
  Contracts of layer 4, the first part: Count, Noughts, Drop.
-/
namespace Go.Proofs.Ytafbkoejobkncaa
open Go.RowKit

/-- How many digits x has; none, if it is nought. -/
def nd0 (x : Nat) : Nat := if x = 0 then 0 else nd x
theorem nd0_step {x : Nat} (h : 0 < x) : nd0 x = nd0 (x / 10) + 1 := by
  unfold nd0
  rw [if_neg (by omega)]
  rcases Nat.lt_or_ge x 10 with h1 | h1
  · rw [if_pos (by omega), nd_lt h1]
  · rw [if_neg (by omega), nd_ge h1]
theorem nd0_zero : nd0 0 = 0 := rfl
theorem nd0_pos {x : Nat} (h : 0 < x) : nd0 x = nd x := by unfold nd0; rw [if_neg (by omega)]
theorem nd_le_len {a n : Nat} (h : (dg a).length = n) : nd a ≤ 9 * n + 1 := by
  refine nd_le_of_lt (9 * n) (Nat.lt_of_lt_of_le (lt_pow_dg a) ?_)
  rw [h, pow9]
  exact Nat.pow_le_pow_right (by omega) (by omega)

set_option maxHeartbeats 1000000 in
set_option maxRecDepth 100000 in
theorem count_any (A : Option Addr) (n c a B : Nat) (w : World) (h : Num w B A n c a) (hn : n ≤ 1000000) :
    Calls Try.prog 89 #[.slice A n c] w fun e w' => e = .returned (.int .i64 (nd a : Nat)) ∧ w = w' := by
  have hm := h.room
  have hcap := h.cap
  unfold maxLen at hm
  rcases Nat.eq_zero_or_pos n with h0 | h0
  · subst h0
    obtain rfl : a = 0 := dg_eq_nil.1 (List.eq_nil_of_length_eq_zero h.len)
    go_enter Try.func89, Try.ntmps89
    go_wp2
    go_ret
    exact ⟨by rw [nd_lt (by omega)]; rfl, rfl⟩
  · obtain ⟨m, rfl⟩ : ∃ m, n = m + 1 := ⟨n - 1, by omega⟩
    obtain ⟨b, o, rfl, _, hc⟩ := h.at_ (show m < m + 1 by omega)
    have N0 := nd_limbs h.len
    have NE := Lib.hid N0.1
    have NL := nd_le_len h.len
    have hg := gd_lt (limbs_dg a) m
    have hg0 := N0.2.1
    obtain ⟨x, hx⟩ : ∃ x, x = gd (dg a) m := ⟨_, rfl⟩
    rw [← hx] at hc NE hg hg0
    clear hx N0 h
    obtain ⟨T, hT⟩ : ∃ T, T = nd a := ⟨_, rfl⟩
    rw [← hT] at NE NL ⊢
    clear hT
    have e1 : ((m + 1 : Nat) : Int) - 1 = (m : Int) := by omega
    go_enter Try.func89, Try.ntmps89
    go_wp2
    go_loop [4, 5] (fun cv xv => ∃ C y : Nat, cv = .int .i64 C ∧ xv = .int .u32 y ∧ y < 1000000000 ∧ C + nd0 y = T) (fun _ xv => (intOf xv).toNat)
    case atStart => exact ⟨9 * m, x, by go_num, rfl, hg, by rw [nd0_pos hg0]; exact NE.out.symm⟩
    case round =>
      obtain ⟨C, y, rfl, rfl, hy, hC⟩ := hrel
      have HC := Lib.hid hC
      have hCT : C ≤ T := by omega
      clear hC
      rcases Nat.eq_zero_or_pos y with h1 | h1
      · subst h1
        have HE : Hid (C = T) := by have := HC.out; rw [nd0_zero] at this; exact this
        go_wp2
        go_ret
        exact ⟨by rw [HE.out]; rfl, rfl⟩
      · have hs := nd0_step h1
        have HS := Lib.hid hs
        clear hs
        go_wp2
        go_round
        case rel => exact ⟨C + 1, y / 10, by go_num, by go_num, by omega, by have := HC.out; rw [HS.out] at this; omega⟩
        case measure => simp [intOf]; omega

theorem gd_take' {xs : List Nat} {i j : Nat} (h : j < i) : gd (xs.take i) j = gd xs j := by
  unfold gd; rw [List.getD_eq_getElem?_getD, List.getD_eq_getElem?_getD, List.getElem?_take_of_lt h]
theorem tz_start {a i : Nat} (hz : ∀ j, j < i → gd (dg a) j = 0) (hx : gd (dg a) i ≠ 0) : tz a = 9 * i + tz (gd (dg a) i) := by
  have h1 := (val_take_mod a i)
  have h0 : a % 1000000000 ^ i = 0 := by
    rw [← h1.1]
    refine val_of_gd_zero fun j => ?_
    rcases Nat.lt_or_ge j i with hj | hj
    · rw [gd_take' hj, hz j hj]
    · exact gd_of_ge (by rw [List.length_take]; omega)
  have h2 := val_drop (dg a) i
  rw [h1.2] at h2
  have hg := gd_lt (limbs_dg a) i
  have hm : a / 1000000000 ^ i % 1000000000 = gd (dg a) i := by
    generalize gd (dg a) i = x at *
    generalize val ((dg a).drop (i + 1)) = y at *
    omega
  have hb : 0 < a / 1000000000 ^ i := by omega
  have e : a = a / 1000000000 ^ i * 10 ^ (9 * i) := by
    rw [← pow9]
    have := Nat.div_add_mod a (1000000000 ^ i)
    rw [h0, Nat.add_zero, Nat.mul_comm] at this
    exact this.symm
  have e2 := tz_mul hb (9 * i)
  rw [← e] at e2
  rw [e2, tz_limb (b := a / 1000000000 ^ i) (by omega), hm]; omega

set_option maxHeartbeats 1000000 in
set_option maxRecDepth 100000 in
theorem noughts_any (A : Option Addr) (n c a B : Nat) (w : World) (h : Num w B A n c a) (hn : n ≤ 1000000) :
    Calls Try.prog 36 #[.slice A n c] w fun e w' => e = .returned (.int .i64 (tz a : Nat)) ∧ w = w' := by
  have hm := h.room
  have hcap := h.cap
  unfold maxLen at hm
  have H := Lib.hid h
  have NL : tz a ≤ 9000001 := by
    rcases Nat.eq_zero_or_pos a with h0 | h0
    · subst h0; rw [tz_zero]; omega
    · have := tz_lt h0
      have := nd_le_len h.len
      omega
  clear h
  go_enter Try.func36, Try.ntmps36
  go_wp2
  go_loop [8] (fun iv => ∃ i : Nat, i ≤ n ∧ iv = .int .i64 i ∧ ∀ j, j < i → gd (dg a) j = 0) (fun iv => n - (intOf iv).toNat)
  case atStart => exact ⟨0, Nat.zero_le _, rfl, fun j hj => absurd hj (by omega)⟩
  case round =>
    obtain ⟨i, hi, rfl, hz⟩ := hrel
    have HZ := Lib.hid hz
    clear hz
    rcases Nat.lt_or_ge i n with hlt | hge
    · obtain ⟨b, o, rfl, _, hc⟩ := H.out.at_ hlt
      have hg := gd_lt (limbs_dg a) i
      obtain ⟨x, hx⟩ : ∃ x, x = gd (dg a) i := ⟨_, rfl⟩
      have HX := Lib.hid hx
      rw [← hx] at hc hg
      clear hx
      rcases Nat.eq_zero_or_pos x with h0 | h0
      · subst h0
        go_wp2
        go_round
        case rel => exact ⟨i + 1, by omega, by go_num, fun j hj => by rcases Nat.lt_or_ge j i with h | h; (· exact HZ.out j h); (· obtain rfl : j = i := (by omega); exact HX.out.symm)⟩
        case measure => simp [intOf]; omega
      · have hne : ((x : Int) == 0) = false := by simp; omega
        have hT := tz_start HZ.out (by rw [← HX.out]; omega)
        rw [← HX.out] at hT
        have HT := Lib.hid hT
        have hb : 9 * i ≤ tz a := by omega
        clear hT
        go_wp2
        go_loop [4, 5] (fun xv cv => ∃ C y : Nat, cv = .int .i64 C ∧ xv = .int .u32 y ∧ 0 < y ∧ y < 1000000000 ∧ tz a = C + tz y) (fun xv _ => (intOf xv).toNat)
        case atStart => exact ⟨9 * i, x, by go_num, rfl, h0, hg, HT.out⟩
        case round =>
          obtain ⟨C, y, rfl, rfl, hy0, hy, hC⟩ := hrel
          have HC := Lib.hid hC
          have hCT : C ≤ tz a := by omega
          clear hC
          by_cases hr : y % 10 = 0
          · have HS := Lib.hid (tz_yes hy0 hr)
            have hr' : (y : Int) % 10 = 0 := by omega
            clear hr
            go_wp2
            go_round
            case rel => exact ⟨C + 1, y / 10, by go_num, by go_num, by omega, by omega, by have := HC.out; rw [HS.out] at this; omega⟩
            case measure => simp [intOf]; omega
          · have HS := Lib.hid (tz_no hr)
            have hr' : (((y : Int) % 10) == 0) = false := by simp; omega
            have HE : Hid (C = tz a) := by have := HC.out; rw [HS.out] at this; exact this.symm
            clear hr
            go_wp2
            go_ret
            exact ⟨by rw [HE.out]; rfl, rfl⟩
    · have HE : Hid (tz a = 0) := by
        have : a = 0 := by
          rw [← val_dg a]
          refine val_of_gd_zero fun j => ?_
          rcases Nat.lt_or_ge j i with hj | hj
          · exact HZ.out j hj
          · exact gd_of_ge (by rw [H.out.len]; omega)
        show _ = _
        rw [this, tz_zero]
      go_wp2
      go_ret
      exact ⟨by rw [HE.out]; rfl, rfl⟩

theorem drop_neg (A : Option Addr) (n c : Nat) (k : Int) (w : World) (hk : k < 0) :
    Calls Try.prog 65 #[.slice A n c, .int .i64 k] w (RetVal w (.tuple #[.slice none 0 0, .int .i64 1])) := by
  go_enter Try.func65, Try.ntmps65
  go_wp2
  go_ret2
  exact ⟨rfl, Below.refl _ _⟩

set_option maxHeartbeats 1000000 in
set_option maxRecDepth 100000 in
theorem drop_any (A : Option Addr) (n c a k : Nat) (w : World) (h : Num w w.heap.size A n c a) (hn : n ≤ 1000000) (hk : k ≤ 9223372036854775807) :
    Calls Try.prog 65 #[.slice A n c, .int .i64 k] w (RetSub w (a / 10 ^ k)) := by
  have hm := h.room
  have hcap := h.cap
  unfold maxLen at hm
  obtain ⟨q, hq⟩ : ∃ q, q = k / 9 := ⟨_, rfl⟩
  obtain ⟨r, hr⟩ : ∃ r, r = k % 9 := ⟨_, rfl⟩
  have e1 : (k : Int) / 9 = (q : Int) := by omega
  have e2 : (k : Int) % 9 = (r : Int) := by omega
  have hr9 : r < 9 := by omega
  have EK : Hid (k = 9 * q + r) := by show _ = _; omega
  clear hq hr
  rcases Nat.lt_or_ge q n with hlt | hge
  · obtain ⟨b, o, rfl, hb, _⟩ := h.at_ hlt
    have HD := Lib.hid (h.rest (Nat.le_of_lt hlt) (some ⟨b, o + q, none⟩) (fun _ => rfl) (fun h => by cases h))
    have HK : Hid (a / 1000000000 ^ q / 10 ^ r = a / 10 ^ k) := by
      show _ = _
      rw [EK.out, pow9, Nat.div_div_eq_div_mul, ← Nat.pow_add]
    have HN : Hid (Num w w.heap.size (some ⟨b, o + q, none⟩) (n - q) (c - q) (a / 1000000000 ^ q)) := by
      have := HD.out
      rw [dg_rest] at this
      exact this
    clear h HD EK
    go_enter Try.func65, Try.ntmps65
    go_wp2
    go_loop [7, 21] (fun tv iv => ∃ j : Nat, j ≤ r ∧ iv = .int .i64 j ∧ tv = .int .u32 (10 ^ j : Nat)) (fun _ iv => r - (intOf iv).toNat)
    case atStart => exact ⟨0, Nat.zero_le _, rfl, rfl⟩
    case round =>
      obtain ⟨j, hj, rfl, rfl⟩ := hrel
      have hp := ten_le (show j ≤ 8 by omega)
      have hp0 : 0 < 10 ^ j := Nat.pow_pos (by omega)
      obtain ⟨P, hP⟩ : ∃ P, P = 10 ^ j := ⟨_, rfl⟩
      rw [← hP] at hp hp0 ⊢
      have HP := Lib.hid hP
      clear hP
      rcases Nat.lt_or_ge j r with h1 | h1
      · go_wp2
        go_round
        case rel => exact ⟨j + 1, by omega, by go_num, by rw [Nat.pow_succ, ← HP.out]; go_num⟩
        case measure => simp [intOf]; omega
      · obtain rfl : j = r := by omega
        go_wp2_with fail
        refine (dsmall_is (q := a / 10 ^ k) (r := a / 1000000000 ^ q % P) HN.out (by omega) hp0 (by omega) rfl (by rw [HP.out]; exact HK.out) rfl).mono ?_; rintro e w2 ⟨A2, n2, c2, rfl, h2, hb2⟩
        have H2 := Lib.hid h2
        have HB2 := Lib.hid hb2
        clear h2 hb2
        go_wp2_with fail
        go_ret2
        exact ⟨_, _, _, rfl, H2.out, HB2.out⟩
  · have HZ : Hid (a / 10 ^ k = 0) := by
      show _ = _
      refine Nat.div_eq_of_lt (Nat.lt_of_lt_of_le (lt_pow_dg a) ?_)
      rw [h.len, pow9]
      exact Nat.pow_le_pow_right (by omega) (by have := EK.out; omega)
    clear h EK
    go_enter Try.func65, Try.ntmps65
    go_wp2
    go_ret2
    exact ⟨none, 0, 0, rfl, by rw [Num, HZ.out, dg_zero]; exact Lim.nil, Below.refl _ _⟩

end Go.Proofs.Ytafbkoejobkncaa

/-
  Contracts of layer 4, the second part: rows of bytes; trimLeftByte, TrimLeft of noughts; Text.
-/
namespace Go.Proofs.Ytafbkoejobkncaa
open Go.RowKit

/-- Bytes as they lie in cells. -/
def bvals (ys : List Nat) : List Value := ys.map (fun (y : Nat) => Value.int .u8 (y : Int))
theorem bvals_len (ys : List Nat) : (bvals ys).length = ys.length := by simp [bvals]
theorem bvals_get {ys : List Nat} {j : Nat} (h : j < ys.length) : (bvals ys)[j]? = some (.int .u8 (gd ys j : Nat)) := by
  unfold bvals; rw [List.getElem?_map, gd_of_lt h]; rfl
theorem bvals_set (ys : List Nat) (i x : Nat) : bvals (ys.set i x) = (bvals ys).set i (.int .u8 (x : Int)) := by simp [bvals, List.map_set]
/-- A text as Go has it. -/
def str (l : List Nat) : ByteArray := ⟨(l.map UInt8.ofNat).toArray⟩
theorem strOfNums_str (l : List Nat) : strOfNums (l.map fun (y : Nat) => (y : Int)) = str l := by
  unfold strOfNums str
  rw [List.map_map]
  congr 2

/-- The slice at A of n elements and capacity c reads as the bytes ys. -/
structure Byt (w : World) (B : Nat) (A : Option Addr) (n c : Nat) (ys : List Nat) : Prop where
  len : ys.length = n
  cap : n ≤ c
  room : c ≤ maxLen
  row : Row w B A (bvals ys)
  addr : A = none → c = 0
theorem Byt.nil {w : World} {B : Nat} : Byt w B none 0 0 [] := ⟨rfl, Nat.le_refl _, by simp [maxLen], .inl rfl, fun _ => rfl⟩
theorem Byt.below {w w' : World} {B n c : Nat} {A : Option Addr} {ys : List Nat} (h : Byt w B A n c ys) (hb : Below B w w') : Byt w' B A n c ys := ⟨h.len, h.cap, h.room, h.row.keep fun _ hp => hb.cell hp, h.addr⟩
theorem Byt.more {w : World} {B B' n c : Nat} {A : Option Addr} {ys : List Nat} (h : Byt w B A n c ys) (hB : B ≤ B') : Byt w B' A n c ys := ⟨h.len, h.cap, h.room, h.row.more hB, h.addr⟩
theorem Byt.at_ {w : World} {B n c : Nat} {A : Option Addr} {ys : List Nat} (h : Byt w B A n c ys) (hk : 0 < n) : ∃ b o, A = some ⟨b, o, none⟩ ∧ b < B ∧ ∀ j, j < n → w.cell? ⟨b, o + j, none⟩ = some (.int .u8 (gd ys j : Nat)) := by
  rcases h.row with h0 | ⟨b, o, rfl, hb, hc⟩
  · have := congrArg List.length h0
    rw [bvals_len, h.len] at this
    simp at this; omega
  · exact ⟨b, o, rfl, hb, fun j hj => hc j _ (bvals_get (by rw [h.len]; exact hj))⟩
/-- Without the first. -/
theorem Byt.tail {w : World} {B n c b o y : Nat} {ys : List Nat} (h : Byt w B (some ⟨b, o, none⟩) (n + 1) c (y :: ys)) (A : Option Addr) (hA : 0 < n → A = some ⟨b, o + 1, none⟩) (hA' : A = none → c - 1 = 0) : Byt w B A n (c - 1) ys := by
  have hl := h.len
  rw [List.length_cons] at hl
  refine ⟨by omega, by have := h.cap; omega, by have := h.room; omega, ?_, hA'⟩
  rcases Nat.eq_zero_or_pos n with h0 | h0
  · left
    rw [List.eq_nil_of_length_eq_zero (show ys.length = 0 by omega)]; rfl
  · obtain rfl := hA h0
    rcases h.row with h1 | ⟨b', o', he, hb, hc⟩
    · simp [bvals] at h1
    · injection he with he; injection he with h2 h3
      subst h2; subst h3
      refine .inr ⟨b, o + 1, rfl, hb, fun j u hu => ?_⟩
      have := hc (j + 1) u (by simpa [bvals] using hu)
      rwa [← Nat.add_assoc, Nat.add_right_comm] at this

theorem lz_nil : lz [] = [] := rfl

end Go.Proofs.Ytafbkoejobkncaa

/-
  Contracts of layer 4, the third part: TrimLeft of noughts; Text.
-/
namespace Go.Proofs.Ytafbkoejobkncaa
open Go.RowKit

/-- Block g is just the bytes ys. -/
def OwnB (w : World) (g : Nat) (ys : List Nat) : Prop := w.heap[g]? = some (.cells (bvals ys).toArray 5 (0, 0))
theorem OwnB.frozen {w : World} {g : Nat} {ys : List Nat} (h : OwnB w g ys) (i : Nat) : w.frozen? ⟨g, i, none⟩ = false := frozen_of_row w g i _ _ h
theorem OwnB.cell {w : World} {g : Nat} {ys : List Nat} (h : OwnB w g ys) {i : Nat} (hi : i < ys.length) : w.cell? ⟨g, i, none⟩ = some (.int .u8 (gd ys i : Nat)) := by
  rw [cell_of_row w g i _ _ (0, 0) h]
  simpa using bvals_get hi
theorem OwnB.store {w : World} {g : Nat} {ys : List Nat} (h : OwnB w g ys) (i : Nat) (x : Nat) (v : Int) (hv : v = x) : OwnB (w.setCell ⟨g, i, none⟩ (.int .u8 v)) g (ys.set i x) := by
  subst hv
  unfold OwnB at h ⊢
  rw [heap_setCell_same w g i _ _ _ h, bvals_set]
  simp
theorem OwnB.lt {w : World} {g : Nat} {ys : List Nat} (h : OwnB w g ys) : g < w.heap.size := by
  rcases Nat.lt_or_ge g w.heap.size with hlt | hge
  · exact hlt
  · unfold OwnB at h; rw [Array.getElem?_eq_none hge] at h; cases h
theorem OwnB.byt {w : World} {g n : Nat} {ys : List Nat} (h : OwnB w g ys) (hn : ys.length = n) (hl : n ≤ 1000000000000) : Byt w w.heap.size (some ⟨g, 0, none⟩) n n ys := by
  subst hn
  refine ⟨rfl, Nat.le_refl _, by unfold maxLen; omega, .inr ⟨g, 0, rfl, h.lt, fun j u hu => ?_⟩, fun h => by cases h⟩
  rw [cell_of_row w g (0 + j) _ _ (0, 0) h, Nat.zero_add]
  simpa using hu
theorem OwnB.of_made {w : World} {base n : Nat} (h : w.ownsRow base 5 1 (.slice (some ⟨base, 0, none⟩) n n) n (madeCells (Value.int .u8 0).cells (n * 1)).toList) : OwnB w base (List.replicate n 0) := by
  have e : (madeCells (Value.int .u8 0).cells (n * 1)).toList = bvals (List.replicate n 0) := by
    rw [Nat.mul_one]
    show (madeCells #[Value.int .u8 0] n).toList = _
    rw [toList_madeCells_one]
    simp [bvals]
  rw [e] at h
  rcases h.2 with ⟨h1, _⟩ | ⟨g, cap, cur, hv, _, hh, _, _, hsz, htk⟩
  · cases h1
  · injection hv with h1 h2 h3
    injection h1 with h1
    injection h1 with h1
    subst h1; subst h3
    unfold OwnB
    rw [hh, ← htk, List.take_of_length_le (by simp; omega)]

theorem info_byte : (Try.prog.info? 5).map (fun i => (i.zero, i.size, i.bytes)) = some (some (.int .u8 0), 1, 1) := by kernel_rfl

theorem text_set {t k d a n : Nat} (h : t = n + 1) (hd : d = 48 + a / 10 ^ k % 10) : (List.replicate t 0 ++ pad k a).set n d = List.replicate n 0 ++ pad (k + 1) a := by
  subst h; subst hd
  rw [pad_cons, List.set_append_left _ _ (by simp), List.replicate_succ', List.set_append_right _ _ (by simp)]
  simp
theorem text_end {n a : Nat} (h : (dg a).length = n) : lz (pad (9 * n) a) = if a = 0 then [] else txt a := by
  refine lz_pad _ ?_
  have := lt_pow_dg a
  rwa [h, pow9] at this
theorem text_conv {w : World} {B n c : Nat} {A : Option Addr} {a : Nat} (h : Byt w B A n c (txt a)) (dst : TypeId) (hd : Try.prog.underlying dst = some .string) : (convert 82 dst (.slice A n c)).run Try.prog w = .ok (.string (str (txt a))) w := by
  have hn : 0 < n := by rw [← h.len]; exact nd_pos a
  obtain ⟨b, o, rfl, _, hc⟩ := h.at_ hn
  rw [run_convert_bytes_arg w 82 5 Try.underlying82 Try.underlying5 b o n c ((txt a).map fun (y : Nat) => (y : Int)) (by rw [List.length_map]; exact h.len) (fun i hi => ?_) dst hd, strOfNums_str]
  rw [hc i hi]
  unfold gd
  rw [List.getD_eq_getElem?_getD, List.getD_eq_getElem?_getD, List.getElem?_map, List.getElem?_eq_getElem (by rw [h.len]; exact hi)]
  rfl

end Go.Proofs.Ytafbkoejobkncaa

/-
  Contracts of layer 4, the fourth part: Parse.
-/
namespace Go.Proofs.Ytafbkoejobkncaa
open Go.RowKit

/-- How limbs stand while a text is read into them: q digits are still to come; N is the number of those that came. -/
def PS (q N : Nat) (xs : List Nat) : Prop :=
  (q = 0 ∧ limbs xs ∧ val xs = N) ∨ ∃ (j t y : Nat) (hi : List Nat), q = 9 * j + t ∧ 1 ≤ t ∧ t ≤ 9 ∧ xs = List.replicate j 0 ++ y :: hi ∧ limbs hi ∧ y < 10 ^ (9 - t) ∧ N = y + 10 ^ (9 - t) * val hi
theorem PS.start {q k : Nat} (hq : 0 < q) (hk : k = (q + 8) / 9) : PS q 0 (List.replicate k 0) := by
  refine .inr ⟨(q - 1) / 9, q - 9 * ((q - 1) / 9), 0, [], by omega, by omega, by omega, ?_, limbs_nil, Nat.pow_pos (by omega), by simp [val]⟩
  rw [show k = (q - 1) / 9 + 1 by omega, List.replicate_succ']
theorem PS.fin {N : Nat} {xs : List Nat} (h : PS 0 N xs) : limbs xs ∧ val xs = N := by
  rcases h with ⟨_, h1, h2⟩ | ⟨j, t, y, hi, h1, h2, _⟩
  · exact ⟨h1, h2⟩
  · omega
theorem PS.gd_lt {q N : Nat} {xs : List Nat} (h : PS (q + 1) N xs) : q / 9 < xs.length ∧ gd xs (q / 9) < 100000000 := by
  rcases h with ⟨h1, _⟩ | ⟨j, t, y, hi, h1, h2, h3, rfl, h5, h6, h7⟩
  · omega
  · obtain rfl : j = q / 9 := by omega
    refine ⟨by simp, ?_⟩
    rw [gd_append, List.length_replicate, if_neg (by omega), Nat.sub_self, gd_cons_zero]
    have : 10 ^ (9 - t) ≤ 10 ^ 8 := Nat.pow_le_pow_right (by omega) (by omega)
    omega
theorem PS.step {q N d : Nat} {xs : List Nat} (h : PS (q + 1) N xs) (hd : d ≤ 9) : PS q (10 * N + d) (xs.set (q / 9) (gd xs (q / 9) * 10 + d)) := by
  rcases h with ⟨h1, _⟩ | ⟨j, t, y, hi, h1, h2, h3, rfl, h5, h6, h7⟩
  · omega
  · obtain rfl : j = q / 9 := by omega
    have hg : gd (List.replicate (q / 9) 0 ++ y :: hi) (q / 9) = y := by rw [gd_append, List.length_replicate, if_neg (by omega), Nat.sub_self, gd_cons_zero]
    have hs : (List.replicate (q / 9) 0 ++ y :: hi).set (q / 9) (y * 10 + d) = List.replicate (q / 9) 0 ++ (y * 10 + d) :: hi := by
      rw [List.set_append_right _ _ (by simp)]; simp
    rw [hg, hs]
    rcases Nat.lt_or_ge 1 t with ht | ht
    · refine .inr ⟨q / 9, t - 1, y * 10 + d, hi, by omega, by omega, by omega, rfl, h5, ?_, ?_⟩
      · rw [show 9 - (t - 1) = 9 - t + 1 by omega, Nat.pow_succ]; omega
      · rw [show 9 - (t - 1) = 9 - t + 1 by omega, Nat.pow_succ, h7]
        generalize 10 ^ (9 - t) = P
        generalize val hi = v
        grind
    · obtain rfl : t = 1 := by omega
      have hy : y < 100000000 := h6
      have hv : 10 * N + d = val ((y * 10 + d) :: hi) := by
        rw [val, h7]
        show 10 * (y + 100000000 * val hi) + d = _
        omega
      have hl : limbs ((y * 10 + d) :: hi) := limbs_cons.2 ⟨by omega, h5⟩
      rcases Nat.eq_zero_or_pos (q / 9) with h0 | h0
      · refine .inl ⟨by omega, ?_, ?_⟩
        · rw [h0]; exact hl
        · rw [h0, hv]; rfl
      · refine .inr ⟨q / 9 - 1, 9, 0, (y * 10 + d) :: hi, by omega, by omega, by omega, ?_, hl, by simp, by rw [hv]; simp⟩
        rw [show q / 9 = q / 9 - 1 + 1 by omega, List.replicate_succ']
        simp

/-- The bytes of a text. -/
def codes (s : ByteArray) : List Nat := s.data.toList.map UInt8.toNat
theorem codes_len (s : ByteArray) : (codes s).length = s.size := by
  show (s.data.toList.map _).length = s.data.size
  rw [List.length_map, Array.length_toList]
theorem codes_get (s : ByteArray) (i : Nat) (h : i < s.size) : gd (codes s) i = (s[i]'h).toNat := by
  have h' : i < s.data.toList.length := by rw [Array.length_toList]; exact h
  unfold gd codes
  rw [List.getD_eq_getElem?_getD, List.getElem?_map, List.getElem?_eq_getElem h']
  rfl
theorem codes_take (s : ByteArray) (i : Nat) (h : i < s.size) : (codes s).take (i + 1) = (codes s).take i ++ [(s[i]'h).toNat] := by
  rw [← codes_get s i h, List.take_add_one, gd_of_lt (by rw [codes_len]; exact h)]; rfl
theorem str_codes (s : ByteArray) : str (codes s) = s := by
  unfold str codes
  rw [List.map_map]
  have e : (UInt8.ofNat ∘ UInt8.toNat) = id := by funext x; simp
  rw [e, List.map_id]
theorem codes_str {l : List Nat} (h : ∀ c ∈ l, c < 256) : codes (str l) = l := by
  unfold str codes
  rw [List.map_map]
  show List.map _ l = l
  conv => rhs; rw [← List.map_id l]
  refine List.map_congr_left fun c hc => ?_
  simp
  have := h c hc
  omega
theorem not_digs {s : ByteArray} {i : Nat} (h : i < s.size) (hc : (s[i]'h).toNat < 48 ∨ 57 < (s[i]'h).toNat) : ¬ digs (codes s) := fun hd => by
  have := hd (s[i]'h).toNat (by
    unfold codes
    refine List.mem_map.2 ⟨s[i]'h, ?_, rfl⟩
    exact Array.mem_toList_iff.2 (Array.getElem_mem (xs := s.data) h))
  omega

/-- What comes back of a text that is read. -/
def RetParse (W : World) (l : List Nat) (e : Ending) (w' : World) : Prop :=
  (digs l ∧ RetSub W (pv l) e w') ∨ (¬ digs l ∧ RetVal W (.tuple #[.slice none 0 0, .int .i64 3]) e w')

theorem str_ne {s : ByteArray} (h : 0 < s.size) : (s.toList == (ByteArray.mk #[]).toList) = false ∧ (s.toList == []) = false ∧ s.toList.isEmpty = false ∧ ¬ s.toList = [] := by
  have hl : s.toList.length = s.size := by rw [ByteArray.toList_eq, Array.length_toList]; rfl
  have hne : s.toList ≠ [] := fun h => by rw [h] at hl; simp at hl; omega
  have he : (ByteArray.mk #[]).toList = [] := by rw [ByteArray.toList_eq]
  rw [he]
  refine ⟨by simpa using hne, by simpa using hne, by simpa using hne, hne⟩

/-- The next sign of a text: a byte below 128, or a sign of 128 at least. -/
theorem next_sign (s : ByteArray) (pos : Nat) (h : pos < s.size) : (Utf8.decode s pos).1 ≤ 2147483647 ∧ (((s[pos]'h).toNat < 128 ∧ (Utf8.decode s pos).1 = (s[pos]'h).toNat ∧ (Utf8.decode s pos).2 = 1) ∨ (128 ≤ (s[pos]'h).toNat ∧ 128 ≤ (Utf8.decode s pos).1)) := by
  refine ⟨decode_le s pos, ?_⟩
  rcases Nat.lt_or_ge (s[pos]'h).toNat 128 with h1 | h1
  · rw [decode_ascii s pos h h1]; exact .inl ⟨h1, rfl, rfl⟩
  · exact .inr ⟨h1, (decode_high s pos h h1).1⟩

end Go.Proofs.Ytafbkoejobkncaa

/-
  Contracts of layer 4, the fifth part: the document's Text, Count, Noughts.
-/
namespace Go.Proofs.Ytafbkoejobkncaa
open Go.RowKit

theorem str_size (l : List Nat) : (str l).size = l.length := by
  show (l.map UInt8.ofNat).toArray.size = _
  simp
theorem str_append (x y : List Nat) : str x ++ str y = str (x ++ y) := by
  unfold str
  rw [ByteArray.mk_append_mk, List.map_append]
theorem str_add (x y : List Nat) (h : x.length + y.length ≤ 9223372036854775807) (w : World) : (Op.stringOp .add (str x) (str y)).run Try.prog w = .ok (.string (str (x ++ y))) w := by
  rw [run_string_add_sum w _ _ (by rw [str_size, str_size]; omega), str_append]
theorem byt_conv {w : World} {B n c : Nat} {A : Option Addr} {ys : List Nat} (h : Byt w B A n c ys) (hn : 0 < n) (dst : TypeId) (hd : Try.prog.underlying dst = some .string) : (convert 82 dst (.slice A n c)).run Try.prog w = .ok (.string (str ys)) w := by
  obtain ⟨b, o, rfl, _, hc⟩ := h.at_ hn
  rw [run_convert_bytes_arg w 82 5 Try.underlying82 Try.underlying5 b o n c (ys.map fun (y : Nat) => (y : Int)) (by rw [List.length_map]; exact h.len) (fun i hi => ?_) dst hd, strOfNums_str]
  rw [hc i hi]
  unfold gd
  rw [List.getD_eq_getElem?_getD, List.getD_eq_getElem?_getD, List.getElem?_map, List.getElem?_eq_getElem (by rw [h.len]; exact hi)]
  rfl
theorem byt_one (w : World) (y : Nat) (v : Int) (hv : v = y) : Byt (w.alloc (.cells #[.int .u8 v] 5)) (w.heap.size + 1) (some ⟨w.heap.size, 0, none⟩) 1 1 [y] := by
  subst hv
  refine ⟨rfl, Nat.le_refl _, by unfold maxLen; omega, .inr ⟨w.heap.size, 0, rfl, by omega, fun j u hu => ?_⟩, fun h => by cases h⟩
  rw [cell_of_row _ w.heap.size _ _ 5 (0, 0) (heap_alloc_new w _), ← Array.getElem?_toList, Nat.zero_add]
  exact hu

set_option maxHeartbeats 2000000 in
set_option maxRecDepth 100000 in
theorem refText_any (k : Nat) : ∀ (A : Option Addr) (n c a : Nat) (w : World), Num w w.heap.size A n c a → n ≤ 10000 → Hid (nd a ≤ k) →
    Calls Try.prog 84 #[.slice A n c] w (RetVal w (.string (str (txt a)))) := by
  induction k with
  | zero => intro A n c a w _ _ hk; exact absurd hk.out (by have := nd_pos a; omega)
  | succ k ih =>
    intro A n c a w h hn hk
    have IH := Lib.hid ih
    have H := Lib.hid h
    have HN := nd_le_len h.len
    clear ih h
    go_enter Try.func84, Try.ntmps84
    go_wp2_with fail
    refine (rsmall_is (N := 10) (q := a / 10) (r := a % 10) H.out (by omega) (by omega) (by omega) rfl rfl rfl).mono ?_; rintro e w1 ⟨A1, n1, c1, rfl, h1, hb1⟩
    have H1 := Lib.hid h1
    have HB1 := Lib.hid hb1
    have hr : a % 10 < 10 := Nat.mod_lt _ (by omega)
    have hn1 : n1 ≤ n := by rw [← h1.len, ← H.out.len]; exact dg_len_mono (Nat.div_le_self _ _)
    have hl1 := Lib.hid h1.len
    obtain ⟨r, hrr⟩ : ∃ r, r = a % 10 := ⟨_, rfl⟩
    have HR := Lib.hid hrr
    rw [← hrr] at hr ⊢
    clear h1 hb1 hrr
    have hcv := byt_conv (byt_one w1 (48 + r) (48 + (r : Int)) (by omega)) (by omega)
    have HB2 : Hid (Below w.heap.size w (w1.alloc (.cells #[.int .u8 (48 + (r : Int))] 5))) := HB1.out.alloc HB1.out.size _
    rcases Nat.lt_or_ge a 10 with h10 | h10
    · obtain rfl : n1 = 0 := by
        rw [← hl1.out, show a / 10 = 0 by omega, dg_zero]; rfl
      have HE : Hid (txt a = [48 + r]) := by show _ = _; rw [txt_lt h10, HR.out, Nat.mod_eq_of_lt h10]
      clear hl1
      go_wp2_with fail
      go_ret
      exact ⟨by rw [HE.out]; rfl, HB2.out⟩
    · have hn0 : 0 < n1 := by
        have := dg_len_pos hl1.out (by omega); exact this
      have hne : ((n1 : Int) == 0) = false := by simp; omega
      have HE : Hid (txt a = txt (a / 10) ++ [48 + r]) := by show _ = _; rw [txt_ge h10, HR.out]
      have HL : (txt (a / 10)).length ≤ 1000000 := by
        have := nd_ge h10
        have e : (txt (a / 10)).length = nd (a / 10) := rfl
        omega
      have hadd := str_add (txt (a / 10)) [48 + r] (by simp; omega)
      have HC := Lib.hid (IH.out A1 n1 c1 (a / 10) (w1.alloc (.cells #[.int .u8 (48 + (r : Int))] 5)) (((H1.out.step (Nat.le_refl _) ((Below.refl _ _).alloc (Nat.le_refl _) _))).more (by simp)) (by omega) (by have := nd_ge h10; have := hk.out; show _ ≤ _; omega))
      clear hl1 HL
      go_wp2_with fail
      refine HC.out.mono ?_; rintro e w3 ⟨rfl, hb3⟩
      have HB3 := Lib.hid (HB2.out.trans (hb3.mono HB2.out.size))
      clear hb3 HC
      go_wp2_with fail
      go_ret
      exact ⟨by rw [HE.out]; rfl, HB3.out⟩

theorem refText_is {A : Option Addr} {n c a : Nat} {w : World} {l : List Nat} (h : Num w w.heap.size A n c a) (hn : n ≤ 10000) (hl : txt a = l) :
    Calls Try.prog 84 #[.slice A n c] w (RetVal w (.string (str l))) := by
  subst hl; exact refText_any (nd a) A n c a w h hn (Nat.le_refl _)

theorem str_get {l : List Nat} (h : ∀ c ∈ l, c < 256) (i : Nat) (hi : i < (str l).size) : ((str l)[i]'hi).toNat = gd l i := by
  rw [← codes_get, codes_str h]
theorem digs_lt {l : List Nat} (h : digs l) : ∀ c ∈ l, c < 256 := fun c hc => by have := h c hc; omega

set_option maxHeartbeats 2000000 in
set_option maxRecDepth 100000 in
theorem refNoughts_any (A : Option Addr) (n c a : Nat) (w : World) (h : Num w w.heap.size A n c a) (hn : n ≤ 10000) :
    Calls Try.prog 66 #[.slice A n c] w (RetVal w (.int .i64 (tz a : Nat))) := by
  rcases Nat.eq_zero_or_pos a with h0 | h0
  · subst h0
    obtain rfl : n = 0 := by rw [← h.len, dg_zero]; rfl
    have HE := Lib.hid tz_zero
    clear h
    go_enter Try.func66, Try.ntmps66
    go_wp2_with fail
    go_ret
    exact ⟨by rw [HE.out]; rfl, Below.refl _ _⟩
  · have hn0 : 0 < n := dg_len_pos h.len h0
    have hne : ((n : Int) == 0) = false := by simp; omega
    have C := Lib.hid (refText_is h hn rfl)
    obtain ⟨s, hs⟩ : ∃ s, s = str (txt a) := ⟨_, rfl⟩
    have HS : s.size = nd a := by rw [hs]; exact str_size _
    have HG : Hid (∀ j, j < nd a → ∀ hi : nd a - 1 - j < s.size, (s[nd a - 1 - j]'hi).toNat = 48 + a / 10 ^ j % 10) := by
      intro j hj hi
      subst hs
      rw [str_get (digs_lt (digs_txt a))]
      exact txt_get j a hj
    have HL := nd_le_len h.len
    have HT := tz_lt h0
    have hT0 := Lib.hid h0
    rw [← hs] at C
    clear hs h
    go_enter Try.func66, Try.ntmps66
    go_wp2_with fail
    refine C.out.mono ?_; rintro e w1 ⟨rfl, hb1⟩
    have HB1 := Lib.hid hb1
    clear hb1 C
    go_wp2_with fail
    obtain ⟨L, hL⟩ : ∃ L, L = nd a := ⟨_, rfl⟩
    rw [← hL] at HS HG HL HT
    have HLL := Lib.hid hL
    have hsz : s.size ≤ 100000 := by rw [HS]; omega
    have hsz1 : tz a < s.size := by rw [HS]; exact HT
    have HSS := Lib.hid HS
    clear hL HS
    go_loop [4] (fun nv => ∃ j : Nat, j ≤ tz a ∧ nv = .int .i64 j ∧ tz a = j + tz (a / 10 ^ j) ∧ 0 < a / 10 ^ j) (fun nv => tz a - (intOf nv).toNat)
    case atStart => exact ⟨0, Nat.zero_le _, rfl, by rw [Nat.pow_zero, Nat.div_one, Nat.zero_add], by rw [Nat.pow_zero, Nat.div_one]; exact hT0.out⟩
    case round =>
      obtain ⟨j, hj, rfl, htz, hp⟩ := hrel
      have hjL : L - 1 - j < s.size := by rw [HSS.out]; omega
      have hg := HG.out j (by omega) hjL
      obtain ⟨m, hm⟩ : ∃ m, m = L - 1 - j := ⟨_, rfl⟩
      have ei : (s.size : Int) - 1 - (j : Int) = (m : Int) := by rw [HSS.out]; omega
      have hms : m < s.size := by omega
      have hg' : (s[m]'hms).toNat = 48 + a / 10 ^ j % 10 := by subst hm; exact hg
      clear hg hm hjL
      by_cases hz : a / 10 ^ j % 10 = 0
      · obtain ⟨hs1, hs2⟩ := tz_step htz hp hz
        have X1 := Lib.hid hs1
        have X2 := Lib.hid hs2
        have hg1 : (((s[m]'hms).toNat : Int) == 48) = true := by rw [hg', hz]; rfl
        have hj1 : j + 1 ≤ tz a := by rw [hs1]; omega
        obtain ⟨T, hT⟩ : ∃ T, T = tz a := ⟨_, rfl⟩
        have HTT := Lib.hid hT
        clear hs1 hs2 hz hp htz hg'
        go_wp2_with fail
        go_round
        case rel => exact ⟨j + 1, hj1, by go_num, X1.out, X2.out⟩
        case measure => simp [intOf]; omega
      · have X1 := Lib.hid (tz_stop htz hz)
        have hg1 : (((s[m]'hms).toNat : Int) == 48) = false := by rw [hg', beq_eq_false_iff_ne]; omega
        clear hz hp htz hg'
        go_wp2_with fail
        go_ret
        exact ⟨by rw [X1.out]; rfl, HB1.out⟩

end Go.Proofs.Ytafbkoejobkncaa

/-
  Contracts of layer 4, the sixth part: the document's Parse, Drop.
-/
namespace Go.Proofs.Ytafbkoejobkncaa
open Go.RowKit

theorem pv_len {l : List Nat} (h : digs l) : (dg (pv l)).length ≤ l.length :=
  dg_len_le (Nat.lt_of_lt_of_le (pv_lt h) (Nat.pow_le_pow_left (by omega) _))

theorem Env.one4 {w : World} {A1 : Option Addr} {n1 c1 a : Nat} (h1 : Num w w.heap.size A1 n1 c1 a) : Hid (Env w w [(A1, n1, c1, a)]) := by
  refine ⟨Below.refl _ _, fun q hq => ?_⟩
  rcases List.mem_cons.1 hq with rfl | hq
  · exact h1
  · cases hq
theorem len_of_le {w : World} {B n c a m : Nat} {A : Option Addr} (h : Num w B A n c a) (ha : (dg a).length ≤ m) : n ≤ m := by rw [← h.len]; exact ha
theorem dg_len_ten {x n : Nat} (h : (dg x).length ≤ n) : (dg (x * 10)).length ≤ n + 1 := by
  have := dg_len_mul x 10
  have e : (dg 10).length = 1 := by rw [dg_pos (by omega), dg_zero]; rfl
  omega

theorem u8_u64 {d : Nat} (h : d ≤ 9) : IntKind.u64.wrap (IntKind.u8.wrap (d : Int)) = (d : Int) := by
  have e : IntKind.u8.wrap (d : Int) = (d : Int) := IntWalk.u8_in _ ⟨by omega, by omega⟩
  rw [e]; exact u64_same (by omega)

theorem refParse_empty (w : World) : Calls Try.prog 85 #[.string ⟨#[]⟩] w (RetVal w (.tuple #[.slice none 0 0, .int .i64 2])) := by
  go_enter Try.func85, Try.ntmps85
  go_wp2
  go_ret2
  exact ⟨rfl, Below.refl _ _⟩

set_option maxHeartbeats 4000000 in
set_option maxRecDepth 100000 in
theorem refParse_any (s : ByteArray) (w : World) (h0 : 0 < s.size) (hs : s.size ≤ 10000) : Calls Try.prog 85 #[.string s] w (RetParse w (codes s)) := by
  obtain ⟨he1, he2, he3, he4⟩ := str_ne h0
  go_enter Try.func85, Try.ntmps85
  go_wp2
  clear he1 he2 he3 he4
  go_loopw [4, 5] (fun ov iv wr => ∃ (i n c : Nat) (A : Option Addr), i ≤ s.size ∧ iv = .int .i64 i ∧ ov = .slice A n c ∧ Num wr wr.heap.size A n c (pv ((codes s).take i)) ∧ digs ((codes s).take i) ∧ Below w.heap.size w wr) (fun _ iv _ => s.size - (intOf iv).toNat)
  case atStart => exact ⟨0, 0, 0, none, Nat.zero_le _, rfl, rfl, by rw [List.take_zero, pv_nil, Num, dg_zero]; exact Lim.nil, fun c hc => by simp at hc, Below.refl _ _⟩
  case round =>
    obtain ⟨i, n, c, A, hi, rfl, rfl, hn, hdg, hb⟩ := hrel
    have hn1 : n ≤ 10000 := by
      have := pv_len hdg
      rw [hn.len, List.length_take] at this
      omega
    have H := Lib.hid hn
    have HD := Lib.hid hdg
    have HB := Lib.hid hb
    clear hn hdg hb
    rcases Nat.lt_or_ge i s.size with hp | hp
    · obtain ⟨ch, hch⟩ : ∃ ch, (s[i]'hp).toNat = ch := ⟨_, rfl⟩
      by_cases hc : 48 ≤ ch ∧ ch ≤ 57
      · obtain ⟨hc1, hc2⟩ := hc
        have HT := Lib.hid (codes_take s i hp)
        have HV : Hid (pv ((codes s).take i) * 10 + (ch - 48) = pv ((codes s).take (i + 1))) := by
          show _ = _
          rw [HT.out, hch, pv_snoc, Nat.mul_comm]
        have HD2 : Hid (digs ((codes s).take (i + 1))) := by
          show digs _
          rw [HT.out, hch]; exact digs_append.2 ⟨HD.out, digs_one ⟨hc1, hc2⟩⟩
        have E2 : Hid (Env wr.drew wr.drew [(A, n, c, pv ((codes s).take i))]) := Env.one4 (Lim.below H.out (Below.refl wr.heap.size wr).drew)
        obtain ⟨X, hX⟩ : ∃ X, X = pv ((codes s).take i) := ⟨_, rfl⟩
        obtain ⟨Y, hY⟩ : ∃ Y, Y = pv ((codes s).take (i + 1)) := ⟨_, rfl⟩
        have HY := Lib.hid hY
        rw [← hX] at HV E2 H
        have H0 := H
        rw [← hY] at HV
        clear hX hY HT H
        obtain ⟨d, hd⟩ : ∃ d, d = ch - 48 := ⟨_, rfl⟩
        rw [← hd] at HV
        have hd1 : ((ch : Int) - 48) = (d : Int) := by omega
        have hd9 : d ≤ 9 := by omega
        clear HD hd
        have LX : Hid ((dg (X * 10)).length ≤ 10001) := by show _ ≤ _; exact dg_len_ten (by rw [H0.out.len]; exact hn1)
        have LD : Hid ((dg d).length ≤ 3) := by show _ ≤ _; exact len_of_u64 (by omega)
        clear H0
        go_wp2
        go_region_with (first | (go_at_call 93; refine (refTimes_is (a := X) (l := 10) (m := X * 10) (Env.get E2 (A := A) (n := n) (c := c) (by simp)) (by omega) (by omega) rfl).mono ?_; rintro e w22 ⟨AT, nT, cT, rfl, h, hb⟩; replace E2 := Env.push E2 hb h; have hT : nT ≤ 10001 := len_of_le h LX.out; clear h hb) | (go_at_call 50; refine (refMk_any d _ (u8_u64 (by omega)) (by omega) _).mono ?_; rintro e w23 ⟨AM, nM, cM, rfl, h, hb⟩; replace E2 := Env.push E2 hb h; have hM : nM ≤ 3 := len_of_le h LD.out; clear h hb) | (go_at_call 61; refine (refAdd_is (a := X * 10) (b := d) (m := Y) (Env.get E2 (A := AT) (n := nT) (c := cT) (by simp)) (Env.get E2 (A := AM) (n := nM) (c := cM) (by simp)) (by omega) (by omega) HV.out).mono ?_; rintro e w24 ⟨A5, n5, c5, rfl, h, hb⟩; replace E2 := Env.push E2 hb h; clear h hb))
        all_goals
          go_wp2
          go_roundw
          case rel => exact ⟨i + 1, n5, c5, A5, by omega, by go_num, rfl, by rw [← HY.out]; exact Env.get E2 (by simp), HD2.out, HB.out.drew.trans (E2.out.1.mono HB.out.drew.size)⟩
          case measure => simp [intOf]; omega
      · have HE := Lib.hid (not_digs hp (by omega))
        have hcc : ch < 48 ∨ 57 < ch := by omega
        clear hc
        rcases hcc with hc | hc
        · go_wp2_with fail
          go_ret2
          exact .inr ⟨HE.out, rfl, HB.out⟩
        · go_wp2_with fail
          go_ret2
          exact .inr ⟨HE.out, rfl, HB.out⟩
    · obtain rfl : i = s.size := by omega
      have h1 : (codes s).take s.size = codes s := List.take_of_length_le (by rw [codes_len]; exact Nat.le_refl _)
      rw [h1] at H HD
      clear h1
      go_wp2_with fail
      go_ret2
      exact .inl ⟨HD.out, _, _, _, rfl, H.out, HB.out⟩

theorem refDrop_neg (A : Option Addr) (n c : Nat) (k : Int) (w : World) (hk : k < 0) :
    Calls Try.prog 67 #[.slice A n c, .int .i64 k] w (RetVal w (.tuple #[.slice none 0 0, .int .i64 1])) := by
  go_enter Try.func67, Try.ntmps67
  go_wp2
  go_ret2
  exact ⟨rfl, Below.refl _ _⟩

theorem str_take (l : List Nat) (k : Nat) : (str l).extract 0 k = str (l.take k) := by
  unfold str
  rw [ByteArray.extract_mk]
  simp

set_option maxHeartbeats 1000000 in
set_option maxRecDepth 100000 in
theorem refDrop_any (A : Option Addr) (n c a k : Nat) (w : World) (h : Num w w.heap.size A n c a) (hn : n ≤ 1000) (hk : k ≤ 9223372036854775807) :
    Calls Try.prog 67 #[.slice A n c, .int .i64 k] w (RetSub w (a / 10 ^ k)) := by
  have C := Lib.hid (refText_is h (by omega) rfl)
  have HS : (str (txt a)).size = nd a := str_size _
  have HL := nd_le_len h.len
  clear h
  rcases Nat.lt_or_ge k (nd a) with hlt | hge
  · have HT := take_txt k a hlt
    have HX : (str (txt a)).extract 0 (nd a - k) = str (txt (a / 10 ^ k)) := by rw [str_take, HT]
    have hnd := nd_pos (a / 10 ^ k)
    have HP := Lib.hid (refParse_any (str (txt (a / 10 ^ k))))
    have HSZ : (str (txt (a / 10 ^ k))).size = nd (a / 10 ^ k) := str_size _
    have HND : nd (a / 10 ^ k) ≤ nd a := by
      have := congrArg List.length HT
      rw [List.length_take] at this
      show (txt _).length ≤ _
      omega
    have HC : Hid (∀ w', Calls Try.prog 85 #[.string (str (txt (a / 10 ^ k)))] w' (RetSub w' (a / 10 ^ k))) := fun w' => by
      refine (HP.out w' (by omega) (by omega)).mono fun e w2 h => ?_
      rw [codes_str (digs_lt (digs_txt _))] at h
      rcases h with ⟨_, h⟩ | ⟨h, _⟩
      · rw [pv_txt] at h; exact h
      · exact absurd (digs_txt _) h
    obtain ⟨s, hs⟩ : ∃ s, s = str (txt a) := ⟨_, rfl⟩
    obtain ⟨t, ht⟩ : ∃ t, t = str (txt (a / 10 ^ k)) := ⟨_, rfl⟩
    obtain ⟨L, hL⟩ : ∃ L, L = nd a := ⟨_, rfl⟩
    rw [← hs] at C HS HX
    rw [← ht] at HX HC
    rw [← hL] at HS HX HL hlt
    clear hs ht hL HT HP HSZ HND hnd
    have e1 : (s.size : Int) - (k : Int) = ((L - k : Nat) : Int) := by omega
    have hb1 : k < s.size := by omega
    have hb2 : s.size ≤ 100000 := by omega
    obtain ⟨m, hm⟩ : ∃ m, m = L - k := ⟨_, rfl⟩
    rw [← hm] at HX e1
    have hms : m ≤ s.size := by omega
    clear hm HS
    go_enter Try.func67, Try.ntmps67
    go_wp2_with fail
    refine C.out.mono ?_; rintro e w1 ⟨rfl, hb1⟩
    have HB1 := Lib.hid hb1
    clear hb1 C
    go_wp2_with fail
    refine (HC.out _).mono ?_; rintro e w2 ⟨A2, n2, c2, rfl, h2, hb2⟩
    have H2 := Lib.hid h2
    have HB2 := Lib.hid (HB1.out.trans (hb2.mono HB1.out.size))
    clear h2 hb2
    go_wp2_with fail
    go_ret2
    exact ⟨_, _, _, rfl, H2.out, HB2.out⟩
  · have HZ := Lib.hid (div_ge_nd hge)
    obtain ⟨s, hs⟩ : ∃ s, s = str (txt a) := ⟨_, rfl⟩
    obtain ⟨L, hL⟩ : ∃ L, L = nd a := ⟨_, rfl⟩
    rw [← hs] at C HS
    rw [← hL] at HS HL hge
    clear hs hL
    have hb1 : s.size ≤ k := by omega
    clear HS
    go_enter Try.func67, Try.ntmps67
    go_wp2_with fail
    refine C.out.mono ?_; rintro e w1 ⟨rfl, hb1⟩
    have HB1 := Lib.hid hb1
    clear hb1 C
    go_wp2_with fail
    go_ret2
    exact ⟨none, 0, 0, rfl, by rw [Num, HZ.out, dg_zero]; exact Lim.nil, HB1.out⟩

end Go.Proofs.Ytafbkoejobkncaa

/-
  Layer 4: the contracts as the laws ask for them; the law's own examples (awake) answer true, whatever the memory.
-/
namespace Go.Proofs.Ytafbkoejobkncaa
open Go.RowKit

theorem drop_is {A : Option Addr} {n c a k m : Nat} {v : Int} {w : World} (h : Num w w.heap.size A n c a) (hn : n ≤ 1000000) (hk : k ≤ 9223372036854775807) (hv : v = k) (hm : a / 10 ^ k = m) :
    Calls Try.prog 65 #[.slice A n c, .int .i64 v] w (RetSub w m) := by
  subst hv; subst hm; exact drop_any A n c a k w h hn hk
theorem count_is {A : Option Addr} {n c a B m : Nat} {w : World} (h : Num w B A n c a) (hn : n ≤ 1000000) (hm : nd a = m) :
    Calls Try.prog 89 #[.slice A n c] w fun e w' => e = .returned (.int .i64 (m : Nat)) ∧ w = w' := by
  subst hm; exact count_any A n c a B w h hn
theorem noughts_is {A : Option Addr} {n c a B m : Nat} {w : World} (h : Num w B A n c a) (hn : n ≤ 1000000) (hm : tz a = m) :
    Calls Try.prog 36 #[.slice A n c] w fun e w' => e = .returned (.int .i64 (m : Nat)) ∧ w = w' := by
  subst hm; exact noughts_any A n c a B w h hn
theorem num_none (w : World) (B : Nat) : Num w B none 0 0 0 := by rw [Num, dg_zero]; exact Lim.nil

def t1 : Nat := 1000000005
def t2 : Nat := 1000000
theorem dg_t1 : dg t1 = [5, 1] := by unfold t1; rw [dg_pos (by omega), dg_pos (by omega), dg_zero]
theorem ten_codes : codes ⟨#[49, 48, 48, 48, 48, 48, 48, 48, 48, 53]⟩ = [49, 48, 48, 48, 48, 48, 48, 48, 48, 53] := rfl
theorem abc_codes : codes ⟨#[49, 50, 97]⟩ = [49, 50, 97] := rfl
theorem text_t1 : str (txt t1) = ⟨#[49, 48, 48, 48, 48, 48, 48, 48, 48, 53]⟩ := by rw [txt_pad 9 (a := t1) (by decide) (by decide)]; rfl
theorem text_t2 : str (txt t2) = ⟨#[49, 48, 48, 48, 48, 48, 48]⟩ := by rw [txt_pad 6 (a := t2) (by decide) (by decide)]; rfl
theorem text_0 : str (txt 0) = ⟨#[48]⟩ := by rw [txt_zero]; rfl
theorem nd_t1 : nd t1 = 10 := by unfold nd; rw [txt_pad 9 (a := t1) (by decide) (by decide), pad_len]
theorem nd_0 : nd 0 = 1 := nd_lt (by omega)
theorem tz_t2 : tz t2 = 6 := by
  have := tz_mul (a := 1) (by omega) 6
  rw [tz_no (by decide : 1 % 10 ≠ 0)] at this
  exact this

end Go.Proofs.Ytafbkoejobkncaa

/-
  The walk of the law DigitsTens.
-/
namespace Go.Proofs.Ytafbkoejobkncaa
open Go.RowKit

theorem Env.one5 {w : World} {A1 : Option Addr} {n1 c1 a : Nat} (h1 : Num w w.heap.size A1 n1 c1 a) : Hid (Env w w [(A1, n1, c1, a)]) := by
  refine ⟨Below.refl _ _, fun q hq => ?_⟩
  rcases List.mem_cons.1 hq with rfl | hq
  · exact h1
  · cases hq
theorem pow10_len {N k : Nat} (h : N < 9 * k) : (dg (10 ^ N)).length ≤ k := by
  refine dg_len_le ?_
  rw [pow9]
  exact Nat.pow_lt_pow_right (by omega) h
theorem len_pos_of {a n : Nat} (h : (dg a).length = n) (ha : 0 < a) : 0 < n := by
  rw [← h, dg_pos ha]; simp
theorem shift_len {a n N : Nat} (h : (dg a).length = n) (hN : N ≤ 255) : (dg (a * 10 ^ N)).length ≤ n + 30 := by
  have h1 := dg_len_mul a (10 ^ N)
  have h2 := pow10_len (N := N) (k := 30) (by omega)
  omega
theorem len_le_of {w : World} {B n c a m : Nat} {A : Option Addr} (h : Num w B A n c a) (ha : (dg a).length ≤ m) : n ≤ m := by rw [← h.len]; exact ha
theorem str_size4 (l : List Nat) : (str l).size = l.length := by
  show (l.map UInt8.ofNat).toArray.size = _
  simp

end Go.Proofs.Ytafbkoejobkncaa

/-
  The walk of the law DigitsSays.
-/
namespace Go.Proofs.Ytafbkoejobkncaa
open Go.RowKit

theorem rparse_is {s : ByteArray} {m : Nat} (hd : digs (codes s)) (hm : pv (codes s) = m) (h0 : 0 < s.size) (hs : s.size ≤ 10000) (w : World) :
    Calls Try.prog 85 #[.string s] w (RetSub w m) := by
  subst hm
  refine (refParse_any s w h0 hs).mono fun e w' h => ?_
  rcases h with ⟨_, h⟩ | ⟨h, _⟩
  · exact h
  · exact absurd hd h
theorem rparse_no {s : ByteArray} (hd : ¬ digs (codes s)) (h0 : 0 < s.size) (hs : s.size ≤ 10000) (w : World) :
    Calls Try.prog 85 #[.string s] w (RetVal w (.tuple #[.slice none 0 0, .int .i64 3])) := by
  refine (refParse_any s w h0 hs).mono fun e w' h => ?_
  rcases h with ⟨h, _⟩ | ⟨_, h⟩
  · exact absurd h hd
  · exact h
theorem rdrop_is {A : Option Addr} {n c a k m : Nat} {v : Int} {w : World} (h : Num w w.heap.size A n c a) (hn : n ≤ 1000) (hk : k ≤ 9223372036854775807) (hv : v = k) (hm : a / 10 ^ k = m) :
    Calls Try.prog 67 #[.slice A n c, .int .i64 v] w (RetSub w m) := by
  subst hv; subst hm; exact refDrop_any A n c a k w h hn hk
theorem rnoughts_is {A : Option Addr} {n c a m : Nat} {w : World} (h : Num w w.heap.size A n c a) (hn : n ≤ 10000) (hm : tz a = m) :
    Calls Try.prog 66 #[.slice A n c] w (RetVal w (.int .i64 (m : Nat))) := by
  subst hm; exact refNoughts_any A n c a w h hn
theorem rtext_is {A : Option Addr} {n c a : Nat} {w : World} {s : ByteArray} (h : Num w w.heap.size A n c a) (hn : n ≤ 10000) (hs : str (txt a) = s) :
    Calls Try.prog 84 #[.slice A n c] w (RetVal w (.string s)) := by
  subst hs; exact refText_is h hn rfl
theorem rsame4_is {A A' : Option Addr} {n c n' c' a b : Nat} {w : World} (h : Num w w.heap.size A n c a) (h' : Num w w.heap.size A' n' c' b) (hs : a = b) :
    Calls Try.prog 46 #[.slice A n c, .slice A' n' c'] w (RetVal w (.bool true)) := by
  have := refSame_any A A' n c n' c' a b w h h'
  rwa [decide_eq_true hs] at this

end Go.Proofs.Ytafbkoejobkncaa
