/-
  Layer 6, plain: the nearest whole number to a quotient; the nearest decimal of a scale.
-/
import Derived.Test.YtllcjahekckbfaaAllDecG
import Derived.Test.YtllcjahekckbfaaAllDivC
set_option linter.unusedVariables false
set_option linter.unusedSimpArgs false
namespace Go.Proofs.Ytllcjahekckbfaa
open Go.RowKit

theorem near_spec {a b : Nat} (hb : 0 < b) : 2 * a ≤ 2 * (nearN a b * b) + b ∧ 2 * (nearN a b * b) ≤ 2 * a + b ∧ (2 * a = 2 * (nearN a b * b) + b ∨ 2 * (nearN a b * b) = 2 * a + b → nearN a b % 2 = 0) := by
  have h1 := Nat.div_add_mod a b
  have h2 := Nat.mod_lt a hb
  unfold nearN
  generalize a % b = r at *
  generalize a / b = q at *
  rw [Nat.mul_comm] at h1
  have e : (q + 1) * b = q * b + b := Nat.succ_mul q b
  split
  · rw [e]; generalize q * b = Z at *; refine ⟨by omega, by omega, fun h => by omega⟩
  · split
    · rw [e]; generalize q * b = Z at *; refine ⟨by omega, by omega, fun h => by omega⟩
    · generalize q * b = Z at *; refine ⟨by omega, by omega, fun h => by omega⟩
theorem near_uniq {a b m : Nat} (hb : 0 < b) (h1 : 2 * a ≤ 2 * (m * b) + b) (h2 : 2 * (m * b) ≤ 2 * a + b) (h3 : 2 * a = 2 * (m * b) + b ∨ 2 * (m * b) = 2 * a + b → m % 2 = 0) : nearN a b = m := by
  obtain ⟨g1, g2, g3⟩ := near_spec (a := a) hb
  generalize nearN a b = x at *
  rcases Nat.lt_trichotomy x m with h | h | h
  · exfalso
    have e : m = x + 1 ∨ x + 2 ≤ m := by omega
    rcases e with e | e
    · subst e
      have e2 : (x + 1) * b = x * b + b := Nat.succ_mul x b
      rw [e2] at h1 h2 h3
      generalize x * b = Z at *
      have := h3 (by omega); have := g3 (by omega); omega
    · have := Nat.mul_le_mul_right b e
      rw [Nat.add_mul] at this
      generalize x * b = Z at *
      generalize m * b = Y at *
      omega
  · exact h
  · exfalso
    have e : x = m + 1 ∨ m + 2 ≤ x := by omega
    rcases e with e | e
    · subst e
      have e2 : (m + 1) * b = m * b + b := Nat.succ_mul m b
      rw [e2] at g1 g2 g3
      generalize m * b = Z at *
      have := h3 (by omega); have := g3 (by omega); omega
    · have := Nat.mul_le_mul_right b e
      rw [Nat.add_mul] at this
      generalize x * b = Z at *
      generalize m * b = Y at *
      omega
theorem near_scale {a b k : Nat} (hb : 0 < b) (hk : 0 < k) : nearN (a * k) (b * k) = nearN a b := by
  obtain ⟨g1, g2, g3⟩ := near_spec (a := a) hb
  generalize nearN a b = x at *
  have e : x * (b * k) = x * b * k := (Nat.mul_assoc _ _ _).symm
  have f1 := Nat.mul_le_mul_right k g1
  have f2 := Nat.mul_le_mul_right k g2
  rw [Nat.add_mul, Nat.mul_assoc, Nat.mul_assoc 2] at f1 f2
  refine near_uniq (Nat.mul_pos hb hk) (by rw [e]; exact f1) (by rw [e]; exact f2) (fun h => g3 ?_)
  rw [e] at h
  have i1 : 2 * (a * k) = 2 * a * k := (Nat.mul_assoc _ _ _).symm
  have i2 : 2 * (x * b * k) = 2 * (x * b) * k := (Nat.mul_assoc _ _ _).symm
  rw [i1, i2, ← Nat.add_mul, ← Nat.add_mul] at h
  rcases h with h | h
  · exact .inl (Nat.eq_of_mul_eq_mul_right hk h)
  · exact .inr (Nat.eq_of_mul_eq_mul_right hk h)
theorem near_exact (a : Nat) {b : Nat} (hb : 0 < b) : nearN (a * b) b = a :=
  near_uniq hb (by omega) (by omega) (fun h => by omega)
theorem near_small {a b : Nat} (h : 2 * a < b) : nearN a b = 0 :=
  near_uniq (by omega) (by omega) (by omega) (fun h => by omega)
/-- What stands above the n lowest limbs; if anything was below and the lowest limb left is nought, one more. -/
def shortN (a n : Nat) : Nat := if a % 1000000000 ^ n ≠ 0 ∧ a / 1000000000 ^ n % 1000000000 = 0 then a / 1000000000 ^ n + 1 else a / 1000000000 ^ n
theorem short_none (a : Nat) : shortN a 0 = a := by
  unfold shortN
  rw [Nat.pow_zero, Nat.mod_one, if_neg (by omega), Nat.div_one]
/-- Of a only what stands above the n lowest limbs counts, if what divides is a multiple of ten thousand million. -/
theorem near_short {a n c : Nat} (hc : 0 < c) : nearN (shortN a n) (c * 10000000000) = nearN a (c * 10000000000 * 1000000000 ^ n) := by
  have hP : 0 < 1000000000 ^ n := Nat.pow_pos (by omega)
  have h1 := Nat.div_add_mod a (1000000000 ^ n)
  have h2 := Nat.mod_lt a hP
  unfold shortN
  generalize 1000000000 ^ n = P at *
  generalize a % P = r at *
  generalize a / P = l at *
  have hb : 0 < c * 10000000000 := by omega
  obtain ⟨g1, g2, g3⟩ := near_spec (a := if r ≠ 0 ∧ l % 1000000000 = 0 then l + 1 else l) hb
  symm
  refine near_uniq (Nat.mul_pos hb hP) ?_ ?_ ?_
  all_goals
    generalize nearN (if r ≠ 0 ∧ l % 1000000000 = 0 then l + 1 else l) (c * 10000000000) = x at *
    have e : x * (c * 10000000000 * P) = x * (c * 10000000000) * P := (Nat.mul_assoc _ _ _).symm
    have e3 : x * (c * 10000000000) = (x * c) * 10000000000 := (Nat.mul_assoc _ _ _).symm
    rw [e3] at g1 g2 g3
    rw [e, e3]
    generalize x * c = y at *
    have key : (2 * l < 2 * (y * 10000000000) + c * 10000000000 ∧ 2 * l + 2 ≤ 2 * (y * 10000000000) + c * 10000000000 ∨ 2 * l = 2 * (y * 10000000000) + c * 10000000000 ∧ r = 0 ∧ x % 2 = 0) := by
      split at g1
      · rename_i hh
        rw [if_pos hh] at g3
        left; constructor <;> omega
      · rename_i hh
        rw [if_neg hh] at g3
        by_cases hr : r = 0
        · by_cases hq : 2 * l = 2 * (y * 10000000000) + c * 10000000000
          · exact .inr ⟨hq, hr, g3 (.inl hq)⟩
          · left; constructor <;> omega
        · left; constructor <;> omega
    have key2 : (2 * (y * 10000000000) ≤ 2 * l + c * 10000000000 ∧ (2 * (y * 10000000000) = 2 * l + c * 10000000000 → r = 0 → x % 2 = 0)) := by
      split at g2
      · rename_i hh
        rw [if_pos hh] at g3
        constructor
        · omega
        · intro _ h; exact absurd h hh.1
      · rename_i hh
        rw [if_neg hh] at g3
        exact ⟨g2, fun h _ => g3 (.inr h)⟩
    obtain ⟨B, hB⟩ : ∃ B, y * 10000000000 = B := ⟨_, rfl⟩
    obtain ⟨D, hD⟩ : ∃ D, c * 10000000000 = D := ⟨_, rfl⟩
    rw [hB, hD] at key key2 ⊢
    clear g1 g2 g3 e e3 hB hD hb
  · rcases key with ⟨_, k⟩ | ⟨k, k0, _⟩
    · have := Nat.mul_le_mul_right P k
      rw [Nat.add_mul, Nat.add_mul, Nat.mul_assoc, Nat.mul_assoc] at this
      rw [Nat.mul_comm P l] at h1
      generalize l * P = lP at *; generalize B * P = BP at *; generalize D * P = DP at *
      omega
    · have := congrArg (· * P) k
      simp only [Nat.add_mul, Nat.mul_assoc] at this
      rw [Nat.mul_comm P l] at h1
      generalize l * P = lP at *; generalize B * P = BP at *; generalize D * P = DP at *
      omega
  · have := Nat.mul_le_mul_right P key2.1
    rw [Nat.add_mul, Nat.mul_assoc, Nat.mul_assoc] at this
    rw [Nat.mul_comm P l] at h1
    generalize l * P = lP at *; generalize B * P = BP at *; generalize D * P = DP at *
    omega
  · intro h
    rcases h with h | h
    · rcases key with ⟨_, k⟩ | ⟨k, k0, k1⟩
      · exfalso
        have := Nat.mul_le_mul_right P k
        rw [Nat.add_mul, Nat.add_mul, Nat.mul_assoc, Nat.mul_assoc] at this
        rw [Nat.mul_comm P l] at h1
        generalize l * P = lP at *; generalize B * P = BP at *; generalize D * P = DP at *
        omega
      · exact k1
    · have k := key2.1
      by_cases hr : r = 0
      · refine key2.2 ?_ hr
        subst hr
        rw [Nat.add_zero] at h1
        have e5 : 2 * (B * P) = 2 * B * P := (Nat.mul_assoc _ _ _).symm
        have e6 : 2 * a + D * P = (2 * l + D) * P := by rw [← h1, Nat.add_mul, Nat.mul_assoc, Nat.mul_comm P l]
        rw [e5, e6] at h
        exact Nat.eq_of_mul_eq_mul_right hP h
      · exfalso
        have := Nat.mul_le_mul_right P k
        rw [Nat.add_mul, Nat.mul_assoc, Nat.mul_assoc] at this
        rw [Nat.mul_comm P l] at h1
        generalize l * P = lP at *; generalize B * P = BP at *; generalize D * P = DP at *
        omega

/-- What is left of a without its n lowest limbs, but for the highest one, as the code has it, read at its place: it divides alike. -/
theorem near_code {a b n len : Nat} {d : Nat} (hb : 0 < b) (hl : (dg a).length = len) (hd : 9 * n + 10 ≤ d ∨ n = 0 ∧ 0 ≤ d) : nearN (shortN a (min n (len - 1))) (b * 10 ^ (d - 9 * n)) = nearN a (b * 10 ^ d) := by
  rcases hd with hd | ⟨h0, _⟩
  · have e1 : b * 10 ^ (d - 9 * n) = b * 10 ^ (d - 9 * n - 10) * 10000000000 := by
      have : d - 9 * n = (d - 9 * n - 10) + 10 := by omega
      rw [this, Nat.pow_add, ← Nat.mul_assoc, Nat.add_sub_cancel]
    have e2 : b * 10 ^ d = b * 10 ^ (d - 9 * n - 10) * 10000000000 * 1000000000 ^ n := by
      have : d = (d - 9 * n - 10) + 10 + 9 * n := by omega
      have e3 : 1000000000 ^ n = 10 ^ (9 * n) := by rw [Nat.pow_mul]
      rw [e3, Nat.mul_assoc, Nat.mul_assoc, ← Nat.pow_add 10 10, ← Nat.pow_add]
      congr 2; omega
    have hc : 0 < b * 10 ^ (d - 9 * n - 10) := Nat.mul_pos hb (ten_pos _)
    rw [e1, e2]
    generalize b * 10 ^ (d - 9 * n - 10) = c at *
    clear e1 e2 hd
    rcases Nat.lt_or_ge n len with h | h
    · rw [Nat.min_eq_left (by omega)]; exact near_short hc
    · have ha : a < 1000000000 ^ n := pow_of_len hl h
      have h2 : nearN a (c * 10000000000 * 1000000000 ^ n) = 0 := by
        refine near_small ?_
        have := Nat.mul_le_mul_right (1000000000 ^ n) (show 2 ≤ c * 10000000000 by omega)
        generalize 1000000000 ^ n = P at *
        omega
      rw [h2]
      refine near_small ?_
      have hm : a < 1000000000 ^ (len - 1) * 1000000000 := by
        rcases Nat.eq_zero_or_pos len with h0 | h0
        · subst h0
          have : a = 0 := by
            have := List.eq_nil_of_length_eq_zero hl
            exact dg_eq_nil.1 this
          rw [this]; exact Nat.mul_pos (Nat.pow_pos (by omega)) (by omega)
        · have := pow_of_len hl (Nat.le_refl len)
          rwa [show len = (len - 1) + 1 by omega, Nat.pow_succ] at this
      rw [Nat.min_eq_right (by omega)]
      have hq : a / 1000000000 ^ (len - 1) < 1000000000 := Nat.div_lt_of_lt_mul hm
      unfold shortN
      split <;> omega
  · subst h0
    rw [Nat.zero_min, short_none]; rfl

/-- Of the decimals of the scale S the nearest to i (scale s) by j (scale t). -/
def divZ (i : Int) (s : Nat) (j : Int) (t S : Nat) : Int := sgn (ngB i != ngB j) (nearN (i.natAbs * 10 ^ (S + t)) (j.natAbs * 10 ^ s))
/-- Of the decimals of the scale S the nearest to i (scale s). -/
def quantZ (i : Int) (s S : Nat) : Int := sgn (ngB i) (nearN (i.natAbs * 10 ^ S) (10 ^ s))
theorem div_one (i : Int) (s S : Nat) : divZ i s 1 0 S = quantZ i s S := by
  unfold divZ quantZ
  rw [show ngB 1 = false from rfl, Bool.bne_false, Nat.add_zero, show (1 : Int).natAbs = 1 from rfl, Nat.one_mul]
theorem strip_ng (j : Int) (t L : Nat) : ngB (stripI j t L) = ngB j := by
  have h := (strip_abs j t L).1
  have e : (stripI j t L).natAbs = j.natAbs / 10 ^ stripK j t L := by unfold stripI; rw [abs_sgn]
  rw [e] at h
  unfold stripI
  rw [ng_sgn]
  by_cases h0 : j = 0
  · subst h0; rfl
  · have : 0 < j.natAbs / 10 ^ stripK j t L := by
      rcases Nat.eq_zero_or_pos (j.natAbs / 10 ^ stripK j t L) with h1 | h1
      · rw [h1] at h; omega
      · exact h1
    rw [decide_eq_true this, Bool.and_true]
/-- The shift is not below nought. -/
theorem div_up {a s t S k sh : Nat} {j : Int} (h0 : j ≠ 0) (hk : stripK j t 0 = k) (hs : (sh : Int) = (S : Int) + ((t - k : Nat) : Int) - (s : Int)) : nearN (a * 10 ^ sh) (stripI j t 0).natAbs = nearN (a * 10 ^ (S + t)) (j.natAbs * 10 ^ s) := by
  have h := (strip_abs j t 0).1
  have hkt := stripK_le j t 0
  rw [hk] at h hkt
  have hp : 0 < (stripI j t 0).natAbs := by
    rcases Nat.eq_zero_or_pos (stripI j t 0).natAbs with h1 | h1
    · rw [h1] at h; omega
    · exact h1
  rw [← h, Nat.mul_assoc, ← Nat.pow_add, show S + t = sh + (k + s) by omega, Nat.pow_add, ← Nat.mul_assoc]
  exact (near_scale hp (ten_pos _)).symm
/-- It is. -/
theorem div_down {a s t S k d n len : Nat} {j : Int} (h0 : j ≠ 0) (hk : stripK j t 0 = k) (hs : (d : Int) = (s : Int) - ((S : Int) + ((t - k : Nat) : Int))) (hl : (dg a).length = len) (hn : 9 * n + 10 ≤ d ∨ n = 0 ∧ 0 ≤ d) :
    nearN (shortN a (min n (len - 1))) ((stripI j t 0).natAbs * 10 ^ (d - 9 * n)) = nearN (a * 10 ^ (S + t)) (j.natAbs * 10 ^ s) := by
  have h := (strip_abs j t 0).1
  have hkt := stripK_le j t 0
  rw [hk] at h hkt
  have hp : 0 < (stripI j t 0).natAbs := by
    rcases Nat.eq_zero_or_pos (stripI j t 0).natAbs with h1 | h1
    · rw [h1] at h; omega
    · exact h1
  rw [near_code hp hl hn, ← h, Nat.mul_assoc, ← Nat.pow_add, show k + s = d + (S + t) by omega, Nat.pow_add 10 d, ← Nat.mul_assoc]
  exact (near_scale (Nat.mul_pos hp (ten_pos _)) (ten_pos _)).symm

theorem val_zero_gd : ∀ {xs : List Nat}, val xs = 0 → ∀ j, gd xs j = 0 := by
  intro xs
  induction xs with
  | nil => intro _ j; exact gd_nil j
  | cons x xs ih =>
    intro h j
    rw [val] at h
    cases j with
    | zero => rw [gd_cons_zero]; omega
    | succ j => rw [gd_cons_succ]; exact ih (by omega) j
theorem gd_zero_val : ∀ {xs : List Nat}, (∀ j, j < xs.length → gd xs j = 0) → val xs = 0 := by
  intro xs
  induction xs with
  | nil => intro _; rfl
  | cons x xs ih =>
    intro h
    have h0 := h 0 (by simp)
    rw [gd_cons_zero] at h0
    rw [val, h0, ih (fun j hj => by have := h (j + 1) (by simp; omega); rwa [gd_cons_succ] at this)]
theorem short_parts {a m : Nat} (hl : m ≤ (dg a).length) : a % 1000000000 ^ m = val ((dg a).take m) ∧ a / 1000000000 ^ m = val ((dg a).drop m) := by
  have h := val_take_drop (dg a) m hl
  rw [val_dg] at h
  have h2 : val ((dg a).take m) < 1000000000 ^ m := by
    have := val_lt (limbs_take (limbs_dg a) m)
    rwa [List.length_take, Nat.min_eq_left hl] at this
  have hp : 0 < 1000000000 ^ m := Nat.pow_pos (by omega)
  generalize 1000000000 ^ m = P at *
  generalize val ((dg a).take m) = X at *
  generalize val ((dg a).drop m) = Y at *
  rw [h]
  exact ⟨by rw [Nat.add_mul_mod_self_left, Nat.mod_eq_of_lt h2], by rw [Nat.add_mul_div_left _ _ hp, Nat.div_eq_of_lt h2, Nat.zero_add]⟩
theorem drop_last {a m : Nat} (hl : m < (dg a).length) : ((dg a).drop m).getLast? ≠ some 0 := by
  rw [List.getLast?_drop, if_neg (by omega)]
  exact dg_last a
theorem short_no {a m : Nat} (hl : m < (dg a).length) (h : val ((dg a).take m) = 0) : dg (shortN a m) = (dg a).drop m := by
  obtain ⟨h1, h2⟩ := short_parts (Nat.le_of_lt hl)
  unfold shortN
  rw [h1, h2, if_neg (by omega)]
  exact dg_val (limbs_drop (limbs_dg a) m) (drop_last hl)
theorem short_yes {a m : Nat} (hl : m < (dg a).length) (h : 0 < val ((dg a).take m)) : dg (shortN a m) = ((dg a).drop m).set 0 (max (gd (dg a) m) 1) := by
  obtain ⟨h1, h2⟩ := short_parts (Nat.le_of_lt hl)
  have h3 := val_drop (dg a) m
  have h4 := gd_lt (limbs_dg a) m
  have hlen : 0 < ((dg a).drop m).length := by rw [List.length_drop]; omega
  have h5 := val_set ((dg a).drop m) 0 (max (gd (dg a) m) 1) hlen
  rw [gd_drop, Nat.add_zero, Nat.pow_zero, Nat.one_mul, Nat.one_mul] at h5
  have hm : (a / 1000000000 ^ m) % 1000000000 = gd (dg a) m := by rw [h2, h3]; omega
  have e : shortN a m = val (((dg a).drop m).set 0 (max (gd (dg a) m) 1)) := by
    unfold shortN
    rw [hm, h1, h2]
    split <;> omega
  rw [e]
  refine dg_val (limbs_set (limbs_drop (limbs_dg a) m) 0 (by omega)) ?_
  have hlast := drop_last hl
  have hg : gd ((dg a).drop m) 0 = gd (dg a) m := by rw [gd_drop]; rfl
  generalize (dg a).drop m = ys at *
  match ys, hlen with
  | [x], _ =>
    rw [gd_cons_zero] at hg
    simp only [List.set_cons_zero, List.getLast?_singleton]
    intro hh; injection hh with hh; omega
  | x :: y :: zs, _ =>
    rw [List.set_cons_zero]
    simpa [List.getLast?_cons_cons] using hlast

end Go.Proofs.Ytllcjahekckbfaa
