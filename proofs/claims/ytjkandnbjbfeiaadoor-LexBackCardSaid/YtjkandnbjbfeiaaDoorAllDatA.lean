/- What the proofs of this layer need of the layer Dat, in one text. -/

/-
  Days, plain: leap years, months, numbers of days, the order of days.
-/
namespace Go.Proofs.YtjkandnbjbfeiaaDoor.Dat

/-- Four goes into it, and not a hundred, or four hundred does. -/
def leap8 (y : Int) : Bool := (y.tmod 4 == 0 && y.tmod 100 != 0) || y.tmod 400 == 0
theorem tm_zero (y k : Int) : y.tmod k = 0 ↔ y % k = 0 := by
  rw [← Int.dvd_iff_tmod_eq_zero, ← Int.dvd_iff_emod_eq_zero]
theorem leap8_iff (y : Int) : leap8 y = true ↔ (y % 4 = 0 ∧ y % 100 ≠ 0) ∨ y % 400 = 0 := by
  unfold leap8
  simp [tm_zero]
/-- How many days a month has. -/
def len8 (y m : Int) : Int := if m = 2 then (if leap8 y = true then 29 else 28) else if m = 4 ∨ m = 6 ∨ m = 9 ∨ m = 11 then 30 else 31
/-- How many days the first k months have. -/
def cum8 (y : Int) : Nat → Int
  | 0 => 0
  | k + 1 => cum8 y k + len8 y (k + 1)
/-- How many days there are in the years ahead of y. -/
def dby8 (y : Int) : Int := (y - 1) * 365 + (y - 1) / 4 - (y - 1) / 100 + (y - 1) / 400
/-- There is such a day. -/
def ok8 (y m d : Int) : Bool := decide (1 ≤ y ∧ y ≤ 9999 ∧ 1 ≤ m ∧ m ≤ 12 ∧ 1 ≤ d ∧ d ≤ len8 y m)
theorem ok8_iff {y m d : Int} : ok8 y m d = true ↔ 1 ≤ y ∧ y ≤ 9999 ∧ 1 ≤ m ∧ m ≤ 12 ∧ 1 ≤ d ∧ d ≤ len8 y m := by
  unfold ok8; rw [decide_eq_true_iff]
/-- Its number. -/
def num8 (y m d : Int) : Int := dby8 y + cum8 y (m - 1).toNat + d
def days8 (y m d : Int) : Int := if ok8 y m d = true then num8 y m d else 0

theorem len8_bd (y m : Int) : 28 ≤ len8 y m ∧ len8 y m ≤ 31 := by
  unfold len8
  split
  · split <;> omega
  · split <;> omega
theorem len8_dec (y : Int) : len8 y 12 = 31 ∧ len8 y 1 = 31 := by
  unfold len8; exact ⟨by simp, by simp⟩
theorem dby8_one : dby8 1 = 0 := by decide
theorem dby8_last : dby8 10000 = 3652059 := by decide
theorem dby8_succ {y : Int} (h : 1 ≤ y) : dby8 (y + 1) = dby8 y + 365 + (if leap8 y = true then 1 else 0) := by
  unfold dby8
  by_cases hl : leap8 y = true
  · rw [if_pos hl]; rw [leap8_iff] at hl; omega
  · rw [if_neg hl]; rw [leap8_iff] at hl; omega
theorem cum8_all (y : Int) : cum8 y 12 = 365 + (if leap8 y = true then 1 else 0) := by
  simp [cum8, len8]
  split <;> omega
theorem cum8_step (y : Int) (k : Nat) : cum8 y (k + 1) = cum8 y k + len8 y (k + 1) := rfl
theorem cum8_mono (y : Int) {k l : Nat} (h : k ≤ l) : cum8 y k + 28 * (l - k) ≤ cum8 y l := by
  induction l with
  | zero => obtain rfl : k = 0 := by omega
            simp
  | succ l ih =>
    rcases Nat.lt_or_ge l k with h1 | h1
    · obtain rfl : k = l + 1 := by omega
      omega
    · have := ih h1
      have := len8_bd y (l + 1)
      rw [cum8_step]
      omega
theorem cum8_bd (y : Int) (k : Nat) : 0 ≤ cum8 y k ∧ cum8 y k ≤ 31 * k := by
  induction k with
  | zero => simp [cum8]
  | succ k ih => have := len8_bd y (k + 1); rw [cum8_step]; omega
theorem dby8_mono {a b : Int} (h0 : 1 ≤ a) (h : a ≤ b) : dby8 a + 365 * (b - a) ≤ dby8 b := by unfold dby8; omega
theorem dby8_bd {y : Int} (h0 : 1 ≤ y) (h : y ≤ 10001) : 0 ≤ dby8 y ∧ dby8 y ≤ 3652425 := by unfold dby8; omega
/-- A day lies within its year. -/
theorem num8_year {y m d : Int} (h : ok8 y m d = true) : dby8 y < num8 y m d ∧ num8 y m d ≤ dby8 (y + 1) := by
  obtain ⟨h1, h2, h3, h4, h5, h6⟩ := ok8_iff.1 h
  have hc := (cum8_bd y (m - 1).toNat).1
  have hm := cum8_mono y (k := (m - 1).toNat + 1) (l := 12) (by omega)
  rw [cum8_step, cum8_all] at hm
  have e : (((m - 1).toNat : Int) + 1) = m := by omega
  rw [e] at hm
  rw [dby8_succ h1]
  unfold num8
  omega
theorem num8_bd {y m d : Int} (h : ok8 y m d = true) : 1 ≤ num8 y m d ∧ num8 y m d ≤ 3652059 := by
  obtain ⟨h1, h2, _⟩ := ok8_iff.1 h
  obtain ⟨h3, h4⟩ := num8_year h
  have h5 := dby8_mono (a := 1) (b := y) (by omega) h1
  have h6 := dby8_mono (a := y + 1) (b := 10000) (by omega) (by omega)
  rw [dby8_one] at h5
  rw [dby8_last] at h6
  omega
theorem days8_bd (y m d : Int) : 0 ≤ days8 y m d ∧ days8 y m d ≤ 3652059 := by
  unfold days8
  split
  · have := num8_bd ‹_›; omega
  · omega
theorem days8_ok {y m d : Int} (h : ok8 y m d = true) : days8 y m d = num8 y m d := by unfold days8; rw [if_pos h]
theorem days8_not {y m d : Int} (h : ok8 y m d = false) : days8 y m d = 0 := by unfold days8; rw [if_neg (by rw [h]; simp)]

/-- Days by year, month, day of the month. -/
def cmp8 (a b c a' b' c' : Int) : Int := if a < a' then -1 else if a' < a then 1 else if b < b' then -1 else if b' < b then 1 else if c < c' then -1 else if c' < c then 1 else 0
theorem cmp8_neg (a b c a' b' c' : Int) : cmp8 a b c a' b' c' = -1 ↔ a < a' ∨ (a = a' ∧ (b < b' ∨ (b = b' ∧ c < c'))) := by
  unfold cmp8; (repeat' split) <;> omega
theorem cmp8_pos (a b c a' b' c' : Int) : cmp8 a b c a' b' c' = 1 ↔ a' < a ∨ (a = a' ∧ (b' < b ∨ (b = b' ∧ c' < c))) := by
  unfold cmp8; (repeat' split) <;> omega
theorem cmp8_zero (a b c a' b' c' : Int) : cmp8 a b c a' b' c' = 0 ↔ a = a' ∧ b = b' ∧ c = c' := by
  unfold cmp8; (repeat' split) <;> omega
theorem cmp8_three (a b c a' b' c' : Int) : cmp8 a b c a' b' c' = -1 ∨ cmp8 a b c a' b' c' = 0 ∨ cmp8 a b c a' b' c' = 1 := by
  unfold cmp8; (repeat' split) <;> omega
theorem cmp8_turn (a b c a' b' c' : Int) : cmp8 a' b' c' a b c = -cmp8 a b c a' b' c' := by
  unfold cmp8; (repeat' split) <;> omega
theorem cmp8_same (a b c : Int) : cmp8 a b c a b c = 0 := (cmp8_zero ..).2 ⟨rfl, rfl, rfl⟩
/-- Earlier days have smaller numbers. -/
theorem num8_lt {a b c a' b' c' : Int} (h : ok8 a b c = true) (h' : ok8 a' b' c' = true) (hc : cmp8 a b c a' b' c' = -1) : num8 a b c < num8 a' b' c' := by
  obtain ⟨h1, h2, h3, h4, h5, h6⟩ := ok8_iff.1 h
  obtain ⟨g1, g2, g3, g4, g5, g6⟩ := ok8_iff.1 h'
  rcases (cmp8_neg ..).1 hc with hl | ⟨rfl, hl | ⟨rfl, hl⟩⟩
  · have := num8_year h
    have := num8_year h'
    have := dby8_mono (a := a + 1) (b := a') (by omega) (by omega)
    omega
  · have hm := cum8_mono a (k := (b - 1).toNat + 1) (l := (b' - 1).toNat) (by omega)
    rw [cum8_step] at hm
    have e : (((b - 1).toNat : Int) + 1) = b := by omega
    rw [e] at hm
    unfold num8
    omega
  · unfold num8; omega
theorem num8_inj {a b c a' b' c' : Int} (h : ok8 a b c = true) (h' : ok8 a' b' c' = true) (hn : num8 a b c = num8 a' b' c') : a = a' ∧ b = b' ∧ c = c' := by
  rcases cmp8_three a b c a' b' c' with hc | hc | hc
  · have := num8_lt h h' hc; omega
  · exact (cmp8_zero ..).1 hc
  · have hc' : cmp8 a' b' c' a b c = -1 := by rw [cmp8_turn, hc]
    have := num8_lt h' h hc'; omega

theorem month_of (y : Int) : ∀ (k : Nat) (r : Int), 0 < r → r ≤ cum8 y k → ∃ (m : Nat) (d : Int), 1 ≤ m ∧ m ≤ k ∧ 1 ≤ d ∧ d ≤ len8 y m ∧ cum8 y (m - 1) + d = r
  | 0, r, h0, h1 => by simp [cum8] at h1; omega
  | k + 1, r, h0, h1 => by
    by_cases h : r ≤ cum8 y k
    · obtain ⟨m, d, h2, h3, h4⟩ := month_of y k r h0 h
      exact ⟨m, d, h2, by omega, h4⟩
    · refine ⟨k + 1, r - cum8 y k, by omega, by omega, by omega, ?_, ?_⟩
      · rw [cum8_step] at h1; push_cast; omega
      · simp; omega
theorem year_of : ∀ (k : Nat) (n : Int), 0 < n → n ≤ dby8 (k + 1) → ∃ y : Nat, 1 ≤ y ∧ y ≤ k ∧ dby8 y < n ∧ n ≤ dby8 (y + 1)
  | 0, n, h0, h1 => by simp [dby8] at h1; omega
  | k + 1, n, h0, h1 => by
    by_cases h : n ≤ dby8 (k + 1)
    · obtain ⟨y, h2, h3, h4⟩ := year_of k n h0 h
      exact ⟨y, h2, by omega, h4⟩
    · exact ⟨k + 1, by omega, by omega, by push_cast; omega, by push_cast at h1 ⊢; exact h1⟩
/-- Each number is that of a day. -/
theorem day_of {n : Int} (h0 : 1 ≤ n) (h1 : n ≤ 3652059) : ∃ y m d : Int, ok8 y m d = true ∧ num8 y m d = n := by
  obtain ⟨y, h2, h3, h4, h5⟩ := year_of 9999 n (by omega) (by rw [show ((9999 : Nat) : Int) + 1 = 10000 from rfl, dby8_last]; exact h1)
  rw [dby8_succ (by omega)] at h5
  obtain ⟨m, d, g1, g2, g3, g4, g5⟩ := month_of y 12 (n - dby8 y) (by omega) (by rw [cum8_all]; omega)
  refine ⟨y, m, d, ok8_iff.2 ⟨by omega, by omega, by omega, by omega, g3, g4⟩, ?_⟩
  unfold num8
  rw [show ((m : Int) - 1).toNat = m - 1 by omega]
  omega
/-- The year by the mean length of years. -/
theorem guess8 {n y : Int} (hy : 1 ≤ y) (h1 : dby8 y < n) (h2 : n ≤ dby8 (y + 1)) : (n - 1) * 400 / 146097 + 1 = y ∨ (n - 1) * 400 / 146097 + 1 = y - 1 := by
  unfold dby8 at h1 h2; omega
theorem guess366 {n y : Int} (hy : 1 ≤ y) (h1 : dby8 y < n) (h2 : n ≤ dby8 (y + 1)) : n / 366 + 1 ≤ y := by
  unfold dby8 at h1 h2; omega

/-- The day y' m' d' comes next behind y m d. -/
def Nxt (y m d y' m' d' : Int) : Prop := (d < len8 y m ∧ y' = y ∧ m' = m ∧ d' = d + 1) ∨ (d = len8 y m ∧ m < 12 ∧ y' = y ∧ m' = m + 1 ∧ d' = 1) ∨ (d = len8 y m ∧ m = 12 ∧ y < 9999 ∧ y' = y + 1 ∧ m' = 1 ∧ d' = 1)
theorem Nxt.ok {y m d y' m' d' : Int} (h : ok8 y m d = true) (hn : Nxt y m d y' m' d') : ok8 y' m' d' = true := by
  obtain ⟨h1, h2, h3, h4, h5, h6⟩ := ok8_iff.1 h
  rw [ok8_iff]
  have := len8_bd y' m'
  rcases hn with ⟨g, rfl, rfl, rfl⟩ | ⟨g1, g2, rfl, rfl, rfl⟩ | ⟨g1, g2, g3, rfl, rfl, rfl⟩ <;> omega
theorem Nxt.num {y m d y' m' d' : Int} (h : ok8 y m d = true) (hn : Nxt y m d y' m' d') : num8 y' m' d' = num8 y m d + 1 := by
  obtain ⟨h1, h2, h3, h4, h5, h6⟩ := ok8_iff.1 h
  rcases hn with ⟨g, rfl, rfl, rfl⟩ | ⟨g1, g2, rfl, rfl, rfl⟩ | ⟨g1, g2, g3, rfl, rfl, rfl⟩
  · unfold num8; omega
  · unfold num8
    have e : (m + 1 - 1).toNat = (m - 1).toNat + 1 := by omega
    have e2 : (((m - 1).toNat : Int) + 1) = m := by omega
    rw [e, cum8_step, e2]; omega
  · unfold num8
    subst g2
    have e3 := dby8_succ h1
    have e4 := cum8_all y
    have e5 : cum8 y 12 = cum8 y 11 + len8 y 12 := rfl
    show dby8 (y + 1) + cum8 (y + 1) 0 + 1 = dby8 y + cum8 y 11 + d + 1
    have e6 : cum8 (y + 1) 0 = 0 := rfl
    omega
theorem Nxt.lt {y m d y' m' d' : Int} (hn : Nxt y m d y' m' d') : cmp8 y m d y' m' d' = -1 := by
  rw [cmp8_neg]
  rcases hn with ⟨g, rfl, rfl, rfl⟩ | ⟨g1, g2, rfl, rfl, rfl⟩ | ⟨g1, g2, g3, rfl, rfl, rfl⟩ <;> omega
/-- Each day but the last has a next one. -/
theorem nxt_of {y m d : Int} (h : ok8 y m d = true) (hl : ¬ (y = 9999 ∧ m = 12 ∧ d = 31)) : ∃ y' m' d', Nxt y m d y' m' d' := by
  obtain ⟨h1, h2, h3, h4, h5, h6⟩ := ok8_iff.1 h
  by_cases g1 : d < len8 y m
  · exact ⟨_, _, _, .inl ⟨g1, rfl, rfl, rfl⟩⟩
  · by_cases g2 : m < 12
    · exact ⟨_, _, _, .inr (.inl ⟨by omega, g2, rfl, rfl, rfl⟩)⟩
    · obtain rfl : m = 12 := by omega
      have := (len8_dec y).1
      exact ⟨_, _, _, .inr (.inr ⟨by omega, rfl, by omega, rfl, rfl, rfl⟩)⟩
theorem prv_of {y m d : Int} (h : ok8 y m d = true) (hl : ¬ (y = 1 ∧ m = 1 ∧ d = 1)) : ∃ y' m' d', ok8 y' m' d' = true ∧ Nxt y' m' d' y m d := by
  obtain ⟨h1, h2, h3, h4, h5, h6⟩ := ok8_iff.1 h
  by_cases g1 : 1 < d
  · exact ⟨y, m, d - 1, ok8_iff.2 (by omega), .inl (by omega)⟩
  · by_cases g2 : 1 < m
    · have := len8_bd y (m - 1)
      exact ⟨y, m - 1, len8 y (m - 1), ok8_iff.2 (by omega), .inr (.inl (by omega))⟩
    · have := (len8_dec (y - 1)).1
      exact ⟨y - 1, 12, 31, ok8_iff.2 (by omega), .inr (.inr (by omega))⟩
theorem last8 : ok8 9999 12 31 = true ∧ num8 9999 12 31 = 3652059 := by decide
theorem first8 : ok8 1 1 1 = true ∧ num8 1 1 1 = 1 := by decide
theorem not_last {y m d : Int} (h : ok8 y m d = true) (hn : num8 y m d < 3652059) : ¬ (y = 9999 ∧ m = 12 ∧ d = 31) := by
  rintro ⟨rfl, rfl, rfl⟩; rw [last8.2] at hn; omega

end Go.Proofs.YtjkandnbjbfeiaaDoor.Dat
