/- What the proofs of this layer need of the layer Div, in one text. -/
import Derived.Test.YtjkandnbjbfeiaaDoorAllMulA
set_option linter.unusedVariables false
set_option linter.unusedSimpArgs false

/-
  Plain mathematics of layer 3: division by a small number, limb by limb; a guessed limb; what is taken off and put back; Newton's roots; digits to a base.
-/
namespace Go.Proofs.YtjkandnbjbfeiaaDoor.Num

/-! By a small number. -/
theorem sdiv_step {xs zs : List Nat} {i N r a : Nat} (h : a = N * val zs + 1000000000 ^ (i + 1) * r + val (xs.take (i + 1))) (hi : i < zs.length) (hz : gd zs i = 0) :
    a = N * val (zs.set i ((r * 1000000000 + gd xs i) / N)) + 1000000000 ^ i * ((r * 1000000000 + gd xs i) % N) + val (xs.take i) := by
  have e1 := val_set zs i ((r * 1000000000 + gd xs i) / N) hi
  rw [hz, Nat.mul_zero, Nat.add_zero] at e1
  rw [val_take_succ, Nat.pow_succ] at h
  rw [e1]
  have e2 := Nat.div_add_mod (r * 1000000000 + gd xs i) N
  generalize (r * 1000000000 + gd xs i) / N = q at *
  generalize (r * 1000000000 + gd xs i) % N = s at *
  generalize 1000000000 ^ i = P at *
  generalize val (xs.take i) = t at *
  generalize val zs = z at *
  generalize gd xs i = g at *
  rw [h]
  have e3 : P * (N * q + s) = P * (r * 1000000000 + g) := by rw [e2]
  grind
theorem sdiv_zero {zs : List Nat} {i v : Nat} (h : ∀ j, j < i + 1 → gd zs j = 0) (hi : i < zs.length) : ∀ j, j < i → gd (zs.set i v) j = 0 := by
  intro j hj
  rw [gd_set _ _ _ _ hi, if_neg (by omega)]
  exact h j (by omega)
theorem sdiv_end {N a z r : Nat} (h : a = N * z + r) (hr : r < N) : z = a / N ∧ r = a % N := by
  subst h
  have hN : 0 < N := by omega
  constructor
  · rw [Nat.mul_add_div hN, Nat.div_eq_of_lt hr, Nat.add_zero]
  · rw [Nat.mul_add_mod, Nat.mod_eq_of_lt hr]
theorem sdiv_t {r g N : Nat} (hr : r < N) (hN : N < 4294967296) (hg : g < 1000000000) : (r * 1000000000 + g) / N < 1000000000 ∧ r * 1000000000 + g < 4294967296000000000 := by
  constructor
  · rw [Nat.div_lt_iff_lt_mul (by omega), Nat.mul_comm 1000000000 N]; omega
  · omega

/-! What is taken off a row. -/
theorem take_step {ys bs : List Nat} {o k g cy cy' v C Z : Nat} (h : val ys + C = Z + 1000000000 ^ o * (cy + g * val (bs.drop k))) (ho : o < ys.length) (hv : v + (cy + gd bs k * g) = gd ys o + 1000000000 * cy') :
    val (ys.set o v) + C = Z + 1000000000 ^ (o + 1) * (cy' + g * val (bs.drop (k + 1))) := by
  have e1 := val_set ys o v ho
  rw [val_drop bs k] at h
  rw [Nat.pow_succ]
  generalize 1000000000 ^ o = P at *
  generalize val (bs.drop (k + 1)) = D at *
  generalize val (ys.set o v) = y' at *
  generalize val ys = y at *
  generalize gd bs k = d at *
  generalize gd ys o = x at *
  have e3 : P * (v + (cy + d * g)) = P * (x + 1000000000 * cy') := by rw [hv]
  grind
theorem take_end {ys bs : List Nat} {o k g cy C Z : Nat} (h : val ys + C = Z + 1000000000 ^ o * (cy + g * val (bs.drop k))) (hk : bs.length ≤ k) : val ys + C = Z + 1000000000 ^ o * cy := by
  rw [List.drop_of_length_le hk, val, Nat.mul_zero, Nat.add_zero] at h
  exact h
/-- Above a place nothing has turned. -/
def Above (m : Nat) (zs ys : List Nat) : Prop := ∀ j, m ≤ j → gd ys j = gd zs j
theorem Above.refl (m : Nat) (zs : List Nat) : Above m zs zs := fun _ _ => rfl
theorem Above.set {m o v : Nat} {zs ys : List Nat} (h : Above m zs ys) (ho : o < m) (hl : o < ys.length) : Above m zs (ys.set o v) := by
  intro j hj
  rw [gd_set _ _ _ _ hl, if_neg (by omega)]
  exact h j hj
theorem Above.trans {m : Nat} {xs ys zs : List Nat} (h : Above m xs ys) (k : Above m ys zs) : Above m xs zs := fun j hj => (k j hj).trans (h j hj)
theorem val_lt_above {zs : List Nat} {m : Nat} (hl : limbs zs) (hz : ∀ j, m ≤ j → gd zs j = 0) : val zs < 1000000000 ^ m := by
  rcases Nat.lt_or_ge zs.length m with h | h
  · exact Nat.lt_of_lt_of_le (val_lt hl) (Nat.pow_le_pow_right (by omega) (by omega))
  · have e := val_take_drop zs m h
    have hd : val (zs.drop m) = 0 := val_of_gd_zero (fun j => by rw [gd_drop]; exact hz _ (by omega))
    rw [hd, Nat.mul_zero, Nat.add_zero] at e
    rw [e]
    have := val_lt (limbs_take hl m)
    rwa [List.length_take, Nat.min_eq_left h] at this
theorem gd_zero_of_lt {zs : List Nat} {m : Nat} (h : val zs < 1000000000 ^ m) : ∀ j, m ≤ j → gd zs j = 0 := fun j hj =>
  gd_of_val_lt (Nat.lt_of_lt_of_le h (Nat.pow_le_pow_right (by omega) hj))

/-! A guessed limb: by the three highest limbs of a row and the two highest ones of what divides. -/
/-- How often v goes into u, but at most the greatest limb. -/
def guessN (u v : Nat) : Nat := min (u / v) 999999999
theorem guess_first {u v u2 v1 v2 high : Nat} (hv1 : 0 < v1) (hu : u = high * 1000000000 + u2) (hu2 : u2 < 1000000000) (hv : v = v1 * 1000000000 + v2) : guessN u v ≤ high / v1 := by
  unfold guessN
  refine Nat.le_trans (Nat.min_le_left _ _) ?_
  rw [Nat.le_div_iff_mul_le hv1]
  have h1 : u / v * v ≤ u := Nat.div_mul_le_self u v
  generalize u / v = p at *
  have h2 : p * v = p * v1 * 1000000000 + p * v2 := by rw [hv, Nat.mul_add, Nat.mul_assoc]
  omega
/-- One less, as long as it is too much. -/
theorem guess_less {u v u2 v1 v2 high T L : Nat} (hu : u = high * 1000000000 + u2) (hv : v = v1 * 1000000000 + v2) (hT : T * v1 + L = high) (hg : guessN u v ≤ T) (h : 1000000000 ≤ T ∨ L * 1000000000 + u2 < T * v2) : guessN u v ≤ T - 1 := by
  rcases h with h | h
  · unfold guessN; omega
  · unfold guessN at hg ⊢
    have h1 : u < T * v := by
      have e1 : T * v = T * v1 * 1000000000 + T * v2 := by rw [hv, Nat.mul_add, Nat.mul_assoc]
      omega
    have h2 : u / v < T := Nat.div_lt_of_lt_mul (by rw [Nat.mul_comm]; exact h1)
    omega
/-- Where it is not too much, it is the guess. -/
theorem guess_is {u v u2 v1 v2 high T L : Nat} (hv1 : 0 < v1) (hu : u = high * 1000000000 + u2) (hv : v = v1 * 1000000000 + v2) (hT : T * v1 + L = high) (hg : guessN u v ≤ T) (hTB : T < 1000000000) (h : T * v2 ≤ L * 1000000000 + u2) : T = guessN u v := by
  have h1 : T * v ≤ u := by
    have e1 : T * v = T * v1 * 1000000000 + T * v2 := by rw [hv, Nat.mul_add, Nat.mul_assoc]
    omega
  have h2 : T ≤ u / v := by rw [Nat.le_div_iff_mul_le (by omega)]; exact h1
  unfold guessN at hg ⊢
  omega
theorem guess_high {high v1 T L : Nat} (hh : high < (v1 + 1) * 1000000000) (hT : T * v1 + L = high) (hL : 1000000000 ≤ L) : T < 1000000000 := by
  rcases Nat.lt_or_ge T 1000000000 with h | h
  · exact h
  · have : 1000000000 * v1 ≤ T * v1 := Nat.mul_le_mul_right _ h
    omega
theorem guess_over {v2 u2 T L : Nat} (hv2 : v2 < 1000000000) (hT : T < 1000000000) (hL : 1000000000 ≤ L) : T * v2 ≤ L * 1000000000 + u2 := by
  have h1 : T * v2 ≤ 1000000000 * 1000000000 := Nat.mul_le_mul (by omega) (by omega)
  omega

/-- The guess is the quotient, or one more: E is worth of the limbs below those that are looked at. -/
theorem guess_near {Z D E u v zl dl : Nat} (hZ : Z = zl + E * u) (hzl : zl < E) (hD : D = dl + E * v) (hdl : dl < E) (hv : 1000000000 ≤ v) (hq : Z < 1000000000 * D) : guessN u v = Z / D ∨ guessN u v = Z / D + 1 := by
  have hE : 0 < E := by omega
  have hD0 : 0 < D := by
    have : E * 1 ≤ E * v := Nat.mul_le_mul_left _ (by omega)
    omega
  have hqB : Z / D < 1000000000 := Nat.div_lt_of_lt_mul (by rw [Nat.mul_comm]; exact hq)
  have hq1 : Z / D * D ≤ Z := Nat.div_mul_le_self Z D
  have hq2 : Z < (Z / D + 1) * D := Nat.lt_mul_of_div_lt (Nat.lt_succ_self _) hD0
  generalize Z / D = q at *
  have hlow : q ≤ guessN u v := by
    unfold guessN
    have h1 : q ≤ u / v := by
      rw [Nat.le_div_iff_mul_le (by omega)]
      have h2 : E * (q * v) ≤ q * D := by
        rw [hD, Nat.mul_add, Nat.mul_left_comm E q v]; omega
      have h3 : E * (q * v) < E * (u + 1) := by
        rw [Nat.mul_add, Nat.mul_one]; omega
      have := Nat.lt_of_mul_lt_mul_left h3
      omega
    omega
  have hup : guessN u v ≤ q + 1 := by
    rcases Nat.lt_or_ge (q + 1) (guessN u v) with h | h
    · exfalso
      have g1 : guessN u v ≤ 999999999 := Nat.min_le_right _ _
      have g2 : guessN u v * v ≤ u := Nat.le_trans (Nat.mul_le_mul_right _ (Nat.min_le_left _ _)) (Nat.div_mul_le_self u v)
      generalize guessN u v = t at *
      obtain ⟨s, rfl⟩ : ∃ s, t = s + 1 := ⟨t - 1, by omega⟩
      have h3 : (q + 1) * D ≤ s * D := Nat.mul_le_mul_right _ (by omega)
      have h4 : s * D ≤ s * (E * (v + 1)) := Nat.mul_le_mul_left _ (by rw [Nat.mul_add, Nat.mul_one]; omega)
      have h5 : E * ((s + 1) * v) ≤ E * u := Nat.mul_le_mul_left _ g2
      have h6 : E * ((s + 1) * v) < E * (s * (v + 1)) := by
        rw [Nat.mul_left_comm E s]
        omega
      have h7 := Nat.lt_of_mul_lt_mul_left h6
      rw [Nat.add_mul, Nat.mul_add] at h7
      omega
    · exact h
  omega

/-! A round of the long division. Room makes Z, P is worth of the place (base to the i), D is P times what divides, M is worth of the place above the row. -/
/-- Taken off, and it was not too much. -/
theorem long_fits {Z Z1 D g c M : Nat} (h : Z1 + g * D = Z + c * M) (hg : g = Z / D) (hZ1 : Z1 < M) : c = 0 ∧ Z1 = Z % D := by
  have h1 := Nat.div_add_mod Z D
  rw [← hg, Nat.mul_comm] at h1
  rcases Nat.eq_zero_or_pos c with h0 | h0
  · subst h0
    refine ⟨rfl, ?_⟩
    omega
  · have : 1 * M ≤ c * M := Nat.mul_le_mul_right _ h0
    omega
/-- It was too much: what divides is put back. -/
theorem long_back {Z Z1 Z2 D g c cy M : Nat} (h : Z1 + g * D = Z + c * M) (hg : g = Z / D + 1) (hD : 0 < D) (hZ1 : Z1 < M) (hZM : Z < M) (hDM : D < M) (h2 : Z2 + cy * M = Z1 + D) (hZ2 : Z2 < M) : 0 < c ∧ Z2 = Z % D := by
  have h1 := Nat.div_add_mod Z D
  have h3 := Nat.mod_lt Z hD
  rw [hg, Nat.add_mul, Nat.one_mul, Nat.mul_comm] at h
  generalize Z % D = r at *
  generalize D * (Z / D) = t at *
  have hc : c = 1 := by
    rcases Nat.lt_or_ge c 1 with h0 | h0
    · obtain rfl : c = 0 := by omega
      omega
    · rcases Nat.lt_or_ge c 2 with h4 | h4
      · omega
      · have : 2 * M ≤ c * M := Nat.mul_le_mul_right _ h4
        omega
  subst hc
  have hcy : cy = 1 := by
    rcases Nat.lt_or_ge cy 1 with h0 | h0
    · obtain rfl : cy = 0 := by omega
      omega
    · rcases Nat.lt_or_ge cy 2 with h4 | h4
      · omega
      · have : 2 * M ≤ cy * M := Nat.mul_le_mul_right _ h4
        omega
  subst hcy
  omega

/-- The quotient grows by the limb that was found. -/
theorem long_step {A b Z : Nat} {qs : List Nat} {i q : Nat} (h : A = val qs * b + Z) (hi : i < qs.length) (hz : gd qs i = 0) (hq : q = Z / (1000000000 ^ i * b)) :
    A = val (qs.set i q) * b + Z % (1000000000 ^ i * b) := by
  have e1 := val_set qs i q hi
  rw [hz, Nat.mul_zero, Nat.add_zero] at e1
  have e2 := Nat.div_add_mod Z (1000000000 ^ i * b)
  rw [← hq] at e2
  rw [e1, h]
  generalize Z % (1000000000 ^ i * b) = r at *
  generalize 1000000000 ^ i = P at *
  grind

/-! Both are made greater alike. -/
theorem norm_facts {b n t d : Nat} (hn : (dg b).length = n) (hn0 : 0 < n) (ht : gd (dg b) (n - 1) = t) (hd : d = 1000000000 / (t + 1)) : 0 < t ∧ 0 < d ∧ d ≤ 500000000 ∧ (dg (b * d)).length = n ∧ 1000000000 ^ (n - 1) ≤ b := by
  have hb : 0 < b := by
    rcases Nat.eq_zero_or_pos b with h | h
    · subst h; rw [dg_zero] at hn; simp at hn; omega
    · exact h
  have htl : t < 1000000000 := by rw [← ht]; exact gd_lt (limbs_dg b) _
  have ht0 : 0 < t := by
    rcases Nat.eq_zero_or_pos t with h | h
    · exfalso
      apply dg_last b
      rw [List.getLast?_eq_getElem?, gd_of_lt (by omega), hn, ht, h]
    · exact h
  have hd0 : 0 < d := by
    rw [hd, Nat.div_pos_iff]; omega
  have hd1 : d * (t + 1) ≤ 1000000000 := by rw [hd]; exact Nat.div_mul_le_self _ _
  have hd2 : d ≤ 500000000 := by
    have : d * 2 ≤ d * (t + 1) := Nat.mul_le_mul_left _ (by omega)
    omega
  have hp := pow_le_of_dg hb
  rw [hn] at hp
  refine ⟨ht0, hd0, hd2, ?_, hp⟩
  apply Nat.le_antisymm
  · apply dg_len_le
    have e := val_take_drop (dg b) (n - 1) (by omega)
    rw [val_drop, List.drop_of_length_le (by omega), val_dg, ht] at e
    have h1 := val_lt (limbs_take (limbs_dg b) (n - 1))
    rw [List.length_take, Nat.min_eq_left (by omega)] at h1
    have e2 : 1000000000 ^ n = 1000000000 ^ (n - 1) * 1000000000 := by rw [← Nat.pow_succ]; congr 1; omega
    rw [e2]
    generalize 1000000000 ^ (n - 1) = P at *
    have h2 : b < P * (t + 1) := by
      rw [Nat.mul_add, Nat.mul_one]
      simp only [val, Nat.mul_zero, Nat.add_zero] at e
      omega
    have h3 : b * d < P * (t + 1) * d := Nat.mul_lt_mul_of_pos_right h2 hd0
    have h4 : P * (t + 1) * d ≤ P * 1000000000 := by
      rw [Nat.mul_assoc]; exact Nat.mul_le_mul_left _ (by rw [Nat.mul_comm]; exact hd1)
    omega
  · have h1 := dg_len_mono (show b ≤ b * d from Nat.le_mul_of_pos_right _ hd0)
    omega
theorem norm_len {a d n : Nat} (hn : (dg a).length = n) (hd : d ≤ 500000000) : (dg (a * d)).length ≤ n + 1 := by
  have h1 := dg_len_mul a d
  have h2 : (dg d).length ≤ 1 := dg_len_le (by omega)
  omega
theorem norm_start {a b d n m k : Nat} (hn : (dg a).length = n) (hb : 1000000000 ^ (m - 1) ≤ b) (hd : 0 < d) (hm : 0 < m) (hk : k + (m - 1) = n) : a * d < 1000000000 ^ k * (b * d) := by
  have h1 := lt_pow_dg a
  rw [hn, ← hk, Nat.pow_add] at h1
  rw [← Nat.mul_assoc]
  refine Nat.mul_lt_mul_of_pos_right (Nat.lt_of_lt_of_le h1 (Nat.mul_le_mul_left _ hb)) hd
theorem norm_end {a b d q r : Nat} (h : a * d = q * (b * d) + r) (hr : r < b * d) : q = a / b ∧ r / d = a % b := by
  have hd : 0 < d := by
    rcases Nat.eq_zero_or_pos d with h0 | h0
    · subst h0; rw [Nat.mul_zero] at hr; omega
    · exact h0
  have hb : 0 < b := by
    rcases Nat.eq_zero_or_pos b with h0 | h0
    · subst h0; rw [Nat.zero_mul] at hr; omega
    · exact h0
  have e : a = b * q + r / d := by
    have h1 : r = d * (r / d) + r % d := (Nat.div_add_mod r d).symm
    have h2 : r % d = 0 := by
      have h3 : (a * d) % d = (q * (b * d) + r) % d := by rw [h]
      rw [Nat.mul_mod_left, ← Nat.mul_assoc, Nat.mul_add_mod_self_right] at h3
      exact h3.symm
    rw [h2, Nat.add_zero] at h1
    have h4 : a * d = (b * q + r / d) * d := by
      rw [h, Nat.add_mul, Nat.mul_comm (r / d) d, ← h1, ← Nat.mul_assoc, Nat.mul_comm q b]
    exact Nat.eq_of_mul_eq_mul_right hd h4
  have hr2 : r / d < b := Nat.div_lt_of_lt_mul (by rw [Nat.mul_comm]; exact hr)
  have := sdiv_end e hr2
  exact ⟨this.1, this.2⟩

/-- The limbs that a guess looks at. -/
theorem top_three {zs : List Nat} {e : Nat} (h : val zs < 1000000000 ^ (e + 3)) : val (zs.take e) < 1000000000 ^ e → val zs = val (zs.take e) + 1000000000 ^ e * ((gd zs (e + 2) * 1000000000 + gd zs (e + 1)) * 1000000000 + gd zs e) := by
  intro _
  have hz := gd_zero_of_lt h
  have h3 : val (zs.drop (e + 3)) = 0 := val_of_gd_zero (fun j => by rw [gd_drop]; exact hz _ (by omega))
  have e0 := val_drop zs e
  have e1 := val_drop zs (e + 1)
  have e2 := val_drop zs (e + 2)
  rw [h3] at e2
  have ex : val zs = val (zs.take e) + 1000000000 ^ e * val (zs.drop e) := by
    rcases Nat.lt_or_ge zs.length e with h1 | h1
    · rw [List.take_of_length_le (by omega), List.drop_of_length_le (by omega)]; simp [val]
    · exact val_take_drop zs e h1
  rw [e0, e1, e2] at ex
  rw [ex]
  congr 2
  omega
theorem val_take_lt {zs : List Nat} (hl : limbs zs) (e : Nat) : val (zs.take e) < 1000000000 ^ e := by
  refine Nat.lt_of_lt_of_le (val_lt (limbs_take hl e)) (Nat.pow_le_pow_right (by omega) ?_)
  rw [List.length_take]; omega
theorem top_two {b n : Nat} (hn : (dg b).length = n + 2) : b = val ((dg b).take n) + 1000000000 ^ n * (gd (dg b) (n + 1) * 1000000000 + gd (dg b) n) := by
  have e0 := val_drop (dg b) n
  have e1 := val_drop (dg b) (n + 1)
  rw [List.drop_of_length_le (show (dg b).length ≤ n + 1 + 1 by omega)] at e1
  have ex := val_take_drop (dg b) n (by omega)
  rw [e0, e1, val_dg] at ex
  simp only [val, Nat.mul_zero, Nat.add_zero] at ex
  rw [Nat.mul_comm (gd (dg b) (n + 1)), Nat.add_comm (1000000000 * gd (dg b) (n + 1))]
  exact ex

end Go.Proofs.YtjkandnbjbfeiaaDoor.Num
