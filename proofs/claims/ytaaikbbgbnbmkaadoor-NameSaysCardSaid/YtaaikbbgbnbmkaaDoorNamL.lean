/-
  Mathematics of patterns (layer 11): what a pattern says, and that the last star alone is to be tried again.
-/
import Derived.Test.YtaaikbbgbnbmkaaDoorNamMath
set_option linter.unusedVariables false
set_option linter.unusedSimpArgs false
namespace Go.Proofs.YtaaikbbgbnbmkaaDoor

/-- Is s what the pattern says? -/
def gm : List Nat → List Nat → Prop
  | [], s => s = []
  | c :: p, s => if c = 42 then ∃ j, gm p (s.drop j) else ∃ x t, s = x :: t ∧ (c = 63 ∨ c = x) ∧ gm p t
theorem gm_star (p s : List Nat) : gm (42 :: p) s ↔ ∃ j, gm p (s.drop j) := by rw [gm, if_pos rfl]
theorem gm_byte {c : Nat} (h : c ≠ 42) (p : List Nat) (x : Nat) (t : List Nat) : gm (c :: p) (x :: t) ↔ (c = 63 ∨ c = x) ∧ gm p t := by
  rw [gm, if_neg h]
  constructor
  · rintro ⟨y, u, e, h1, h2⟩
    obtain ⟨rfl, rfl⟩ := List.cons.inj e
    exact ⟨h1, h2⟩
  · rintro ⟨h1, h2⟩; exact ⟨x, t, rfl, h1, h2⟩
theorem gm_byte_nil {c : Nat} (h : c ≠ 42) (p : List Nat) : ¬ gm (c :: p) [] := by
  rw [gm, if_neg h]
  rintro ⟨y, u, e, _⟩
  cases e
/-- Stars alone. -/
def stars (l : List Nat) : Bool := l.all fun c => c == 42
theorem gm_empty (p : List Nat) : gm p [] ↔ stars p = true := by
  induction p with
  | nil => rw [gm]; exact ⟨fun _ => rfl, fun _ => rfl⟩
  | cons c p ih =>
    unfold stars
    rw [List.all_cons]
    by_cases h : c = 42
    · subst h
      rw [gm_star]
      constructor
      · rintro ⟨j, hj⟩
        rw [List.drop_nil] at hj
        rw [show ((42 : Nat) == 42) = true from rfl, Bool.true_and]; exact ih.1 hj
      · intro e
        rw [show ((42 : Nat) == 42) = true from rfl, Bool.true_and] at e
        exact ⟨0, ih.2 e⟩
    · constructor
      · intro e; exact absurd e (gm_byte_nil h p)
      · intro e
        rw [show (c == 42) = false by simpa using h, Bool.false_and] at e
        cases e
/-- Byte for byte, with no star. -/
def fits : List Nat → List Nat → Prop
  | [], [] => True
  | q :: Q, t :: T => q ≠ 42 ∧ (q = 63 ∨ q = t) ∧ fits Q T
  | _, _ => False
theorem fits_gm {Q T : List Nat} (h : fits Q T) (R U : List Nat) : gm (Q ++ R) (T ++ U) ↔ gm R U := by
  induction Q generalizing T with
  | nil =>
    cases T with
    | nil => exact Iff.rfl
    | cons t T => exact absurd h (by simp [fits])
  | cons q Q ih =>
    cases T with
    | nil => exact absurd h (by simp [fits])
    | cons t T =>
      obtain ⟨h1, h2, h3⟩ := h
      rw [List.cons_append, List.cons_append, gm_byte h1]
      exact ⟨fun e => (ih h3).1 e.2, fun e => ⟨h2, (ih h3).2 e⟩⟩
theorem fits_drop {Q T : List Nat} (h : fits Q T) {R X : List Nat} (hg : gm (Q ++ R) X) : gm R (X.drop Q.length) := by
  induction Q generalizing T X with
  | nil => exact hg
  | cons q Q ih =>
    cases T with
    | nil => exact absurd h (by simp [fits])
    | cons t T =>
      obtain ⟨h1, _, h3⟩ := h
      cases X with
      | nil => exact absurd hg (by rw [List.cons_append]; exact gm_byte_nil h1 _)
      | cons x X =>
        rw [List.cons_append, gm_byte h1] at hg
        exact ih h3 hg.2
theorem fits_push {Q T : List Nat} (h : fits Q T) {c x : Nat} (h1 : c ≠ 42) (h2 : c = 63 ∨ c = x) : fits (Q ++ [c]) (T ++ [x]) := by
  induction Q generalizing T with
  | nil =>
    cases T with
    | nil => exact ⟨h1, h2, trivial⟩
    | cons t T => exact absurd h (by simp [fits])
  | cons q Q ih =>
    cases T with
    | nil => exact absurd h (by simp [fits])
    | cons t T => exact ⟨h.1, h.2.1, ih h.2.2⟩
/-- How far pattern and text have been gone through: at i and k; o: behind the last star, and how far that star had been taken. -/
def GS (p s : List Nat) (i k : Nat) : Option (Nat × Nat) → Prop
  | none => i ≤ p.length ∧ k ≤ s.length ∧ (gm p s ↔ gm (p.drop i) (s.drop k))
  | some (b, t) => ∃ n, i = b + n ∧ k = t + n ∧ i ≤ p.length ∧ k ≤ s.length ∧ fits ((p.drop b).take n) ((s.drop t).take n) ∧ (gm p s ↔ ∃ j, t ≤ j ∧ gm (p.drop b) (s.drop j))
section
variable {p s : List Nat} {i k : Nat}
theorem GS.start : GS p s 0 0 none := ⟨Nat.zero_le _, Nat.zero_le _, Iff.rfl⟩
theorem GS.le {o : Option (Nat × Nat)} (h : GS p s i k o) : i ≤ p.length ∧ k ≤ s.length := by
  match o, h with
  | none, h => exact ⟨h.1, h.2.1⟩
  | some (b, t), ⟨n, _, _, h1, h2, _⟩ => exact ⟨h1, h2⟩
theorem GS.le2 {b t : Nat} (h : GS p s i k (some (b, t))) : b ≤ i ∧ t ≤ k := by
  obtain ⟨n, h1, h2, _⟩ := h
  omega
theorem drop_get {l : List Nat} {i c : Nat} (h : l[i]? = some c) : l.drop i = c :: l.drop (i + 1) := by
  have hl := (List.getElem?_eq_some_iff.1 h).1
  rw [List.drop_eq_getElem_cons hl, (List.getElem?_eq_some_iff.1 h).2]
theorem drop_parts (l : List Nat) (b n : Nat) : l.drop b = (l.drop b).take n ++ l.drop (b + n) := by
  rw [← List.drop_drop, List.take_append_drop]
theorem len_part {l : List Nat} {b n : Nat} (h : b + n ≤ l.length) : ((l.drop b).take n).length = n := by rw [List.length_take, List.length_drop]; omega
theorem GS.star {o : Option (Nat × Nat)} (h : GS p s i k o) (hc : p[i]? = some 42) : GS p s (i + 1) k (some (i + 1, k)) := by
  have hl := (List.getElem?_eq_some_iff.1 hc).1
  have e := drop_get hc
  have hk := h.le.2
  refine ⟨0, rfl, rfl, hl, hk, by rw [List.take_zero, List.take_zero]; trivial, ?_⟩
  match o, h with
  | none, ⟨_, _, h⟩ =>
    rw [h, e, gm_star]
    constructor
    · rintro ⟨j, hj⟩; exact ⟨k + j, by omega, by rw [show s.drop (k + j) = (s.drop k).drop j from List.drop_drop.symm]; exact hj⟩
    · rintro ⟨j, h1, hj⟩; exact ⟨j - k, by rw [List.drop_drop, show k + (j - k) = j by omega]; exact hj⟩
  | some (b, t), ⟨n, hi, hkn, h1, h2, hf, h⟩ =>
    have ep := drop_parts p b n
    rw [← hi, e] at ep
    have es := drop_parts s t n
    rw [← hkn] at es
    rw [h]
    constructor
    · rintro ⟨j, h3, hj⟩
      rw [ep] at hj
      have := fits_drop hf hj
      rw [len_part (by omega), List.drop_drop, gm_star] at this
      obtain ⟨j2, hj2⟩ := this
      rw [List.drop_drop] at hj2
      exact ⟨j + n + j2, by omega, hj2⟩
    · rintro ⟨j, h3, hj⟩
      refine ⟨t, Nat.le_refl _, ?_⟩
      rw [ep, es, fits_gm hf, gm_star]
      exact ⟨j - k, by rw [List.drop_drop, show k + (j - k) = j by omega]; exact hj⟩
theorem GS.byte {o : Option (Nat × Nat)} (h : GS p s i k o) {c x : Nat} (hc : p[i]? = some c) (hx : s[k]? = some x) (h1 : c ≠ 42) (h2 : c = 63 ∨ c = x) : GS p s (i + 1) (k + 1) o := by
  have hl := (List.getElem?_eq_some_iff.1 hc).1
  have hl2 := (List.getElem?_eq_some_iff.1 hx).1
  match o, h with
  | none, ⟨_, _, h⟩ => exact ⟨hl, hl2, by rw [h, drop_get hc, drop_get hx, gm_byte h1]; exact ⟨fun e => e.2, fun e => ⟨h2, e⟩⟩⟩
  | some (b, t), ⟨n, hi, hkn, _, _, hf, h⟩ =>
    refine ⟨n + 1, by omega, by omega, hl, hl2, ?_, h⟩
    rw [List.take_add_one, List.take_add_one, List.getElem?_drop, List.getElem?_drop, ← hi, ← hkn, hc, hx]
    exact fits_push hf h1 h2
/-- Here the pattern does not go on. -/
def Miss (p s : List Nat) (i k : Nat) : Prop := ∃ x, s[k]? = some x ∧ (p[i]? = none ∨ ∃ c, p[i]? = some c ∧ c ≠ 42 ∧ c ≠ 63 ∧ c ≠ x)
theorem Miss.no (h : Miss p s i k) : ¬ gm (p.drop i) (s.drop k) := by
  obtain ⟨x, hx, h | ⟨c, hc, h1, h2, h3⟩⟩ := h
  · rw [drop_get hx, List.drop_of_length_le (List.getElem?_eq_none_iff.1 h), gm]
    exact List.cons_ne_nil _ _
  · rw [drop_get hx, drop_get hc, gm_byte h1]
    rintro ⟨h4 | h4, _⟩
    · exact h2 h4
    · exact h3 h4
theorem GS.fail (h : GS p s i k none) (hm : Miss p s i k) : ¬ gm p s := by rw [h.2.2]; exact hm.no
theorem GS.back {b t : Nat} (h : GS p s i k (some (b, t))) (hm : Miss p s i k) : t + 1 ≤ s.length ∧ GS p s b (t + 1) (some (b, t + 1)) := by
  obtain ⟨n, hi, hkn, h1, h2, hf, h⟩ := h
  have hl : k < s.length := by
    obtain ⟨x, hx, _⟩ := hm
    exact (List.getElem?_eq_some_iff.1 hx).1
  refine ⟨by omega, 0, rfl, rfl, by omega, by omega, by rw [List.take_zero, List.take_zero]; trivial, ?_⟩
  rw [h]
  constructor
  · rintro ⟨j, h3, hj⟩
    rcases Nat.lt_or_ge t j with h4 | h4
    · exact ⟨j, h4, hj⟩
    · obtain rfl : j = t := by omega
      exfalso
      rw [drop_parts p b n, drop_parts s j n, fits_gm hf, ← hi, ← hkn] at hj
      exact hm.no hj
  · rintro ⟨j, h3, hj⟩; exact ⟨j, by omega, hj⟩
theorem GS.ended {o : Option (Nat × Nat)} (h : GS p s i k o) (hk : s.length ≤ k) : gm p s ↔ stars (p.drop i) = true := by
  have hk0 : s.drop k = [] := List.drop_of_length_le hk
  rw [← gm_empty]
  match o, h with
  | none, ⟨_, _, h⟩ => rw [h, hk0]
  | some (b, t), ⟨n, hi, hkn, h1, h2, hf, h⟩ =>
    rw [h]
    constructor
    · rintro ⟨j, h3, hj⟩
      rw [drop_parts p b n] at hj
      have := fits_drop hf hj
      rw [len_part (by omega), List.drop_drop, ← hi, show s.drop (j + n) = [] from List.drop_of_length_le (by omega)] at this
      exact this
    · intro e
      refine ⟨t, Nat.le_refl _, ?_⟩
      rw [drop_parts p b n, drop_parts s t n, fits_gm hf, ← hi, ← hkn, hk0]
      exact e
end
theorem stars_step {p : List Nat} {i : Nat} (h : p[i]? = some 42) : stars (p.drop i) = stars (p.drop (i + 1)) := by
  rw [drop_get h]; unfold stars; rw [List.all_cons]; rfl
theorem stars_no {p : List Nat} {i c : Nat} (h : p[i]? = some c) (hc : c ≠ 42) : stars (p.drop i) = false := by
  rw [drop_get h]; unfold stars; rw [List.all_cons, show (c == 42) = false by simpa using hc]; rfl

theorem gm_all (s : List Nat) : gm [42] s := by rw [gm_star]; exact ⟨s.length, by rw [List.drop_length, gm]⟩
theorem gm_ahead (s t : List Nat) : gm (s ++ [42]) (s ++ t) := by
  induction s with
  | nil => exact gm_all t
  | cons c s ih =>
    rw [List.cons_append, List.cons_append]
    by_cases h : c = 42
    · subst h; rw [gm_star]; exact ⟨1, ih⟩
    · rw [gm_byte h]; exact ⟨.inr rfl, ih⟩
theorem gm_self (s : List Nat) : gm s s := by
  induction s with
  | nil => rw [gm]
  | cons c s ih =>
    by_cases h : c = 42
    · subst h; rw [gm_star]; exact ⟨1, ih⟩
    · rw [gm_byte h]; exact ⟨.inr rfl, ih⟩
theorem gm_behind (s t : List Nat) : gm (42 :: t) (s ++ t) := by rw [gm_star]; exact ⟨s.length, by rw [List.drop_left]; exact gm_self t⟩
theorem gm_plain {s : List Nat} (h : ∀ c ∈ s, c ≠ 42 ∧ c ≠ 63) : ∀ t, gm s t ↔ s = t := by
  induction s with
  | nil => intro t; rw [gm]; exact eq_comm
  | cons c s ih =>
    intro t
    obtain ⟨h1, h2⟩ := h c List.mem_cons_self
    cases t with
    | nil => exact ⟨fun e => absurd e (gm_byte_nil h1 s), fun e => by cases e⟩
    | cons x t =>
      rw [gm_byte h1, ih (fun d hd => h d (List.mem_cons_of_mem _ hd)), List.cons.injEq]
      constructor
      · rintro ⟨h3 | h3, h4⟩
        · exact absurd h3 h2
        · exact ⟨h3, h4⟩
      · rintro ⟨h3, h4⟩; exact ⟨.inr h3, h4⟩

/-- How much is left to be tried. -/
def lexM (P S b t k : Nat) : Nat := ((P + 1 - b) * (S + 2) + (S + 1 - t)) * (S + 2) + (S + 1 - k)
theorem lx {x x' u u' D : Nat} (h : x' < x) (hu : u' < D) : x' * D + u' < x * D + u := by
  have h1 : (x' + 1) * D ≤ x * D := Nat.mul_le_mul_right D h
  rw [Nat.add_mul, Nat.one_mul] at h1
  omega
theorem lexM_b {P S b b' t t' k k' : Nat} (h : b < b') (h2 : b' ≤ P) : lexM P S b' t' k' < lexM P S b t k := by
  unfold lexM
  exact lx (lx (by omega) (by omega)) (by omega)
theorem lexM_t {P S b t t' k k' : Nat} (h : t < t') (h2 : t' ≤ S) : lexM P S b t' k' < lexM P S b t k := by
  unfold lexM
  exact lx (Nat.add_lt_add_left (by omega) _) (by omega)
theorem lexM_k {P S b t k k' : Nat} (h : k < k') (h2 : k' ≤ S) : lexM P S b t k' < lexM P S b t k := by
  unfold lexM
  exact Nat.add_lt_add_left (by omega) _

end Go.Proofs.YtaaikbbgbnbmkaaDoor
