/- What the proofs of this layer need of the layer Sca, in one text. -/
import Derived.Test.YtjkandnbjbfeiaaDoorUtfMath
set_option linter.unusedVariables false
set_option linter.unusedSimpArgs false

/-
  Mathematics of layer 10: lines of texts as lists of bytes; blanks; places; where a line begins.
-/
namespace Go.Proofs.YtjkandnbjbfeiaaDoor

/-- The bytes up to the first 10. -/
def hdl : List Nat → List Nat
  | [] => []
  | b :: t => if b = 10 then [] else b :: hdl t
/-- A line without the 13 at its end. -/
def strl (l : List Nat) : List Nat := if l.getLast? = some 13 then l.dropLast else l
/-- The lines of a text. -/
def linl (l : List Nat) : List (List Nat) := if h : l = [] then [] else strl (hdl l) :: linl (l.drop ((hdl l).length + 1))
termination_by l.length
decreasing_by
  have := List.length_pos_iff.2 h
  rw [List.length_drop]; omega
/-- How many blanks and tabs a text begins with. -/
def indl : List Nat → Nat
  | [] => 0
  | b :: t => if b = 32 ∨ b = 9 then indl t + 1 else 0
/-- Nothing or a remark behind them, or a heading. -/
def Blk (l : List Nat) : Prop := indl l = l.length ∨ l[indl l]? = some 59 ∨ l[0]? = some 42
instance (l : List Nat) : Decidable (Blk l) := by unfold Blk; infer_instance
/-- The place behind some bytes. -/
def stp10 (p : Nat × Nat) (b : Nat) : Nat × Nat := if b = 10 then (p.1 + 1, 1) else (p.1, p.2 + 1)
def posl (l : List Nat) : Nat × Nat := l.foldl stp10 (1, 1)
/-- Where the line begins that so many are ahead of. -/
def bgnl : Nat → List Nat → Option Nat
  | 0, _ => some 0
  | _ + 1, [] => none
  | k + 1, b :: t => (if b = 10 then bgnl k t else bgnl (k + 1) t).map (· + 1)
/-- Lines, each with an end. -/
def joinl (l : List (List Nat)) : List Nat := l.flatMap (· ++ [10])

theorem hdl_le : ∀ l : List Nat, (hdl l).length ≤ l.length
  | [] => Nat.le_refl _
  | b :: t => by
    rw [hdl]; split
    · exact Nat.zero_le _
    · have := hdl_le t; simpa using this
theorem hdl_take : ∀ l : List Nat, hdl l = l.take (hdl l).length
  | [] => rfl
  | b :: t => by
    rw [hdl]; split
    · rfl
    · rw [List.length_cons, List.take_succ_cons, ← hdl_take t]
theorem hdl_not : ∀ l : List Nat, 10 ∉ hdl l
  | [] => List.not_mem_nil
  | b :: t => by
    rw [hdl]; split
    · exact List.not_mem_nil
    · rename_i h
      intro e
      rcases List.mem_cons.1 e with e | e
      · exact h e.symm
      · exact hdl_not t e
theorem hdl_drop : ∀ {l : List Nat}, (hdl l).length < l.length → l.drop (hdl l).length = 10 :: l.drop ((hdl l).length + 1)
  | [], h => absurd h (Nat.lt_irrefl _)
  | b :: t, h => by
    rw [hdl] at h ⊢; split at h
    · rename_i e; rw [if_pos e, e]; rfl
    · rename_i e
      rw [if_neg e]
      show t.drop (hdl t).length = 10 :: t.drop ((hdl t).length + 1)
      exact hdl_drop (by simpa using h)
theorem hdl_ten : ∀ {l : List Nat} {n x : Nat}, n ≤ (hdl l).length → l[n]? = some x → (x = 10 → (hdl l).length = n) ∧ (x ≠ 10 → n + 1 ≤ (hdl l).length)
  | [], n, x, _, hx => by simp at hx
  | b :: t, 0, x, _, hx => by
    have e : b = x := by simpa using hx
    subst e
    constructor
    · intro h; rw [hdl, if_pos h]; rfl
    · intro h; rw [hdl, if_neg h]; simp
  | b :: t, n + 1, x, h, hx => by
    have hb : b ≠ 10 := fun e => by rw [hdl, if_pos e] at h; exact absurd h (Nat.not_succ_le_zero _)
    rw [hdl, if_neg hb] at h ⊢
    have := hdl_ten (l := t) (n := n) (x := x) (by simpa using h) (by simpa using hx)
    constructor
    · intro e; rw [List.length_cons, this.1 e]
    · intro e; have := this.2 e; rw [List.length_cons]; omega
theorem hdl_app : ∀ {t : List Nat} (u : List Nat), 10 ∉ t → hdl (t ++ 10 :: u) = t
  | [], u, _ => by rw [List.nil_append, hdl, if_pos rfl]
  | b :: t, u, h => by
    rw [List.cons_append, hdl, if_neg (fun e => h (by rw [e]; exact List.mem_cons_self)), hdl_app u (fun e => h (List.mem_cons_of_mem _ e))]
theorem strl_le (l : List Nat) : (strl l).length ≤ l.length := by
  unfold strl; split
  · rw [List.length_dropLast]; omega
  · exact Nat.le_refl _
theorem strl_take (l : List Nat) : strl l = l.take (strl l).length := by
  unfold strl; split
  · rw [List.length_dropLast, List.dropLast_eq_take]
  · rw [List.take_length]
theorem strl_nil : strl [] = [] := by unfold strl; rw [if_neg (by simp)]
theorem linl_nil : linl [] = [] := by rw [linl, dif_pos rfl]
theorem linl_cons {l : List Nat} (h : l ≠ []) : linl l = strl (hdl l) :: linl (l.drop ((hdl l).length + 1)) := by rw [linl, dif_neg h]
theorem linl_at {l : List Nat} {i : Nat} (h : i < l.length) : linl (l.drop i) = strl (hdl (l.drop i)) :: linl (l.drop (i + (hdl (l.drop i)).length + 1)) := by
  rw [linl_cons (fun e => by have := congrArg List.length e; rw [List.length_drop, List.length_nil] at this; omega), List.drop_drop, Nat.add_assoc]
theorem linl_le : ∀ (n : Nat) (l : List Nat), l.length ≤ n → (linl l).length ≤ l.length := by
  intro n
  induction n with
  | zero => intro l h; rw [List.eq_nil_of_length_eq_zero (Nat.le_zero.1 h), linl_nil]; exact Nat.zero_le _
  | succ n ih =>
    intro l h
    by_cases h0 : l = []
    · rw [h0, linl_nil]; exact Nat.zero_le _
    · have h1 := List.length_pos_iff.2 h0
      have := ih (l.drop ((hdl l).length + 1)) (by rw [List.length_drop]; omega)
      rw [linl_cons h0, List.length_cons]
      rw [List.length_drop] at this
      omega
theorem linl_len (l : List Nat) : (linl l).length ≤ l.length := linl_le _ l (Nat.le_refl _)
theorem joinl_nil : joinl [] = [] := rfl
theorem joinl_push (l : List (List Nat)) (t : List Nat) : joinl (l ++ [t]) = joinl l ++ (t ++ [10]) := by simp [joinl]
theorem joinl_cons (l : List (List Nat)) (t : List Nat) : joinl (t :: l) = t ++ 10 :: joinl l := by simp [joinl]
/-- What is joined of lines without an end, and without a 13 at their end, is parted into them. -/
theorem linl_join : ∀ {l : List (List Nat)}, (∀ t ∈ l, 10 ∉ t ∧ t.getLast? ≠ some 13) → linl (joinl l) = l
  | [], _ => linl_nil
  | t :: l, h => by
    obtain ⟨h1, h2⟩ := h t List.mem_cons_self
    rw [joinl_cons, linl_cons (by simp), hdl_app _ h1]
    have e : (t ++ 10 :: joinl l).drop (t.length + 1) = joinl l := by
      rw [show t ++ 10 :: joinl l = (t ++ [10]) ++ joinl l by simp]
      exact List.drop_left' (by simp)
    rw [e, linl_join (fun u hu => h u (List.mem_cons_of_mem _ hu))]
    unfold strl; rw [if_neg h2]
theorem joinl_le : ∀ (n : Nat) (l : List Nat), l.length ≤ n → (joinl (linl l)).length ≤ l.length + 1 := by
  intro n
  induction n with
  | zero => intro l h; rw [List.eq_nil_of_length_eq_zero (Nat.le_zero.1 h), linl_nil]; exact Nat.zero_le _
  | succ n ih =>
    intro l h
    by_cases h0 : l = []
    · rw [h0, linl_nil]; exact Nat.zero_le _
    · have h1 := List.length_pos_iff.2 h0
      have h2 := hdl_le l
      have h3 := strl_le (hdl l)
      rw [linl_cons h0, joinl_cons, List.length_append, List.length_cons]
      rcases Nat.lt_or_ge (hdl l).length l.length with h4 | h4
      · have := ih (l.drop ((hdl l).length + 1)) (by rw [List.length_drop]; omega)
        rw [List.length_drop] at this
        omega
      · rw [List.drop_of_length_le (by omega), linl_nil, joinl_nil, List.length_nil]; omega
theorem linl_count : ∀ (n : Nat) (l : List Nat), l.length ≤ n → (linl l).length = l.count 10 + (if l = [] ∨ l.getLast? = some 10 then 0 else 1) := by
  intro n
  induction n with
  | zero => intro l h; rw [List.eq_nil_of_length_eq_zero (Nat.le_zero.1 h), linl_nil]; rfl
  | succ n ih =>
    intro l h
    by_cases h0 : l = []
    · rw [h0, linl_nil]; rfl
    · have h1 := List.length_pos_iff.2 h0
      have hc : (hdl l).count 10 = 0 := List.count_eq_zero.2 (hdl_not l)
      rw [linl_cons h0, List.length_cons]
      rcases Nat.lt_or_ge (hdl l).length l.length with h4 | h4
      · have hi := ih (l.drop ((hdl l).length + 1)) (by rw [List.length_drop]; omega)
        have hl : l = hdl l ++ 10 :: l.drop ((hdl l).length + 1) := by
          conv => lhs; rw [← List.take_append_drop (hdl l).length l, ← hdl_take, hdl_drop h4]
        rw [hi]
        generalize hr : l.drop ((hdl l).length + 1) = r at hl
        rw [hr] at hi
        have e1 : l.count 10 = 1 + r.count 10 := by
          rw [hl, List.count_append, hc, List.count_cons]; simp; omega
        have e2 : l.getLast? = some (r.getLast?.getD 10) := by
          rw [hl, List.getLast?_append]
          cases r with
          | nil => rfl
          | cons b r => rw [List.getLast?_cons_cons]; cases hx : (b :: r).getLast? with
            | none => simp at hx
            | some x => rfl
        rw [e1]
        by_cases hr0 : r = []
        · rw [if_pos (.inl hr0), if_pos (.inr (by rw [e2, hr0]; rfl))]; omega
        · have e3 : (l = [] ∨ l.getLast? = some 10) ↔ (r = [] ∨ r.getLast? = some 10) := by
            constructor
            · intro k
              rcases k with k | k
              · exact absurd k h0
              · rw [e2] at k
                cases hx : r.getLast? with
                | none => exact absurd (List.getLast?_eq_none_iff.1 hx) hr0
                | some x => rw [hx] at k; exact .inr k
            · intro k
              rcases k with k | k
              · exact absurd k hr0
              · exact .inr (by rw [e2, k]; rfl)
          by_cases k : r = [] ∨ r.getLast? = some 10
          · rw [if_pos k, if_pos (e3.2 k)]; omega
          · rw [if_neg k, if_neg (fun e => k (e3.1 e))]; omega
      · have hl : l = hdl l := by conv => rhs; rw [hdl_take, List.take_of_length_le h4]
        rw [List.drop_of_length_le (by omega), linl_nil]
        have hn : 10 ∉ l := by conv => rw [hl]
                               exact hdl_not l
        rw [List.count_eq_zero.2 hn, if_neg]
        · rfl
        · intro e
          rcases e with e | e
          · exact h0 e
          · exact hn (List.mem_of_getLast? e)
theorem indl_le : ∀ l : List Nat, indl l ≤ l.length
  | [] => Nat.le_refl _
  | b :: t => by
    rw [indl]; split
    · have := indl_le t; rw [List.length_cons]; omega
    · exact Nat.zero_le _
theorem indl_at : ∀ {l : List Nat} {n x : Nat}, n ≤ indl l → l[n]? = some x → ((x = 32 ∨ x = 9) → n + 1 ≤ indl l) ∧ (¬ (x = 32 ∨ x = 9) → indl l = n)
  | [], n, x, _, hx => by simp at hx
  | b :: t, 0, x, _, hx => by
    have e : b = x := by simpa using hx
    subst e
    constructor
    · intro h; rw [indl, if_pos h]; omega
    · intro h; rw [indl, if_neg h]
  | b :: t, n + 1, x, h, hx => by
    have hb : b = 32 ∨ b = 9 := Decidable.byContradiction fun e => by rw [indl, if_neg e] at h; exact absurd h (Nat.not_succ_le_zero _)
    rw [indl, if_pos hb] at h ⊢
    have := indl_at (l := t) (n := n) (x := x) (by omega) (by simpa using hx)
    constructor
    · intro e; have := this.1 e; omega
    · intro e; rw [this.2 e]
/-- A text that begins with * begins with no blank. -/
theorem ind_star {l : List Nat} (h : l[0]? = some 42) : indl l = 0 := by
  match l, h with
  | b :: t, h =>
    have e : b = 42 := by simpa using h
    rw [indl, if_neg (by omega)]
theorem posl_snoc (l : List Nat) (b : Nat) : posl (l ++ [b]) = stp10 (posl l) b := by unfold posl; rw [List.foldl_append]; rfl
theorem posl_step {l : List Nat} {i x : Nat} (h : l[i]? = some x) : posl (l.take (i + 1)) = stp10 (posl (l.take i)) x := by
  rw [List.take_add_one, h]; exact posl_snoc _ _
theorem fold_pos : ∀ (t u : List Nat) (p : Nat × Nat), 1 ≤ p.2 → (((t.foldl stp10 p).1 = p.1 ∧ (t.foldl stp10 p).2 = p.2 + t.length) ∨
    (p.1 < (t.foldl stp10 p).1 ∧ 1 ≤ (t.foldl stp10 p).2 ∧ (t.foldl stp10 p).2 ≤ t.length ∧ bgnl ((t.foldl stp10 p).1 - p.1) (t ++ u) = some (t.length + 1 - (t.foldl stp10 p).2)))
  | [], u, p, _ => .inl ⟨rfl, rfl⟩
  | b :: t, u, p, hp => by
    rw [List.foldl_cons]
    generalize hq : t.foldl stp10 (stp10 p b) = q
    by_cases hb : b = 10
    · have e1 : stp10 p b = (p.1 + 1, 1) := by unfold stp10; rw [if_pos hb]
      have := fold_pos t u (p.1 + 1, 1) (Nat.le_refl _)
      rw [e1] at hq
      rw [hq] at this
      rcases this with ⟨h1, h2⟩ | ⟨h1, h2, h3, h4⟩
      · simp only at h1 h2
        refine .inr ⟨by omega, by omega, by rw [List.length_cons]; omega, ?_⟩
        rw [show q.1 - p.1 = 0 + 1 by omega, List.cons_append, bgnl, if_pos hb, bgnl]
        show some 1 = _
        rw [List.length_cons]; exact congrArg some (by omega)
      · simp only at h1 h4
        refine .inr ⟨by omega, h2, by rw [List.length_cons]; omega, ?_⟩
        obtain ⟨k, hk⟩ : ∃ k, q.1 - (p.1 + 1) = k := ⟨_, rfl⟩
        rw [hk] at h4
        rw [show q.1 - p.1 = k + 1 by omega, List.cons_append, bgnl, if_pos hb, h4]
        show some (t.length + 1 - q.2 + 1) = _
        rw [List.length_cons]; exact congrArg some (by omega)
    · have e1 : stp10 p b = (p.1, p.2 + 1) := by unfold stp10; rw [if_neg hb]
      have := fold_pos t u (p.1, p.2 + 1) (by simp only; omega)
      rw [e1] at hq
      rw [hq] at this
      rcases this with ⟨h1, h2⟩ | ⟨h1, h2, h3, h4⟩
      · exact .inl ⟨h1, by rw [h2, List.length_cons]; simp only; omega⟩
      · simp only at h1 h4
        refine .inr ⟨h1, h2, by rw [List.length_cons]; omega, ?_⟩
        obtain ⟨k, hk⟩ : ∃ k, q.1 - p.1 = k + 1 := ⟨q.1 - p.1 - 1, by omega⟩
        rw [hk] at h4
        rw [hk, List.cons_append, bgnl, if_neg hb, h4]
        show some (t.length + 1 - q.2 + 1) = _
        rw [List.length_cons]; exact congrArg some (by omega)
/-- The place behind some bytes, and where its line begins. -/
theorem pos_bgn (l : List Nat) {i : Nat} (h : i ≤ l.length) : 1 ≤ (posl (l.take i)).1 ∧ 1 ≤ (posl (l.take i)).2 ∧ (posl (l.take i)).2 ≤ i + 1 ∧ bgnl ((posl (l.take i)).1 - 1) l = some (i + 1 - (posl (l.take i)).2) := by
  have := fold_pos (l.take i) (l.drop i) (1, 1) (Nat.le_refl _)
  rw [List.take_append_drop, List.length_take, Nat.min_eq_left h] at this
  unfold posl
  rcases this with ⟨h1, h2⟩ | ⟨h1, h2, h3, h4⟩
  · simp only at h1 h2
    refine ⟨by omega, by omega, by omega, ?_⟩
    rw [h1, bgnl]; exact congrArg some (by omega)
  · simp only at h1 h4
    exact ⟨by omega, h2, by omega, h4⟩
theorem bgnl_le : ∀ {k : Nat} {l : List Nat} {f : Nat}, bgnl k l = some f → f ≤ l.length
  | 0, _, f, h => by rw [bgnl] at h; cases h; exact Nat.zero_le _
  | k + 1, [], f, h => by rw [bgnl] at h; cases h
  | k + 1, b :: t, f, h => by
    rw [bgnl] at h
    rw [List.length_cons]
    split at h
    · cases hx : bgnl k t with
      | none => rw [hx] at h; cases h
      | some g => rw [hx] at h; have := bgnl_le hx; have h3 : g + 1 = f := Option.some.inj h; omega
    · cases hx : bgnl (k + 1) t with
      | none => rw [hx] at h; cases h
      | some g => rw [hx] at h; have := bgnl_le hx; have h3 : g + 1 = f := Option.some.inj h; omega
theorem bgnl_hdl (k : Nat) : ∀ l : List Nat, bgnl (k + 1) l = if (hdl l).length < l.length then (bgnl k (l.drop ((hdl l).length + 1))).map (· + ((hdl l).length + 1)) else none
  | [] => by rw [bgnl, if_neg (by show ¬ (0 < 0); omega)]
  | b :: t => by
    rw [bgnl, hdl]
    by_cases hb : b = 10
    · rw [if_pos hb, if_pos hb, if_pos (by simp)]; rfl
    · rw [if_neg hb, if_neg hb, bgnl_hdl k t]
      simp only [List.length_cons, Nat.add_lt_add_iff_right, List.drop_succ_cons]
      split
      · cases bgnl k (t.drop ((hdl t).length + 1)) with
        | none => rfl
        | some g => show some (g + ((hdl t).length + 1) + 1) = some (g + ((hdl t).length + 1 + 1)); exact congrArg some (by omega)
      · rfl
/-- The line that begins there. -/
def wrd (l : List Nat) : Option Nat → List Nat
  | none => []
  | some f => strl (hdl (l.drop f))
theorem lin_word : ∀ (k : Nat) (l : List Nat), ((linl l)[k]?).getD [] = wrd l (bgnl k l) ∧ (k < (linl l).length ↔ ∃ f, bgnl k l = some f ∧ f < l.length)
  | 0, l => by
    rw [bgnl]
    show _ = strl (hdl l) ∧ _
    by_cases h0 : l = []
    · rw [h0, linl_nil]
      exact ⟨strl_nil.symm, ⟨fun h => absurd h (Nat.lt_irrefl _), fun ⟨f, _, h⟩ => absurd h (Nat.not_lt_zero _)⟩⟩
    · have := List.length_pos_iff.2 h0
      rw [linl_cons h0]
      exact ⟨rfl, ⟨fun _ => ⟨0, rfl, this⟩, fun _ => by simp⟩⟩
  | k + 1, l => by
    by_cases h0 : l = []
    · rw [h0, linl_nil, bgnl]
      exact ⟨rfl, ⟨fun h => absurd h (Nat.not_lt_zero _), fun ⟨f, h, _⟩ => (by cases h)⟩⟩
    · obtain ⟨h1, h2⟩ := lin_word k (l.drop ((hdl l).length + 1))
      rw [linl_cons h0, bgnl_hdl, List.getElem?_cons_succ, List.length_cons, Nat.add_lt_add_iff_right, h1, h2]
      split
      · rename_i h
        cases hb : bgnl k (l.drop ((hdl l).length + 1)) with
        | none => exact ⟨rfl, ⟨fun ⟨f, h, _⟩ => (by cases h), fun ⟨f, h, _⟩ => (by cases h)⟩⟩
        | some g =>
          refine ⟨?_, ?_⟩
          · show strl (hdl ((l.drop ((hdl l).length + 1)).drop g)) = strl (hdl (l.drop (g + ((hdl l).length + 1))))
            rw [List.drop_drop, Nat.add_comm]
          · constructor
            · rintro ⟨f, hf, hl⟩; cases hf; rw [List.length_drop] at hl; exact ⟨g + ((hdl l).length + 1), rfl, by omega⟩
            · rintro ⟨f, hf, hl⟩
              have hf2 : g + ((hdl l).length + 1) = f := Option.some.inj hf
              exact ⟨g, rfl, by rw [List.length_drop]; omega⟩
      · rename_i h
        have e : l.drop ((hdl l).length + 1) = [] := List.drop_of_length_le (by omega)
        rw [e]
        refine ⟨?_, ⟨fun ⟨f, _, h⟩ => absurd h (Nat.not_lt_zero _), fun ⟨f, h, _⟩ => (by cases h)⟩⟩
        cases k with
        | zero => rw [bgnl]; exact strl_nil
        | succ k => rw [bgnl]; rfl
/-- A byte stands in the line of its place, where the place says, unless it is a line's end, or a 13 ahead of it. -/
theorem place_byte {l : List Nat} {i x : Nat} (hx : l[i]? = some x) : (posl (l.take i)).1 ≤ (linl l).length ∧ 1 ≤ (posl (l.take i)).1 ∧ 1 ≤ (posl (l.take i)).2 ∧
    ∀ t, (linl l)[(posl (l.take i)).1 - 1]? = some t → (posl (l.take i)).2 ≤ t.length → t[(posl (l.take i)).2 - 1]? = some x := by
  have hi : i < l.length := (List.getElem?_eq_some_iff.1 hx).1
  obtain ⟨h1, h2, h3, h4⟩ := pos_bgn l (Nat.le_of_lt hi)
  obtain ⟨w1, w2⟩ := lin_word ((posl (l.take i)).1 - 1) l
  have := w2.2 ⟨_, h4, by omega⟩
  refine ⟨by omega, h1, h2, fun t ht hc => ?_⟩
  rw [ht, h4] at w1
  have e : t = strl (hdl (l.drop (i + 1 - (posl (l.take i)).2))) := w1
  have hle := strl_le (hdl (l.drop (i + 1 - (posl (l.take i)).2)))
  rw [e] at hc ⊢
  rw [strl_take, List.getElem?_take_of_lt (by omega), hdl_take, List.getElem?_take_of_lt (by omega), List.getElem?_drop]
  rw [← hx]; congr 1; omega

end Go.Proofs.YtjkandnbjbfeiaaDoor
