/- What the proofs of this layer need of the layer Nam, in one text. -/
import Derived.Test.YtjkandnbjbfeiaaDoorUtfMath
set_option linter.unusedVariables false
set_option linter.unusedSimpArgs false

/-
  Mathematics of layer 11: names as lists of bytes: the parts between colons, what stands ahead of the last colon and behind it, who is under whom, what two have in common.
-/
namespace Go.Proofs.YtjkandnbjbfeiaaDoor

/-- The bytes up to the first colon. -/
def hdc : List Nat → List Nat
  | [] => []
  | b :: t => if b = 58 then [] else b :: hdc t
/-- What stands between the colons. -/
def prt : List Nat → List (List Nat)
  | [] => [[]]
  | b :: t => if b = 58 then [] :: prt t else
    match prt t with
    | [] => [[b]]
    | h :: r => (b :: h) :: r
/-- What stands behind the last colon, and ahead of it. -/
def lfl : List Nat → List Nat
  | [] => []
  | b :: t => if 58 ∈ t then lfl t else if b = 58 then t else b :: t
def prl : List Nat → List Nat
  | [] => []
  | b :: t => if 58 ∈ t then b :: prl t else []
/-- Is s top, or below it? -/
def Und (s top : List Nat) : Prop := top = [] ∨ s = top ∨ ∃ u, s = top ++ 58 :: u
/-- With colons between. -/
def jnc : List (List Nat) → List Nat
  | [] => []
  | x :: r => match r with
    | [] => x
    | _ :: _ => x ++ 58 :: jnc r
/-- With what both begin. -/
def cpl {α : Type} [DecidableEq α] : List α → List α → List α
  | x :: r, y :: t => if x = y then x :: cpl r t else []
  | _, _ => []
def com (a b : List Nat) : List Nat := jnc (cpl (prt a) (prt b))

theorem prt_ne (l : List Nat) : prt l ≠ [] := by
  match l with
  | [] => rw [prt]; exact List.cons_ne_nil _ _
  | b :: t =>
    rw [prt]; split
    · exact List.cons_ne_nil _ _
    · split <;> exact List.cons_ne_nil _ _
theorem prt_colon (t : List Nat) : prt (58 :: t) = [] :: prt t := by rw [prt, if_pos rfl]
theorem prt_byte {b : Nat} (h : b ≠ 58) (t : List Nat) : ∃ x r, prt t = x :: r ∧ prt (b :: t) = (b :: x) :: r := by
  cases e : prt t with
  | nil => exact absurd e (prt_ne t)
  | cons x r => exact ⟨x, r, rfl, by rw [prt, if_neg h, e]⟩
theorem prt_app (x u : List Nat) : prt (x ++ 58 :: u) = prt x ++ prt u := by
  induction x with
  | nil => rw [List.nil_append, prt_colon, prt]; rfl
  | cons b x ih =>
    by_cases h : b = 58
    · subst h
      rw [List.cons_append, prt_colon, ih, prt_colon]; rfl
    · obtain ⟨y, r, e, e2⟩ := prt_byte h x
      obtain ⟨y', r', e', e2'⟩ := prt_byte h (x ++ 58 :: u)
      rw [ih, e, List.cons_append] at e'
      obtain ⟨rfl, rfl⟩ := List.cons.inj e'
      rw [List.cons_append, e2', e2, List.cons_append]
theorem prt_no {l : List Nat} (h : 58 ∉ l) : prt l = [l] := by
  induction l with
  | nil => rfl
  | cons b t ih =>
    have hb : b ≠ 58 := fun e => h (by rw [e]; exact List.mem_cons_self)
    rw [prt, if_neg hb, ih (fun e => h (List.mem_cons_of_mem _ e))]
theorem prt_at {x : List Nat} (h : 58 ∉ x) (u : List Nat) : prt (x ++ 58 :: u) = x :: prt u := by rw [prt_app, prt_no h]; rfl
theorem prt_len (l : List Nat) : (prt l).length = l.count 58 + 1 := by
  induction l with
  | nil => rfl
  | cons b t ih =>
    by_cases h : b = 58
    · subst h
      rw [prt_colon, List.length_cons, ih, List.count_cons_self]
    · obtain ⟨x, r, e, e2⟩ := prt_byte h t
      rw [e2, List.length_cons, ← List.length_cons (a := x), ← e, ih, List.count_cons_of_ne (by simpa using h)]
theorem prt_not (l : List Nat) : ∀ x ∈ prt l, 58 ∉ x := by
  induction l with
  | nil => intro x hx; rw [prt, List.mem_singleton] at hx; rw [hx]; exact List.not_mem_nil
  | cons b t ih =>
    intro x hx
    by_cases h : b = 58
    · subst h
      rw [prt_colon] at hx
      rcases List.mem_cons.1 hx with rfl | hx
      · exact List.not_mem_nil
      · exact ih x hx
    · obtain ⟨y, r, e, e2⟩ := prt_byte h t
      rw [e2] at hx
      rcases List.mem_cons.1 hx with rfl | hx
      · intro hm
        rcases List.mem_cons.1 hm with hm | hm
        · exact h hm.symm
        · exact ih y (by rw [e]; exact List.mem_cons_self) hm
      · exact ih x (by rw [e]; exact List.mem_cons_of_mem _ hx)
theorem prt_mem (l : List Nat) : ∀ x ∈ prt l, ∀ c ∈ x, c ∈ l := by
  induction l with
  | nil => intro x hx c hc; rw [prt, List.mem_singleton] at hx; rw [hx] at hc; exact hc
  | cons b t ih =>
    intro x hx c hc
    by_cases h : b = 58
    · subst h
      rw [prt_colon] at hx
      rcases List.mem_cons.1 hx with rfl | hx
      · exact absurd hc List.not_mem_nil
      · exact List.mem_cons_of_mem _ (ih x hx c hc)
    · obtain ⟨y, r, e, e2⟩ := prt_byte h t
      rw [e2] at hx
      rcases List.mem_cons.1 hx with rfl | hx
      · rcases List.mem_cons.1 hc with rfl | hc
        · exact List.mem_cons_self
        · exact List.mem_cons_of_mem _ (ih y (by rw [e]; exact List.mem_cons_self) c hc)
      · exact List.mem_cons_of_mem _ (ih x (by rw [e]; exact List.mem_cons_of_mem _ hx) c hc)

theorem hdc_no {l : List Nat} (h : 58 ∉ l) : hdc l = l := by
  induction l with
  | nil => rfl
  | cons b t ih => rw [hdc, if_neg (fun e => h (by rw [e]; exact List.mem_cons_self)), ih (fun e => h (List.mem_cons_of_mem _ e))]
theorem hdc_at {x : List Nat} (h : 58 ∉ x) (u : List Nat) : hdc (x ++ 58 :: u) = x := by
  induction x with
  | nil => rw [List.nil_append, hdc, if_pos rfl]
  | cons b t ih => rw [List.cons_append, hdc, if_neg (fun e => h (by rw [e]; exact List.mem_cons_self)), ih (fun e => h (List.mem_cons_of_mem _ e))]
/-- A text without a colon, or its first part, the colon, and what follows. -/
theorem colon_or (l : List Nat) : 58 ∉ l ∨ ∃ x u, l = x ++ 58 :: u ∧ 58 ∉ x := by
  induction l with
  | nil => exact .inl List.not_mem_nil
  | cons b t ih =>
    by_cases h : b = 58
    · subst h; exact .inr ⟨[], t, rfl, List.not_mem_nil⟩
    · rcases ih with ih | ⟨x, u, e, hx⟩
      · refine .inl fun e => ?_
        rcases List.mem_cons.1 e with e | e
        · exact h e.symm
        · exact ih e
      · refine .inr ⟨b :: x, u, by rw [e]; rfl, fun e => ?_⟩
        rcases List.mem_cons.1 e with e | e
        · exact h e.symm
        · exact hx e
/-- A text without a colon, or what is ahead of the last, the colon, and the last part. -/
theorem last_or (l : List Nat) : (58 ∉ l ∧ prl l = [] ∧ lfl l = l) ∨ (l = prl l ++ 58 :: lfl l ∧ 58 ∉ lfl l) := by
  induction l with
  | nil => exact .inl ⟨List.not_mem_nil, rfl, rfl⟩
  | cons b t ih =>
    rcases ih with ⟨h, _, _⟩ | ⟨h, h2⟩
    · by_cases hb : b = 58
      · subst hb
        exact .inr (by rw [prl, lfl, if_neg h, if_neg h, if_pos rfl]; exact ⟨rfl, h⟩)
      · refine .inl ⟨fun e => ?_, by rw [prl, if_neg h], by rw [lfl, if_neg h, if_neg hb]⟩
        rcases List.mem_cons.1 e with e | e
        · exact hb e.symm
        · exact h e
    · have hm : 58 ∈ t := by rw [h]; simp
      refine .inr ?_
      rw [prl, lfl, if_pos hm, if_pos hm]
      exact ⟨by rw [List.cons_append, ← h], h2⟩
theorem last_of {x y : List Nat} (h : 58 ∉ y) : prl (x ++ 58 :: y) = x ∧ lfl (x ++ 58 :: y) = y := by
  induction x with
  | nil =>
    rw [List.nil_append, prl, lfl, if_neg h, if_neg h, if_pos rfl]; exact ⟨rfl, rfl⟩
  | cons b t ih =>
    have hm : 58 ∈ t ++ 58 :: y := by simp
    rw [List.cons_append, prl, lfl, if_pos hm, if_pos hm, ih.1, ih.2]; exact ⟨rfl, rfl⟩
theorem prt_last (l : List Nat) : (prt l).getLast? = some (lfl l) := by
  rcases last_or l with ⟨h, _, h2⟩ | ⟨h, h2⟩
  · rw [prt_no h, h2]; rfl
  · conv => lhs; rw [h]
    rw [prt_app, prt_no h2, List.getLast?_concat]
theorem prt_head (l : List Nat) : (prt l).head? = some (hdc l) := by
  rcases colon_or l with h | ⟨x, u, rfl, h⟩
  · rw [prt_no h, hdc_no h]; rfl
  · rw [prt_at h, hdc_at h]; rfl

theorem jnc_cons (x : List Nat) {r : List (List Nat)} (h : r ≠ []) : jnc (x :: r) = x ++ 58 :: jnc r := by
  cases r with
  | nil => exact absurd rfl h
  | cons y t => rw [jnc]
theorem jnc_one (x : List Nat) : jnc [x] = x := rfl
theorem jnc_app {p r : List (List Nat)} (h : p ≠ []) (h2 : r ≠ []) : jnc (p ++ r) = jnc p ++ 58 :: jnc r := by
  induction p with
  | nil => exact absurd rfl h
  | cons x p ih =>
    cases p with
    | nil => rw [List.singleton_append, jnc_cons x h2, jnc_one]
    | cons y q =>
      rw [List.cons_append, jnc_cons x (by simp), ih (List.cons_ne_nil _ _), jnc_cons x (List.cons_ne_nil _ _), List.append_assoc]
      rfl
theorem jnc_mem (p q : List (List Nat)) (t : List Nat) : t.length ≤ (jnc (p ++ t :: q)).length := by
  have h1 : t.length ≤ (jnc (t :: q)).length := by
    cases q with
    | nil => exact Nat.le_refl _
    | cons y q => rw [jnc_cons t (List.cons_ne_nil _ _), List.length_append]; omega
  cases p with
  | nil => exact h1
  | cons x p => rw [jnc_app (List.cons_ne_nil _ _) (List.cons_ne_nil _ _), List.length_append, List.length_cons]; omega
theorem jnc_prt (l : List Nat) : jnc (prt l) = l := by
  induction l with
  | nil => rfl
  | cons b t ih =>
    by_cases h : b = 58
    · subst h
      rw [prt_colon, jnc_cons _ (prt_ne t), ih]; rfl
    · obtain ⟨x, r, e, e2⟩ := prt_byte h t
      rw [e] at ih
      rw [e2, ← ih]
      cases r with
      | nil => rfl
      | cons y r => rw [jnc_cons _ (List.cons_ne_nil _ _), jnc_cons _ (List.cons_ne_nil _ _)]; rfl

section
variable {α : Type} [DecidableEq α]
theorem cpl_left (a b : List α) : ∃ r, a = cpl a b ++ r := by
  induction a generalizing b with
  | nil => exact ⟨[], by cases b <;> rfl⟩
  | cons x r ih =>
    cases b with
    | nil => exact ⟨x :: r, rfl⟩
    | cons y t =>
      rw [cpl]; split
      · obtain ⟨q, hq⟩ := ih t
        exact ⟨q, by rw [List.cons_append, ← hq]⟩
      · exact ⟨_, rfl⟩
theorem cpl_symm (a b : List α) : cpl a b = cpl b a := by
  induction a generalizing b with
  | nil => cases b <;> rfl
  | cons x r ih =>
    cases b with
    | nil => rfl
    | cons y t =>
      rw [cpl, cpl]
      by_cases h : x = y
      · subst h; rw [if_pos rfl, if_pos rfl, ih]
      · rw [if_neg h, if_neg (fun e => h e.symm)]
theorem cpl_self (a : List α) : cpl a a = a := by
  induction a with
  | nil => rfl
  | cons x r ih => rw [cpl, if_pos rfl, ih]
/-- What both begin with is the beginning of what is common. -/
theorem cpl_most {p a b : List α} (h1 : ∃ r, a = p ++ r) (h2 : ∃ r, b = p ++ r) : ∃ r, cpl a b = p ++ r := by
  obtain ⟨r, rfl⟩ := h1
  obtain ⟨t, rfl⟩ := h2
  induction p with
  | nil => exact ⟨_, rfl⟩
  | cons x p ih =>
    obtain ⟨q, hq⟩ := ih
    exact ⟨q, by rw [List.cons_append, List.cons_append, cpl, if_pos rfl, hq]; rfl⟩
end
theorem cpl_right {α : Type} [DecidableEq α] (a b : List α) : ∃ r, b = cpl a b ++ r := by rw [cpl_symm]; exact cpl_left b a

/-- Parts that s begins with, with colons between: s is under them. -/
theorem und_parts {s : List Nat} {p : List (List Nat)} (h : ∃ r, prt s = p ++ r) : Und s (jnc p) := by
  obtain ⟨r, h⟩ := h
  by_cases hp : p = []
  · left; rw [hp]; rfl
  · by_cases hr : r = []
    · right; left; rw [← jnc_prt s, h, hr, List.append_nil]
    · right; right; exact ⟨jnc r, by rw [← jnc_app hp hr, ← h, jnc_prt]⟩
theorem parts_und {s top : List Nat} (h : Und s top) (h0 : top ≠ []) : ∃ r, prt s = prt top ++ r := by
  rcases h with h | rfl | ⟨u, rfl⟩
  · exact absurd h h0
  · exact ⟨[], (List.append_nil _).symm⟩
  · exact ⟨prt u, prt_app _ _⟩
theorem und_pre {s top : List Nat} (h : Und s top) : ∃ r, s = top ++ r := by
  rcases h with rfl | rfl | ⟨u, rfl⟩
  · exact ⟨s, rfl⟩
  · exact ⟨[], (List.append_nil _).symm⟩
  · exact ⟨_, rfl⟩
theorem und_self (a : List Nat) : Und a a := .inr (.inl rfl)
theorem und_trans {a b c : List Nat} (h : Und a b) (h2 : Und b c) : Und a c ∨ (b = [] ∧ c ≠ []) := by
  rcases h2 with h2 | rfl | ⟨u, rfl⟩
  · exact .inl (.inl h2)
  · exact .inl h
  · rcases h with h | rfl | ⟨v, rfl⟩
    · simp at h
    · exact .inl (.inr (.inr ⟨u, rfl⟩))
    · exact .inl (.inr (.inr ⟨u ++ 58 :: v, by simp⟩))
theorem und_nil {c : List Nat} (h : Und [] c) : c = [] := by
  rcases h with h | h | ⟨u, h⟩
  · exact h
  · exact h.symm
  · simp at h
theorem und_anti {a b : List Nat} (h : Und a b) (h2 : Und b a) : a = b := by
  rcases h with rfl | rfl | ⟨u, rfl⟩
  · exact und_nil h2
  · rfl
  · rcases h2 with h2 | h2 | ⟨v, h2⟩
    · simp at h2
    · have := congrArg List.length h2; simp at this
    · have := congrArg List.length h2
      rw [List.append_assoc, List.length_append, List.length_append] at this
      simp only [List.length_cons] at this; omega

theorem com_symm (a b : List Nat) : com a b = com b a := by unfold com; rw [cpl_symm]
theorem com_self (a : List Nat) : com a a = a := by unfold com; rw [cpl_self, jnc_prt]
theorem com_left (a b : List Nat) : Und a (com a b) := und_parts (cpl_left _ _)
theorem com_right (a b : List Nat) : Und b (com a b) := und_parts (cpl_right _ _)
theorem com_most {a b x : List Nat} (h : Und a x) (h2 : Und b x) : ∃ r, com a b = x ++ r := by
  by_cases h0 : x = []
  · exact ⟨_, by rw [h0]; rfl⟩
  · obtain ⟨r, hr⟩ := cpl_most (parts_und h h0) (parts_und h2 h0)
    unfold com
    rw [hr]
    by_cases hr0 : r = []
    · exact ⟨[], by rw [hr0, List.append_nil, jnc_prt, List.append_nil]⟩
    · exact ⟨_, by rw [jnc_app (prt_ne x) hr0, jnc_prt]⟩
theorem und_more {a c : List Nat} (h : ∃ r, a = c ++ r) (h2 : c = prl c ++ 58 :: lfl c) : Und a (prl c) := by
  obtain ⟨r, rfl⟩ := h
  exact .inr (.inr ⟨lfl c ++ r, by conv => lhs; rw [h2]
                                   simp⟩)
/-- What is common, from the bytes that are the same. -/
theorem com_bytes {a b c : List Nat} (hc : c = cpl a b) : ((Und a c ∧ Und b c) → com a b = c) ∧ (¬ (Und a c ∧ Und b c) → com a b = prl c) := by
  obtain ⟨r1, h1⟩ := cpl_left a b
  obtain ⟨r2, h2⟩ := cpl_right a b
  rw [← hc] at h1 h2
  obtain ⟨q, hq⟩ := cpl_most (und_pre (com_left a b)) (und_pre (com_right a b))
  rw [← hc] at hq
  constructor
  · rintro ⟨k1, k2⟩
    obtain ⟨t, ht⟩ := com_most k1 k2
    have e := congrArg List.length hq
    have e2 := congrArg List.length ht
    rw [List.length_append] at e e2
    have : q = [] := List.eq_nil_of_length_eq_zero (by omega)
    rw [this, List.append_nil] at hq
    exact hq.symm
  · intro k
    have hne : com a b ≠ c := fun e => k ⟨by rw [← e]; exact com_left a b, by rw [← e]; exact com_right a b⟩
    have hq0 : q ≠ [] := fun e => hne (by rw [e, List.append_nil] at hq; exact hq.symm)
    have hql := List.length_pos_iff.2 hq0
    -- the byte behind what is common is a colon, if something is common
    have hcol : com a b ≠ [] → ∃ t, c = com a b ++ 58 :: t := by
      intro h0
      have hx : ∃ u, a = com a b ++ 58 :: u := by
        rcases com_left a b with e | e | e
        · exact absurd e h0
        · have e1 := congrArg List.length h1
          have e2 := congrArg List.length hq
          rw [List.length_append] at e1 e2
          have e3 := congrArg List.length e
          omega
        · exact e
      obtain ⟨u, hu⟩ := hx
      have h3 : q ++ r1 = 58 :: u := by
        have e : com a b ++ (q ++ r1) = com a b ++ 58 :: u := by rw [← List.append_assoc, ← hq, ← h1, ← hu]
        exact List.append_cancel_left e
      cases q with
      | nil => exact absurd rfl hq0
      | cons x q =>
        rw [List.cons_append] at h3
        obtain ⟨rfl, _⟩ := List.cons.inj h3
        exact ⟨q, hq⟩
    rcases last_or c with ⟨g, g2, _⟩ | ⟨g, g2⟩
    · rw [g2]
      by_cases h0 : com a b = []
      · exact h0
      · obtain ⟨t, ht⟩ := hcol h0
        exact absurd (by rw [ht]; simp) g
    · obtain ⟨t, ht⟩ := com_most (und_more ⟨r1, h1⟩ g) (und_more ⟨r2, h2⟩ g)
      by_cases h0 : com a b = []
      · rw [h0] at ht ⊢
        have := congrArg List.length ht
        rw [List.length_append] at this
        exact (List.eq_nil_of_length_eq_zero (by simp at this; omega)).symm
      · obtain ⟨v, hv⟩ := hcol h0
        have hl : (prl c).length ≥ (com a b).length := by
          rcases Nat.lt_or_ge (prl c).length (com a b).length with hlt | hge
          · exfalso
            apply g2
            have e : (prl c ++ 58 :: lfl c).drop ((prl c).length + 1) = lfl c := by
              rw [show prl c ++ 58 :: lfl c = (prl c ++ [58]) ++ lfl c by simp]
              exact List.drop_left' (by simp)
            obtain ⟨n, hn⟩ : ∃ n, (prl c).length = n := ⟨_, rfl⟩
            rw [hn] at e hlt
            rw [← e, ← g]
            have e3 : c.drop (n + 1) = (com a b).drop (n + 1) ++ 58 :: v := by rw [← List.drop_append_of_le_length (by omega), ← hv]
            rw [e3]
            simp
          · exact hge
        have e2 := congrArg List.length ht
        rw [List.length_append] at e2
        have : t = [] := List.eq_nil_of_length_eq_zero (by omega)
        rw [this, List.append_nil] at ht
        exact ht

end Go.Proofs.YtjkandnbjbfeiaaDoor
