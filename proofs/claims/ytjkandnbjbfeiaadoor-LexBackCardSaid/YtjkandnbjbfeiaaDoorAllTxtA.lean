/- What the proofs of this layer need of the layer Txt, in one text. -/
import Derived.Test.YtjkandnbjbfeiaaDoorAllDecA
set_option linter.unusedVariables false
set_option linter.unusedSimpArgs false

/-
  Layer 7, plain: texts of decimals; digits with commas; the form that is read, from behind, and as the document goes through it.
-/
namespace Go.Proofs.YtjkandnbjbfeiaaDoor.Num

/-- The digits behind the point, with it. -/
def beh (s a : Nat) : List Nat := if s = 0 then [] else 46 :: pad s a
/-- The sign of a text. -/
def sgT (i : Int) : List Nat := if i < 0 then [45] else []
/-- The text of a decimal. -/
def txtD (i : Int) (s : Nat) : List Nat := sgT i ++ (txt (i.natAbs / 10 ^ s) ++ beh s i.natAbs)
/-- Digits with commas between groups of three, from behind. -/
def grp : List Nat → List Nat
  | [] => []
  | c :: l => if l = [] then [c] else if l.length % 3 = 0 then c :: 44 :: grp l else c :: grp l
/-- The text of a decimal with commas. -/
def comD (i : Int) (s : Nat) : List Nat := sgT i ++ (grp (txt (i.natAbs / 10 ^ s)) ++ beh s i.natAbs)
/-- What stands ahead of the first full stop, and behind it. -/
def ahd (l : List Nat) : List Nat := l.takeWhile (fun c => c != 46)
def bhd (l : List Nat) : List Nat := (l.dropWhile (fun c => c != 46)).drop 1
/-- Without commas. -/
def nocom (l : List Nat) : List Nat := l.filter (fun c => c != 44)
/-- Counted from behind each fourth sign is a comma, and no other one. -/
def gok : List Nat → Bool
  | [] => true
  | c :: l => ((c == 44) == decide ((l.length + 1) % 4 = 0)) && gok l
/-- Do commas, if there are any, part digits into groups? -/
def ungB (l : List Nat) : Bool := if l.contains 44 then (l.head? != some 44) && gok l else true
def dgB (l : List Nat) : Bool := l.all fun c => decide (48 ≤ c) && decide (c ≤ 57)
/-- The sign at the head of a text, and what follows it. -/
def sgnB (l : List Nat) : Bool := l.head? == some 45
def rst (l : List Nat) : List Nat := if l.head? = some 45 ∨ l.head? = some 43 then l.drop 1 else l
/-- The digits of a text that has the form of a decimal's. -/
def digsOf (l : List Nat) : List Nat := nocom (ahd l) ++ bhd l
/-- Has what follows a sign the form? -/
def frmB (l : List Nat) : Bool := (ahd l != []) && !(l.contains 46 && bhd l == []) && ungB (ahd l) && dgB (digsOf l)
/-- Its number. -/
def numD (l : List Nat) : Int := if sgnB l then -(pv (digsOf (rst l)) : Int) else pv (digsOf (rst l))

theorem dgB_iff {l : List Nat} : dgB l = true ↔ digs l := by
  unfold dgB digs
  rw [List.all_eq_true]
  constructor
  · intro h c hc; have := h c hc; simp at this; exact this
  · intro h c hc; have := h c hc; simp; exact this
theorem digs_cons {c : Nat} {l : List Nat} : digs (c :: l) ↔ (48 ≤ c ∧ c ≤ 57) ∧ digs l := by
  unfold digs; simp
theorem nocom_digs {l : List Nat} (h : digs l) : nocom l = l := by
  unfold nocom
  rw [List.filter_eq_self]
  intro c hc
  have := h c hc
  simp; omega
theorem nocom_cons_no {c : Nat} {l : List Nat} (h : c ≠ 44) : nocom (c :: l) = c :: nocom l := by unfold nocom; rw [List.filter_cons_of_pos (by simpa using h)]
theorem nocom_cons_yes {l : List Nat} : nocom (44 :: l) = nocom l := by unfold nocom; rw [List.filter_cons_of_neg (by simp)]
theorem nocom_grp : ∀ l : List Nat, digs l → nocom (grp l) = l
  | [], _ => rfl
  | c :: l, h => by
    obtain ⟨hc, hl⟩ := digs_cons.1 h
    have ih := nocom_grp l hl
    have n1 : c ≠ 44 := by omega
    unfold grp
    by_cases h1 : l = []
    · subst h1; rw [if_pos rfl, nocom_cons_no n1]; rfl
    · rw [if_neg h1]
      by_cases h2 : l.length % 3 = 0
      · rw [if_pos h2, nocom_cons_no n1, nocom_cons_yes, ih]
      · rw [if_neg h2, nocom_cons_no n1, ih]
theorem grp_len : ∀ l : List Nat, (grp l).length = l.length + (l.length - 1) / 3
  | [] => rfl
  | c :: l => by
    have ih := grp_len l
    unfold grp
    by_cases h1 : l = []
    · subst h1; simp
    · rw [if_neg h1]
      have hp : 0 < l.length := List.length_pos_iff.2 h1
      by_cases h2 : l.length % 3 = 0
      · rw [if_pos h2]; simp only [List.length_cons, ih]; omega
      · rw [if_neg h2]; simp only [List.length_cons, ih]; omega
theorem gok_grp : ∀ l : List Nat, digs l → gok (grp l) = true
  | [], _ => rfl
  | c :: l, h => by
    obtain ⟨hc, hl⟩ := digs_cons.1 h
    have ih := gok_grp l hl
    have n1 : (c == 44) = false := by simp; omega
    have hg := grp_len l
    unfold grp
    by_cases h1 : l = []
    · subst h1; simp [gok, n1]
    · rw [if_neg h1]
      have hp : 0 < l.length := List.length_pos_iff.2 h1
      by_cases h2 : l.length % 3 = 0
      · rw [if_pos h2]
        simp only [gok, n1, ih, List.length_cons, hg, Bool.and_true]
        have a1 : ¬ (l.length + (l.length - 1) / 3 + 1 + 1) % 4 = 0 := by omega
        have a2 : (l.length + (l.length - 1) / 3 + 1) % 4 = 0 := by omega
        rw [decide_eq_false a1, decide_eq_true a2]; rfl
      · rw [if_neg h2]
        simp only [gok, n1, ih, hg, Bool.and_true]
        have a1 : ¬ (l.length + (l.length - 1) / 3 + 1) % 4 = 0 := by omega
        rw [decide_eq_false a1]; rfl
theorem grp_head {l : List Nat} (h : digs l) : (grp l).head? ≠ some 44 := by
  cases l with
  | nil => simp [grp]
  | cons c l =>
    obtain ⟨hc, -⟩ := digs_cons.1 h
    unfold grp
    split
    · simp; omega
    · split <;> (simp; omega)
theorem grp_ne {l : List Nat} (h : l ≠ []) : grp l ≠ [] := by
  cases l with
  | nil => exact absurd rfl h
  | cons c l => 
    unfold grp
    split
    · simp
    · split <;> simp
theorem ungB_grp {l : List Nat} (h : digs l) : ungB (grp l) = true := by
  unfold ungB
  split
  · rw [gok_grp l h]; simp; exact grp_head h
  · rfl
theorem ungB_digs {l : List Nat} (h : digs l) : ungB l = true := by
  unfold ungB
  rw [if_neg]
  intro hc
  have := List.contains_iff_mem.1 hc
  have := h 44 this
  omega
theorem grp_nodot : ∀ l : List Nat, digs l → ∀ c ∈ grp l, c ≠ 46
  | [], _ => fun c hc => by cases hc
  | c :: l, h => fun x hx => by
    obtain ⟨hc, hl⟩ := digs_cons.1 h
    have ih := grp_nodot l hl
    unfold grp at hx
    split at hx
    · simp at hx; omega
    · split at hx
      · simp at hx
        rcases hx with rfl | rfl | hx
        · omega
        · omega
        · exact ih x hx
      · simp at hx
        rcases hx with rfl | hx
        · omega
        · exact ih x hx
theorem digs_nodot {l : List Nat} (h : digs l) : ∀ c ∈ l, c ≠ 46 := fun c hc => by have := h c hc; omega

theorem tw_all {x : List Nat} (h : ∀ c ∈ x, c ≠ 46) : ∀ y, (x ++ y).takeWhile (fun c => c != 46) = x ++ y.takeWhile (fun c => c != 46) ∧ (x ++ y).dropWhile (fun c => c != 46) = y.dropWhile (fun c => c != 46) := by
  intro y
  have h' : ∀ c ∈ x, (c != 46) = true := fun c hc => by simp; exact h c hc
  exact ⟨List.takeWhile_append_of_pos h', List.dropWhile_append_of_pos h'⟩
theorem ahd_beh {x : List Nat} (h : ∀ c ∈ x, c ≠ 46) (s a : Nat) : ahd (x ++ beh s a) = x := by
  unfold ahd
  rw [(tw_all h _).1]
  unfold beh
  split <;> simp
theorem bhd_beh {x : List Nat} (h : ∀ c ∈ x, c ≠ 46) (s a : Nat) : bhd (x ++ beh s a) = pad s a := by
  unfold bhd
  rw [(tw_all h _).2]
  unfold beh
  split
  · rename_i hs; subst hs; simp [pad]
  · simp
theorem dot_beh {x : List Nat} (h : ∀ c ∈ x, c ≠ 46) (s a : Nat) : (x ++ beh s a).contains 46 = decide (s ≠ 0) := by
  rw [Bool.eq_iff_iff, List.contains_iff_mem, List.mem_append, decide_eq_true_iff]
  unfold beh
  constructor
  · rintro (h1 | h1)
    · exact absurd rfl (h 46 h1)
    · split at h1
      · cases h1
      · assumption
  · intro h1; right; rw [if_neg h1]; simp
theorem pv_append (x y : List Nat) : pv (x ++ y) = 10 ^ y.length * pv x + pv y := by
  induction x with
  | nil => simp [pv_nil]
  | cons c x ih =>
    rw [List.cons_append, pv_cons, ih, pv_cons, List.length_append, Nat.pow_add]
    generalize 10 ^ x.length = P
    generalize 10 ^ y.length = Q
    generalize c - 48 = d
    grind
theorem pv_pad (k : Nat) : ∀ a, pv (pad k a) = a % 10 ^ k := by
  induction k with
  | zero => intro a; simp [pad, pv_nil, Nat.mod_one]
  | succ k ih =>
    intro a
    rw [pad, pv_snoc, ih, Nat.pow_succ, Nat.mul_comm (10 ^ k), Nat.mod_mul]
    omega
theorem pv_whole (a s : Nat) : pv (txt (a / 10 ^ s) ++ pad s a) = a := by
  rw [pv_append, pv_txt, pv_pad, pad_len]
  exact Nat.div_add_mod a (10 ^ s)
theorem sgT_rst {i : Int} {x : List Nat} (hh : x.head? ≠ some 45 ∧ x.head? ≠ some 43) : rst (sgT i ++ x) = x ∧ sgnB (sgT i ++ x) = decide (i < 0) := by
  unfold sgT rst sgnB
  split
  · rename_i hi; simp [hi]
  · rename_i hi; simp [hh, hi]
theorem head_txt (a : Nat) (y : List Nat) : (txt a ++ y).head? ≠ some 45 ∧ (txt a ++ y).head? ≠ some 43 := by
  have h := txt_ne a
  have hd := digs_txt a
  cases hx : txt a with
  | nil => exact absurd hx h
  | cons c l =>
    rw [hx] at hd
    have := (digs_cons.1 hd).1
    simp; omega
theorem head_grp (a : Nat) (y : List Nat) : (grp (txt a) ++ y).head? ≠ some 45 ∧ (grp (txt a) ++ y).head? ≠ some 43 := by
  have h := txt_ne a
  have hd := digs_txt a
  cases hx : txt a with
  | nil => exact absurd hx h
  | cons c l =>
    rw [hx] at hd
    have := (digs_cons.1 hd).1
    unfold grp
    split
    · simp; omega
    · split <;> (simp; omega)

/-- What is told has the form, is read alike, and has as many digits behind the point. -/
theorem told {i : Int} {s : Nat} {x : List Nat} (hx : x = txt (i.natAbs / 10 ^ s) ∨ x = grp (txt (i.natAbs / 10 ^ s))) :
    rst (sgT i ++ (x ++ beh s i.natAbs)) = x ++ beh s i.natAbs ∧ rst (sgT i ++ (x ++ beh s i.natAbs)) ≠ [] ∧ frmB (x ++ beh s i.natAbs) = true ∧ numD (sgT i ++ (x ++ beh s i.natAbs)) = i ∧ (bhd (x ++ beh s i.natAbs)).length = s := by
  have hd := digs_txt (i.natAbs / 10 ^ s)
  have hne : x ≠ [] := by rcases hx with rfl | rfl <;> first | exact txt_ne _ | exact grp_ne (txt_ne _)
  have hdot : ∀ c ∈ x, c ≠ 46 := by rcases hx with rfl | rfl <;> first | exact digs_nodot hd | exact grp_nodot _ hd
  have hno : nocom x = txt (i.natAbs / 10 ^ s) := by rcases hx with rfl | rfl <;> first | exact nocom_digs hd | exact nocom_grp _ hd
  have hun : ungB x = true := by rcases hx with rfl | rfl <;> first | exact ungB_digs hd | exact ungB_grp hd
  have hhd : (x ++ beh s i.natAbs).head? ≠ some 45 ∧ (x ++ beh s i.natAbs).head? ≠ some 43 := by rcases hx with rfl | rfl <;> first | exact head_txt _ _ | exact head_grp _ _
  have hne2 : x ++ beh s i.natAbs ≠ [] := by simp [hne]
  obtain ⟨h1, h2⟩ := sgT_rst (i := i) hhd
  have hA := ahd_beh hdot s i.natAbs
  have hB := bhd_beh hdot s i.natAbs
  have hdo : digsOf (x ++ beh s i.natAbs) = txt (i.natAbs / 10 ^ s) ++ pad s i.natAbs := by unfold digsOf; rw [hA, hB, hno]
  refine ⟨h1, by rw [h1]; exact hne2, ?_, ?_, by rw [hB, pad_len]⟩
  · unfold frmB
    rw [hA, hB, hdo, hun, dot_beh hdot, dgB_iff.2 (digs_append.2 ⟨hd, digs_pad _ _⟩)]
    have e1 : (x != []) = true := by simp [hne]
    rw [e1]
    by_cases hs : s = 0
    · simp [hs]
    · have : pad s i.natAbs ≠ [] := fun h => hs (by have := pad_len s i.natAbs; rw [h] at this; simpa using this.symm)
      simp [this]
  · unfold numD
    rw [h1, h2, hdo, pv_whole]
    by_cases hi : i < 0
    · simp [hi]; omega
    · simp [hi]; omega

/-- The document's way through groups: how many digits since the last comma, and whether there was one. -/
def gst : List Nat → Nat → Bool → Bool
  | [], r, cm => !cm || r == 3
  | c :: l, r, cm =>
    if 48 ≤ c ∧ c ≤ 57 then (if cm = true ∧ 3 < r + 1 then false else gst l (r + 1) cm)
    else if c = 44 then (if r < 1 ∨ 3 < r ∨ cm = true ∧ r ≠ 3 then false else gst l 0 true)
    else false
theorem gok_cons_no {c : Nat} {l : List Nat} (h : c ≠ 44) : gok (c :: l) = true ↔ (l.length + 1) % 4 ≠ 0 ∧ gok l = true := by
  have e : (c == 44) = false := by simpa using h
  simp [gok, e]
theorem gok_cons_yes {l : List Nat} : gok (44 :: l) = true ↔ (l.length + 1) % 4 = 0 ∧ gok l = true := by simp [gok]
theorem gst_true : ∀ (l : List Nat) (r : Nat), r ≤ 3 → (gst l r true = true ↔ gok l = true ∧ digs (nocom l) ∧ (l.length + r) % 4 = 3)
  | [], r, hr => by
    simp [gst, gok, nocom, digs]; omega
  | c :: l, r, hr => by
    unfold gst
    by_cases hd : 48 ≤ c ∧ c ≤ 57
    · rw [if_pos hd, gok_cons_no (by omega), nocom_cons_no (by omega), digs_cons, List.length_cons]
      by_cases h3 : 3 < r + 1
      · rw [if_pos ⟨rfl, h3⟩]
        constructor
        · intro h; cases h
        · rintro ⟨⟨h1, -⟩, -, h2⟩; omega
      · rw [if_neg (fun h => h3 h.2), gst_true l (r + 1) (by omega)]
        constructor
        · rintro ⟨h1, h2, h4⟩; exact ⟨⟨by omega, h1⟩, ⟨hd, h2⟩, by omega⟩
        · rintro ⟨⟨h1, h2⟩, ⟨-, h4⟩, h5⟩; exact ⟨h2, h4, by omega⟩
    · rw [if_neg hd]
      by_cases hc : c = 44
      · subst hc
        rw [if_pos rfl, gok_cons_yes, nocom_cons_yes, List.length_cons]
        by_cases h3 : r < 1 ∨ 3 < r ∨ true = true ∧ r ≠ 3
        · rw [if_pos h3]
          constructor
          · intro h; cases h
          · rintro ⟨⟨h1, -⟩, -, h2⟩; rcases h3 with h | h | ⟨-, h⟩ <;> omega
        · rw [if_neg h3, gst_true l 0 (by omega)]
          have hr3 : r = 3 := by
            rcases Nat.lt_or_ge r 3 with h | h
            · exact absurd (.inr (.inr ⟨rfl, by omega⟩)) h3
            · omega
          subst hr3
          constructor
          · rintro ⟨h1, h2, h4⟩; exact ⟨⟨by omega, h1⟩, h2, by omega⟩
          · rintro ⟨⟨h1, h2⟩, h4, h5⟩; exact ⟨h2, h4, by omega⟩
      · rw [if_neg hc, nocom_cons_no hc, digs_cons]
        constructor
        · intro h; cases h
        · rintro ⟨-, ⟨h, -⟩, -⟩; exact absurd h hd
theorem gok_len : ∀ l : List Nat, gok l = true → 44 ∈ l → 4 ≤ l.length
  | [], _, h => by cases h
  | c :: l, hg, h => by
    by_cases hc : c = 44
    · subst hc
      have := (gok_cons_yes.1 hg).1
      rw [List.length_cons]; omega
    · have hm : 44 ∈ l := by rcases List.mem_cons.1 h with h | h <;> first | exact absurd h.symm hc | exact h
      have := gok_len l (gok_cons_no hc |>.1 hg).2 hm
      rw [List.length_cons]; omega
theorem gst_false : ∀ (l : List Nat) (r : Nat), (gst l r false = true ↔ (44 ∉ l ∧ digs l) ∨ (44 ∈ l ∧ gok l = true ∧ digs (nocom l) ∧ 1 ≤ r + l.length % 4 ∧ r + l.length % 4 ≤ 3))
  | [], r => by simp [gst, digs]
  | c :: l, r => by
    unfold gst
    by_cases hd : 48 ≤ c ∧ c ≤ 57
    · rw [if_pos hd, if_neg (by simp), gst_false l (r + 1), gok_cons_no (by omega), nocom_cons_no (by omega), digs_cons, digs_cons, List.length_cons]
      have hm : 44 ∈ c :: l ↔ 44 ∈ l := by
        rw [List.mem_cons]
        constructor
        · rintro (h | h)
          · omega
          · exact h
        · exact Or.inr
      rw [hm]
      constructor
      · rintro (⟨h1, h2⟩ | ⟨h1, h2, h3, h4, h5⟩)
        · exact .inl ⟨h1, hd, h2⟩
        · exact .inr ⟨h1, ⟨by omega, h2⟩, ⟨hd, h3⟩, by omega, by omega⟩
      · rintro (⟨h1, -, h2⟩ | ⟨h1, ⟨h0, h2⟩, ⟨-, h3⟩, h4, h5⟩)
        · exact .inl ⟨h1, h2⟩
        · exact .inr ⟨h1, h2, h3, by omega, by omega⟩
    · rw [if_neg hd]
      by_cases hc : c = 44
      · subst hc
        rw [if_pos rfl, gok_cons_yes, nocom_cons_yes, List.length_cons]
        by_cases h3 : r < 1 ∨ 3 < r ∨ false = true ∧ r ≠ 3
        · rw [if_pos h3]
          constructor
          · intro h; cases h
          · rintro (⟨h1, -⟩ | ⟨-, ⟨h1, -⟩, -, h4, h5⟩)
            · exact absurd (List.mem_cons_self) h1
            · rcases h3 with h | h | ⟨h, -⟩
              · omega
              · omega
              · cases h
        · rw [if_neg h3, gst_true l 0 (by omega)]
          have hr : 1 ≤ r ∧ r ≤ 3 := by
            refine Decidable.byContradiction fun hn => h3 ?_
            rcases Nat.lt_or_ge r 1 with h | h
            · exact .inl h
            · exact .inr (.inl (by omega))
          constructor
          · rintro ⟨h1, h2, h4⟩; exact .inr ⟨List.mem_cons_self, ⟨by omega, h1⟩, h2, by omega, by omega⟩
          · rintro (⟨h1, -⟩ | ⟨-, ⟨h1, h2⟩, h4, h5, h6⟩)
            · exact absurd (List.mem_cons_self) h1
            · exact ⟨h2, h4, by omega⟩
      · rw [if_neg hc, nocom_cons_no hc, digs_cons, digs_cons]
        constructor
        · intro h; cases h
        · rintro (⟨-, h, -⟩ | ⟨-, -, ⟨h, -⟩, -⟩) <;> exact absurd h hd
/-- The document's way is the one from behind. -/
theorem gst_ungB {l : List Nat} (h : l ≠ []) : gst l 0 false = (ungB l && dgB (nocom l)) := by
  rw [Bool.eq_iff_iff, gst_false, Bool.and_eq_true, dgB_iff]
  unfold ungB
  by_cases hm : 44 ∈ l
  · rw [if_pos (List.contains_iff_mem.2 hm)]
    cases l with
    | nil => exact absurd rfl h
    | cons c l =>
      constructor
      · rintro (⟨h1, -⟩ | ⟨-, h2, h3, h4, -⟩)
        · exact absurd hm h1
        · refine ⟨?_, h3⟩
          rw [h2, Bool.and_true]
          by_cases hc : c = 44
          · subst hc
            have := (gok_cons_yes.1 h2).1
            rw [List.length_cons] at h4; omega
          · simpa using hc
      · rintro ⟨h1, h3⟩
        rw [Bool.and_eq_true] at h1
        obtain ⟨h0, h2⟩ := h1
        have hc : c ≠ 44 := by simpa using h0
        have := (gok_cons_no hc).1 h2 |>.1
        exact .inr ⟨hm, h2, h3, by rw [List.length_cons]; omega, by rw [List.length_cons]; omega⟩
  · rw [if_neg (fun h => hm (List.contains_iff_mem.1 h))]
    have e : nocom l = l := by
      unfold nocom
      rw [List.filter_eq_self]
      intro c hc
      have : c ≠ 44 := fun e => hm (e ▸ hc)
      simpa using this
    rw [e]
    constructor
    · rintro (⟨-, h2⟩ | ⟨h1, -⟩)
      · exact ⟨rfl, h2⟩
      · exact absurd h1 hm
    · rintro ⟨-, h2⟩; exact .inl ⟨hm, h2⟩
theorem txt_eq_pad (a : Nat) : txt a = pad (nd a) a := by
  induction a using Nat.strongRecOn with
  | _ a ih =>
    rcases Nat.lt_or_ge a 10 with h | h
    · rw [nd_lt h, txt_lt h, pad, pad, Nat.mod_eq_of_lt h]; rfl
    · rw [nd_ge h, txt_ge h, pad, ← ih _ (by omega)]
theorem pad_drop (k s a : Nat) : (pad (k + s) a).drop k = pad s a := by
  induction k with
  | zero => rw [Nat.zero_add]; rfl
  | succ k ih => rw [show k + 1 + s = (k + s) + 1 by omega, pad_cons, List.drop_succ_cons, ih]
theorem txt_drop {a s : Nat} (h : s ≤ nd a) : (txt a).drop (nd a - s) = pad s a := by
  rw [txt_eq_pad]
  have e : pad (nd a) a = pad ((nd a - s) + s) a := by rw [Nat.sub_add_cancel h]
  rw [e, pad_drop]
theorem pad_zeros (k a : Nat) : pad (k + nd a) a = List.replicate k 48 ++ txt a := by
  induction k with
  | zero => rw [Nat.zero_add, ← txt_eq_pad]; rfl
  | succ k ih =>
    have h : a / 10 ^ (k + nd a) = 0 := Nat.div_eq_of_lt (Nat.lt_of_lt_of_le (lt_pow_nd a) (Nat.pow_le_pow_right (by omega) (by omega)))
    rw [show k + 1 + nd a = (k + nd a) + 1 by omega, pad_cons, ih, h, List.replicate_succ, List.cons_append]
theorem beh_small {s a : Nat} (h : nd a ≤ s) : beh s a = 46 :: (List.replicate (s - nd a) 48 ++ txt a) ∧ txt (a / 10 ^ s) = [48] := by
  have h0 := nd_pos a
  constructor
  · unfold beh
    rw [if_neg (by omega), ← pad_zeros, Nat.sub_add_cancel h]
  · rw [div_ge_nd h, txt_zero]
theorem beh_large {s a : Nat} (h : s < nd a) (h0 : 0 < s) : beh s a = 46 :: (txt a).drop (nd a - s) := by
  unfold beh
  rw [if_neg (by omega), txt_drop (by omega)]
theorem beh_none (a : Nat) : beh 0 a = [] := rfl
/-- The rest of grouped digits, behind the first of them. -/
def grpAt (l : List Nat) : List Nat := if l ≠ [] ∧ l.length % 3 = 0 then 44 :: grp l else grp l
theorem grp_cons (c : Nat) (l : List Nat) : grp (c :: l) = c :: grpAt l := by
  unfold grpAt
  rw [grp]
  by_cases h : l = []
  · subst h; simp [grp]
  · rw [if_neg h]
    by_cases h2 : l.length % 3 = 0
    · rw [if_pos h2, if_pos ⟨h, h2⟩]
    · rw [if_neg h2, if_neg (fun x => h2 x.2)]
theorem grpAt_nil : grpAt [] = [] := by simp [grpAt, grp]
theorem grp_lt {l : List Nat} (h : ∀ c ∈ l, c < 256) : ∀ c ∈ grp l, c < 256 := by
  induction l with
  | nil => intro c hc; simp [grp] at hc
  | cons x l ih =>
    have ih' := ih (fun c hc => h c (List.mem_cons_of_mem _ hc))
    have hx := h x List.mem_cons_self
    rw [grp_cons]
    intro c hc
    rcases List.mem_cons.1 hc with rfl | hc
    · exact hx
    · unfold grpAt at hc
      split at hc
      · rcases List.mem_cons.1 hc with rfl | hc
        · omega
        · exact ih' c hc
      · exact ih' c hc
theorem beh_lt (s a : Nat) : ∀ c ∈ beh s a, c < 256 := by
  intro c hc
  unfold beh at hc
  split at hc
  · cases hc
  · rcases List.mem_cons.1 hc with rfl | hc
    · omega
    · have := digs_pad s a c hc; omega
theorem sgT_lt (i : Int) : ∀ c ∈ sgT i, c < 256 := by
  intro c hc
  unfold sgT at hc
  split at hc
  · rw [List.mem_singleton.1 hc]; omega
  · cases hc
theorem app_lt {x y : List Nat} (hx : ∀ c ∈ x, c < 256) (hy : ∀ c ∈ y, c < 256) : ∀ c ∈ x ++ y, c < 256 := fun c hc => by
  rcases List.mem_append.1 hc with h | h
  · exact hx c h
  · exact hy c h
theorem txt_bytes (a : Nat) : ∀ c ∈ txt a, c < 256 := fun c hc => by have := digs_txt a c hc; omega
theorem txtD_lt (i : Int) (s : Nat) : ∀ c ∈ txtD i s, c < 256 := app_lt (sgT_lt i) (app_lt (txt_bytes _) (beh_lt _ _))
theorem comD_lt (i : Int) (s : Nat) : ∀ c ∈ comD i s, c < 256 := app_lt (sgT_lt i) (app_lt (grp_lt (txt_bytes _)) (beh_lt _ _))
theorem gok_at {l : List Nat} {c : Nat} : gok (c :: l) = (((c == 44) == decide ((l.length + 1) % 4 = 0)) && gok l) := rfl

end Go.Proofs.YtjkandnbjbfeiaaDoor.Num
