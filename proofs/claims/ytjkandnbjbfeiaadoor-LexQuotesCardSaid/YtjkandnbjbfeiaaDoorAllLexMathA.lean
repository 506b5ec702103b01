/- What the proofs of this layer need of the layer Lex, in one text. -/
import Derived.Test.YtjkandnbjbfeiaaDoorAllNamC
import Derived.Test.YtjkandnbjbfeiaaDoorAllScaA
set_option linter.unusedVariables false
set_option linter.unusedSimpArgs false

/-
  Mathematics of layer 12: words of a line as lists of bytes: what is quoted and unquoted, marks, runs of bytes, numbers, the word that begins a text, the words of a line; words as they are written are the same words.
-/
namespace Go.Proofs.YtjkandnbjbfeiaaDoor

/-- A byte as it is quoted. -/
def esc (b : Nat) : List Nat := if b = 34 then [92, 34] else if b = 92 then [92, 92] else if b = 10 then [92, 110] else if b = 9 then [92, 116] else [b]
def qtb (s : List Nat) : List Nat := s.flatMap esc
def qt (s : List Nat) : List Nat := 34 :: (qtb s ++ [34])
/-- A byte ahead of what was unquoted behind it. -/
def pre (k b : Nat) : Nat ⊕ (List Nat × Nat) → Nat ⊕ (List Nat × Nat)
  | .inl e => .inl e
  | .inr (o, n) => .inr (b :: o, n + k)
/-- What stands behind a \. -/
def une (c : Nat) : Option Nat := if c = 34 then some 34 else if c = 92 then some 92 else if c = 110 then some 10 else if c = 116 then some 9 else none
/-- What is unquoted behind the first ": what it says, and how many bytes it took with the last "; or an error. -/
def uqg : List Nat → Nat ⊕ (List Nat × Nat)
  | [] => .inl 2
  | [b] => if b = 34 then .inr ([], 1) else .inl 2
  | b :: c :: u => if b = 34 then .inr ([], 1) else if b = 92 then (une c).elim (.inl 3) (fun d => pre 2 d (uqg u)) else pre 1 b (uqg (c :: u))
theorem uqg_end (t : List Nat) : uqg (34 :: t) = .inr ([], 1) := by
  cases t with
  | nil => rw [uqg, if_pos rfl]
  | cons c u => rw [uqg, if_pos rfl]
theorem uqg_esc {c d : Nat} (h : une c = some d) (u : List Nat) : uqg (92 :: c :: u) = pre 2 d (uqg u) := by
  rw [uqg, if_neg (by decide), if_pos rfl, h]; rfl
theorem uqg_none {c : Nat} (h : une c = none) (u : List Nat) : uqg (92 :: c :: u) = .inl 3 := by
  rw [uqg, if_neg (by decide), if_pos rfl, h]; rfl
theorem uqg_byte {b : Nat} (h : b ≠ 34) (h2 : b ≠ 92) (t : List Nat) : uqg (b :: t) = pre 1 b (uqg t) := by
  cases t with
  | nil => show uqg [b] = .inl 2; rw [uqg, if_neg h]
  | cons c u => rw [uqg, if_neg h, if_neg h2]
theorem uqg_step (b : Nat) (u : List Nat) : uqg (esc b ++ u) = pre (esc b).length b (uqg u) := by
  unfold esc
  by_cases h1 : b = 34
  · subst h1; rw [if_pos rfl]; exact uqg_esc rfl u
  rw [if_neg h1]
  by_cases h2 : b = 92
  · subst h2; rw [if_pos rfl]; exact uqg_esc rfl u
  rw [if_neg h2]
  by_cases h3 : b = 10
  · subst h3; rw [if_pos rfl]; exact uqg_esc rfl u
  rw [if_neg h3]
  by_cases h4 : b = 9
  · subst h4; rw [if_pos rfl]; exact uqg_esc rfl u
  rw [if_neg h4]
  exact uqg_byte h1 h2 u
theorem qtb_cons (b : Nat) (s : List Nat) : qtb (b :: s) = esc b ++ qtb s := rfl
theorem uqg_quote (s more : List Nat) : uqg (qtb s ++ 34 :: more) = .inr (s, (qtb s).length + 1) := by
  induction s with
  | nil => exact uqg_end more
  | cons b s ih =>
    rw [qtb_cons, List.append_assoc, uqg_step, ih]
    show Sum.inr (b :: s, (qtb s).length + 1 + (esc b).length) = _
    rw [List.length_append, Nat.add_right_comm, Nat.add_comm (esc b).length]
theorem esc_ten (b : Nat) : 10 ∉ esc b := by
  unfold esc
  (repeat' split) <;> simp
  omega
theorem qt_ten (s : List Nat) : 10 ∉ qt s := by
  unfold qt qtb
  intro h
  rcases List.mem_cons.1 h with h | h
  · cases h
  · rcases List.mem_append.1 h with h | h
    · obtain ⟨b, _, hb⟩ := List.mem_flatMap.1 h
      exact esc_ten b hb
    · rw [List.mem_singleton] at h; cases h
theorem uqg_bound : ∀ (k : Nat) {l o : List Nat} {n : Nat}, l.length ≤ k → uqg l = .inr (o, n) → 1 ≤ n ∧ n ≤ l.length ∧ o.length + 1 ≤ n := by
  intro k
  induction k with
  | zero => intro l o n hk h; rw [List.eq_nil_of_length_eq_zero (Nat.le_zero.1 hk), uqg] at h; cases h
  | succ k ih =>
    intro l o n hk h
    cases l with
    | nil => rw [uqg] at h; cases h
    | cons b t =>
      have hk2 : t.length ≤ k := by simpa using hk
      have one : ∀ {m d : Nat} {u : List Nat}, u.length + m ≤ (b :: t).length → 1 ≤ m → u.length ≤ k → pre m d (uqg u) = .inr (o, n) → 1 ≤ n ∧ n ≤ (b :: t).length ∧ o.length + 1 ≤ n := by
        intro m d u hm hm1 hu e
        cases hq : uqg u with
        | inl x => rw [hq] at e; cases e
        | inr p =>
          obtain ⟨o', n'⟩ := p
          rw [hq] at e
          cases e
          have := ih hu hq
          simp only [List.length_cons] at *
          omega
      by_cases h34 : b = 34
      · subst h34; rw [uqg_end] at h; cases h; exact ⟨Nat.le_refl _, by simp, Nat.le_refl _⟩
      · by_cases h92 : b = 92
        · subst h92
          cases t with
          | nil => rw [uqg, if_neg (by decide)] at h; cases h
          | cons c u =>
            cases hc : une c with
            | none => rw [uqg_none hc] at h; cases h
            | some d => rw [uqg_esc hc] at h; exact one (by simp) (by decide) (by simp at hk2; omega) h
        · rw [uqg_byte h34 h92] at h
          exact one (by simp) (Nat.le_refl _) hk2 h

/-- A text begins with so many bytes of a kind. -/
def runl (f : Nat → Bool) (l : List Nat) : Nat := (l.takeWhile f).length
theorem runl_le (f : Nat → Bool) (l : List Nat) : runl f l ≤ l.length := (List.takeWhile_sublist f).length_le
theorem runl_take (f : Nat → Bool) (l : List Nat) : l.take (runl f l) = l.takeWhile f := by
  induction l with
  | nil => rfl
  | cons c t ih =>
    unfold runl
    rw [List.takeWhile_cons]
    split
    · rw [List.length_cons, List.take_succ_cons]; exact congrArg _ ih
    · rfl
/-- A run ends where the next byte is none of its kind, whatever follows. -/
theorem runl_stop {f : Nat → Bool} {l r : List Nat} (h : ∀ c ∈ l, f c = true) (hr : ∀ c, r.head? = some c → f c = false) : runl f (l ++ r) = l.length := by
  induction l with
  | nil =>
    cases r with
    | nil => rfl
    | cons c r => unfold runl; rw [List.nil_append, List.takeWhile_cons, hr c rfl]; rfl
  | cons c l ih =>
    unfold runl
    rw [List.cons_append, List.takeWhile_cons, h c List.mem_cons_self, if_pos rfl, List.length_cons]
    exact congrArg (· + 1) (ih fun d hd => h d (List.mem_cons_of_mem _ hd))
theorem takeWhile_all {f : Nat → Bool} {l : List Nat} : ∀ c ∈ l.takeWhile f, f c = true := fun c hc => by
  induction l with
  | nil => cases hc
  | cons d t ih =>
    rw [List.takeWhile_cons] at hc
    split at hc
    · rename_i hd
      rcases List.mem_cons.1 hc with rfl | hc
      · exact hd
      · exact ih hc
    · cases hc

/-- Letters, digits, and more. -/
def runB (more : List Nat) (c : Nat) : Bool := upB c || lwB c || dgB c || more.contains c
/-- Digits, and commas that a digit follows. -/
def nmb1 : List Nat → Nat
  | [] => 0
  | c :: t => if (dgB c || (c == 44 && t.head?.any dgB)) = true then nmb1 t + 1 else 0
/-- A full stop and digits. -/
def frac (m : List Nat) : Nat := if m.head? = some 46 ∧ m.tail.head?.any dgB = true then 1 + runl dgB m.tail else 0
def nmb (l : List Nat) : Nat := nmb1 l + frac (l.drop (nmb1 l))
theorem nmb1_le (l : List Nat) : nmb1 l ≤ l.length := by
  induction l with
  | nil => exact Nat.le_refl _
  | cons c t ih =>
    rw [nmb1]; split
    · simpa using ih
    · exact Nat.zero_le _
theorem nmb_le (l : List Nat) : nmb l ≤ l.length := by
  have h1 := nmb1_le l
  unfold nmb frac
  split
  · rename_i h
    have h2 := runl_le dgB (l.drop (nmb1 l)).tail
    have h3 : 1 ≤ (l.drop (nmb1 l)).length := by
      cases e : l.drop (nmb1 l) with
      | nil => rw [e] at h; exact absurd h.1 (by simp)
      | cons _ _ => simp
    rw [List.length_tail, List.length_drop] at h2
    rw [List.length_drop] at h3
    omega
  · omega
/-- What can't go on a number. -/
def Off (r : List Nat) : Prop := ∀ c, r.head? = some c → dgB c = false ∧ c ≠ 44
theorem nmb1_off {r : List Nat} (h : Off r) : nmb1 r = 0 := by
  cases r with
  | nil => rfl
  | cons c t =>
    obtain ⟨h1, h2⟩ := h c rfl
    rw [nmb1, h1, if_neg]
    rw [Bool.false_or, Bool.and_eq_true, beq_iff_eq]
    exact fun e => h2 e.1
theorem nmb1_stop (l : List Nat) {r : List Nat} (h : Off r) : nmb1 (l.take (nmb1 l) ++ r) = nmb1 l := by
  induction l with
  | nil => exact nmb1_off h
  | cons c t ih =>
    by_cases hc : (dgB c || (c == 44 && t.head?.any dgB)) = true
    · have e : nmb1 (c :: t) = nmb1 t + 1 := by rw [nmb1, if_pos hc]
      rw [e, List.take_succ_cons, List.cons_append, nmb1, if_pos, ih]
      rw [Bool.or_eq_true, Bool.and_eq_true] at hc ⊢
      rcases hc with hc | ⟨hc, hd⟩
      · exact .inl hc
      · refine .inr ⟨hc, ?_⟩
        cases t with
        | nil => simp at hd
        | cons d u =>
          have hd2 : dgB d = true := hd
          have e2 : nmb1 (d :: u) = nmb1 u + 1 := by rw [nmb1, if_pos]; rw [hd2]; rfl
          rw [e2, List.take_succ_cons]
          exact hd
    · have e : nmb1 (c :: t) = 0 := by rw [nmb1, if_neg hc]
      rw [e, List.take_zero, List.nil_append]
      exact nmb1_off h
/-- What follows a word that is written among blanks. -/
def Nx (r : List Nat) : Prop := r = [] ∨ ∃ u, r = 32 :: u
theorem Nx.head {r : List Nat} (h : Nx r) : ∀ c, r.head? = some c → c = 32 := by
  rintro c hc
  rcases h with rfl | ⟨u, rfl⟩
  · cases hc
  · exact (Option.some.inj hc).symm
theorem Nx.off {r : List Nat} (h : Nx r) : Off r := fun c hc => by rw [h.head c hc]; exact ⟨rfl, by decide⟩
theorem Nx.nofrac {r : List Nat} (h : Nx r) : frac r = 0 := by
  unfold frac
  rw [if_neg]
  rintro ⟨h1, _⟩
  have := h.head _ h1
  omega
theorem Nx.stop {r : List Nat} (h : Nx r) {f : Nat → Bool} (hf : f 32 = false) : ∀ c, r.head? = some c → f c = false := fun c hc => by rw [h.head c hc]; exact hf
theorem nmb_stop (l : List Nat) {r : List Nat} (h : Nx r) : nmb (l.take (nmb l) ++ r) = (l.take (nmb l)).length := by
  have hle := nmb_le l
  have h1 := nmb1_le l
  rw [List.length_take, Nat.min_eq_left hle]
  by_cases hf : (l.drop (nmb1 l)).head? = some 46 ∧ (l.drop (nmb1 l)).tail.head?.any dgB = true
  · obtain ⟨g1, g2⟩ := hf
    have ef : frac (l.drop (nmb1 l)) = 1 + runl dgB (l.drop (nmb1 l)).tail := by unfold frac; rw [if_pos ⟨g1, g2⟩]
    cases e : l.drop (nmb1 l) with
    | nil => rw [e] at g1; cases g1
    | cons c u =>
      rw [e] at g1 g2 ef
      obtain rfl : c = 46 := Option.some.inj g1
      have g2' : u.head?.any dgB = true := g2
      have ef' : frac (46 :: u) = 1 + runl dgB u := ef
      have en : nmb l = nmb1 l + (1 + runl dgB u) := by unfold nmb; rw [e, ef']
      have hx : l.take (nmb l) = l.take (nmb1 l) ++ 46 :: u.takeWhile dgB := by
        rw [en, List.take_add, e, Nat.add_comm 1, List.take_succ_cons, runl_take]
      have ho : Off (46 :: u.takeWhile dgB ++ r) := fun c hc => by
        obtain rfl : 46 = c := Option.some.inj hc
        exact ⟨rfl, by decide⟩
      have e1 : nmb1 (l.take (nmb l) ++ r) = nmb1 l := by rw [hx, List.append_assoc]; exact nmb1_stop l ho
      unfold nmb at e1 ⊢
      rw [e1]
      have e2 : (l.take (nmb1 l + frac (l.drop (nmb1 l))) ++ r).drop (nmb1 l) = 46 :: (u.takeWhile dgB ++ r) := by
        have hx' := hx
        unfold nmb at hx'
        rw [hx', List.append_assoc, List.drop_left' (by rw [List.length_take]; omega)]; rfl
      rw [e2, e, ef']
      unfold frac
      have hd : (u.takeWhile dgB ++ r).head?.any dgB = true := by
        cases u with
        | nil => simp at g2'
        | cons d v =>
          have hd2 : dgB d = true := g2'
          rw [List.takeWhile_cons, if_pos hd2]; exact g2'
      rw [if_pos ⟨rfl, hd⟩]
      show nmb1 l + (1 + runl dgB (u.takeWhile dgB ++ r)) = _
      rw [runl_stop (fun c hc => takeWhile_all c hc) (h.stop rfl)]; rfl
  · have ef : frac (l.drop (nmb1 l)) = 0 := by unfold frac; rw [if_neg hf]
    have en : nmb l = nmb1 l := by unfold nmb; rw [ef]; rfl
    rw [en]
    have e1 := nmb1_stop l h.off
    unfold nmb
    rw [e1, List.drop_left' (by rw [List.length_take]; omega), h.nofrac]; rfl
/-- The bytes of a number. -/
def nC (c : Nat) : Bool := dgB c || c == 44 || c == 46
theorem nmb1_all (l : List Nat) : ∀ c ∈ l.take (nmb1 l), nC c = true := by
  induction l with
  | nil => intro c hc; simp at hc
  | cons d t ih =>
    intro c hc
    by_cases hd : (dgB d || (d == 44 && t.head?.any dgB)) = true
    · rw [nmb1, if_pos hd, List.take_succ_cons] at hc
      rcases List.mem_cons.1 hc with rfl | hc
      · rw [Bool.or_eq_true, Bool.and_eq_true] at hd
        unfold nC
        rcases hd with hd | hd
        · rw [hd]; rfl
        · rw [hd.1, Bool.or_true]; rfl
      · exact ih c hc
    · rw [nmb1, if_neg hd, List.take_zero] at hc; cases hc
theorem nmb_all (l : List Nat) : ∀ c ∈ l.take (nmb l), nC c = true := by
  intro c hc
  unfold nmb at hc
  rw [List.take_add] at hc
  rcases List.mem_append.1 hc with hc | hc
  · exact nmb1_all l c hc
  · unfold frac at hc
    split at hc
    · rename_i h
      cases e : l.drop (nmb1 l) with
      | nil => rw [e] at h; exact absurd h.1 (by simp)
      | cons d u =>
        rw [e] at h hc
        obtain rfl : d = 46 := Option.some.inj h.1
        rw [Nat.add_comm, List.take_succ_cons] at hc
        rcases List.mem_cons.1 hc with rfl | hc
        · rfl
        · rw [List.tail_cons, runl_take] at hc
          unfold nC
          rw [takeWhile_all c hc]; rfl
    · rw [List.take_zero] at hc; cases hc

/-- A sign. -/
def ones : List Nat := [123, 125, 64, 42, 33, 43, 45, 47, 40, 41, 44, 126]
def mrk (l : List Nat) : Nat := if l.take 2 = [123, 123] ∨ l.take 2 = [125, 125] ∨ l.take 2 = [64, 64] then 2 else if l.head?.any ones.contains = true then 1 else 0
theorem mrk_le (l : List Nat) : mrk l ≤ l.length := by
  unfold mrk
  split
  · rename_i h
    have : (l.take 2).length = 2 := by rcases h with h | h | h <;> rw [h] <;> rfl
    rw [List.length_take] at this; omega
  · split
    · cases l with
      | nil => rename_i h; simp at h
      | cons _ _ => simp
    · exact Nat.zero_le _
theorem mrk_stop {l r : List Nat} (h0 : 0 < mrk l) (h : Nx r) : mrk (l.take (mrk l) ++ r) = mrk l := by
  by_cases h2 : l.take 2 = [123, 123] ∨ l.take 2 = [125, 125] ∨ l.take 2 = [64, 64]
  · have e : mrk l = 2 := by unfold mrk; rw [if_pos h2]
    rw [e]
    unfold mrk
    rw [if_pos]
    have hl : (l.take 2).length = 2 := by rcases h2 with h | h | h <;> rw [h] <;> rfl
    rw [List.take_append_of_le_length (by omega), List.take_take]
    exact h2
  · by_cases h1 : l.head?.any ones.contains = true
    · have e : mrk l = 1 := by unfold mrk; rw [if_neg h2, if_pos h1]
      rw [e]
      cases l with
      | nil => simp at h1
      | cons c t =>
        have h1' : ones.contains c = true := h1
        rw [List.take_succ_cons, List.take_zero]
        unfold mrk
        rw [if_neg, if_pos (show ([c] ++ r).head?.any ones.contains = true from h1')]
        rcases h with rfl | ⟨u, rfl⟩
        · simp
        · simp
    · exfalso
      unfold mrk at h0
      rw [if_neg h2, if_neg h1] at h0
      omega

end Go.Proofs.YtjkandnbjbfeiaaDoor

/-
  Mathematics of layer 12, the second part: the word that begins a text (over any D: is it a day, and N: is it a number), the words of a line, and as they are written.
-/
namespace Go.Proofs.YtjkandnbjbfeiaaDoor

/-- A word: its kind, what it says, how many bytes it has; with no good text it is none. -/
def tkn (k : Nat) (x : List Nat) (n : Nat) (good : Bool) : Nat ⊕ (Nat × List Nat × Nat) := if good = true then .inr (k, x, n) else .inl 3
theorem tkn_ok {k n : Nat} {x : List Nat} {g : Bool} {p : Nat × List Nat × Nat} (h : tkn k x n g = .inr p) : g = true ∧ p = (k, x, n) := by
  unfold tkn at h
  split at h
  · rename_i hg; cases h; exact ⟨hg, rfl⟩
  · cases h
def mT : List Nat := [45, 95, 47, 46]
def mA : List Nat := [58, 45, 46, 95, 39]
def mK : List Nat := [45, 95]
/-- A digit begins it: a day, or a number. -/
def num12 (D N : List Nat → Bool) (l : List Nat) : Nat ⊕ (Nat × List Nat × Nat) :=
  if 10 ≤ l.length ∧ D (l.take 10) = true ∧ (l[10]?).any dgB = false then .inr (1, l.take 10, 10) else tkn 4 (l.take (nmb l)) (nmb l) (N (l.take (nmb l)))
/-- A great letter begins it. -/
def acc12 (l : List Nat) : Nat ⊕ (Nat × List Nat × Nat) :=
  if accB (l.take (runl (runB mA) l)) = true then .inr (2, l.take (runl (runB mA) l), runl (runB mA) l) else tkn 3 (l.take (runl (runB mA) l)) (runl (runB mA) l) (curB (l.take (runl (runB mA) l)))
/-- A small letter begins it. -/
def key12 (l : List Nat) : Nat ⊕ (Nat × List Nat × Nat) :=
  if l[runl (runB mK) l]? = some 58 then tkn 9 (l.take (runl (runB mK) l)) (runl (runB mK) l + 1) (keyB (l.take (runl (runB mK) l))) else tkn 8 (l.take (runl (runB mK) l)) (runl (runB mK) l) (keyB (l.take (runl (runB mK) l)))
/-- A # or ^ begins it. -/
def tag12 (c : Nat) (t : List Nat) : Nat ⊕ (Nat × List Nat × Nat) := tkn (if c = 94 then 7 else 6) (t.take (runl (runB mT) t)) (runl (runB mT) t + 1) (tagB (t.take (runl (runB mT) t)))
def txt12 : Nat ⊕ (List Nat × Nat) → Nat ⊕ (Nat × List Nat × Nat)
  | .inl e => .inl e
  | .inr (o, n) => .inr (5, o, n + 1)
/-- The word that begins a text. -/
def nxt (D N : List Nat → Bool) : List Nat → Nat ⊕ (Nat × List Nat × Nat)
  | [] => .inl 1
  | c :: t =>
    if c = 34 then txt12 (uqg t)
    else if c = 35 ∨ c = 94 then tag12 c t
    else if dgB c = true then num12 D N (c :: t)
    else if upB c = true then acc12 (c :: t)
    else if lwB c = true then key12 (c :: t)
    else tkn 10 ((c :: t).take (mrk (c :: t))) (mrk (c :: t)) (decide (0 < mrk (c :: t)))
/-- As it is written. -/
def txt (k : Nat) (x : List Nat) : List Nat := if k = 5 then qt x else if k = 6 then 35 :: x else if k = 7 then 94 :: x else if k = 9 then x ++ [58] else x
/-- What is asked of D: ten bytes, none of them a blank, and a hyphen or a stroke the fifth. -/
def DayOk (D : List Nat → Bool) : Prop := ∀ y, D y = true → y.length = 10 ∧ 32 ∉ y ∧ (y[4]? = some 45 ∨ y[4]? = some 47)

theorem run_more {f : Nat → Bool} {c : Nat} {t : List Nat} (h : f c = true) : ∃ x, (c :: t).take (runl f (c :: t)) = c :: x := by
  rw [runl_take, List.takeWhile_cons, if_pos h]; exact ⟨_, rfl⟩
theorem run_pos {f : Nat → Bool} {c : Nat} {t : List Nat} (h : f c = true) : 1 ≤ runl f (c :: t) := by
  unfold runl; rw [List.takeWhile_cons, if_pos h, List.length_cons]; omega
theorem run_len (f : Nat → Bool) (l : List Nat) : (l.take (runl f l)).length = runl f l := by rw [runl_take]; rfl
theorem run_again {f : Nat → Bool} (l : List Nat) {r : List Nat} (hr : ∀ c, r.head? = some c → f c = false) : runl f (l.take (runl f l) ++ r) = runl f l := by
  rw [runl_take]
  exact runl_stop (fun c hc => takeWhile_all c hc) hr
theorem runB_32 {more : List Nat} (h : 32 ∉ more) : runB more 32 = false := by
  unfold runB
  rw [show more.contains 32 = false by simpa using h]; rfl
theorem runB_up {more : List Nat} {c : Nat} (h : upB c = true) : runB more c = true := by unfold runB; rw [h]; rfl
theorem runB_lw {more : List Nat} {c : Nat} (h : lwB c = true) : runB more c = true := by unfold runB; rw [h, Bool.or_true]; rfl
theorem runB_dg {more : List Nat} {c : Nat} (h : dgB c = true) : runB more c = true := by unfold runB; rw [h, Bool.or_true]; rfl
theorem nmb_pos {c : Nat} {t : List Nat} (h : dgB c = true) : 1 ≤ nmb (c :: t) ∧ ∃ x, (c :: t).take (nmb (c :: t)) = c :: x := by
  have e : nmb1 (c :: t) = nmb1 t + 1 := by rw [nmb1, if_pos]; rw [h]; rfl
  have e2 : 1 ≤ nmb (c :: t) := by unfold nmb; omega
  obtain ⟨m, hm⟩ : ∃ m, nmb (c :: t) = m + 1 := ⟨nmb (c :: t) - 1, by omega⟩
  exact ⟨e2, by rw [hm, List.take_succ_cons]; exact ⟨_, rfl⟩⟩
theorem nxt_of (D N : List Nat → Bool) (c : Nat) (t : List Nat) :
    (c = 34 → nxt D N (c :: t) = txt12 (uqg t)) ∧
    (c = 35 ∨ c = 94 → nxt D N (c :: t) = tag12 c t) ∧
    (dgB c = true → nxt D N (c :: t) = num12 D N (c :: t)) ∧
    (upB c = true → nxt D N (c :: t) = acc12 (c :: t)) ∧
    (lwB c = true → nxt D N (c :: t) = key12 (c :: t)) ∧
    (c ≠ 34 → ¬ (c = 35 ∨ c = 94) → dgB c = false → upB c = false → lwB c = false → nxt D N (c :: t) = tkn 10 ((c :: t).take (mrk (c :: t))) (mrk (c :: t)) (decide (0 < mrk (c :: t)))) := by
  have cls : (dgB c = true → 48 ≤ c ∧ c ≤ 57) ∧ (upB c = true → 65 ≤ c ∧ c ≤ 90) ∧ (lwB c = true → 97 ≤ c ∧ c ≤ 122) := by
    refine ⟨fun h => ?_, fun h => ?_, fun h => ?_⟩
    · unfold dgB at h; simpa using h
    · unfold upB at h; simpa using h
    · unfold lwB at h; simpa using h
  have nd : ¬ (48 ≤ c ∧ c ≤ 57) → dgB c = false := fun h => by cases e : dgB c with
    | false => rfl
    | true => exact absurd (cls.1 e) h
  have nu : ¬ (65 ≤ c ∧ c ≤ 90) → upB c = false := fun h => by cases e : upB c with
    | false => rfl
    | true => exact absurd (cls.2.1 e) h
  have ff : ∀ {b : Bool}, b = false → ¬ (b = true) := fun h => by rw [h]; decide
  refine ⟨fun h => ?_, fun h => ?_, fun h => ?_, fun h => ?_, fun h => ?_, fun h1 h2 h3 h4 h5 => ?_⟩
  · rw [nxt, if_pos h]
  · rw [nxt, if_neg (by omega), if_pos h]
  · have := cls.1 h
    rw [nxt, if_neg (by omega), if_neg (by omega), if_pos h]
  · have := cls.2.1 h
    rw [nxt, if_neg (by omega), if_neg (by omega), if_neg (ff (nd (by omega))), if_pos h]
  · have := cls.2.2 h
    rw [nxt, if_neg (by omega), if_neg (by omega), if_neg (ff (nd (by omega))), if_neg (ff (nu (by omega))), if_pos h]
  · rw [nxt, if_neg h1, if_neg h2, if_neg (ff h3), if_neg (ff h4), if_neg (ff h5)]

/-- What is known of a word that begins a text: how many bytes it has, how it begins as it is written, and that so it is the same word, whatever follows behind a blank. -/
theorem nxt_back {D N : List Nat → Bool} (hD : DayOk D) {l : List Nat} {k n : Nat} {y : List Nat} (h : nxt D N l = .inr (k, y, n)) :
    1 ≤ n ∧ n ≤ l.length ∧ (∃ c u, txt k y = c :: u ∧ c ≠ 32 ∧ c ≠ 9 ∧ c ≠ 59) ∧ ∀ r, Nx r → nxt D N (txt k y ++ r) = .inr (k, y, (txt k y).length) := by
  cases l with
  | nil => rw [nxt] at h; cases h
  | cons c t =>
    obtain ⟨o1, o2, o3, o4, o5, o6⟩ := nxt_of D N c t
    by_cases c1 : c = 34
    · rw [o1 c1] at h
      cases hu : uqg t with
      | inl e => rw [hu] at h; cases h
      | inr p =>
        obtain ⟨o, m⟩ := p
        rw [hu] at h
        cases h
        have hb := uqg_bound _ (Nat.le_refl _) hu
        refine ⟨by omega, by rw [List.length_cons]; omega, ⟨34, _, rfl, by decide, by decide, by decide⟩, fun r hr => ?_⟩
        show nxt D N (qt y ++ r) = .inr (5, y, (qt y).length)
        unfold qt
        rw [List.cons_append, (nxt_of D N 34 _).1 rfl, List.append_assoc, List.singleton_append, uqg_quote]
        show Sum.inr (5, y, (qtb y).length + 1 + 1) = _
        rw [List.length_cons, List.length_append]; rfl
    by_cases c2 : c = 35 ∨ c = 94
    · rw [o2 c2] at h
      obtain ⟨hg, hp⟩ := tkn_ok h
      cases hp
      have hle := runl_le (runB mT) t
      have e : txt (if c = 94 then 7 else 6) (t.take (runl (runB mT) t)) = c :: t.take (runl (runB mT) t) := by
        rcases c2 with rfl | rfl <;> rfl
      refine ⟨by omega, by rw [List.length_cons]; omega, ⟨c, _, e, by omega, by omega, by omega⟩, fun r hr => ?_⟩
      rw [e, List.cons_append, (nxt_of D N c _).2.1 c2]
      have e2 := run_again (f := runB mT) t (r := r) (hr.stop (runB_32 (by decide)))
      unfold tag12
      rw [e2, List.take_append_of_le_length (by rw [run_len]; exact Nat.le_refl _), List.take_of_length_le (by rw [run_len]; exact Nat.le_refl _), hg, List.length_cons, run_len]
      unfold tkn
      rw [if_pos rfl]
    cases c3 : dgB c with
    | true =>
      rw [o3 c3] at h
      have hc48 : 48 ≤ c ∧ c ≤ 57 := by unfold dgB at c3; simpa using c3
      unfold num12 at h
      split at h
      · rename_i hd
        obtain ⟨d1, d2, d3⟩ := hd
        cases h
        have hx10 : ((c :: t).take 10).length = 10 := by rw [List.length_take]; omega
        refine ⟨by decide, d1, ⟨c, t.take 9, rfl, by omega, by omega, by omega⟩, fun r hr => ?_⟩
        show nxt D N ((c :: t).take 10 ++ r) = .inr (1, (c :: t).take 10, ((c :: t).take 10).length)
        rw [hx10]
        have e : (c :: t).take 10 ++ r = c :: (t.take 9 ++ r) := rfl
        rw [e, (nxt_of D N c _).2.2.1 c3]
        unfold num12
        rw [← e, if_pos, List.take_append_of_le_length (by omega), List.take_of_length_le (by omega)]
        refine ⟨by rw [List.length_append]; omega, by rw [List.take_append_of_le_length (by omega), List.take_of_length_le (by omega)]; exact d2, ?_⟩
        rw [List.getElem?_append_right (by omega), hx10, Nat.sub_self, ← List.head?_eq_getElem?]
        cases hh : r.head? with
        | none => rfl
        | some b => rw [hr.head b hh]; rfl
      · obtain ⟨hg, hp⟩ := tkn_ok h
        cases hp
        obtain ⟨hpos, x, hx⟩ := nmb_pos (t := t) c3
        have hle := nmb_le (c :: t)
        refine ⟨hpos, hle, ⟨c, x, hx, by omega, by omega, by omega⟩, fun r hr => ?_⟩
        show nxt D N ((c :: t).take (nmb (c :: t)) ++ r) = .inr (4, (c :: t).take (nmb (c :: t)), ((c :: t).take (nmb (c :: t))).length)
        have hst := nmb_stop (c :: t) hr
        have hall := nmb_all (c :: t)
        obtain ⟨X, hX⟩ : ∃ X, (c :: t).take (nmb (c :: t)) = X := ⟨_, rfl⟩
        rw [hX] at hst hall hg hx ⊢
        have e : X ++ r = c :: (x ++ r) := by rw [hx]; rfl
        rw [e, (nxt_of D N c _).2.2.1 c3, ← e]
        unfold num12
        rw [hst, List.take_append_of_le_length (Nat.le_refl _), List.take_of_length_le (Nat.le_refl X.length), if_neg]
        · unfold tkn; rw [if_pos hg]
        · rintro ⟨k1, k2, _⟩
          obtain ⟨k3, k4, k5⟩ := hD _ k2
          rcases Nat.lt_or_ge X.length 10 with hX10 | hX10
          · rcases hr with rfl | ⟨u, rfl⟩
            · rw [List.append_nil] at k1; omega
            · apply k4
              rw [List.take_append, List.take_of_length_le (by omega), show 10 - X.length = (9 - X.length) + 1 by omega, List.take_succ_cons]
              simp
          · rw [List.take_append_of_le_length hX10, List.getElem?_take, if_pos (by decide)] at k5
            have : ∀ b, X[4]? = some b → nC b = true := fun b hb => hall b (List.mem_of_getElem? hb)
            rcases k5 with k5 | k5
            · have := this _ k5; cases this
            · have := this _ k5; cases this
    | false =>
      cases c4 : upB c with
      | true =>
        rw [o4 c4] at h
        have hc65 : 65 ≤ c ∧ c ≤ 90 := by unfold upB at c4; simpa using c4
        have hle := runl_le (runB mA) (c :: t)
        have hpos := run_pos (t := t) (runB_up (more := mA) c4)
        obtain ⟨x, hx⟩ := run_more (t := t) (runB_up (more := mA) c4)
        have hag := fun r (hr : Nx r) => run_again (f := runB mA) (c :: t) (r := r) (hr.stop (runB_32 (by decide)))
        have hln := run_len (runB mA) (c :: t)
        obtain ⟨m, hm⟩ : ∃ m, runl (runB mA) (c :: t) = m := ⟨_, rfl⟩
        unfold acc12 at h
        rw [hm] at hle hpos hx hag hln h
        obtain ⟨X, hX⟩ : ∃ X, (c :: t).take m = X := ⟨_, rfl⟩
        rw [hX] at hx hag hln h
        split at h
        · rename_i ha
          cases h
          obtain ⟨X, rfl⟩ : ∃ X, X = y := ⟨_, rfl⟩
          refine ⟨hpos, hle, ⟨c, x, hx, by omega, by omega, by omega⟩, fun r hr => ?_⟩
          show nxt D N (X ++ r) = .inr (2, X, X.length)
          have e : X ++ r = c :: (x ++ r) := by rw [hx]; rfl
          rw [e, (nxt_of D N c _).2.2.2.1 c4, ← e]
          unfold acc12
          rw [hag r hr, List.take_append_of_le_length (by omega), List.take_of_length_le (by omega), if_pos ha, hln]
        · rename_i ha
          obtain ⟨hg, hp⟩ := tkn_ok h
          cases hp
          obtain ⟨X, rfl⟩ : ∃ X, X = y := ⟨_, rfl⟩
          refine ⟨hpos, hle, ⟨c, x, hx, by omega, by omega, by omega⟩, fun r hr => ?_⟩
          show nxt D N (X ++ r) = .inr (3, X, X.length)
          have e : X ++ r = c :: (x ++ r) := by rw [hx]; rfl
          rw [e, (nxt_of D N c _).2.2.2.1 c4, ← e]
          unfold acc12
          rw [hag r hr, List.take_append_of_le_length (by omega), List.take_of_length_le (by omega), if_neg ha, hln]
          unfold tkn; rw [if_pos hg]
      | false =>
        cases c5 : lwB c with
        | true =>
          rw [o5 c5] at h
          have hc97 : 97 ≤ c ∧ c ≤ 122 := by unfold lwB at c5; simpa using c5
          have hle := runl_le (runB mK) (c :: t)
          have hpos := run_pos (t := t) (runB_lw (more := mK) c5)
          obtain ⟨x, hx⟩ := run_more (t := t) (runB_lw (more := mK) c5)
          have hag := fun r (hr : ∀ d, r.head? = some d → runB mK d = false) => run_again (f := runB mK) (c :: t) (r := r) hr
          have hln := run_len (runB mK) (c :: t)
          obtain ⟨m, hm⟩ : ∃ m, runl (runB mK) (c :: t) = m := ⟨_, rfl⟩
          unfold key12 at h
          rw [hm] at hle hpos hx hag hln h
          obtain ⟨X, hX⟩ : ∃ X, (c :: t).take m = X := ⟨_, rfl⟩
          rw [hX] at hx hag hln h
          split at h
          · rename_i h58
            obtain ⟨hg, hp⟩ := tkn_ok h
            cases hp
            obtain ⟨X, rfl⟩ : ∃ X, X = y := ⟨_, rfl⟩
            have hlt : m < (c :: t).length := (List.getElem?_eq_some_iff.1 h58).1
            refine ⟨by omega, hlt, ⟨c, x ++ [58], by show X ++ [58] = _; rw [hx]; rfl, by omega, by omega, by omega⟩, fun r hr => ?_⟩
            show nxt D N (X ++ [58] ++ r) = .inr (9, X, (X ++ [58]).length)
            have e : X ++ [58] ++ r = c :: (x ++ [58] ++ r) := by rw [hx]; rfl
            rw [e, (nxt_of D N c _).2.2.2.2.1 c5, ← e]
            unfold key12
            rw [List.append_assoc, hag ([58] ++ r) (fun d hd => by rw [← Option.some.inj (show some 58 = some d from hd)]; rfl), if_pos, List.take_append_of_le_length (by omega), List.take_of_length_le (by omega), List.length_append, hln]
            · unfold tkn; rw [if_pos hg]; rfl
            · rw [List.getElem?_append_right (by omega), hln, Nat.sub_self]; rfl
          · rename_i h58
            obtain ⟨hg, hp⟩ := tkn_ok h
            cases hp
            obtain ⟨X, rfl⟩ : ∃ X, X = y := ⟨_, rfl⟩
            refine ⟨hpos, hle, ⟨c, x, hx, by omega, by omega, by omega⟩, fun r hr => ?_⟩
            show nxt D N (X ++ r) = .inr (8, X, X.length)
            have e : X ++ r = c :: (x ++ r) := by rw [hx]; rfl
            rw [e, (nxt_of D N c _).2.2.2.2.1 c5, ← e]
            unfold key12
            rw [hag r (hr.stop (runB_32 (by decide))), if_neg, List.take_append_of_le_length (by omega), List.take_of_length_le (by omega), hln]
            · unfold tkn; rw [if_pos hg]
            · rw [List.getElem?_append_right (by omega), hln, Nat.sub_self, ← List.head?_eq_getElem?]
              intro e58
              have := hr.head _ e58
              omega
        | false =>
          rw [o6 c1 c2 c3 c4 c5] at h
          obtain ⟨hg, hp⟩ := tkn_ok h
          cases hp
          have hpos : 0 < mrk (c :: t) := by simpa using hg
          have hle := mrk_le (c :: t)
          have hst := fun r (hr : Nx r) => mrk_stop hpos hr
          obtain ⟨m, hm⟩ : ∃ m, mrk (c :: t) = m := ⟨_, rfl⟩
          have hsg : c ≠ 32 ∧ c ≠ 9 ∧ c ≠ 59 := by
            have hin : c = 123 ∨ c = 125 ∨ c = 64 ∨ ones.contains c = true := by
              unfold mrk at hpos
              split at hpos
              · rename_i k
                rcases k with k | k | k
                · exact .inl (by have := congrArg List.head? k; simpa using this)
                · exact .inr (.inl (by have := congrArg List.head? k; simpa using this))
                · exact .inr (.inr (.inl (by have := congrArg List.head? k; simpa using this)))
              · split at hpos
                · rename_i k; exact .inr (.inr (.inr k))
                · omega
            refine ⟨fun e => ?_, fun e => ?_, fun e => ?_⟩ <;> (subst e; rcases hin with k | k | k | k <;> first | omega | (revert k; decide))
          rw [hm] at hpos hle hst
          rw [hm]
          obtain ⟨X, hX⟩ : ∃ X, (c :: t).take m = X := ⟨_, rfl⟩
          have hxl : X.length = m := by rw [← hX, List.length_take]; omega
          obtain ⟨x, hx⟩ : ∃ x, X = c :: x := by
            obtain ⟨q, hq⟩ : ∃ q, m = q + 1 := ⟨m - 1, by omega⟩
            exact ⟨t.take q, by rw [← hX, hq, List.take_succ_cons]⟩
          rw [hX] at hst ⊢
          refine ⟨hpos, hle, ⟨c, x, hx, hsg⟩, fun r hr => ?_⟩
          show nxt D N (X ++ r) = .inr (10, X, X.length)
          have e : X ++ r = c :: (x ++ r) := by rw [hx]; rfl
          rw [e, (nxt_of D N c _).2.2.2.2.2 c1 c2 c3 c4 c5, ← e, hst r hr, List.take_append_of_le_length (by omega), List.take_of_length_le (by omega), hxl]
          unfold tkn; rw [if_pos (by simpa using hpos)]

end Go.Proofs.YtjkandnbjbfeiaaDoor

/-
  Mathematics of layer 12, the third part: the words of a line, one behind the other; as they are written, with blanks between, they are the same words.
-/
namespace Go.Proofs.YtjkandnbjbfeiaaDoor

/-- Words: kind, what it says, and the place (the column) of each; or the place of the first fault, and its number. -/
abbrev Wd := Nat × List Nat × Nat
def consW (w : Wd) : (Nat × Nat) ⊕ List Wd → (Nat × Nat) ⊕ List Wd
  | .inl p => .inl p
  | .inr r => .inr (w :: r)
/-- What is behind a word that begins at column a. -/
def thenW (a : Nat) (m : List Nat) (go : Nat → List Nat → (Nat × Nat) ⊕ List Wd) : Nat ⊕ (Nat × List Nat × Nat) → (Nat × Nat) ⊕ List Wd
  | .inl e => .inl (a + 1, e)
  | .inr (k, x, n) => consW (k, x, a + 1) (go (a + n) (m.drop n))
def Stop12 (m : List Nat) : Prop := m = [] ∨ m.head? = some 59
instance (m : List Nat) : Decidable (Stop12 m) := by unfold Stop12; infer_instance
def wdf (D N : List Nat → Bool) : Nat → Nat → List Nat → (Nat × Nat) ⊕ List Wd
  | 0, _, _ => .inr []
  | f + 1, a, l => if Stop12 (l.drop (indl l)) then .inr [] else thenW (a + indl l) (l.drop (indl l)) (wdf D N f) (nxt D N (l.drop (indl l)))
/-- The words of what is left of a line, of which so many bytes are ahead. -/
def WD (D N : List Nat → Bool) (a : Nat) (l : List Nat) : (Nat × Nat) ⊕ List Wd := wdf D N (l.length + 1) a l
section
variable {D N : List Nat → Bool}
theorem wdf_fuel (hD : DayOk D) : ∀ (f g : Nat) (a : Nat) (l : List Nat), l.length < f → l.length < g → wdf D N f a l = wdf D N g a l := by
  intro f
  induction f with
  | zero => intro g a l h; exact absurd h (Nat.not_lt_zero _)
  | succ f ih =>
    intro g a l hf hg
    cases g with
    | zero => exact absurd hg (Nat.not_lt_zero _)
    | succ g =>
      rw [wdf, wdf]
      by_cases hs : Stop12 (l.drop (indl l))
      · rw [if_pos hs, if_pos hs]
      · rw [if_neg hs, if_neg hs]
        cases hn : nxt D N (l.drop (indl l)) with
        | inl e => rfl
        | inr p =>
          obtain ⟨k, x, n⟩ := p
          obtain ⟨h1, h2, _⟩ := nxt_back hD hn
          rw [List.length_drop] at h2
          show consW _ (wdf D N f _ _) = consW _ (wdf D N g _ _)
          rw [ih g _ _ (by rw [List.length_drop, List.length_drop]; omega) (by rw [List.length_drop, List.length_drop]; omega)]
theorem WD_stop {a : Nat} {l : List Nat} (h : Stop12 (l.drop (indl l))) : WD D N a l = .inr [] := by
  unfold WD; rw [wdf, if_pos h]
theorem WD_err {a e : Nat} {l : List Nat} (h : ¬ Stop12 (l.drop (indl l))) (hn : nxt D N (l.drop (indl l)) = .inl e) : WD D N a l = .inl (a + indl l + 1, e) := by
  unfold WD; rw [wdf, if_neg h, hn]; rfl
theorem WD_ok (hD : DayOk D) {a k n : Nat} {x l : List Nat} (h : ¬ Stop12 (l.drop (indl l))) (hn : nxt D N (l.drop (indl l)) = .inr (k, x, n)) :
    WD D N a l = consW (k, x, a + indl l + 1) (WD D N (a + indl l + n) ((l.drop (indl l)).drop n)) := by
  obtain ⟨h1, h2, _⟩ := nxt_back hD hn
  rw [List.length_drop] at h2
  unfold WD
  rw [wdf, if_neg h, hn]
  show consW _ (wdf D N _ _ _) = _
  rw [wdf_fuel hD _ (((l.drop (indl l)).drop n).length + 1) _ _ (by rw [List.length_drop, List.length_drop]; omega) (by omega)]
/-- Words as they are written, a blank ahead of each. -/
def joinW (ts : List Wd) : List Nat := ts.flatMap fun t => 32 :: txt t.1 t.2.1
/-- The same words, each where it is put then. -/
def colsW : Nat → List Wd → List Wd
  | _, [] => []
  | a, t :: r => (t.1, t.2.1, a + 2) :: colsW (a + 1 + (txt t.1 t.2.1).length) r
theorem joinW_cons (t : Wd) (r : List Wd) : joinW (t :: r) = 32 :: (txt t.1 t.2.1 ++ joinW r) := rfl
theorem joinW_nx (ts : List Wd) : Nx (joinW ts) := by
  cases ts with
  | nil => exact .inl rfl
  | cons t r => exact .inr ⟨_, joinW_cons t r⟩
theorem WD_back (hD : DayOk D) : ∀ (f : Nat) {a : Nat} {l : List Nat} {ts : List Wd}, l.length ≤ f → WD D N a l = .inr ts → ∀ b, WD D N b (joinW ts) = .inr (colsW b ts) := by
  intro f
  induction f with
  | zero =>
    intro a l ts hf h b
    rw [List.eq_nil_of_length_eq_zero (Nat.le_zero.1 hf), WD_stop (.inl rfl)] at h
    cases h
    exact WD_stop (.inl rfl)
  | succ f ih =>
    intro a l ts hf h b
    by_cases hs : Stop12 (l.drop (indl l))
    · rw [WD_stop hs] at h
      cases h
      exact WD_stop (.inl rfl)
    · cases hn : nxt D N (l.drop (indl l)) with
      | inl e => rw [WD_err hs hn] at h; cases h
      | inr p =>
        obtain ⟨k, x, n⟩ := p
        rw [WD_ok hD hs hn] at h
        obtain ⟨g1, g2, ⟨c, u, g3, g4, g5, g6⟩, g7⟩ := nxt_back hD hn
        rw [List.length_drop] at g2
        cases hr : WD D N (a + indl l + n) ((l.drop (indl l)).drop n) with
        | inl p => rw [hr] at h; cases h
        | inr r =>
          rw [hr] at h
          obtain rfl : (k, x, a + indl l + 1) :: r = ts := Sum.inr.inj h
          have hi := ih (by rw [List.length_drop, List.length_drop]; omega) hr
          rw [joinW_cons]
          show WD D N b (32 :: (txt k x ++ joinW r)) = _
          have ei : indl (32 :: (txt k x ++ joinW r)) = 1 := by
            rw [indl, if_pos (.inl rfl), g3, List.cons_append, indl, if_neg (by omega)]
          have hns : ¬ Stop12 (txt k x ++ joinW r) := by
            rw [g3]
            rintro (e | e)
            · cases e
            · exact g6 (Option.some.inj e)
          have hnx := g7 _ (joinW_nx r)
          rw [WD_ok hD (k := k) (n := (txt k x).length) (x := x) (by rw [ei]; exact hns) (by rw [ei]; exact hnx), ei]
          show consW _ (WD D N _ ((txt k x ++ joinW r).drop _)) = _
          rw [List.drop_left, hi]
          rfl
/-- What a fault tells. -/
theorem nxt_err {l : List Nat} {e : Nat} (h : nxt D N l = .inl e) : e = 1 ∨ e = 2 ∨ e = 3 := by
  have ht : ∀ {k n : Nat} {x : List Nat} {g : Bool}, tkn k x n g = .inl e → e = 3 := fun h => by
    unfold tkn at h
    split at h
    · cases h
    · cases h; rfl
  have hu : ∀ (f : Nat) {l : List Nat} {e : Nat}, l.length ≤ f → uqg l = .inl e → e = 2 ∨ e = 3 := by
    intro f
    induction f with
    | zero => intro l e hf h; rw [List.eq_nil_of_length_eq_zero (Nat.le_zero.1 hf), uqg] at h; cases h; exact .inl rfl
    | succ f ih =>
      intro l e hf h
      cases l with
      | nil => rw [uqg] at h; cases h; exact .inl rfl
      | cons b t =>
        have one : ∀ {m d : Nat} {u : List Nat}, u.length ≤ f → pre m d (uqg u) = .inl e → e = 2 ∨ e = 3 := by
          intro m d u hu e2
          cases hq : uqg u with
          | inl y => rw [hq] at e2; cases e2; exact ih hu hq
          | inr p => obtain ⟨_, _⟩ := p; rw [hq] at e2; cases e2
        have hf2 : t.length ≤ f := by simpa using hf
        by_cases h34 : b = 34
        · subst h34; rw [uqg_end] at h; cases h
        · by_cases h92 : b = 92
          · subst h92
            cases t with
            | nil => rw [uqg, if_neg (by decide)] at h; cases h; exact .inl rfl
            | cons c u =>
              cases hc : une c with
              | none => rw [uqg_none hc] at h; cases h; exact .inr rfl
              | some d => rw [uqg_esc hc] at h; exact one (by simp at hf2; omega) h
          · rw [uqg_byte h34 h92] at h
            exact one hf2 h
  cases l with
  | nil => rw [nxt] at h; cases h; exact .inl rfl
  | cons c t =>
    rw [nxt] at h
    split at h
    · cases hq : uqg t with
      | inl y => rw [hq] at h; cases h; exact .inr (hu _ (Nat.le_refl _) hq)
      | inr p => obtain ⟨_, _⟩ := p; rw [hq] at h; cases h
    split at h
    · exact .inr (.inr (ht h))
    split at h
    · unfold num12 at h
      split at h
      · cases h
      · exact .inr (.inr (ht h))
    split at h
    · unfold acc12 at h
      split at h
      · cases h
      · exact .inr (.inr (ht h))
    split at h
    · unfold key12 at h
      split at h
      · exact .inr (.inr (ht h))
      · exact .inr (.inr (ht h))
    · exact .inr (.inr (ht h))
theorem WD_fault (hD : DayOk D) : ∀ (f : Nat) {a c e : Nat} {l : List Nat}, l.length ≤ f → WD D N a l = .inl (c, e) → a + 1 ≤ c ∧ c ≤ a + l.length ∧ (e = 1 ∨ e = 2 ∨ e = 3) := by
  intro f
  induction f with
  | zero =>
    intro a c e l hf h
    rw [List.eq_nil_of_length_eq_zero (Nat.le_zero.1 hf), WD_stop (.inl rfl)] at h
    cases h
  | succ f ih =>
    intro a c e l hf h
    by_cases hs : Stop12 (l.drop (indl l))
    · rw [WD_stop hs] at h; cases h
    · have hne : indl l < l.length := by
        rcases Nat.lt_or_ge (indl l) l.length with h1 | h1
        · exact h1
        · exact absurd (.inl (List.drop_of_length_le h1)) hs
      cases hn : nxt D N (l.drop (indl l)) with
      | inl y =>
        rw [WD_err hs hn] at h
        cases h
        exact ⟨by omega, by omega, nxt_err hn⟩
      | inr p =>
        obtain ⟨k, x, n⟩ := p
        rw [WD_ok hD hs hn] at h
        obtain ⟨g1, g2, _⟩ := nxt_back hD hn
        rw [List.length_drop] at g2
        cases hr : WD D N (a + indl l + n) ((l.drop (indl l)).drop n) with
        | inr r => rw [hr] at h; cases h
        | inl p =>
          rw [hr] at h
          obtain rfl : p = (c, e) := Sum.inl.inj h
          have := ih (by rw [List.length_drop, List.length_drop]; omega) hr
          rw [List.length_drop, List.length_drop] at this
          omega
end

end Go.Proofs.YtjkandnbjbfeiaaDoor

/-
  Mathematics of layer 12, the fourth part: what the program's own lex reckons by: sets of bytes, what stands behind a mark, a number piece by piece.
-/
namespace Go.Proofs.YtjkandnbjbfeiaaDoor

/-- With one of these it begins. -/
def begB (T l : List Nat) : Bool := l.head?.any T.contains
theorem begB_cons (T : List Nat) (c : Nat) (t : List Nat) : begB T (c :: t) = T.contains c := rfl
theorem runl_cons (f : Nat → Bool) (c : Nat) (t : List Nat) : runl f (c :: t) = if f c = true then runl f t + 1 else 0 := by
  unfold runl
  rw [List.takeWhile_cons]
  split
  · rfl
  · rfl
theorem runl_congr {f g : Nat → Bool} {l : List Nat} (h : ∀ c ∈ l, f c = g c) : runl f l = runl g l := by
  induction l with
  | nil => rfl
  | cons c t ih =>
    rw [runl_cons, runl_cons, h c List.mem_cons_self, ih fun d hd => h d (List.mem_cons_of_mem _ hd)]
theorem runl_set {T : List Nat} {f : Nat → Bool} (hT : ((List.range 256).all fun c => T.contains c == f c) = true) {l : List Nat} (hl : ∀ c ∈ l, c < 256) : runl T.contains l = runl f l := by
  rw [List.all_eq_true] at hT
  exact runl_congr fun c hc => beq_iff_eq.1 (hT c (List.mem_range.2 (hl c hc)))
theorem run_head (f : Nat → Bool) (l : List Nat) : (l.drop (runl f l)).head?.any f = false := by
  induction l with
  | nil => rfl
  | cons c t ih =>
    rw [runl_cons]
    cases hc : f c with
    | true => rw [if_pos rfl, List.drop_succ_cons]; exact ih
    | false => rw [if_neg (by decide), List.drop_zero]; exact hc
/-- What of a text is a mark and digits behind it. -/
def bhn (a : Nat) (m : List Nat) : Nat := if m.head? = some a ∧ m.tail.head?.any dgB = true then 1 + runl dgB m.tail else 0
theorem frac_bhn (m : List Nat) : frac m = bhn 46 m := rfl
theorem bhn_no {a : Nat} {m : List Nat} (h : m.head? ≠ some a) : bhn a m = 0 := by
  unfold bhn; rw [if_neg fun e => h e.1]
theorem bhn_yes {a n : Nat} {t : List Nat} (hn : runl dgB t = n) : bhn a (a :: t) = if n = 0 then 0 else n + 1 := by
  unfold bhn
  cases t with
  | nil => rw [if_neg (fun e => by simpa using e.2), if_pos (show n = 0 from hn.symm)]
  | cons d u =>
    rw [runl_cons] at hn
    cases hd : dgB d with
    | true =>
      rw [hd, if_pos rfl] at hn
      rw [if_pos ⟨rfl, show dgB d = true from hd⟩, if_neg (by omega)]
      show 1 + runl dgB (d :: u) = _
      rw [runl_cons, hd, if_pos rfl]; omega
    | false =>
      rw [hd, if_neg (by decide)] at hn
      rw [if_neg (fun e => by have e2 : dgB d = true := e.2; rw [hd] at e2; cases e2), if_pos hn.symm]
theorem bhn_le (a : Nat) (m : List Nat) : bhn a m ≤ m.length := by
  cases m with
  | nil => unfold bhn; rw [if_neg (fun e => by cases e.1)]; exact Nat.zero_le _
  | cons c t =>
    unfold bhn
    split
    · have := runl_le dgB t
      show 1 + runl dgB t ≤ t.length + 1; omega
    · exact Nat.zero_le _
theorem nmb1_digits (l : List Nat) : nmb1 l = runl dgB l + nmb1 (l.drop (runl dgB l)) := by
  induction l with
  | nil => rfl
  | cons c t ih =>
    rw [runl_cons]
    cases hc : dgB c with
    | true =>
      rw [if_pos rfl, List.drop_succ_cons, nmb1, hc, Bool.true_or, if_pos rfl]; omega
    | false => rw [if_neg (by decide), List.drop_zero, Nat.zero_add]
theorem nmb1_more {m : List Nat} {k : Nat} (hk : bhn 44 m = k) (h : 0 < k) : nmb1 m = k + nmb1 (m.drop k) ∧ (m.drop k).head?.any dgB = false := by
  cases m with
  | nil => unfold bhn at hk; rw [if_neg (fun e => by cases e.1)] at hk; omega
  | cons c t =>
    unfold bhn at hk
    split at hk
    · rename_i hc
      have hc1 : c = 44 := Option.some.inj hc.1
      have hc2 : t.head?.any dgB = true := hc.2
      have hk2 : runl dgB t + 1 = k := by rw [← hk]; show _ = 1 + runl dgB t; omega
      rw [← hk2, List.drop_succ_cons]
      refine ⟨?_, run_head dgB t⟩
      rw [nmb1, hc1, hc2, if_pos (by simp), nmb1_digits t]; omega
    · omega
theorem nmb1_end {m : List Nat} (h : bhn 44 m = 0) (h2 : m.head?.any dgB = false) : nmb1 m = 0 := by
  cases m with
  | nil => rfl
  | cons c t =>
    have h3 : dgB c = false := h2
    rw [nmb1, h3, Bool.false_or, if_neg]
    intro e
    rw [Bool.and_eq_true, beq_iff_eq] at e
    unfold bhn at h
    rw [if_pos ⟨by rw [e.1]; rfl, e.2⟩] at h
    omega
theorem mrk_zero {l : List Nat} (h : begB ones l = false) : mrk l = 0 := by
  cases l with
  | nil => rfl
  | cons c t =>
    rw [begB_cons] at h
    unfold mrk
    rw [if_neg, if_neg]
    · show ¬ (ones.contains c = true)
      rw [h]; decide
    · have hc : ¬ (c = 123 ∨ c = 125 ∨ c = 64) := by
        rintro (rfl | rfl | rfl) <;> revert h <;> decide
      have hd : ((c :: t).take 2).head? = some c := rfl
      rintro (e | e | e) <;> (rw [e] at hd; have := Option.some.inj hd; omega)
theorem mrk_same {x : Nat} {t : List Nat} (h : [123, 125, 64].contains x = true) : mrk (x :: x :: t) = 2 := by
  have hc : x = 123 ∨ x = 125 ∨ x = 64 := by simpa using h
  unfold mrk
  rw [if_pos]
  show [x, x] = _ ∨ [x, x] = _ ∨ [x, x] = _
  rcases hc with rfl | rfl | rfl
  · exact .inl rfl
  · exact .inr (.inl rfl)
  · exact .inr (.inr rfl)
theorem mrk_single {x : Nat} {t : List Nat} (h : ones.contains x = true) (h2 : [123, 125, 64].contains x = false ∨ t.head? ≠ some x) : mrk (x :: t) = 1 := by
  unfold mrk
  rw [if_neg, if_pos]
  · exact h
  · rintro (e | e | e)
    all_goals
      cases t with
      | nil => cases e
      | cons y u =>
        have e1 : x = _ := congrArg (fun l : List Nat => l.headD 0) e
        have e2 : y = _ := congrArg (fun l : List Nat => l.tail.headD 0) e
        simp at e1 e2
        subst e1; subst e2
        rcases h2 with h2 | h2
        · revert h2; decide
        · exact h2 rfl
/-- A word begins where the blanks end, the line's words are the same from there. -/
theorem indl_drop (l : List Nat) : indl (l.drop (indl l)) = 0 := by
  induction l with
  | nil => rfl
  | cons c t ih =>
    rw [indl]
    split
    · rw [List.drop_succ_cons]; exact ih
    · rename_i h
      rw [List.drop_zero, indl, if_neg h]
theorem WD_indent {D N : List Nat → Bool} (hD : DayOk D) (a : Nat) (l : List Nat) : WD D N a l = WD D N (a + indl l) (l.drop (indl l)) := by
  have e := indl_drop l
  have e2 : (l.drop (indl l)).drop (indl (l.drop (indl l))) = l.drop (indl l) := by rw [e, List.drop_zero]
  by_cases hs : Stop12 (l.drop (indl l))
  · rw [WD_stop hs, WD_stop (by rw [e2]; exact hs)]
  · cases hn : nxt D N (l.drop (indl l)) with
    | inl x =>
      have h1 := WD_err (a := a) hs hn
      have h2 := WD_err (D := D) (N := N) (a := a + indl l) (e := x) (l := l.drop (indl l)) (by rw [e2]; exact hs) (by rw [e2]; exact hn)
      rw [h1, h2, e]
      all_goals rfl
    | inr p =>
      obtain ⟨k, x, n⟩ := p
      have h1 := WD_ok hD (a := a) hs hn
      have h2 := WD_ok (D := D) (N := N) hD (a := a + indl l) (k := k) (n := n) (x := x) (l := l.drop (indl l)) (by rw [e2]; exact hs) (by rw [e2]; exact hn)
      rw [h1, h2, e2, e]
      all_goals rfl
/-- Quote and Unquote by places in two texts. -/
theorem esc_at {x : Nat} : (x = 34 → esc x = [92, 34]) ∧ (x = 92 → esc x = [92, 92]) ∧ (x = 10 → esc x = [92, 110]) ∧ (x = 9 → esc x = [92, 116]) ∧ (x ≠ 34 → x ≠ 92 → x ≠ 10 → x ≠ 9 → esc x = [x]) := by
  refine ⟨fun h => ?_, fun h => ?_, fun h => ?_, fun h => ?_, fun h1 h2 h3 h4 => ?_⟩
  · rw [h]; rfl
  · rw [h]; rfl
  · rw [h]; rfl
  · rw [h]; rfl
  · unfold esc; rw [if_neg h1, if_neg h2, if_neg h3, if_neg h4]

end Go.Proofs.YtjkandnbjbfeiaaDoor
