/- What the proofs of this layer need of the layer Lex, in one text. -/
import Derived.Test.YtjkandnbjbfeiaaDoorAllLexMathA
set_option linter.unusedVariables false
set_option linter.unusedSimpArgs false

/-
  Contracts of layer 12: the document's Quote and Unquote.
-/
namespace Go.Proofs.YtjkandnbjbfeiaaDoor
open Go.RowKit

theorem one_at {s : ByteArray} {i : Nat} (h : i < s.size) : ∃ X, s.extract i (i + 1) = X ∧ bs9 X = [(s[i]'h).toNat] ∧ X.size = 1 := by
  have e : bs9 (s.extract i (i + 1)) = [(s[i]'h).toNat] := by
    rw [bs9_extract, bs9_get s i h, show i + 1 - i = 1 by omega]; rfl
  exact ⟨_, rfl, e, by rw [← bs9_len, e]; rfl⟩
theorem qtb_push (l : List Nat) (x : Nat) : qtb (l ++ [x]) = qtb l ++ esc x := by unfold qtb; rw [List.flatMap_append, List.flatMap_singleton]
theorem esc_len (x : Nat) : (esc x).length ≤ 2 := by unfold esc; (repeat' split) <;> simp
/-- What Unquote answers: the text, how many bytes, the error. -/
def uqv : List Nat → List Nat × Nat × Nat
  | [] => ([], 0, 1)
  | c :: t => if c = 34 then (match uqg t with | .inl e => ([], 0, e) | .inr (o, n) => (o, n + 1, 0)) else ([], 0, 1)
/-- What was unquoted up to i, and what is behind. -/
def cmb (o : List Nat) (i : Nat) : Nat ⊕ (List Nat × Nat) → List Nat × Nat × Nat
  | .inl e => ([], 0, e)
  | .inr (o', n') => (o ++ o', i + n', 0)
theorem cmb_pre (o : List Nat) (i k d : Nat) (u : Nat ⊕ (List Nat × Nat)) : cmb o i (pre k d u) = cmb (o ++ [d]) (i + k) u := by
  cases u with
  | inl e => rfl
  | inr p =>
    obtain ⟨o', n'⟩ := p
    show (o ++ d :: o', i + (n' + k), 0) = (o ++ [d] ++ o', i + k + n', 0)
    rw [List.append_assoc, show i + (n' + k) = i + k + n' by omega]; rfl
theorem uqv_start {s : ByteArray} (h0 : 0 < s.size) (h : (s[0]'h0).toNat = 34) : uqv (bs9 s) = cmb [] 1 (uqg ((bs9 s).drop 1)) := by
  have e := bs9_get s 0 h0
  rw [List.drop_zero] at e
  rw [e, h, uqv, if_pos rfl]
  show _ = cmb [] 1 (uqg (bs9 s |>.drop 1))
  cases hu : uqg ((bs9 s).drop (0 + 1)) with
  | inl x =>
    have hu' : uqg ((bs9 s).drop 1) = .inl x := hu
    first | rfl | (rw [hu']; rfl)
  | inr p =>
    have hu' : uqg ((bs9 s).drop 1) = .inr p := hu
    obtain ⟨o', n'⟩ := p
    first | (show (o', n' + 1, 0) = ([] ++ o', 1 + n', 0); rw [Nat.add_comm]; rfl) | (rw [hu']; show (o', n' + 1, 0) = ([] ++ o', 1 + n', 0); rw [Nat.add_comm]; rfl)
theorem uqv_no {s : ByteArray} (h : s.size = 0 ∨ ∃ h0 : 0 < s.size, (s[0]'h0).toNat ≠ 34) : uqv (bs9 s) = ([], 0, 1) := by
  rcases h with h | ⟨h0, h⟩
  · rw [nil_of h]; rfl
  · have e := bs9_get s 0 h0
    rw [List.drop_zero] at e
    rw [e, uqv, if_neg h]

end Go.Proofs.YtjkandnbjbfeiaaDoor

/-
  Contracts of layer 12: the document's run and number.
-/
namespace Go.Proofs.YtjkandnbjbfeiaaDoor
open Go.RowKit

theorem runl_is {f : Nat → Bool} {l : List Nat} {i : Nat} (h : (l.take i).all f = true) (h2 : l.length ≤ i ∨ ∃ x, l[i]? = some x ∧ f x = false) (hi : i ≤ l.length) : runl f l = i := by
  have e := runl_stop (f := f) (l := l.take i) (r := l.drop i) (fun c hc => by rw [List.all_eq_true] at h; exact h c hc) (fun c hc => by
    rw [List.head?_drop] at hc
    rcases h2 with h2 | ⟨x, hx, hf⟩
    · rw [List.getElem?_eq_none h2] at hc; cases hc
    · rw [hx] at hc; rw [← Option.some.inj hc]; exact hf)
  rw [List.take_append_drop] at e
  rw [e, List.length_take]; omega

theorem frac_at {l : List Nat} {i x y : Nat} (hx : l[i]? = some x) (hy : l[i + 1]? = some y) : (x = 46 → dgB y = true → frac (l.drop i) = 1 + runl dgB (l.drop (i + 1))) ∧ (x ≠ 46 ∨ dgB y = false → frac (l.drop i) = 0) := by
  have e : l.drop i = x :: l.drop (i + 1) := by
    have hl := (List.getElem?_eq_some_iff.1 hx).1
    rw [List.drop_eq_getElem_cons hl, (List.getElem?_eq_some_iff.1 hx).2]
  have e2 : (l.drop (i + 1)).head? = some y := by rw [List.head?_drop]; exact hy
  rw [e]
  unfold frac
  constructor
  · rintro rfl h; rw [if_pos ⟨rfl, by rw [List.tail_cons, e2]; exact h⟩]; rfl
  · intro h
    rw [if_neg]
    rintro ⟨h1, h2⟩
    rcases h with h | h
    · exact h (Option.some.inj h1)
    · rw [List.tail_cons, e2] at h2
      have h3 : dgB y = true := h2
      rw [h] at h3; cases h3
theorem frac_end {l : List Nat} {i : Nat} (h : l.length ≤ i + 1) : frac (l.drop i) = 0 := by
  unfold frac
  rw [if_neg]
  rintro ⟨h1, h2⟩
  rw [List.tail_drop, List.drop_of_length_le h] at h2
  cases h2
theorem nmb1_at {l : List Nat} {i x : Nat} (hx : l[i]? = some x) : (dgB x = true ∨ (x = 44 ∧ ∃ y, l[i + 1]? = some y ∧ dgB y = true) → nmb1 (l.drop i) = nmb1 (l.drop (i + 1)) + 1) ∧ (dgB x = false → (x ≠ 44 ∨ l.length ≤ i + 1 ∨ ∃ y, l[i + 1]? = some y ∧ dgB y = false) → nmb1 (l.drop i) = 0) := by
  have e : l.drop i = x :: l.drop (i + 1) := by
    have hl := (List.getElem?_eq_some_iff.1 hx).1
    rw [List.drop_eq_getElem_cons hl, (List.getElem?_eq_some_iff.1 hx).2]
  rw [e]
  constructor
  · rintro (h | ⟨rfl, y, hy, h⟩)
    · rw [nmb1, if_pos]; rw [h]; rfl
    · rw [nmb1, if_pos]
      rw [List.head?_drop, hy]
      show (dgB 44 || (true && dgB y)) = true
      rw [h]; rfl
  · intro hd h
    rw [nmb1, if_neg]
    rw [hd, Bool.false_or, Bool.and_eq_true, beq_iff_eq, List.head?_drop]
    rintro ⟨h1, h2⟩
    rcases h with h | h | ⟨y, hy, h⟩
    · exact h h1
    · rw [List.getElem?_eq_none h] at h2; cases h2
    · rw [hy] at h2
      have h3 : dgB y = true := h2
      rw [h] at h3; cases h3

end Go.Proofs.YtjkandnbjbfeiaaDoor

/-
  Contracts of layer 12: the document's Mark and token.
-/
namespace Go.Proofs.YtjkandnbjbfeiaaDoor
open Go.RowKit

def twos : List (List Nat) := [[123, 123], [125, 125], [64, 64]]
theorem mrk_two {l : List Nat} {k : Nat} (h : twos[k]? = some (l.take 2)) : mrk l = 2 := by
  unfold mrk
  rw [if_pos]
  have hk : k < 3 := (List.getElem?_eq_some_iff.1 h).1
  obtain rfl | rfl | rfl : k = 0 ∨ k = 1 ∨ k = 2 := by omega
  · exact .inl (Option.some.inj h).symm
  · exact .inr (.inl (Option.some.inj h).symm)
  · exact .inr (.inr (Option.some.inj h).symm)
theorem mrk_not {l : List Nat} (h : ∀ j, j < 3 → twos[j]? ≠ some (l.take 2)) : mrk l = if l.head?.any ones.contains = true then 1 else 0 := by
  unfold mrk
  rw [if_neg]
  rintro (e | e | e)
  · exact h 0 (by decide) (by rw [e]; rfl)
  · exact h 1 (by decide) (by rw [e]; rfl)
  · exact h 2 (by decide) (by rw [e]; rfl)
theorem mrk_one {l : List Nat} (h : ∀ j, j < 3 → twos[j]? ≠ some (l.take 2)) {k : Nat} {x : Nat} (hx : l.head? = some x) (hk : ones[k]? = some x) : mrk l = 1 := by
  rw [mrk_not h, hx, if_pos]
  show ones.contains x = true
  rw [List.contains_iff_mem]
  exact List.mem_of_getElem? hk
theorem mrk_none {l : List Nat} (h : ∀ j, j < 3 → twos[j]? ≠ some (l.take 2)) (h2 : ∀ j, j < 12 → ∀ x, l.head? = some x → ones[j]? ≠ some x) : mrk l = 0 := by
  rw [mrk_not h, if_neg]
  intro e
  cases hh : l.head? with
  | none => rw [hh] at e; cases e
  | some x =>
    rw [hh] at e
    have e2 : ones.contains x = true := e
    rw [List.contains_iff_mem] at e2
    obtain ⟨j, hj⟩ := List.getElem?_of_mem e2
    exact h2 j (List.getElem?_eq_some_iff.1 hj).1 x hh hj
theorem all_next {p : Nat → Prop} {k : Nat} (h : ∀ j, j < k → p j) (h2 : p k) : ∀ j, j < k + 1 → p j := fun j hj => by
  rcases Nat.lt_or_ge j k with h3 | h3
  · exact h j h3
  · obtain rfl : j = k := by omega
    exact h2

/-- A word as a value. -/
def tkv (k : Nat) (X : ByteArray) (l c : Int) : Value := .agg #[.int .i64 (k : Int), .string X, .int .i64 l, .int .i64 c]
end Go.Proofs.YtjkandnbjbfeiaaDoor

/-
  Contracts of layer 12: a word's box in memory; the document's numeral.
-/
namespace Go.Proofs.YtjkandnbjbfeiaaDoor
open Go.RowKit

/-- A block of four cells, none of them frozen. -/
structure Bx4 (v : World) (g : Nat) (x0 x1 x2 x3 : Value) : Prop where
  c0 : v.cell? ⟨g, 0, none⟩ = some x0
  c1 : v.cell? ⟨g, 1, none⟩ = some x1
  c2 : v.cell? ⟨g, 2, none⟩ = some x2
  c3 : v.cell? ⟨g, 3, none⟩ = some x3
  f0 : v.frozen? ⟨g, 0, none⟩ = false
  f1 : v.frozen? ⟨g, 1, none⟩ = false
  f2 : v.frozen? ⟨g, 2, none⟩ = false
  f3 : v.frozen? ⟨g, 3, none⟩ = false
  lt : g < v.heap.size
section
variable {v v' : World} {g : Nat} {x0 x1 x2 x3 : Value}
theorem Bx4.newAt (v : World) (x0 x1 x2 x3 : Value) (t : TypeId) (h : g = v.heap.size) : Bx4 (v.alloc (.cells #[x0, x1, x2, x3] t)) g x0 x1 x2 x3 := by
  subst h; exact ⟨by simp, by simp, by simp, by simp, by simp, by simp, by simp, by simp, by simp⟩
theorem Bx4.on (h : Bx4 v g x0 x1 x2 x3) (hb : Below v.heap.size v v') : Bx4 v' g x0 x1 x2 x3 :=
  ⟨(hb.cell (p := ⟨g, 0, none⟩) h.lt).trans h.c0, (hb.cell (p := ⟨g, 1, none⟩) h.lt).trans h.c1, (hb.cell (p := ⟨g, 2, none⟩) h.lt).trans h.c2, (hb.cell (p := ⟨g, 3, none⟩) h.lt).trans h.c3,
   (hb.frozen (p := ⟨g, 0, none⟩) h.lt).trans h.f0, (hb.frozen (p := ⟨g, 1, none⟩) h.lt).trans h.f1, (hb.frozen (p := ⟨g, 2, none⟩) h.lt).trans h.f2, (hb.frozen (p := ⟨g, 3, none⟩) h.lt).trans h.f3, Nat.lt_of_lt_of_le h.lt hb.size⟩
theorem Bx4.set0 (h : Bx4 v g x0 x1 x2 x3) (y : Value) : Bx4 (v.setCell ⟨g, 0, none⟩ y) g y x1 x2 x3 :=
  ⟨World.cell?_setCell_same _ _ _ h.c0, (World.cell?_setCell_other _ _ _ _ (by simp)).trans h.c1, (World.cell?_setCell_other _ _ _ _ (by simp)).trans h.c2, (World.cell?_setCell_other _ _ _ _ (by simp)).trans h.c3, by rw [World.frozen?_setCell]; exact h.f0, by rw [World.frozen?_setCell]; exact h.f1, by rw [World.frozen?_setCell]; exact h.f2, by rw [World.frozen?_setCell]; exact h.f3, by have := h.lt; simpa using this⟩
theorem Bx4.set1 (h : Bx4 v g x0 x1 x2 x3) (y : Value) : Bx4 (v.setCell ⟨g, 1, none⟩ y) g x0 y x2 x3 :=
  ⟨(World.cell?_setCell_other _ _ _ _ (by simp)).trans h.c0, World.cell?_setCell_same _ _ _ h.c1, (World.cell?_setCell_other _ _ _ _ (by simp)).trans h.c2, (World.cell?_setCell_other _ _ _ _ (by simp)).trans h.c3, by rw [World.frozen?_setCell]; exact h.f0, by rw [World.frozen?_setCell]; exact h.f1, by rw [World.frozen?_setCell]; exact h.f2, by rw [World.frozen?_setCell]; exact h.f3, by have := h.lt; simpa using this⟩
theorem Bx4.set2 (h : Bx4 v g x0 x1 x2 x3) (y : Value) : Bx4 (v.setCell ⟨g, 2, none⟩ y) g x0 x1 y x3 :=
  ⟨(World.cell?_setCell_other _ _ _ _ (by simp)).trans h.c0, (World.cell?_setCell_other _ _ _ _ (by simp)).trans h.c1, World.cell?_setCell_same _ _ _ h.c2, (World.cell?_setCell_other _ _ _ _ (by simp)).trans h.c3, by rw [World.frozen?_setCell]; exact h.f0, by rw [World.frozen?_setCell]; exact h.f1, by rw [World.frozen?_setCell]; exact h.f2, by rw [World.frozen?_setCell]; exact h.f3, by have := h.lt; simpa using this⟩
theorem Bx4.set3 (h : Bx4 v g x0 x1 x2 x3) (y : Value) : Bx4 (v.setCell ⟨g, 3, none⟩ y) g x0 x1 x2 y :=
  ⟨(World.cell?_setCell_other _ _ _ _ (by simp)).trans h.c0, (World.cell?_setCell_other _ _ _ _ (by simp)).trans h.c1, (World.cell?_setCell_other _ _ _ _ (by simp)).trans h.c2, World.cell?_setCell_same _ _ _ h.c3, by rw [World.frozen?_setCell]; exact h.f0, by rw [World.frozen?_setCell]; exact h.f1, by rw [World.frozen?_setCell]; exact h.f2, by rw [World.frozen?_setCell]; exact h.f3, by have := h.lt; simpa using this⟩
end
/-- A result's box: it lies where the call's own memory begins. -/
def Rbx (w W : World) (x0 x1 x2 x3 : Value) : Prop := Below w.heap.size w W ∧ Bx4 W w.heap.size x0 x1 x2 x3
abbrev Rz (w W : World) : Prop := Rbx w W (.int .i64 0) (.string ⟨#[]⟩) (.int .i64 0) (.int .i64 0)
theorem Rbx.on {w W W' : World} {x0 x1 x2 x3 : Value} (h : Rbx w W x0 x1 x2 x3) (hb : Below W.heap.size W W') : Rbx w W' x0 x1 x2 x3 := ⟨h.1.trans (hb.mono h.1.size), h.2.on hb⟩
theorem Rbx.new (w : World) (x0 x1 x2 x3 : Value) (t : TypeId) : Rbx w (w.alloc (.cells #[x0, x1, x2, x3] t)) x0 x1 x2 x3 := ⟨(Below.refl _ _).alloc (Nat.le_refl _) _, Bx4.newAt _ _ _ _ _ _ rfl⟩
theorem Rbx.lay {w W : World} {x0 x1 x2 x3 : Value} (h : Rbx w W x0 x1 x2 x3) (ob : Obj) : Rbx w (W.alloc ob) x0 x1 x2 x3 := h.on ((Below.refl _ _).alloc (Nat.le_refl _) _)
/-- What Next answers, as a value. -/
def nv : Nat ⊕ (Nat × List Nat × Nat) → Value
  | .inl e => .tuple #[tkv 0 ⟨#[]⟩ 0 0, .int .i64 0, .int .i64 (e : Int)]
  | .inr (k, x, n) => .tuple #[tkv k (st9 x) 0 0, .int .i64 (n : Int), .int .i64 0]
/-- What is asked of a world (that tables hold what the text lays) and stays so. -/
def Okw (ok : World → Prop) : Prop := ∀ {w w' : World}, ok w → Below w.heap.size w w' → ok w'
theorem st9_take {s X : ByteArray} {n : Nat} (h : s.extract 0 n = X) : st9 ((bs9 s).take n) = X := by rw [← bs9_take, h, st9_bs9]

end Go.Proofs.YtjkandnbjbfeiaaDoor
