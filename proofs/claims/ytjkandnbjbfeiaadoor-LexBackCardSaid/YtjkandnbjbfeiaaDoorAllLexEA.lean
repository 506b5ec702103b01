/- What the proofs of this layer need of the layer Lex, in one text. -/
import Derived.Test.YtjkandnbjbfeiaaDoorAllLexAA
import Derived.Test.YtjkandnbjbfeiaaDoorAllScaB
set_option linter.unusedVariables false
set_option linter.unusedSimpArgs false

/-
  Contracts of layer 12: the document's Next.
-/
namespace Go.Proofs.YtjkandnbjbfeiaaDoor
open Go.RowKit

theorem num12_text {D N : List Nat → Bool} {s : ByteArray} {k n : Nat} {x : List Nat} (h : num12 D N (bs9 s) = .inr (k, x, n)) : ∃ Y : ByteArray, bs9 Y = x := by
  unfold num12 at h
  split at h
  · cases h; exact ⟨s.extract 0 10, bs9_take s 10⟩
  · obtain ⟨_, hp⟩ := tkn_ok h
    cases hp
    exact ⟨s.extract 0 (nmb (bs9 s)), bs9_take s _⟩
theorem uqg_lt : ∀ (f : Nat) {l o : List Nat} {n : Nat}, l.length ≤ f → uqg l = .inr (o, n) → (∀ c ∈ l, c < 256) → ∀ c ∈ o, c < 256 := by
  intro f
  induction f with
  | zero => intro l o n hf h; rw [List.eq_nil_of_length_eq_zero (Nat.le_zero.1 hf), uqg] at h; cases h
  | succ f ih =>
    intro l o n hf h hl
    cases l with
    | nil => rw [uqg] at h; cases h
    | cons b t =>
      have one : ∀ {m d : Nat} {u : List Nat}, u.length ≤ f → d < 256 → (∀ c ∈ u, c < 256) → pre m d (uqg u) = .inr (o, n) → ∀ c ∈ o, c < 256 := by
        intro m d u hu hd hlu e c hc
        cases hq : uqg u with
        | inl y => rw [hq] at e; cases e
        | inr p =>
          obtain ⟨o', n'⟩ := p
          rw [hq] at e
          cases e
          rcases List.mem_cons.1 hc with rfl | hc
          · exact hd
          · exact ih hu hq hlu c hc
      have hf2 : t.length ≤ f := by simpa using hf
      by_cases h34 : b = 34
      · subst h34; rw [uqg_end] at h; cases h; intro c hc; cases hc
      · by_cases h92 : b = 92
        · subst h92
          cases t with
          | nil => rw [uqg, if_neg (by decide)] at h; cases h
          | cons c u =>
            cases hc : une c with
            | none => rw [uqg_none hc] at h; cases h
            | some d =>
              rw [uqg_esc hc] at h
              exact one (by simp at hf2; omega) (by unfold une at hc; (repeat' split at hc) <;> (try (cases hc; try decide))) (fun x hx => hl x (List.mem_cons_of_mem _ (List.mem_cons_of_mem _ hx))) h
        · rw [uqg_byte h34 h92] at h
          exact one hf2 (hl b List.mem_cons_self) (fun x hx => hl x (List.mem_cons_of_mem _ hx)) h
end Go.Proofs.YtjkandnbjbfeiaaDoor

/-
  Contracts of layer 12: the document's Next.
-/
namespace Go.Proofs.YtjkandnbjbfeiaaDoor
open Go.RowKit

end Go.Proofs.YtjkandnbjbfeiaaDoor

/-
  Contracts of layer 12: the document's Text.
-/
namespace Go.Proofs.YtjkandnbjbfeiaaDoor
open Go.RowKit

end Go.Proofs.YtjkandnbjbfeiaaDoor

/-
  Contracts of layer 12: rows of words in memory; the document's Words.
-/
namespace Go.Proofs.YtjkandnbjbfeiaaDoor
open Go.RowKit

theorem tk_lt {k n k' n' : Nat} {x y : List Nat} {g : Bool} (h : tkn k' y n' g = .inr (k, x, n)) (hy : ∀ c ∈ y, c < 256) : ∀ c ∈ x, c < 256 := by
  obtain ⟨_, hp⟩ := tkn_ok h
  cases hp
  exact hy
theorem nxt_lt {D N : List Nat → Bool} {l : List Nat} {k n : Nat} {x : List Nat} (h : nxt D N l = .inr (k, x, n)) (hl : ∀ c ∈ l, c < 256) : ∀ c ∈ x, c < 256 := by
  cases l with
  | nil => rw [nxt] at h; cases h
  | cons c t =>
    have ht : ∀ {m : Nat}, ∀ d ∈ t.take m, d < 256 := fun d hd => hl d (List.mem_cons_of_mem _ (List.mem_of_mem_take hd))
    have hc : ∀ {m : Nat}, ∀ d ∈ (c :: t).take m, d < 256 := fun d hd => hl d (List.mem_of_mem_take hd)
    rw [nxt] at h
    split at h
    · cases hq : uqg t with
      | inl y => rw [hq] at h; cases h
      | inr p =>
        obtain ⟨o, m⟩ := p
        rw [hq] at h
        cases h
        exact uqg_lt _ (Nat.le_refl _) hq (fun d hd => hl d (List.mem_cons_of_mem _ hd))
    split at h
    · exact tk_lt h ht
    split at h
    · unfold num12 at h
      split at h
      · cases h; exact hc
      · exact tk_lt h hc
    split at h
    · unfold acc12 at h
      split at h
      · cases h; exact hc
      · exact tk_lt h hc
    split at h
    · unfold key12 at h
      split at h
      · exact tk_lt h hc
      · exact tk_lt h hc
    · exact tk_lt h hc
/-- Words as cells. -/
def rowT (no : Int) : List Wd → List Value
  | [] => []
  | t :: L => .int .i64 (t.1 : Int) :: .string (st9 t.2.1) :: .int .i64 no :: .int .i64 (t.2.2 : Int) :: rowT no L
theorem rowT_len (no : Int) : ∀ L : List Wd, (rowT no L).length = L.length * 4
  | [] => rfl
  | t :: L => by rw [rowT]; simp only [List.length_cons]; rw [rowT_len no L]; omega
theorem rowT_push (no : Int) : ∀ (L : List Wd) (t : Wd), rowT no (L ++ [t]) = rowT no L ++ [.int .i64 (t.1 : Int), .string (st9 t.2.1), .int .i64 no, .int .i64 (t.2.2 : Int)]
  | [], _ => rfl
  | u :: L, t => by rw [List.cons_append, rowT, rowT_push no L t, rowT]; rfl
theorem rowT_get (no : Int) : ∀ (L : List Wd) (j : Nat) (t : Wd), L[j]? = some t → (rowT no L)[j * 4]? = some (.int .i64 (t.1 : Int)) ∧ (rowT no L)[j * 4 + 1]? = some (.string (st9 t.2.1)) ∧ (rowT no L)[j * 4 + 2]? = some (.int .i64 no) ∧ (rowT no L)[j * 4 + 3]? = some (.int .i64 (t.2.2 : Int))
  | [], _, _, h => by cases h
  | u :: L, 0, t, h => by obtain rfl : u = t := Option.some.inj h; exact ⟨rfl, rfl, rfl, rfl⟩
  | u :: L, j + 1, t, h => by
    have := rowT_get no L j t h
    rw [show (j + 1) * 4 = j * 4 + 1 + 1 + 1 + 1 by omega, rowT]
    simpa only [List.getElem?_cons_succ] using this
theorem info_tok : (Tryd.prog.info? 35).map (fun i => (i.zero, i.size, i.bytes)) = some (some (.agg #[.int .i64 0, .string ⟨#[]⟩, .int .i64 0, .int .i64 0]), 4, 40) := by kernel_rfl
theorem zcells4 : (Value.agg #[.int .i64 0, .string ⟨#[]⟩, .int .i64 0, .int .i64 0]).cells.size = 4 := by simp [Value.cells]
/-- A row of words in memory of the call's own. -/
def OwnT (w : World) (base : Nat) (v : Value) (no : Int) (L : List Wd) : Prop := w.ownsRow base 35 4 v L.length (rowT no L)
/-- A row of words that is read. -/
def RdT (w : World) (A : Option Addr) (n c : Nat) (no : Int) (L : List Wd) : Prop := n = L.length ∧ n ≤ c ∧ c ≤ maxLen ∧ (L = [] ∨ ∃ b o, A = some ⟨b, o, none⟩ ∧ b < w.heap.size ∧ ∀ j u, (rowT no L)[j]? = some u → w.cell? ⟨b, o + j, none⟩ = some u)
section
variable {w w' : World} {base : Nat} {v : Value} {no : Int} {L : List Wd}
theorem OwnT.start (w : World) (base : Nat) (no : Int) : OwnT w base (.slice none 0 0) no [] := World.ownsRow_nil _ _ _ _
theorem OwnT.on (h : OwnT w base v no L) (hb : Below w.heap.size w w') : OwnT w' base v no L := World.ownsRow.kept h (grown10 hb) (by cases hv : v.ownBlock <;> simp)
theorem OwnT.slen (h : OwnT w base v no L) : ∃ A c, v = .slice A L.length c := by
  rcases h.2 with ⟨rfl, h0⟩ | ⟨g, cap, cur, rfl, _⟩
  · have : L = [] := List.eq_nil_of_length_eq_zero h0
    subst this
    exact ⟨none, 0, rfl⟩
  · exact ⟨_, _, rfl⟩
theorem RdT.on {A : Option Addr} {n c : Nat} (h : RdT w A n c no L) (hb : Below w.heap.size w w') : RdT w' A n c no L := by
  obtain ⟨h1, h2, h3, h | ⟨b, o, h4, h5, h6⟩⟩ := h
  · exact ⟨h1, h2, h3, .inl h⟩
  · exact ⟨h1, h2, h3, .inr ⟨b, o, h4, Nat.lt_of_lt_of_le h5 hb.size, fun j u hu => (hb.cell (p := ⟨b, o + j, none⟩) h5).trans (h6 j u hu)⟩⟩
theorem OwnT.rd (h : OwnT w base v no L) : ∃ A c, v = .slice A L.length c ∧ RdT w A L.length c no L := by
  have hlt := World.ownsRow.lt h
  have hc := fun g e => World.ownsRow.cells h (g := g) e
  rcases h.2 with ⟨rfl, h0⟩ | ⟨g, cap, cur, rfl, hb, hg, h3, h4, _⟩
  · have : L = [] := List.eq_nil_of_length_eq_zero h0
    subst this
    exact ⟨none, 0, rfl, rfl, Nat.le_refl _, Nat.zero_le _, .inl rfl⟩
  · refine ⟨_, _, rfl, rfl, h3, h4, .inr ⟨g, 0, rfl, (hlt g rfl).2, fun j u hu => ?_⟩⟩
    have := hc g rfl j u hu
    rwa [Addr.add_lit] at this
theorem belowT {w0 w w' : World} {v : Value} {no : Int} {l : List Wd} (h : Below w0.heap.size w0 w) (ho : OwnT w w0.heap.size v no l) (hg : w.grownBy w' v.ownBlock) : Below w0.heap.size w0 w' :=
  h.grown hg h.size (fun g e => (World.ownsRow.lt ho g e).1)
end
theorem tok_new (v : World) (x0 x1 x2 x3 : Value) (ty : TypeId) {g : Nat} (hg : g = v.heap.size) : ∀ j u, ([x0, x1, x2, x3] : List Value)[j]? = some u → (v.alloc (.cells #[x0, x1, x2, x3] ty)).cell? ((⟨g, 0, none⟩ : Addr).add j) = some u := by
  intro j u hu
  subst hg
  rw [Addr.add_lit, cell_of_row _ v.heap.size _ _ ty (0, 0) (heap_alloc_new v _), Nat.zero_add, ← Array.getElem?_toList]
  simpa using hu
/-- A block of three cells, none of them frozen. -/
structure Bx3 (v : World) (g : Nat) (x0 x1 x2 : Value) : Prop where
  c0 : v.cell? ⟨g, 0, none⟩ = some x0
  c1 : v.cell? ⟨g, 1, none⟩ = some x1
  c2 : v.cell? ⟨g, 2, none⟩ = some x2
  f0 : v.frozen? ⟨g, 0, none⟩ = false
  f1 : v.frozen? ⟨g, 1, none⟩ = false
  f2 : v.frozen? ⟨g, 2, none⟩ = false
  lt : g < v.heap.size
theorem Bx3.newAt {g : Nat} (v : World) (x0 x1 x2 : Value) (t : TypeId) (h : g = v.heap.size) : Bx3 (v.alloc (.cells #[x0, x1, x2] t)) g x0 x1 x2 := by
  subst h; exact ⟨by simp, by simp, by simp, by simp, by simp, by simp, by simp⟩
theorem Bx3.below {v v' : World} {g B : Nat} {x0 x1 x2 : Value} (h : Bx3 v g x0 x1 x2) (hb : Below B v v') (hg : g < B) : Bx3 v' g x0 x1 x2 :=
  ⟨(hb.cell (p := ⟨g, 0, none⟩) hg).trans h.c0, (hb.cell (p := ⟨g, 1, none⟩) hg).trans h.c1, (hb.cell (p := ⟨g, 2, none⟩) hg).trans h.c2,
   (hb.frozen (p := ⟨g, 0, none⟩) hg).trans h.f0, (hb.frozen (p := ⟨g, 1, none⟩) hg).trans h.f1, (hb.frozen (p := ⟨g, 2, none⟩) hg).trans h.f2, Nat.lt_of_lt_of_le h.lt hb.size⟩
theorem Bx3.on {v v' : World} {g : Nat} {x0 x1 x2 : Value} (h : Bx3 v g x0 x1 x2) (hb : Below v.heap.size v v') : Bx3 v' g x0 x1 x2 := h.below hb h.lt
theorem Bx3.set0 {v : World} {g : Nat} {x0 x1 x2 : Value} (h : Bx3 v g x0 x1 x2) (y : Value) : Bx3 (v.setCell ⟨g, 0, none⟩ y) g y x1 x2 :=
  ⟨World.cell?_setCell_same _ _ _ h.c0, (World.cell?_setCell_other _ _ _ _ (by simp)).trans h.c1, (World.cell?_setCell_other _ _ _ _ (by simp)).trans h.c2, by rw [World.frozen?_setCell]; exact h.f0, by rw [World.frozen?_setCell]; exact h.f1, by rw [World.frozen?_setCell]; exact h.f2, by have := h.lt; simpa using this⟩
theorem Bx3.set1 {v : World} {g : Nat} {x0 x1 x2 : Value} (h : Bx3 v g x0 x1 x2) (y : Value) : Bx3 (v.setCell ⟨g, 1, none⟩ y) g x0 y x2 :=
  ⟨(World.cell?_setCell_other _ _ _ _ (by simp)).trans h.c0, World.cell?_setCell_same _ _ _ h.c1, (World.cell?_setCell_other _ _ _ _ (by simp)).trans h.c2, by rw [World.frozen?_setCell]; exact h.f0, by rw [World.frozen?_setCell]; exact h.f1, by rw [World.frozen?_setCell]; exact h.f2, by have := h.lt; simpa using this⟩
theorem Bx3.set2 {v : World} {g : Nat} {x0 x1 x2 : Value} (h : Bx3 v g x0 x1 x2) (y : Value) : Bx3 (v.setCell ⟨g, 2, none⟩ y) g x0 x1 y :=
  ⟨(World.cell?_setCell_other _ _ _ _ (by simp)).trans h.c0, (World.cell?_setCell_other _ _ _ _ (by simp)).trans h.c1, World.cell?_setCell_same _ _ _ h.c2, by rw [World.frozen?_setCell]; exact h.f0, by rw [World.frozen?_setCell]; exact h.f1, by rw [World.frozen?_setCell]; exact h.f2, by have := h.lt; simpa using this⟩
/-- What stands in memory while a line is gone through: the line, the fault's box. -/
def Mw (w W : World) (no : Int) (s : ByteArray) : Prop := Below w.heap.size w W ∧ Bx2 W w.heap.size (.int .i64 no) (.string s) ∧ Bx3 W (w.heap.size + 1) (.int .i64 0) (.int .i64 0) (.int .i64 0)
theorem Mw.below {w W W' : World} {no : Int} {s : ByteArray} {B : Nat} (h : Mw w W no s) (hb : Below B W W') (hB : w.heap.size + 2 ≤ B) : Mw w W' no s :=
  ⟨h.1.trans (hb.mono (by omega)), h.2.1.below hb (by omega), h.2.2.below hb (by omega)⟩
theorem Mw.lt {w W : World} {no : Int} {s : ByteArray} (h : Mw w W no s) : w.heap.size + 2 ≤ W.heap.size := h.2.2.lt
theorem Mw.on {w W W' : World} {no : Int} {s : ByteArray} (h : Mw w W no s) (hb : Below W.heap.size W W') : Mw w W' no s := h.below hb h.lt
/-- Words ahead of what is left. -/
def appW (ts : List Wd) : (Nat × Nat) ⊕ List Wd → (Nat × Nat) ⊕ List Wd
  | .inl p => .inl p
  | .inr r => .inr (ts ++ r)
theorem appW_cons (ts : List Wd) (t : Wd) (r : (Nat × Nat) ⊕ List Wd) : appW ts (consW t r) = appW (ts ++ [t]) r := by
  cases r with
  | inl p => rfl
  | inr r => show Sum.inr (ts ++ t :: r) = Sum.inr (ts ++ [t] ++ r); rw [List.append_assoc]; rfl
theorem appW_nil (r : (Nat × Nat) ⊕ List Wd) : appW [] r = r := by cases r <;> rfl
/-- What Words hands back. -/
def RetW (W : World) (no : Int) : (Nat × Nat) ⊕ List Wd → Ending → World → Prop
  | .inl (c, x), e, w' => e = .returned (.tuple #[.slice none 0 0, .agg #[.int .i64 no, .int .i64 (c : Int), .int .i64 (x : Int)]]) ∧ Below W.heap.size W w'
  | .inr ts, e, w' => (∃ A c, e = .returned (.tuple #[.slice A ts.length c, .agg #[.int .i64 0, .int .i64 0, .int .i64 0]]) ∧ RdT w' A ts.length c no ts) ∧ Below W.heap.size W w'

end Go.Proofs.YtjkandnbjbfeiaaDoor
