/-
  Two rows of decimals that grow in memory of the call's own.
-/
import Derived.Test.YtllcjahekckbfaaRouL
set_option linter.unusedVariables false
set_option linter.unusedSimpArgs false
namespace Go.Proofs.Ytllcjahekckbfaa
open Go.RowKit

theorem info_dec : (Try.prog.info? 25).map (fun i => (i.zero, i.size, i.bytes)) = some (some (.agg #[.bool false, .slice none 0 0, .int .i64 0]), 3, 40) := by kernel_rfl
theorem info_parts3 {i : Option TypeInfo} {z : Value} {s b : Nat} (h : i.map (fun i => (i.zero, i.size, i.bytes)) = some (some z, s, b)) : ∃ i0, i = some i0 ∧ i0.zero = some z ∧ i0.size = s ∧ i0.bytes = b := by
  cases i with
  | none => cases h
  | some i0 =>
    simp only [Option.map_some, Option.some.injEq, Prod.mk.injEq] at h
    exact ⟨i0, rfl, h.1, h.2.1, h.2.2⟩

/-- A decimal of a row: its value, and where its limbs lie. -/
abbrev DQ := (Int × Nat) × (Option Addr × Nat × Nat)
def dcell (q : DQ) : List Value := [.bool (ngB q.1.1), .slice q.2.1 q.2.2.1 q.2.2.2, .int .i64 (q.1.2 : Int)]
def drow (l : List DQ) : List Value := l.flatMap dcell
theorem drow_nil : drow [] = [] := rfl
theorem drow_append (l l' : List DQ) : drow (l ++ l') = drow l ++ drow l' := by simp [drow]
theorem drow_cons (q : DQ) (l : List DQ) : drow (q :: l) = .bool (ngB q.1.1) :: .slice q.2.1 q.2.2.1 q.2.2.2 :: .int .i64 (q.1.2 : Int) :: drow l := by simp [drow, dcell]
theorem drow_one (q : DQ) : drow [q] = [.bool (ngB q.1.1), .slice q.2.1 q.2.2.1 q.2.2.2, .int .i64 (q.1.2 : Int)] := by simp [drow, dcell]
theorem drow_len (l : List DQ) : (drow l).length = l.length * 3 := by
  induction l with
  | nil => rfl
  | cons q l ih => rw [drow_cons, List.length_cons, List.length_cons, List.length_cons, ih, List.length_cons]; omega
theorem drow_flat (l : List DQ) : ∀ u ∈ drow l, u.oneCell' = true := by
  induction l with
  | nil => intro u hu; cases hu
  | cons q l ih =>
    intro u hu
    rw [drow_cons] at hu
    simp only [List.mem_cons] at hu
    rcases hu with rfl | rfl | rfl | hu
    · rfl
    · rfl
    · rfl
    · exact ih u hu
theorem drow_at {l : List DQ} : ∀ {j : Nat} {q : DQ}, l[j]? = some q → (drow l)[j * 3]? = some (.bool (ngB q.1.1)) ∧ (drow l)[j * 3 + 1]? = some (.slice q.2.1 q.2.2.1 q.2.2.2) ∧ (drow l)[j * 3 + 2]? = some (.int .i64 (q.1.2 : Int)) := by
  induction l with
  | nil => intro j q h; cases h
  | cons x l ih =>
    intro j q h
    rw [drow_cons]
    cases j with
    | zero => simp at h; subst h; simp
    | succ j =>
      have := ih (j := j) (q := q) (by simpa using h)
      have e : (j + 1) * 3 = j * 3 + 1 + 1 + 1 := by omega
      rw [e]
      simpa using this

def dOf (l : List DQ) (j : Nat) : Int × Nat := (l.getD j ((0, 0), (none, 0, 0))).1
def pOf (l : List DQ) (j : Nat) : Option Addr × Nat × Nat := (l.getD j ((0, 0), (none, 0, 0))).2
theorem of_at {l : List DQ} {j : Nat} (h : j < l.length) : l[j]? = some (dOf l j, pOf l j) := by
  unfold dOf pOf
  rw [List.getElem?_eq_getElem h, List.getD_eq_getElem?_getD, List.getElem?_eq_getElem h]; rfl

/-- A number does not lie in a row's block. -/
def OffV (p : Option Addr × Nat × Nat) (v : Value) : Prop := 0 < p.2.1 → ∀ ad, p.1 = some ad → v.ownBlock ≠ some ad.block
/-- Two rows of decimals, apart from another and from the numbers. -/
structure Grow (w : World) (base : Nat) (v4 v5 : Value) (l4 l5 : List DQ) : Prop where
  own4 : w.ownsRow base 25 3 v4 l4.length (drow l4)
  own5 : w.ownsRow base 25 3 v5 l5.length (drow l5)
  far : ∀ g, v4.ownBlock = some g → v5.ownBlock ≠ some g
  num : ∀ q, q ∈ l4 ∨ q ∈ l5 → Num w w.heap.size q.2.1 q.2.2.1 q.2.2.2 q.1.1.natAbs ∧ OffV q.2 v4 ∧ OffV q.2 v5
section
variable {w w' : World} {base : Nat} {v4 v5 : Value} {l4 l5 : List DQ}
theorem below_grown (hb : Below w.heap.size w w') : w.grownBy w' none := ⟨hb.os, hb.tape, hb.output, hb.size, fun k hk _ => hb.block k hk⟩
theorem Grow.start (w : World) (base : Nat) : Grow w base (.slice none 0 0) (.slice none 0 0) [] [] :=
  ⟨World.ownsRow_nil _ _ _ _, World.ownsRow_nil _ _ _ _, fun g h => (by cases h), fun q h => (by rcases h with h | h <;> cases h)⟩
theorem Grow.step (h : Grow w base v4 v5 l4 l5) (hb : Below w.heap.size w w') : Grow w' base v4 v5 l4 l5 :=
  ⟨h.own4.kept (below_grown hb) (by cases hv : v4.ownBlock <;> simp), h.own5.kept (below_grown hb) (by cases hv : v5.ownBlock <;> simp), h.far, fun q hq => ⟨((h.num q hq).1.below hb).more hb.size, (h.num q hq).2⟩⟩
theorem OffV.fresh {p : Option Addr × Nat × Nat} {v : Value} {e n : Nat} {xs : List Value} (ho : w.ownsRow base e 3 v n xs) (hf : ∀ ad, p.1 = some ad → w.heap.size ≤ ad.block) : OffV p v := fun _ ad ha he => by
  have := (ho.lt _ he).2
  have := hf ad ha
  omega
theorem lim_grown6 {w w' : World} {B n c : Nat} {A : Option Addr} {xs : List Nat} {row : Option Nat} (h : Lim w B A n c xs) (hB : B ≤ w.heap.size) (hg : w.grownBy w' row) (hap : 0 < n → ∀ ad, A = some ad → some ad.block ≠ row) : Lim w' w'.heap.size A n c xs := by
  refine ⟨h.len, h.cap, h.room, h.fit, ?_, h.addr⟩
  rcases Nat.eq_zero_or_pos n with h0 | h0
  · subst h0; left; rw [List.eq_nil_of_length_eq_zero h.len]; rfl
  · obtain ⟨b, o, he, hb, _⟩ := h.at_ h0
    subst he
    rcases h.row with h1 | ⟨b1, o1, he, hb1, hc⟩
    · exact .inl h1
    · injection he with he
      injection he with he1 he2
      subst he1; subst he2
      have hs := hg.size
      refine .inr ⟨b, o, rfl, by omega, fun j u hu => ?_⟩
      rw [hg.cell_far ⟨b, o + j, none⟩ (by show b < _; omega) (show some b ≠ row from hap h0 ⟨b, o, none⟩ rfl)]
      exact hc j u hu
theorem num_grown {B n c a : Nat} {A : Option Addr} {v : Value} (h : Num w B A n c a) (hB : B ≤ w.heap.size) (hg : w.grownBy w' v.ownBlock) (ho : OffV (A, n, c) v) : Num w' w'.heap.size A n c a :=
  lim_grown6 h hB hg (fun hp ad hA => fun e => ho hp ad hA e.symm)
theorem OffV.moved {w : World} {p : Option Addr × Nat × Nat} {v v' : Value} {a g : Nat} (ho : OffV p v) (hn : Num w w.heap.size p.1 p.2.1 p.2.2 a) (he : v'.ownBlock = some g) (hat : v.ownBlock = some g ∨ g = w.heap.size) : OffV p v' := fun hp ad hA e => by
  rw [he] at e
  injection e with e
  rcases hat with h1 | h1
  · rw [e] at h1; exact ho hp ad hA h1
  · obtain ⟨b, o, hb, hlt, _⟩ := hn.at_ hp
    rw [hA] at hb
    injection hb with hb
    rw [hb] at e
    simp at e
    omega
/-- A decimal comes to the first row. -/
theorem Grow.push4 {g cap : Nat} {q : DQ} (h : Grow w base v4 v5 l4 l5) (hq : Num w w.heap.size q.2.1 q.2.2.1 q.2.2.2 q.1.1.natAbs) (h4 : OffV q.2 v4) (h5 : OffV q.2 v5)
    (hown : w'.ownsRow base 25 3 (.slice (some ⟨g, 0, none⟩) (l4.length + 1) cap) (l4.length + 1) (drow l4 ++ drow [q])) (hg : w.grownBy w' v4.ownBlock) (hat : v4.ownBlock = some g ∨ g = w.heap.size) :
    Grow w' base (.slice (some ⟨g, 0, none⟩) (l4.length + 1) cap) v5 (l4 ++ [q]) l5 := by
  have hne : v5.ownBlock = none ∨ v5.ownBlock ≠ v4.ownBlock := by
    cases hv : v5.ownBlock with
    | none => exact .inl rfl
    | some k =>
      right
      intro e
      exact h.far k e.symm hv
  have all : ∀ q', (q' ∈ l4 ++ [q] ∨ q' ∈ l5) → Num w w.heap.size q'.2.1 q'.2.2.1 q'.2.2.2 q'.1.1.natAbs ∧ OffV q'.2 v4 ∧ OffV q'.2 v5 := by
    intro q' hq'
    rcases hq' with h1 | h1
    · rcases List.mem_append.1 h1 with h2 | h2
      · exact h.num q' (.inl h2)
      · obtain rfl := List.mem_singleton.1 h2
        exact ⟨hq, h4, h5⟩
    · exact h.num q' (.inr h1)
  refine ⟨by rw [drow_append, List.length_append]; exact hown, h.own5.kept hg hne, fun k hk hk5 => ?_, fun q' hq' => ?_⟩
  · have e : g = k := by simpa [Value.ownBlock] using hk
    subst e
    rcases hat with h1 | h1
    · exact h.far g h1 hk5
    · have := (h.own5.lt _ hk5).2; omega
  · obtain ⟨n1, o4, o5⟩ := all q' hq'
    exact ⟨num_grown n1 (Nat.le_refl _) hg o4, o4.moved n1 rfl hat, o5⟩
theorem Grow.swap (h : Grow w base v4 v5 l4 l5) : Grow w base v5 v4 l5 l4 :=
  ⟨h.own5, h.own4, fun g h5 h4 => h.far g h4 h5, fun q hq => ⟨(h.num q hq.symm).1, (h.num q hq.symm).2.2, (h.num q hq.symm).2.1⟩⟩
/-- The row reads as decimals. -/
theorem own_decs {L S n : Nat} {A : Option Addr} {c : Nat} {l : List DQ} (ho : w.ownsRow base 25 3 (.slice A n c) l.length (drow l)) (hn : ∀ q ∈ l, Num w w.heap.size q.2.1 q.2.2.1 q.2.2.2 q.1.1.natAbs) (hs : ∀ q ∈ l, (dg q.1.1.natAbs).length ≤ L ∧ q.1.2 ≤ S) : DecsG L S w w.heap.size A l.length c (dOf l) (pOf l) := by
  have mem : ∀ j, j < l.length → (dOf l j, pOf l j) ∈ l := fun j hj => List.mem_of_getElem? (of_at hj)
  rcases ho.2 with ⟨h1, h2⟩ | ⟨g, cap, cur, hv, hg, hh, hnc, hcm, hsz, htk⟩
  · injection h1 with h3 h4 h5
    have e : l = [] := List.eq_nil_of_length_eq_zero h2
    subst e
    subst h3; subst h5
    exact ⟨Nat.le_refl _, Nat.zero_le _, .inl rfl, fun j hj => absurd hj (Nat.not_lt_zero _), fun j hj => absurd hj (Nat.not_lt_zero _), fun _ => rfl⟩
  · injection hv with h3 h4 h5
    subst h3; subst h5
    refine ⟨hnc, hcm, ?_, fun j hj => hn _ (mem j hj), fun j hj => hs _ (mem j hj), fun h => by cases h⟩
    refine .inr ⟨g, 0, rfl, (Array.getElem?_eq_some_iff.1 hh).1, fun j hj => ?_⟩
    have C := ho.cells (g := g) rfl
    have D := drow_at (of_at hj)
    have c0 := C _ _ D.1
    have c1 := C _ _ D.2.1
    have c2 := C _ _ D.2.2
    rw [Addr.add_lit] at c0 c1 c2
    simp only [Nat.zero_add] at c0 c1 c2
    rw [Nat.zero_add]
    exact ⟨c0, c1, c2⟩
end

end Go.Proofs.Ytllcjahekckbfaa
