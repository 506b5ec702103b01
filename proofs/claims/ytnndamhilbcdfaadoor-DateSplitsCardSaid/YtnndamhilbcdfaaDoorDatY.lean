/-
  Layer 8: rows of pairs of days: what a split tells, and how such a row lies in memory.
-/
import Derived.Test.YtnndamhilbcdfaaDoorDatX
import Derived.Deep.AppendLies
import Derived.Laws.OwnMore
set_option linter.unusedVariables false
set_option linter.unusedSimpArgs false
set_option linter.unusedVariables false
set_option linter.unusedSimpArgs false
namespace Go.Proofs.YtnndamhilbcdfaaDoor
open Go.RowKit

/-- Two days: the first and the last one of a piece. -/
abbrev D3 := Int × Int × Int
abbrev D6 := D3 × D3
def cell8 (q : D6) : List Value := [.int .i64 q.1.1, .int .i64 q.1.2.1, .int .i64 q.1.2.2, .int .i64 q.2.1, .int .i64 q.2.2.1, .int .i64 q.2.2.2]
def row8 (l : List D6) : List Value := l.flatMap cell8
theorem row8_append (l l' : List D6) : row8 (l ++ l') = row8 l ++ row8 l' := by simp [row8]
theorem row8_len (l : List D6) : (row8 l).length = l.length * 6 := by
  induction l with
  | nil => rfl
  | cons q l ih => simp only [row8, List.flatMap_cons, List.length_append, List.length_cons] at ih ⊢; rw [ih]; simp [cell8]; omega
theorem row8_flat (l : List D6) : ∀ u ∈ row8 l, u.oneCell' = true := by
  intro u hu
  obtain ⟨q, _, h⟩ := List.mem_flatMap.1 hu
  simp [cell8] at h
  rcases h with rfl | rfl | rfl | rfl | rfl | rfl <;> rfl
theorem row8_get (l : List D6) (j k : Nat) (hj : j < l.length) (hk : k < 6) : (row8 l)[j * 6 + k]? = (cell8 (l.getD j ((0, 0, 0), (0, 0, 0))))[k]? := by
  induction l generalizing j with
  | nil => simp at hj
  | cons q l ih =>
    cases j with
    | zero =>
      show (cell8 q ++ row8 l)[0 * 6 + k]? = _
      rw [List.getElem?_append_left (by simp [cell8]; omega)]
      simp
    | succ j =>
      show (cell8 q ++ row8 l)[(j + 1) * 6 + k]? = _
      rw [List.getElem?_append_right (by simp [cell8]; omega)]
      have e : (j + 1) * 6 + k - (cell8 q).length = j * 6 + k := by simp [cell8]; omega
      rw [e, ih j (by simpa using hj)]
      simp
/-- The first day of the month behind. -/
def nxm8 (f : D3) : D3 := if f.2.1 < 12 then (f.1, f.2.1 + 1, 1) else (f.1 + 1, 1, 1)
/-- The days from one to the other, month by month: so many months at most. -/
def spl8 : Nat → D3 → D3 → List D6
  | 0, _, _ => []
  | k + 1, f, t => if f.1 = t.1 ∧ f.2.1 = t.2.1 then [(f, t)] else (f, (f.1, f.2.1, len8 f.1 f.2.1)) :: spl8 k (nxm8 f) t
theorem spl8_same {k : Nat} {f t : D3} (h : f.1 = t.1 ∧ f.2.1 = t.2.1) : spl8 (k + 1) f t = [(f, t)] := by rw [spl8, if_pos h]
theorem spl8_on {k : Nat} {f t : D3} (h : ¬ (f.1 = t.1 ∧ f.2.1 = t.2.1)) : spl8 (k + 1) f t = (f, (f.1, f.2.1, len8 f.1 f.2.1)) :: spl8 k (nxm8 f) t := by rw [spl8, if_neg h]
/-- The next month begins behind this one's last day, and not behind t. -/
theorem nxm8_facts {y m d y' m' d' : Int} (h : ok8 y m d = true) (h' : ok8 y' m' d' = true) (hc : cmp8 y m d y' m' d' ≤ 0) (hne : ¬ (y = y' ∧ m = m')) :
    ok8 y m (len8 y m) = true ∧ (∃ Y M Z, nxm8 (y, m, d) = (Y, M, Z) ∧ Nxt y m (len8 y m) Y M Z ∧ ok8 Y M Z = true ∧ cmp8 Y M Z y' m' d' ≤ 0) ∧ cmp8 y' m' d' y m (len8 y m) = 1 ∧ cmp8 y m (len8 y m) y' m' d' = -1 := by
  obtain ⟨h1, h2, h3, h4, h5, h6⟩ := ok8_iff.1 h
  obtain ⟨g1, g2, g3, g4, g5, g6⟩ := ok8_iff.1 h'
  have hl := len8_bd y m
  have hlt : cmp8 y m d y' m' d' = -1 := by
    rcases cmp8_three y m d y' m' d' with e | e | e
    · exact e
    · obtain ⟨rfl, rfl, _⟩ := (cmp8_zero ..).1 e; exact absurd ⟨rfl, rfl⟩ hne
    · omega
  rw [cmp8_neg] at hlt
  have hok : ok8 y m (len8 y m) = true := ok8_iff.2 ⟨h1, h2, h3, h4, by omega, by omega⟩
  refine ⟨hok, ?_, by rw [cmp8_pos]; omega, by rw [cmp8_neg]; omega⟩
  unfold nxm8
  by_cases hm : m < 12
  · have hx : Nxt y m (len8 y m) y (m + 1) 1 := .inr (.inl ⟨rfl, hm, rfl, rfl, rfl⟩)
    refine ⟨y, m + 1, 1, by simp [hm], hx, hx.ok hok, ?_⟩
    have : ¬ cmp8 y (m + 1) 1 y' m' d' = 1 := by rw [cmp8_pos]; omega
    rcases cmp8_three y (m + 1) 1 y' m' d' with e | e | e <;> omega
  · have hx : Nxt y m (len8 y m) (y + 1) 1 1 := .inr (.inr ⟨rfl, by omega, by omega, rfl, rfl, rfl⟩)
    refine ⟨y + 1, 1, 1, by simp [hm], hx, hx.ok hok, ?_⟩
    have : ¬ cmp8 (y + 1) 1 1 y' m' d' = 1 := by rw [cmp8_pos]; omega
    rcases cmp8_three (y + 1) 1 1 y' m' d' with e | e | e <;> omega

theorem info_two : (Tryd.prog.info? 44).map (fun i => (i.zero, i.size, i.bytes)) = some (some (.agg #[.int .i64 0, .int .i64 0, .int .i64 0, .int .i64 0, .int .i64 0, .int .i64 0]), 6, 48) := by kernel_rfl
theorem info_parts8 {i : Option TypeInfo} {z : Value} {s b : Nat} (h : i.map (fun i => (i.zero, i.size, i.bytes)) = some (some z, s, b)) : ∃ i0, i = some i0 ∧ i0.zero = some z ∧ i0.size = s ∧ i0.bytes = b := by
  cases i with
  | none => cases h
  | some i0 =>
    simp only [Option.map_some, Option.some.injEq, Prod.mk.injEq] at h
    exact ⟨i0, rfl, h.1, h.2.1, h.2.2⟩
theorem zcells6 : (Value.agg #[.int .i64 0, .int .i64 0, .int .i64 0, .int .i64 0, .int .i64 0, .int .i64 0]).cells.size = 6 := by simp [Value.cells]
/-- A row of pairs of days in memory of the call's own. -/
def Own8 (w : World) (base : Nat) (v : Value) (l : List D6) : Prop := w.ownsRow base 44 6 v l.length (row8 l)
section
variable {w w' : World} {base : Nat} {v : Value} {l : List D6}
theorem grown8 (hb : Below w.heap.size w w') : w.grownBy w' none := ⟨hb.os, hb.tape, hb.output, hb.size, fun k hk _ => hb.block k hk⟩
theorem Own8.start (w : World) (base : Nat) : Own8 w base (.slice none 0 0) [] := World.ownsRow_nil _ _ _ _
theorem Own8.on (h : Own8 w base v l) (hb : Below w.heap.size w w') : Own8 w' base v l := World.ownsRow.kept h (grown8 hb) (by cases hv : v.ownBlock <;> simp)
theorem Own8.setCell (h : Own8 w base v l) (p : Addr) (u : Value) (hp : p.block < base) : Own8 (w.setCell p u) base v l := by
  refine World.ownsRow.kept h (row := some p.block) ⟨rfl, rfl, rfl, by simp, fun k hk hne => Below.heap_setCell _ _ _ _ (fun e => hne (by rw [e]))⟩ ?_
  cases hv : v.ownBlock with
  | none => exact .inl rfl
  | some g => exact .inr (fun e => by have := (World.ownsRow.lt h g hv).1; injection e with e; omega)
theorem Own8.put (h : Own8 w base v l) {g : Nat} (hg : g < base) (y0 y1 y2 : Value) : Own8 (put8 w g y0 y1 y2) base v l := ((h.setCell ⟨g, 0, none⟩ y0 hg).setCell ⟨g, 1, none⟩ y1 hg).setCell ⟨g, 2, none⟩ y2 hg
theorem Own8.apart (h : Own8 w base v l) {g : Nat} (hg : ∀ k, v.ownBlock = some k → k ≠ g) (y0 y1 y2 : Value) : Own8 (put8 w g y0 y1 y2) base v l := by
  have one : ∀ (w : World) (i : Nat) (u : Value), Own8 w base v l → Own8 (w.setCell ⟨g, i, none⟩ u) base v l := fun w i u h => by
    refine World.ownsRow.kept h (row := some g) ⟨rfl, rfl, rfl, by simp, fun k hk hne => Below.heap_setCell _ _ _ _ (fun e => hne (by rw [e]))⟩ ?_
    cases hv : v.ownBlock with
    | none => exact .inl rfl
    | some k => exact .inr (fun e => by injection e with e; exact hg k hv e)
  exact one _ 2 _ (one _ 1 _ (one _ 0 _ h))
theorem Own8.mono {base' : Nat} (h : Own8 w base v l) (hB : base' ≤ base) : Own8 w base' v l := by
  rcases h with ⟨h1, h2 | ⟨g, cap, cur, hv, hb, r⟩⟩
  · exact ⟨h1, .inl h2⟩
  · exact ⟨h1, .inr ⟨g, cap, cur, hv, Nat.le_trans hB hb, r⟩⟩
/-- The box keeps its days where only that row, and what is new, has turned. -/
theorem Bx.grown {g : Nat} {x0 x1 x2 : Value} (h : Bx w g x0 x1 x2) (ho : Own8 w base v l) (hg : w.grownBy w' v.ownBlock) (hne : v.ownBlock ≠ some g) : Bx w' g x0 x1 x2 := by
  have hb : w'.heap[g]? = w.heap[g]? := hg.block g h.lt (fun e => hne e.symm)
  exact ⟨(World.cell?_of_block (a := ⟨g, 0, none⟩) hb).trans h.c0, (World.cell?_of_block (a := ⟨g, 1, none⟩) hb).trans h.c1, (World.cell?_of_block (a := ⟨g, 2, none⟩) hb).trans h.c2, (World.frozen?_of_block (a := ⟨g, 0, none⟩) hb).trans h.f0, (World.frozen?_of_block (a := ⟨g, 1, none⟩) hb).trans h.f1, (World.frozen?_of_block (a := ⟨g, 2, none⟩) hb).trans h.f2, Nat.lt_of_lt_of_le h.lt hg.size⟩
end
/-- A state behind an append. -/
theorem S8.grown {w0 w w' : World} {base : Nat} {v : Value} {l : List D6} {bs : List (Nat × Value × Value × Value)} (h : S8 w0 w bs) (ho : Own8 w base v l) (hg : w.grownBy w' v.ownBlock) (hb : w0.heap.size ≤ base)
    (hne : ∀ q ∈ bs, v.ownBlock ≠ some q.1) (hT : ∀ w', Below w0.heap.size w0 w' → Tabs w') : S8 w0 w' bs := by
  have hB : Below w0.heap.size w0 w' := h.bel.grown hg h.bel.size (fun g e => Nat.le_trans hb (World.ownsRow.lt ho g e).1)
  exact ⟨hB, hT _ hB, fun q hq => ⟨(h.box q hq).1.grown ho hg (hne q hq), (h.box q hq).2⟩⟩
theorem six_new {w : World} (q : D6) (t : TypeId) : ∀ j u, (row8 [q])[j]? = some u → (w.alloc (.cells #[.int .i64 q.1.1, .int .i64 q.1.2.1, .int .i64 q.1.2.2, .int .i64 q.2.1, .int .i64 q.2.2.1, .int .i64 q.2.2.2] t)).cell? ((⟨w.heap.size, 0, none⟩ : Addr).add j) = some u := by
  intro j u hu
  rw [Addr.add_lit, cell_of_row _ w.heap.size _ _ t (0, 0) (heap_alloc_new w _), Nat.zero_add, ← Array.getElem?_toList]
  simpa [row8, cell8] using hu
/-- The memory has grown beyond b. -/
def AtL8 (b : Nat) (w : World) : Prop := b ≤ w.heap.size
theorem AtL8.on {b : Nat} {w w' : World} (h : AtL8 b w) (hb : Below w.heap.size w w') : AtL8 b w' := Nat.le_trans h hb.size
/-- What a split hands back. -/
def RetRow8 (W : World) (l : List D6) (e : Ending) (w' : World) : Prop := ∃ v, e = .returned v ∧ Own8 w' W.heap.size v l ∧ Below W.heap.size W w'
def slen8 : Value → Nat
  | .slice _ n _ => n
  | _ => 0
theorem Own8.slen {w : World} {base : Nat} {v : Value} {l : List D6} (h : Own8 w base v l) : slen8 v = l.length ∧ ∃ A c, v = .slice A l.length c := by
  rcases h.2 with ⟨rfl, h0⟩ | ⟨g, cap, cur, rfl, _⟩
  · have : l = [] := List.eq_nil_of_length_eq_zero h0
    subst this
    exact ⟨rfl, none, 0, rfl⟩
  · exact ⟨rfl, _, _, rfl⟩

end Go.Proofs.YtnndamhilbcdfaaDoor
