/- What the proofs of this layer need of the layer Nam, in one text. -/
import Derived.Test.YtjkandnbjbfeiaaDoorAllNamB
import Derived.Lib.SplitLaws
set_option linter.unusedVariables false
set_option linter.unusedSimpArgs false

/-
  Contracts of layer 11: rows of texts in memory; Parts and the document's.
-/
namespace Go.Proofs.YtjkandnbjbfeiaaDoor
open Go.RowKit

/-- Texts as cells. -/
def row11 (L : List (List Nat)) : List Value := L.map fun t => .string (st9 t)
theorem row11_len (L : List (List Nat)) : (row11 L).length = L.length := List.length_map _
theorem row11_flat (L : List (List Nat)) : ∀ u ∈ row11 L, u.oneCell' = true := by
  intro u hu
  obtain ⟨t, _, rfl⟩ := List.mem_map.1 hu
  rfl
theorem row11_push (L : List (List Nat)) (t : List Nat) : row11 (L ++ [t]) = row11 L ++ [.string (st9 t)] := by unfold row11; rw [List.map_append]; rfl
theorem info_txt : (Tryd.prog.info? 9).map (fun i => (i.zero, i.size, i.bytes)) = some (some (.string ⟨#[]⟩), 1, 16) := by kernel_rfl
theorem info_parts11 {i : Option TypeInfo} {z : Value} {s b : Nat} (h : i.map (fun i => (i.zero, i.size, i.bytes)) = some (some z, s, b)) : ∃ i0, i = some i0 ∧ i0.zero = some z ∧ i0.size = s ∧ i0.bytes = b := by
  cases i with
  | none => cases h
  | some i0 =>
    simp only [Option.map_some, Option.some.injEq, Prod.mk.injEq] at h
    exact ⟨i0, rfl, h.1, h.2.1, h.2.2⟩
theorem zcells1 : (Value.string ⟨#[]⟩).cells.size = 1 := by simp [Value.cells]
/-- A row of texts in memory of the call's own. -/
def OwnP (w : World) (base : Nat) (v : Value) (L : List (List Nat)) : Prop := w.ownsRow base 9 1 v L.length (row11 L)
/-- A row of texts that is read. -/
def RdP (w : World) (A : Option Addr) (n c : Nat) (L : List (List Nat)) : Prop := n = L.length ∧ n ≤ c ∧ c ≤ maxLen ∧ (L = [] ∨ ∃ b o, A = some ⟨b, o, none⟩ ∧ b < w.heap.size ∧ ∀ j u, (row11 L)[j]? = some u → w.cell? ⟨b, o + j, none⟩ = some u)
section
variable {w w' : World} {base : Nat} {v : Value} {L : List (List Nat)}
theorem OwnP.start (w : World) (base : Nat) : OwnP w base (.slice none 0 0) [] := World.ownsRow_nil _ _ _ _
theorem OwnP.on (h : OwnP w base v L) (hb : Below w.heap.size w w') : OwnP w' base v L := World.ownsRow.kept h (grown10 hb) (by cases hv : v.ownBlock <;> simp)
theorem OwnP.slen (h : OwnP w base v L) : ∃ A c, v = .slice A L.length c := by
  rcases h.2 with ⟨rfl, h0⟩ | ⟨g, cap, cur, rfl, _⟩
  · have : L = [] := List.eq_nil_of_length_eq_zero h0
    subst this
    exact ⟨none, 0, rfl⟩
  · exact ⟨_, _, rfl⟩
theorem RdP.on {A : Option Addr} {n c : Nat} (h : RdP w A n c L) (hb : Below w.heap.size w w') : RdP w' A n c L := by
  obtain ⟨h1, h2, h3, h | ⟨b, o, h4, h5, h6⟩⟩ := h
  · exact ⟨h1, h2, h3, .inl h⟩
  · exact ⟨h1, h2, h3, .inr ⟨b, o, h4, Nat.lt_of_lt_of_le h5 hb.size, fun j u hu => (hb.cell (p := ⟨b, o + j, none⟩) h5).trans (h6 j u hu)⟩⟩
theorem OwnP.rd (h : OwnP w base v L) : ∃ A c, v = .slice A L.length c ∧ RdP w A L.length c L := by
  have hlt := World.ownsRow.lt h
  have hc := fun g e => World.ownsRow.cells h (g := g) e
  rcases h.2 with ⟨rfl, h0⟩ | ⟨g, cap, cur, rfl, hb, hg, h3, h4, _⟩
  · have : L = [] := List.eq_nil_of_length_eq_zero h0
    subst this
    exact ⟨none, 0, rfl, rfl, Nat.le_refl _, Nat.zero_le _, .inl rfl⟩
  · refine ⟨_, _, rfl, rfl, h3, h4, .inr ⟨g, 0, rfl, (hlt g rfl).2, fun j u hu => ?_⟩⟩
    have := hc g rfl j u hu
    rwa [Addr.add_lit] at this
/-- A text that is read. -/
theorem RdP.at_ {A : Option Addr} {n c : Nat} (h : RdP w A n c L) {k : Nat} (hk : k < n) : ∃ b o, A = some ⟨b, o, none⟩ ∧ n ≤ c ∧ c ≤ maxLen ∧ b < w.heap.size ∧ ∃ t, L[k]? = some t ∧ w.cell? ⟨b, o + k, none⟩ = some (.string (st9 t)) := by
  obtain ⟨h1, h2, h3, h | ⟨b, o, h4, h5, h6⟩⟩ := h
  · subst h; subst h1; exact absurd hk (Nat.not_lt_zero _)
  · have hkl : k < L.length := by omega
    refine ⟨b, o, h4, h2, h3, h5, L[k], List.getElem?_eq_getElem hkl, h6 k _ ?_⟩
    unfold row11
    rw [List.getElem?_map, List.getElem?_eq_getElem hkl]; rfl
theorem txt_new (X : ByteArray) (ty : TypeId) : ∀ j u, ([.string X] : List Value)[j]? = some u → (w.alloc (.cells #[.string X] ty)).cell? ((⟨w.heap.size, 0, none⟩ : Addr).add j) = some u := by
  intro j u hu
  rw [Addr.add_lit, cell_of_row _ w.heap.size _ _ ty (0, 0) (heap_alloc_new w _), Nat.zero_add, ← Array.getElem?_toList]
  simpa using hu
theorem below_grown {w0 w w' : World} {v : Value} {l : List (List Nat)} (h : Below w0.heap.size w0 w) (ho : OwnP w w0.heap.size v l) (hg : w.grownBy w' v.ownBlock) : Below w0.heap.size w0 w' :=
  h.grown hg h.size (fun g e => (World.ownsRow.lt ho g e).1)
end
/-- What Parts hands back. -/
def RetP (W : World) (L : List (List Nat)) (e : Ending) (w' : World) : Prop := ∃ A c, e = .returned (.slice A L.length c) ∧ RdP w' A L.length c L ∧ Below W.heap.size W w'

theorem split_58 : ∀ (k : Nat) (s : ByteArray), Lib.countB s ⟨#[58]⟩ = k → (Lib.splitB ⟨#[58]⟩ 0 k s).map bs9 = prt (bs9 s) := by
  intro k
  induction k with
  | zero =>
    intro s hk
    rw [Lib.splitB_zero]
    rcases index_58 s.data.toList with ⟨h1, _⟩ | ⟨_, h2⟩
    · rw [prt_no (l := bs9 s) h1]; rfl
    · have := Lib.countB_hit s ⟨#[58]⟩ _ (by decide) h2
      omega
  | succ k ih =>
    intro s hk
    rcases index_58 s.data.toList with ⟨h1, h2⟩ | ⟨h1, h2⟩
    · have := Lib.countB_miss s ⟨#[58]⟩ h2
      omega
    · have hc := Lib.countB_hit s ⟨#[58]⟩ _ (by decide) h2
      rw [Lib.splitB_hit _ 0 k s _ h2, List.map_cons]
      have e1 : bs9 (s.extract ((hdc (s.data.toList.map UInt8.toNat)).length + (⟨#[58]⟩ : ByteArray).size) s.size) = bdc (bs9 s) := by rw [bs9_drop]; rfl
      rw [ih _ (by omega), e1, prt_cut (l := bs9 s) h1, Nat.add_zero, bs9_take]
      have e2 : (bs9 s).take (hdc (s.data.toList.map UInt8.toNat)).length = hdc (bs9 s) := (hdc_take (l := bs9 s) h1).symm
      rw [e2]
end Go.Proofs.YtjkandnbjbfeiaaDoor

/-
  Contracts of layer 11: the document's Parts.
-/
namespace Go.Proofs.YtjkandnbjbfeiaaDoor
open Go.RowKit

/-- How far the parts are known: L are known, the part that begins at a has no colon up to i. -/
def PS (l : List Nat) (G : List (List Nat)) (a i : Nat) (L : List (List Nat)) : Prop := (i ≤ l.length ∧ a ≤ i ∧ G = L ++ prt (l.drop a) ∧ 58 ∉ (l.drop a).take (i - a)) ∨ (i = l.length + 1 ∧ G = L)
theorem PS.start (l : List Nat) : PS l (prt l) 0 0 [] := .inl ⟨Nat.zero_le _, Nat.le_refl _, rfl, by rw [Nat.sub_self, List.take_zero]; exact List.not_mem_nil⟩
theorem drop_at {l : List Nat} {a i x : Nat} (ha : a ≤ i) (h : l[i]? = some x) : l.drop a = (l.drop a).take (i - a) ++ x :: l.drop (i + 1) := by
  have hil := (List.getElem?_eq_some_iff.1 h).1
  have e : (l.drop a).drop (i - a) = x :: l.drop (i + 1) := by
    rw [List.drop_drop, show a + (i - a) = i by omega, List.drop_eq_getElem_cons hil]
    congr 1
    exact (List.getElem?_eq_some_iff.1 h).2
  rw [← e, List.take_append_drop]
theorem PS.colon {l : List Nat} {G L : List (List Nat)} {a i : Nat} (hi : i < l.length) (h : PS l G a i L) (hx : l[i]? = some 58) : PS l G (i + 1) (i + 1) (L ++ [(l.drop a).take (i - a)]) := by
  rcases h with ⟨h1, h2, h3, h4⟩ | ⟨h1, _⟩
  · refine .inl ⟨hi, Nat.le_refl _, ?_, by rw [Nat.sub_self, List.take_zero]; exact List.not_mem_nil⟩
    rw [h3, List.append_assoc]
    congr 1
    conv => lhs; rw [drop_at h2 hx]
    rw [prt_at h4]; rfl
  · omega
theorem PS.byte {l : List Nat} {G L : List (List Nat)} {a i x : Nat} (hi : i < l.length) (h : PS l G a i L) (hx : l[i]? = some x) (hn : x ≠ 58) : PS l G a (i + 1) L := by
  rcases h with ⟨h1, h2, h3, h4⟩ | ⟨h1, _⟩
  · refine .inl ⟨hi, by omega, h3, ?_⟩
    rw [show i + 1 - a = (i - a) + 1 by omega, List.take_add_one, List.getElem?_drop, show a + (i - a) = i by omega, hx]
    intro e
    rcases List.mem_append.1 e with e | e
    · exact h4 e
    · exact hn (List.mem_singleton.1 e).symm
  · omega
theorem PS.last {l : List Nat} {G L : List (List Nat)} {a i : Nat} (hi : i = l.length) (h : PS l G a i L) : a ≤ i ∧ PS l G (i + 1) (i + 1) (L ++ [(l.drop a).take (i - a)]) := by
  rcases h with ⟨h1, h2, h3, h4⟩ | ⟨h1, _⟩
  · have e : (l.drop a).take (i - a) = l.drop a := List.take_of_length_le (by rw [List.length_drop]; omega)
    rw [e] at h4 ⊢
    exact ⟨h2, .inr ⟨by omega, by rw [h3, prt_no h4]⟩⟩
  · omega
theorem PS.ended {l : List Nat} {G L : List (List Nat)} {a i : Nat} (hi : l.length < i) (h : PS l G a i L) : i = l.length + 1 ∧ G = L := by
  rcases h with ⟨h1, _⟩ | h
  · omega
  · exact h
theorem PS.le {l : List Nat} {G L : List (List Nat)} {a i : Nat} (hi : i ≤ l.length) (h : PS l G a i L) : a ≤ i := by
  rcases h with ⟨_, h2, _⟩ | ⟨h1, _⟩ <;> omega

end Go.Proofs.YtjkandnbjbfeiaaDoor

/-
  Contracts of layer 11: Parent, Leaf, Depth, Under and the document's.
-/
namespace Go.Proofs.YtjkandnbjbfeiaaDoor
open Go.RowKit

/-- How many parts a text has; none the empty one. -/
def dep (l : List Nat) : Nat := if l = [] then 0 else l.count 58 + 1

/-- b tells whether s is under t. -/
def UB (s t : List Nat) (b : Bool) : Prop := Und s t ↔ b = true
theorem ub_any (s t : List Nat) : ∃ b, UB s t b := ⟨@decide _ (Classical.propDecidable _), (@decide_eq_true_iff _ (Classical.propDecidable _)).symm⟩
theorem eq_yes {s t : ByteArray} (h : s = t) : (s.toList == t.toList) = true := by rw [h, beq_iff_eq]
theorem eq_not {s t : ByteArray} (h : s ≠ t) : (s.toList == t.toList) = false := by
  rw [beq_eq_false_iff_ne]
  intro e
  apply h
  rw [ByteArray.toList_eq, ByteArray.toList_eq] at e
  exact bs9_inj (by unfold bs9; rw [e])
end Go.Proofs.YtjkandnbjbfeiaaDoor

/-
  Contracts of layer 11: Root and the document's.
-/
namespace Go.Proofs.YtjkandnbjbfeiaaDoor
open Go.RowKit

/-- The five first parts, and the number of one; 0 of another. -/
def rtl : List (List Nat) := [[65, 115, 115, 101, 116, 115],
  [76, 105, 97, 98, 105, 108, 105, 116, 105, 101, 115],
  [69, 113, 117, 105, 116, 121],
  [73, 110, 99, 111, 109, 101],
  [69, 120, 112, 101, 110, 115, 101, 115]]
def rotX (x : List Nat) : Nat := if x = [65, 115, 115, 101, 116, 115] then 1 else if x = [76, 105, 97, 98, 105, 108, 105, 116, 105, 101, 115] then 2 else if x = [69, 113, 117, 105, 116, 121] then 3 else if x = [73, 110, 99, 111, 109, 101] then 4 else if x = [69, 120, 112, 101, 110, 115, 101, 115] then 5 else 0
def rot (l : List Nat) : Nat := rotX (hdc l)
/-- None of the first k. -/
def NR (k : Nat) (x : List Nat) : Prop := ∀ j, j < k → rtl[j]? ≠ some x
theorem NR.next {k : Nat} {x y : List Nat} (h : NR k x) (h2 : rtl[k]? = some y) (h3 : x ≠ y) : NR (k + 1) x := by
  intro j hj e
  rcases Nat.lt_or_ge j k with h4 | h4
  · exact h j h4 e
  · obtain rfl : j = k := by omega
    rw [h2] at e
    exact h3 (Option.some.inj e).symm
theorem NR.zero (x : List Nat) : NR 0 x := fun j hj => absurd hj (Nat.not_lt_zero _)
theorem rotX_0 {x : List Nat} (h : NR 0 x) (h2 : x = [65, 115, 115, 101, 116, 115]) : rotX x = 1 := by
  unfold rotX
  rw [if_pos h2]
theorem rotX_1 {x : List Nat} (h : NR 1 x) (h2 : x = [76, 105, 97, 98, 105, 108, 105, 116, 105, 101, 115]) : rotX x = 2 := by
  have n0 : x ≠ [65, 115, 115, 101, 116, 115] := fun e => h 0 (by decide) (congrArg some e.symm)
  unfold rotX
  rw [if_neg n0, if_pos h2]
theorem rotX_2 {x : List Nat} (h : NR 2 x) (h2 : x = [69, 113, 117, 105, 116, 121]) : rotX x = 3 := by
  have n0 : x ≠ [65, 115, 115, 101, 116, 115] := fun e => h 0 (by decide) (congrArg some e.symm)
  have n1 : x ≠ [76, 105, 97, 98, 105, 108, 105, 116, 105, 101, 115] := fun e => h 1 (by decide) (congrArg some e.symm)
  unfold rotX
  rw [if_neg n0, if_neg n1, if_pos h2]
theorem rotX_3 {x : List Nat} (h : NR 3 x) (h2 : x = [73, 110, 99, 111, 109, 101]) : rotX x = 4 := by
  have n0 : x ≠ [65, 115, 115, 101, 116, 115] := fun e => h 0 (by decide) (congrArg some e.symm)
  have n1 : x ≠ [76, 105, 97, 98, 105, 108, 105, 116, 105, 101, 115] := fun e => h 1 (by decide) (congrArg some e.symm)
  have n2 : x ≠ [69, 113, 117, 105, 116, 121] := fun e => h 2 (by decide) (congrArg some e.symm)
  unfold rotX
  rw [if_neg n0, if_neg n1, if_neg n2, if_pos h2]
theorem rotX_4 {x : List Nat} (h : NR 4 x) (h2 : x = [69, 120, 112, 101, 110, 115, 101, 115]) : rotX x = 5 := by
  have n0 : x ≠ [65, 115, 115, 101, 116, 115] := fun e => h 0 (by decide) (congrArg some e.symm)
  have n1 : x ≠ [76, 105, 97, 98, 105, 108, 105, 116, 105, 101, 115] := fun e => h 1 (by decide) (congrArg some e.symm)
  have n2 : x ≠ [69, 113, 117, 105, 116, 121] := fun e => h 2 (by decide) (congrArg some e.symm)
  have n3 : x ≠ [73, 110, 99, 111, 109, 101] := fun e => h 3 (by decide) (congrArg some e.symm)
  unfold rotX
  rw [if_neg n0, if_neg n1, if_neg n2, if_neg n3, if_pos h2]
theorem rotX_5 {x : List Nat} (h : NR 5 x) : rotX x = 0 := by
  have n0 : x ≠ [65, 115, 115, 101, 116, 115] := fun e => h 0 (by decide) (congrArg some e.symm)
  have n1 : x ≠ [76, 105, 97, 98, 105, 108, 105, 116, 105, 101, 115] := fun e => h 1 (by decide) (congrArg some e.symm)
  have n2 : x ≠ [69, 113, 117, 105, 116, 121] := fun e => h 2 (by decide) (congrArg some e.symm)
  have n3 : x ≠ [73, 110, 99, 111, 109, 101] := fun e => h 3 (by decide) (congrArg some e.symm)
  have n4 : x ≠ [69, 120, 112, 101, 110, 115, 101, 115] := fun e => h 4 (by decide) (congrArg some e.symm)
  unfold rotX
  rw [if_neg n0, if_neg n1, if_neg n2, if_neg n3, if_neg n4]
/-- The program's own table. -/
def Roots (w : World) : Prop := w.cell? ⟨1, 0, none⟩ = some (.string ⟨#[65, 115, 115, 101, 116, 115]⟩) ∧ w.cell? ⟨1, 1, none⟩ = some (.string ⟨#[76, 105, 97, 98, 105, 108, 105, 116, 105, 101, 115]⟩) ∧ w.cell? ⟨1, 2, none⟩ = some (.string ⟨#[69, 113, 117, 105, 116, 121]⟩) ∧ w.cell? ⟨1, 3, none⟩ = some (.string ⟨#[73, 110, 99, 111, 109, 101]⟩) ∧ w.cell? ⟨1, 4, none⟩ = some (.string ⟨#[69, 120, 112, 101, 110, 115, 101, 115]⟩)
theorem cell_on11 {w w' : World} {a : Addr} {u : Value} (h : w.cell? a = some u) (hb : Below w.heap.size w w') : w'.cell? a = some u := (hb.cell (World.block_lt_of_cell? w _ h)).trans h
theorem Roots.on {w w' : World} (h : Roots w) (hb : Below w.heap.size w w') : Roots w' :=
  ⟨cell_on11 h.1 hb, cell_on11 h.2.1 hb, cell_on11 h.2.2.1 hb, cell_on11 h.2.2.2.1 hb, cell_on11 h.2.2.2.2 hb⟩
theorem arr11_0 (w : World) : (Instr.index 90 (.agg #[.string ⟨#[65, 115, 115, 101, 116, 115]⟩, .string ⟨#[76, 105, 97, 98, 105, 108, 105, 116, 105, 101, 115]⟩, .string ⟨#[69, 113, 117, 105, 116, 121]⟩, .string ⟨#[73, 110, 99, 111, 109, 101]⟩, .string ⟨#[69, 120, 112, 101, 110, 115, 101, 115]⟩]) (.int .i64 0)).run Tryd.prog w = .ok (.string ⟨#[65, 115, 115, 101, 116, 115]⟩) w := by kernel_rfl
theorem arr11_1 (w : World) : (Instr.index 90 (.agg #[.string ⟨#[65, 115, 115, 101, 116, 115]⟩, .string ⟨#[76, 105, 97, 98, 105, 108, 105, 116, 105, 101, 115]⟩, .string ⟨#[69, 113, 117, 105, 116, 121]⟩, .string ⟨#[73, 110, 99, 111, 109, 101]⟩, .string ⟨#[69, 120, 112, 101, 110, 115, 101, 115]⟩]) (.int .i64 1)).run Tryd.prog w = .ok (.string ⟨#[76, 105, 97, 98, 105, 108, 105, 116, 105, 101, 115]⟩) w := by kernel_rfl
theorem arr11_2 (w : World) : (Instr.index 90 (.agg #[.string ⟨#[65, 115, 115, 101, 116, 115]⟩, .string ⟨#[76, 105, 97, 98, 105, 108, 105, 116, 105, 101, 115]⟩, .string ⟨#[69, 113, 117, 105, 116, 121]⟩, .string ⟨#[73, 110, 99, 111, 109, 101]⟩, .string ⟨#[69, 120, 112, 101, 110, 115, 101, 115]⟩]) (.int .i64 2)).run Tryd.prog w = .ok (.string ⟨#[69, 113, 117, 105, 116, 121]⟩) w := by kernel_rfl
theorem arr11_3 (w : World) : (Instr.index 90 (.agg #[.string ⟨#[65, 115, 115, 101, 116, 115]⟩, .string ⟨#[76, 105, 97, 98, 105, 108, 105, 116, 105, 101, 115]⟩, .string ⟨#[69, 113, 117, 105, 116, 121]⟩, .string ⟨#[73, 110, 99, 111, 109, 101]⟩, .string ⟨#[69, 120, 112, 101, 110, 115, 101, 115]⟩]) (.int .i64 3)).run Tryd.prog w = .ok (.string ⟨#[73, 110, 99, 111, 109, 101]⟩) w := by kernel_rfl
theorem arr11_4 (w : World) : (Instr.index 90 (.agg #[.string ⟨#[65, 115, 115, 101, 116, 115]⟩, .string ⟨#[76, 105, 97, 98, 105, 108, 105, 116, 105, 101, 115]⟩, .string ⟨#[69, 113, 117, 105, 116, 121]⟩, .string ⟨#[73, 110, 99, 111, 109, 101]⟩, .string ⟨#[69, 120, 112, 101, 110, 115, 101, 115]⟩]) (.int .i64 4)).run Tryd.prog w = .ok (.string ⟨#[69, 120, 112, 101, 110, 115, 101, 115]⟩) w := by kernel_rfl
theorem lit_yes {s : ByteArray} {l : List UInt8} (h : bs9 s = l.map UInt8.toNat) : (s.toList == l) = true := by
  have : s = ⟨l.toArray⟩ := bs9_inj (h.trans (bs9_mk l).symm)
  rw [this, ByteArray.toList_eq, beq_iff_eq]
theorem lit_not {s : ByteArray} {l : List UInt8} (h : bs9 s ≠ l.map UInt8.toNat) : (s.toList == l) = false := by
  rw [beq_eq_false_iff_ne, ByteArray.toList_eq]
  intro e
  exact h (by unfold bs9; rw [e])
/-- strings.Cut at a colon, whatever there is. -/
theorem cut_any (s : ByteArray) (hs : s.size ≤ 1000000) : ∃ (X Y : ByteArray) (b : Bool), bs9 X = hdc (bs9 s) ∧ (58 ∈ bs9 s ↔ b = true) ∧ (b = true → bs9 Y = bdc (bs9 s) ∧ Y.size < s.size) ∧ (b = false → Y.size = 0) ∧ X.size ≤ s.size ∧
    ∀ w, MaxLen w → Calls Tryd.prog 47 #[.string s, .string ⟨#[58]⟩] w (Ret9 w (.tuple #[.string X, .string Y, .bool b])) := by
  have hx : ∀ {l : List Nat}, (∀ c ∈ l, c ∈ bs9 s) → ∀ c ∈ l, c < 256 := fun h c hc => bs9_lt s c (h c hc)
  by_cases h : 58 ∈ bs9 s
  · have e := hdc_bdc h
    have eX : bs9 (st9 (hdc (bs9 s))) = hdc (bs9 s) := bs9_st9 (hx fun c hc => by rw [e]; exact List.mem_append_left _ hc)
    have eY : bs9 (st9 (bdc (bs9 s))) = bdc (bs9 s) := bs9_st9 (hx fun c hc => by rw [e]; exact List.mem_append_right _ (List.mem_cons_of_mem _ hc))
    have hl := congrArg List.length e
    rw [List.length_append, List.length_cons, bs9_len] at hl
    exact ⟨st9 (hdc (bs9 s)), st9 (bdc (bs9 s)), true, eX, ⟨fun _ => rfl, fun _ => h⟩, fun _ => ⟨eY, by rw [← bs9_len (st9 _), eY]; omega⟩, fun e => (by cases e), by rw [← bs9_len (st9 _), eX]; omega, fun w hm => cut_yes hs hm h eX eY⟩
  · exact ⟨s, ⟨#[]⟩, false, by rw [hdc_no h], ⟨fun e => absurd e h, fun e => (by cases e)⟩, fun e => (by cases e), fun _ => rfl, Nat.le_refl _, fun w hm => cut_no hs hm h⟩

set_option maxHeartbeats 4000000 in
set_option maxRecDepth 100000 in
theorem root_is {s : ByteArray} {z : Nat} (h : rot (bs9 s) = z) (hs : s.size ≤ 1000000) {w : World} (hm : MaxLen w) (hr : Roots w) : Calls Tryd.prog 50 #[.string s] w (Ret9 w (.int .i64 (z : Int))) := by
  obtain ⟨X, Y, m, hX, _, _, _, _, hcut⟩ := cut_any s hs
  have HZ : Hid (rotX (bs9 X) = z) := by show _ = _; rw [hX]; exact h
  have HC : Hid (Calls Tryd.prog 47 #[.string s, .string ⟨#[58]⟩] w (Ret9 w (.tuple #[.string X, .string Y, .bool m]))) := hcut w hm
  have HR := Lib.hid hr
  clear h hX hcut hm hr
  go_enter Tryd.func50, Tryd.ntmps50
  go_wp2_with fail
  refine HC.out.mono ?_; rintro e w1 ⟨rfl, hb⟩
  obtain ⟨c0, c1, c2, c3, c4⟩ := HR.out.on hb
  have HB := Lib.hid hb
  clear hb
  go_wp2_with fail
  clear c0 c1 c2 c3 c4
  go_loopw [15] (fun kv wr => ∃ (y : Int) (k : Nat), kv = .int .i64 y ∧ y = (k : Int) ∧ k ≤ 5 ∧ NR k (bs9 X) ∧ wr = w1) (fun kv _ => 5 - (intOf kv).toNat)
  case atStart => exact ⟨0, 0, rfl, rfl, by decide, NR.zero _, rfl⟩
  case round =>
    obtain ⟨y, k, rfl, hy, hk, hn, rfl⟩ := hrel
    have HN := Lib.hid hn
    clear hn
    obtain rfl | rfl | rfl | rfl | rfl | rfl : k = 0 ∨ k = 1 ∨ k = 2 ∨ k = 3 ∨ k = 4 ∨ k = 5 := by omega
    · obtain rfl : y = 0 := hy
      have ha := arr11_0
      by_cases hx : bs9 X = [65, 115, 115, 101, 116, 115]
      · have d : (X.toList == ([65, 115, 115, 101, 116, 115] : List UInt8)) = true := lit_yes hx
        have E : Hid (z = 1) := by show _ = _; rw [← HZ.out]; exact rotX_0 HN.out hx
        clear hx hk
        go_wp2_with fail
        go_ret
        exact ⟨by rw [E.out]; rfl, HB.out⟩
      · have d : (X.toList == ([65, 115, 115, 101, 116, 115] : List UInt8)) = false := lit_not hx
        have E : Hid (NR 1 (bs9 X)) := HN.out.next rfl hx
        clear hx hk
        go_wp2_with fail
        go_roundw
        case rel => exact ⟨_, 1, rfl, rfl, by decide, E.out, trivial⟩
        case measure => simp [intOf]
    · obtain rfl : y = 1 := hy
      have ha := arr11_1
      by_cases hx : bs9 X = [76, 105, 97, 98, 105, 108, 105, 116, 105, 101, 115]
      · have d : (X.toList == ([76, 105, 97, 98, 105, 108, 105, 116, 105, 101, 115] : List UInt8)) = true := lit_yes hx
        have E : Hid (z = 2) := by show _ = _; rw [← HZ.out]; exact rotX_1 HN.out hx
        clear hx hk
        go_wp2_with fail
        go_ret
        exact ⟨by rw [E.out]; rfl, HB.out⟩
      · have d : (X.toList == ([76, 105, 97, 98, 105, 108, 105, 116, 105, 101, 115] : List UInt8)) = false := lit_not hx
        have E : Hid (NR 2 (bs9 X)) := HN.out.next rfl hx
        clear hx hk
        go_wp2_with fail
        go_roundw
        case rel => exact ⟨_, 2, rfl, rfl, by decide, E.out, trivial⟩
        case measure => simp [intOf]
    · obtain rfl : y = 2 := hy
      have ha := arr11_2
      by_cases hx : bs9 X = [69, 113, 117, 105, 116, 121]
      · have d : (X.toList == ([69, 113, 117, 105, 116, 121] : List UInt8)) = true := lit_yes hx
        have E : Hid (z = 3) := by show _ = _; rw [← HZ.out]; exact rotX_2 HN.out hx
        clear hx hk
        go_wp2_with fail
        go_ret
        exact ⟨by rw [E.out]; rfl, HB.out⟩
      · have d : (X.toList == ([69, 113, 117, 105, 116, 121] : List UInt8)) = false := lit_not hx
        have E : Hid (NR 3 (bs9 X)) := HN.out.next rfl hx
        clear hx hk
        go_wp2_with fail
        go_roundw
        case rel => exact ⟨_, 3, rfl, rfl, by decide, E.out, trivial⟩
        case measure => simp [intOf]
    · obtain rfl : y = 3 := hy
      have ha := arr11_3
      by_cases hx : bs9 X = [73, 110, 99, 111, 109, 101]
      · have d : (X.toList == ([73, 110, 99, 111, 109, 101] : List UInt8)) = true := lit_yes hx
        have E : Hid (z = 4) := by show _ = _; rw [← HZ.out]; exact rotX_3 HN.out hx
        clear hx hk
        go_wp2_with fail
        go_ret
        exact ⟨by rw [E.out]; rfl, HB.out⟩
      · have d : (X.toList == ([73, 110, 99, 111, 109, 101] : List UInt8)) = false := lit_not hx
        have E : Hid (NR 4 (bs9 X)) := HN.out.next rfl hx
        clear hx hk
        go_wp2_with fail
        go_roundw
        case rel => exact ⟨_, 4, rfl, rfl, by decide, E.out, trivial⟩
        case measure => simp [intOf]
    · obtain rfl : y = 4 := hy
      have ha := arr11_4
      by_cases hx : bs9 X = [69, 120, 112, 101, 110, 115, 101, 115]
      · have d : (X.toList == ([69, 120, 112, 101, 110, 115, 101, 115] : List UInt8)) = true := lit_yes hx
        have E : Hid (z = 5) := by show _ = _; rw [← HZ.out]; exact rotX_4 HN.out hx
        clear hx hk
        go_wp2_with fail
        go_ret
        exact ⟨by rw [E.out]; rfl, HB.out⟩
      · have d : (X.toList == ([69, 120, 112, 101, 110, 115, 101, 115] : List UInt8)) = false := lit_not hx
        have E : Hid (NR 5 (bs9 X)) := HN.out.next rfl hx
        clear hx hk
        go_wp2_with fail
        go_roundw
        case rel => exact ⟨_, 5, rfl, rfl, by decide, E.out, trivial⟩
        case measure => simp [intOf]
    · obtain rfl : y = 5 := hy
      have E : Hid (z = 0) := by show _ = _; rw [← HZ.out]; exact rotX_5 HN.out
      clear hk
      go_wp2_with fail
      go_ret
      exact ⟨by rw [E.out]; rfl, HB.out⟩

end Go.Proofs.YtjkandnbjbfeiaaDoor

/-
  Contracts of layer 11: Account and the document's.
-/
namespace Go.Proofs.YtjkandnbjbfeiaaDoor
open Go.RowKit

/-- An account: it has a root, and at least one part more, all of them right. -/
def accB (l : List Nat) : Bool := !(rot l == 0) && decide (58 ∈ l) && (prt l).tail.all prtB
/-- The loop's measure: how much is left. -/
def acM : Value → Value → Nat
  | .string r, .bool m => r.size + m.toNat
  | _, _ => 0
theorem acM_eq (R : ByteArray) (m : Bool) : acM (.string R) (.bool m) = R.size + m.toNat := rfl

set_option maxHeartbeats 4000000 in
set_option maxRecDepth 100000 in
theorem account_is {s : ByteArray} {r : Bool} (h : accB (bs9 s) = r) (hs : s.size ≤ 1000000) {w : World} (hm : MaxLen w) (hr : Roots w) : Calls Tryd.prog 37 #[.string s] w (Ret9 w (.bool r)) := by
  obtain ⟨X, Y, m, hX, hm1, hm2, hm3, hXs, hcut⟩ := cut_any s hs
  obtain ⟨z, hz⟩ : ∃ z, rot (bs9 s) = z := ⟨_, rfl⟩
  have HZ := Lib.hid hz
  have HC : Hid (Calls Tryd.prog 47 #[.string s, .string ⟨#[58]⟩] w (Ret9 w (.tuple #[.string X, .string Y, .bool m]))) := hcut w hm
  have HM := Lib.hid hm
  have HR := Lib.hid hr
  have H := Lib.hid h
  clear h hX hcut hm hr hXs hm3
  rcases Nat.eq_zero_or_pos z with z0 | z0
  · have d : ((z : Int) == 0) = true := by rw [z0]; rfl
    have E : Hid (r = false) := by show _ = _; rw [← H.out]; unfold accB; rw [hz, z0]; rfl
    clear hz z0 hm1 hm2
    go_enter Tryd.func37, Tryd.ntmps37
    go_wp2_with fail
    refine HC.out.mono ?_; rintro e w1 ⟨rfl, hb⟩
    go_wp2_with fail
    refine (root_is HZ.out hs (HM.out.on hb) (HR.out.on hb)).mono ?_; rintro e w2 ⟨rfl, hb2⟩
    replace HB := Lib.hid (hb.trans (hb2.mono hb.size)); clear hb hb2
    go_wp2_with fail
    go_ret
    exact ⟨rb9 E.out.symm, HB.out⟩
  have d : ((z : Int) == 0) = false := by rw [beq_eq_false_iff_ne]; omega
  cases m with
  | false =>
    have E : Hid (r = false) := by
      show _ = _
      rw [← H.out]; unfold accB
      rw [decide_eq_false (fun e => by have := hm1.1 e; cases this), Bool.and_false]; rfl
    clear hz z0 hm1 hm2
    go_enter Tryd.func37, Tryd.ntmps37
    go_wp2_with fail
    refine HC.out.mono ?_; rintro e w1 ⟨rfl, hb⟩
    go_wp2_with fail
    refine (root_is HZ.out hs (HM.out.on hb) (HR.out.on hb)).mono ?_; rintro e w2 ⟨rfl, hb2⟩
    replace HB := Lib.hid (hb.trans (hb2.mono hb.size)); clear hb hb2
    go_wp2_with fail
    go_ret
    exact ⟨rb9 E.out.symm, HB.out⟩
  | true =>
    obtain ⟨hY, hYs⟩ := hm2 rfl
    have hmem : 58 ∈ bs9 s := hm1.2 rfl
    have E0 : Hid (r = (prt (bs9 Y)).all prtB) := by
      show _ = _
      rw [← H.out]; unfold accB
      rw [hz, show (z == 0) = false by rw [beq_eq_false_iff_ne]; omega, decide_eq_true hmem, prt_cut hmem, hY]; rfl
    have hYs' : Y.size ≤ 1000000 := by omega
    clear hz z0 hm1 hm2 hY hYs hmem
    go_enter Tryd.func37, Tryd.ntmps37
    go_wp2_with fail
    refine HC.out.mono ?_; rintro e w1 ⟨rfl, hb⟩
    go_wp2_with fail
    refine (root_is HZ.out hs (HM.out.on hb) (HR.out.on hb)).mono ?_; rintro e w2 ⟨rfl, hb2⟩
    have HB0 := Lib.hid (hb.trans (hb2.mono hb.size))
    clear hb hb2
    go_wp2_with fail
    go_loopw [4, 5] (fun rv mv wr => ∃ (R : ByteArray) (m : Bool), rv = .string R ∧ mv = .bool m ∧ R.size ≤ 1000000 ∧ ((m = true ∧ r = (prt (bs9 R)).all prtB) ∨ (m = false ∧ r = true)) ∧ Below w.heap.size w wr) (fun rv mv _ => acM rv mv)
    case atStart => exact ⟨Y, true, rfl, rfl, hYs', .inl ⟨rfl, E0.out⟩, HB0.out⟩
    case round =>
      obtain ⟨R, m, rfl, rfl, hR, hst, hb⟩ := hrel
      have HB := Lib.hid hb
      clear hb HC E0
      rcases hst with ⟨rfl, hst⟩ | ⟨rfl, hst⟩
      · obtain ⟨P, T, m2, hP, hn1, hn2, hn3, hPs, hcut⟩ := cut_any R hR
        have HC2 : Hid (Calls Tryd.prog 47 #[.string R, .string ⟨#[58]⟩] wr (Ret9 wr (.tuple #[.string P, .string T, .bool m2]))) := hcut wr (HM.out.on HB.out)
        clear hcut
        obtain ⟨b, hbp⟩ : ∃ b, prtB (bs9 P) = b := ⟨_, rfl⟩
        have HBP := Lib.hid hbp
        have hP6 : P.size ≤ 1000000 := by omega
        have hT6 : T.size ≤ 1000000 := by
          cases m2 with
          | true => have := (hn2 rfl).2; omega
          | false => have := hn3 rfl; omega
        have hms : T.size + m2.toNat < R.size + 1 := by
          cases m2 with
          | true => have := (hn2 rfl).2; show T.size + 1 < _; omega
          | false => have := hn3 rfl; show T.size + 0 < _; omega
        have HE : Hid (prtB (hdc (bs9 R)) = b) := by show _ = _; rw [← hP]; exact hbp
        cases b with
        | false =>
          have E : Hid (r = false) := by
            show _ = _
            rw [hst]
            exact all_no (i := 0) (by rw [← List.head?_eq_getElem?, prt_head]) HE.out
          clear hst hn1 hn2 hn3 hbp hP
          go_wp2_with fail
          refine HC2.out.mono ?_; rintro e w3 ⟨rfl, hb⟩
          replace HB := Lib.hid (HB.out.trans (hb.mono HB.out.size)); clear hb
          go_wp2_with fail
          refine (ispart_is HBP.out hP6 _).mono ?_; rintro e w4 ⟨rfl, rfl⟩
          go_wp2_with fail
          go_ret
          exact ⟨rb9 E.out.symm, HB.out⟩
        | true =>
          have E : Hid ((m2 = true ∧ r = (prt (bs9 T)).all prtB) ∨ (m2 = false ∧ r = true)) := by
            show _ ∨ _
            cases m2 with
            | true =>
              refine .inl ⟨rfl, ?_⟩
              rw [hst, prt_cut (hn1.2 rfl), List.all_cons, HE.out, (hn2 rfl).1]; rfl
            | false =>
              refine .inr ⟨rfl, ?_⟩
              have hno : 58 ∉ bs9 R := fun e => by have := hn1.1 e; cases this
              have he := HE.out
              rw [hdc_no hno] at he
              rw [hst, prt_no hno, List.all_cons, he]; rfl
          have HMS := Lib.hid hms
          clear hst hn1 hn2 hn3 hbp hP hms
          go_wp2_with fail
          refine HC2.out.mono ?_; rintro e w3 ⟨rfl, hb⟩
          replace HB := Lib.hid (HB.out.trans (hb.mono HB.out.size)); clear hb
          go_wp2_with fail
          refine (ispart_is HBP.out hP6 _).mono ?_; rintro e w4 ⟨rfl, hw⟩; obtain rfl := hw.symm
          go_wp2_with fail
          go_roundw
          case rel => exact ⟨T, m2, rfl, rfl, hT6, E.out, HB.out⟩
          case measure => rw [acM_eq, acM_eq]; exact HMS.out
      · have E := Lib.hid hst
        clear hst
        go_wp2_with fail
        go_ret
        exact ⟨rb9 E.out.symm, HB.out⟩

end Go.Proofs.YtjkandnbjbfeiaaDoor
