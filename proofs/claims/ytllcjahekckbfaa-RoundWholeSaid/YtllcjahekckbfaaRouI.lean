/-
  The places of a row, that of the greatest first: slices.SortStableFunc over at most one block.
-/
import Derived.Test.YtllcjahekckbfaaRouH
import Derived.Deep.QuietTactic
import Derived.BigQuiet
set_option linter.unusedVariables false
set_option linter.unusedSimpArgs false
namespace Go.Proofs.Ytllcjahekckbfaa
open Go.RowKit

/-! An insertion sort, as plain lists. -/
def Bef (r : Nat → Int) (x y : Nat) : Prop := r y < r x ∨ (r x = r y ∧ x < y)
theorem Bef.trans {r : Nat → Int} {x y z : Nat} (h : Bef r x y) (h' : Bef r y z) : Bef r x z := by unfold Bef at *; omega
/-- The first i are in order, and are the places below i. -/
def Srt (r : Nat → Int) (zs : List Nat) (i : Nat) : Prop := (∀ a, a < i → gd zs a < i) ∧ ∀ a b, a < b → b < i → Bef r (gd zs a) (gd zs b)
/-- i is on its way down, and is at j. -/
def Ins (r : Nat → Int) (zs : List Nat) (i j : Nat) : Prop := j ≤ i ∧ gd zs j = i ∧ (∀ a, a ≤ i → a ≠ j → gd zs a < i) ∧ (∀ a b, a < b → b ≤ i → a ≠ j → b ≠ j → Bef r (gd zs a) (gd zs b)) ∧ ∀ b, j < b → b ≤ i → Bef r i (gd zs b)
theorem ins_start {r : Nat → Int} {zs : List Nat} {i : Nat} (h : Srt r zs i) (hi : gd zs i = i) : Ins r zs i i :=
  ⟨Nat.le_refl _, hi, fun a h1 h2 => h.1 a (by omega), fun a b h1 h2 h3 h4 => h.2 a b h1 (by omega), fun b h1 h2 => by omega⟩
def swp (zs : List Nat) (j m : Nat) : List Nat := (zs.set j (gd zs m)).set m (gd zs j)
theorem gd_swp {zs : List Nat} {j m k : Nat} (hj : j < zs.length) (hm : m < zs.length) : gd (swp zs j m) k = if k = m then gd zs j else if k = j then gd zs m else gd zs k := by
  unfold swp
  rw [gd_set _ _ _ _ (by rw [List.length_set]; exact hm), gd_set _ _ _ _ hj]
theorem len_swp (zs : List Nat) (j m : Nat) : (swp zs j m).length = zs.length := by unfold swp; rw [List.length_set, List.length_set]
theorem ins_step {r : Nat → Int} {zs : List Nat} {i m : Nat} (h : Ins r zs i (m + 1)) (hl : i < zs.length) (hr : r (gd zs m) < r i) : Ins r (swp zs (m + 1) m) i m := by
  obtain ⟨h1, h2, h3, h4, h5⟩ := h
  have E : ∀ k, gd (swp zs (m + 1) m) k = if k = m then gd zs (m + 1) else if k = m + 1 then gd zs m else gd zs k := fun k => gd_swp (by omega) (by omega)
  refine ⟨by omega, by rw [E, if_pos rfl, h2], fun a ha hm => ?_, fun a b hab hb ha hbm => ?_, fun b hb hbi => ?_⟩
  · rw [E, if_neg hm]
    split
    · exact h3 m (by omega) (by omega)
    · exact h3 a ha (by omega)
  · rw [E a, E b, if_neg ha, if_neg hbm]
    by_cases ha1 : a = m + 1
    · rw [if_pos ha1, if_neg (by omega)]
      exact h4 m b (by omega) hb (by omega) (by omega)
    · rw [if_neg ha1]
      by_cases hb1 : b = m + 1
      · rw [if_pos hb1]
        exact h4 a m (by omega) (by omega) (by omega) (by omega)
      · rw [if_neg hb1]
        exact h4 a b hab hb ha1 hb1
  · rw [E b, if_neg (by omega)]
    by_cases hb1 : b = m + 1
    · rw [if_pos hb1]; exact .inl hr
    · rw [if_neg hb1]; exact h5 b (by omega) hbi
theorem ins_end0 {r : Nat → Int} {zs : List Nat} {i : Nat} (h : Ins r zs i 0) : Srt r zs (i + 1) := by
  obtain ⟨h1, h2, h3, h4, h5⟩ := h
  refine ⟨fun a ha => ?_, fun a b hab hb => ?_⟩
  · by_cases h0 : a = 0
    · rw [h0, h2]; omega
    · have := h3 a (by omega) h0; omega
  · by_cases h0 : a = 0
    · rw [h0, h2]; exact h5 b (by omega) (by omega)
    · exact h4 a b hab (by omega) h0 (by omega)
theorem ins_end {r : Nat → Int} {zs : List Nat} {i m : Nat} (h : Ins r zs i (m + 1)) (hr : ¬ r (gd zs m) < r i) : Srt r zs (i + 1) := by
  obtain ⟨h1, h2, h3, h4, h5⟩ := h
  have hm : Bef r (gd zs m) i := by
    have := h3 m (by omega) (by omega)
    unfold Bef; omega
  refine ⟨fun a ha => ?_, fun a b hab hb => ?_⟩
  · by_cases h0 : a = m + 1
    · rw [h0, h2]; omega
    · have := h3 a (by omega) h0; omega
  · by_cases h0 : a = m + 1
    · rw [h0, h2]; exact h5 b (by omega) (by omega)
    · by_cases h6 : b = m + 1
      · rw [h6, h2]
        by_cases h7 : a = m
        · rw [h7]; exact hm
        · exact (h4 a m (by omega) (by omega) h0 (by omega)).trans hm
      · exact h4 a b hab (by omega) h0 h6

theorem OwnI.on {w w' : World} {g : Nat} {zs : List Nat} (h : OwnI w g zs) (hb : Below w.heap.size w w') : OwnI w' g zs := (hb.block g h.lt).trans h

theorem cell_on {w w' : World} {a : Addr} {v : Value} (h : w.cell? a = some v) (hb : Below w.heap.size w w') : w'.cell? a = some v := (hb.cell (World.block_lt_of_cell? w _ h)).trans h
theorem cells7_on {w w' : World} {a0 a1 a2 a3 a4 a5 a6 : Addr} {v0 v1 v2 v3 v4 v5 v6 : Value} (h : Hid (w.cell? a0 = some v0 ∧ w.cell? a1 = some v1 ∧ w.cell? a2 = some v2 ∧ w.cell? a3 = some v3 ∧ w.cell? a4 = some v4 ∧ w.cell? a5 = some v5 ∧ w.cell? a6 = some v6)) (hb : Below w.heap.size w w') :
    Hid (w'.cell? a0 = some v0 ∧ w'.cell? a1 = some v1 ∧ w'.cell? a2 = some v2 ∧ w'.cell? a3 = some v3 ∧ w'.cell? a4 = some v4 ∧ w'.cell? a5 = some v5 ∧ w'.cell? a6 = some v6) :=
  ⟨cell_on h.out.1 hb, cell_on h.out.2.1 hb, cell_on h.out.2.2.1 hb, cell_on h.out.2.2.2.1 hb, cell_on h.out.2.2.2.2.1 hb, cell_on h.out.2.2.2.2.2.1 hb, cell_on h.out.2.2.2.2.2.2 hb⟩

set_option maxRecDepth 100000 in
set_option maxHeartbeats 4000000 in
theorem most1_any (L S : Nat) (A : Option Addr) (n c g x y : Nat) (d : Nat → Int × Nat) (p : Nat → Option Addr × Nat × Nat) (w : World) (h : DecsG L S w w.heap.size A n c d p) (hL : L ≤ 1000000) (hS : S ≤ 100000) (hg : w.cell? ⟨g, 0, none⟩ = some (.slice A n c)) (hx : x < n) (hy : y < n) :
    Calls Try.prog 50 #[.int .i64 (x : Int), .int .i64 (y : Int), .pointer (some ⟨g, 0, none⟩)] w (RetVal w (.int .i64 (cmpD (d y).1 (d y).2 (d x).1 (d x).2))) := by
  have hc := h.cap
  have hm := h.room
  unfold maxLen at hm
  have H := Lib.hid h
  obtain ⟨b, o, rfl, hb, x0, x1, x2⟩ := h.at_ hx
  obtain ⟨b', o', he, _, y0, y1, y2⟩ := h.at_ hy
  injection he with he
  injection he with h1 h2 h3
  subst h1; subst h2
  have NX := Lib.hid (h.num x hx)
  have NY := Lib.hid (h.num y hy)
  have hsx := (h.short x hx).2
  have hsy := (h.short y hy).2
  have hpx : (p x).2.1 ≤ 1000000 := by have := (h.num x hx).len; have := (h.short x hx).1; omega
  have hpy : (p y).2.1 ≤ 1000000 := by have := (h.num y hy).len; have := (h.short y hy).1; omega
  clear h h3
  go_enter Try.func50, Try.ntmps50
  go_wp2_with fail
  have K := cells7_on (Lib.hid ⟨hg, x0, x1, x2, y0, y1, y2⟩) (Below.refl w.heap.size w).drew
  clear hg x0 x1 x2 y0 y1 y2
  go_region_held3 (fun v => v.cell? ⟨g, 0, none⟩ = some (.slice (some ⟨b, o, none⟩) n c) ∧ v.cell? ⟨b, o + x * 3, none⟩ = some (.bool (ngB (d x).1)) ∧ v.cell? ⟨b, o + x * 3 + 1, none⟩ = some (.slice (p x).1 (p x).2.1 (p x).2.2) ∧ v.cell? ⟨b, o + x * 3 + 2, none⟩ = some (.int .i64 ((d x).2 : Int)) ∧ v.cell? ⟨b, o + y * 3, none⟩ = some (.bool (ngB (d y).1)) ∧ v.cell? ⟨b, o + y * 3 + 1, none⟩ = some (.slice (p y).1 (p y).2.1 (p y).2.2) ∧ v.cell? ⟨b, o + y * 3 + 2, none⟩ = some (.int .i64 ((d y).2 : Int))) (with_reducible exact K.out)
    (first | (go_at_call 15; refine (cmp5_any (p y).1 (p x).1 (p y).2.1 (p y).2.2 (p x).2.1 (p x).2.2 (d y).2 (d x).2 (d y).1 (d x).1 w.drew (NY.out.on (Below.refl _ _).drew) (NX.out.on (Below.refl _ _).drew) hpy hpx (by omega) (by omega)).mono ?_; rintro e w2 ⟨rfl, hb1⟩; have HB := Lib.hid ((Below.refl w.heap.size w).drew.trans hb1); replace K := cells7_on K hb1; clear hb1))
  all_goals
    go_wp2_with fail
    go_ret
    exact ⟨rfl, HB.out⟩

end Go.Proofs.Ytllcjahekckbfaa
