/-
  The contract of floors, the first part: what is short.
-/
import Derived.Test.YtllcjahekckbfaaRouN
set_option linter.unusedVariables false
set_option linter.unusedSimpArgs false
namespace Go.Proofs.Ytllcjahekckbfaa
open Go.RowKit

theorem drow_noLimb (l : List DQ) : ∀ u ∈ drow l, NoLimb u := by
  induction l with
  | nil => intro u hu; cases hu
  | cons q l ih =>
    intro u hu
    rw [drow_cons] at hu
    simp only [List.mem_cons] at hu
    rcases hu with rfl | rfl | rfl | hu
    · exact noLimb_bool _
    · exact noLimb_slice _ _ _
    · exact noLimb_int _
    · exact ih u hu
/-- What is stored into a block of decimals leaves the numbers as they are. -/
theorem num_put {w : World} {B n c g : Nat} {A : Option Addr} {xs : List Nat} {l : List DQ} (h : Lim w B A n c xs) (ho : OwnQ w g l) (i1 i2 i3 : Nat) (v1 v2 v3 : Value) : Lim (((w.setCell ⟨g, i1, none⟩ v1).setCell ⟨g, i2, none⟩ v2).setCell ⟨g, i3, none⟩ v3) B A n c xs := by
  refine ⟨h.len, h.cap, h.room, h.fit, ?_, h.addr⟩
  rcases h.row with h1 | ⟨b, o, he, hb, hc⟩
  · exact .inl h1
  · by_cases hg : b = g
    · left
      cases xs with
      | nil => rfl
      | cons x xs =>
        exfalso
        have h1 := hc 0 (.int .u32 (x : Int)) rfl
        rw [hg, cell_of_row w g _ _ _ (0, 0) ho] at h1
        have h2 : Value.int .u32 (x : Int) ∈ drow l := by
          have := Array.mem_of_getElem? h1
          simpa using this
        exact drow_noLimb l _ h2 x rfl
    · refine .inr ⟨b, o, he, hb, fun j u hu => ?_⟩
      have hn : (⟨g, i1, none⟩ : Addr).block ≠ b := fun e => hg e.symm
      rw [World.cell?_setCell_far _ _ _ _ (fun e => hg e.symm), World.cell?_setCell_far _ _ _ _ (fun e => hg e.symm), World.cell?_setCell_far _ _ _ _ (fun e => hg e.symm)]
      exact hc j u hu

/-- A decimal without noughts at its end. -/
def shS (d : Nat → Int × Nat) (j : Nat) : Int × Nat := (stripI (d j).1 (d j).2 0, (d j).2 - stripK (d j).1 (d j).2 0)
theorem sumS_ge {d : Nat → Int × Nat} {j : Nat} : ∀ {m : Nat}, j < m → (d j).2 ≤ sumS d m := by
  intro m
  induction m with
  | zero => intro h; omega
  | succ m ih =>
    intro h
    show _ ≤ max _ _
    rcases Nat.lt_or_ge j m with h1 | h1
    · have := ih h1; omega
    · obtain rfl : j = m := by omega
      omega
theorem stripI_abs_le (i : Int) (s L : Nat) : (stripI i s L).natAbs ≤ i.natAbs := by
  unfold stripI
  rw [abs_sgn]
  exact Nat.div_le_self _ _
theorem dOf_set {l : List DQ} {k j : Nat} {q : DQ} (hk : k < l.length) : dOf (l.set k q) j = if j = k then q.1 else dOf l j := by
  unfold dOf
  rw [List.getD_eq_getElem?_getD, List.getD_eq_getElem?_getD, List.getElem?_set]
  by_cases h : k = j
  · subst h; simp [hk]
  · rw [if_neg h, if_neg (fun e => h e.symm)]
theorem pOf_set {l : List DQ} {k j : Nat} {q : DQ} (hk : k < l.length) : pOf (l.set k q) j = if j = k then q.2 else pOf l j := by
  unfold pOf
  rw [List.getD_eq_getElem?_getD, List.getD_eq_getElem?_getD, List.getElem?_set]
  by_cases h : k = j
  · subst h; simp [hk]
  · rw [if_neg h, if_neg (fun e => h e.symm)]

theorem sum_congr {d d' : Nat → Int × Nat} : ∀ {m : Nat}, (∀ j, j < m → d j = d' j) → sumI d m = sumI d' m ∧ sumS d m = sumS d' m := by
  intro m
  induction m with
  | zero => intro _; exact ⟨rfl, rfl⟩
  | succ m ih =>
    intro h
    obtain ⟨h1, h2⟩ := ih (fun j hj => h j (by omega))
    show addZ _ _ _ _ = addZ _ _ _ _ ∧ max _ _ = max _ _
    rw [h1, h2, h m (by omega)]
    exact ⟨rfl, rfl⟩
theorem DecsG.congr {L S : Nat} {w : World} {B n c : Nat} {A : Option Addr} {d d' : Nat → Int × Nat} {p : Nat → Option Addr × Nat × Nat} (h : DecsG L S w B A n c d p) (he : ∀ j, j < n → d j = d' j) : DecsG L S w B A n c d' p := by
  refine ⟨h.cap, h.room, ?_, fun j hj => by rw [← he j hj]; exact h.num j hj, fun j hj => by rw [← he j hj]; exact h.short j hj, h.addr⟩
  rcases h.row with h0 | ⟨b, o, hA, hB, hc⟩
  · exact .inl h0
  · exact .inr ⟨b, o, hA, hB, fun j hj => by rw [← he j hj]; exact hc j hj⟩
theorem DecsG.decs {w : World} {B n c : Nat} {A : Option Addr} {d : Nat → Int × Nat} {p : Nat → Option Addr × Nat × Nat} (h : DecsG 12 60 w B A n c d p) : Decs w B A n c d p := ⟨h.cap, h.room, h.row, h.num, h.short, h.addr⟩
/-- A block of decimals reads as a row. -/
theorem OwnQ.decs {L S n g : Nat} {w : World} {l : List DQ} {d : Nat → Int × Nat} (h : OwnQ w g l) (hl : l.length = n) (hn : n ≤ 1000000) (hd : ∀ j, j < n → dOf l j = d j) (hnum : ∀ j, j < n → Num w w.heap.size (pOf l j).1 (pOf l j).2.1 (pOf l j).2.2 (d j).1.natAbs) (hs : ∀ j, j < n → (dg (d j).1.natAbs).length ≤ L ∧ (d j).2 ≤ S) : DecsG L S w w.heap.size (some ⟨g, 0, none⟩) n n d (pOf l) := by
  subst hl
  refine ⟨Nat.le_refl _, by unfold maxLen; omega, .inr ⟨g, 0, rfl, h.lt, fun j hj => ?_⟩, hnum, hs, fun h => by cases h⟩
  have := h.cells hj
  rw [hd j hj] at this
  simpa using this

end Go.Proofs.Ytllcjahekckbfaa
