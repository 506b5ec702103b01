/-
  The sum of a row of decimals of any size; a block of decimals known whole.
-/
import Derived.Test.YtllcjahekckbfaaRouM
set_option linter.unusedVariables false
set_option linter.unusedSimpArgs false
namespace Go.Proofs.Ytllcjahekckbfaa
open Go.RowKit

set_option maxRecDepth 100000 in
set_option maxHeartbeats 4000000 in
theorem sumG_any (L S L1 S1 : Nat) (A : Option Addr) (n c : Nat) (d : Nat → Int × Nat) (p : Nat → Option Addr × Nat × Nat) (w : World) (h : DecsG L S w w.heap.size A n c d p) (hL : L ≤ 1000000) (hS0 : S ≤ 100000) (hL1 : L1 ≤ 1000000) (hS1 : S1 ≤ 100000) (hsum : ∀ k, k ≤ n → sumS d k ≤ S1 ∧ (dg (sumI d k).natAbs).length ≤ L1) :
    Calls Try.prog 11 #[.slice A n c] w (RetDec w (sumI d n) (sumS d n)) := by
  have hc := h.cap
  have hm := h.room
  unfold maxLen at hm
  have H := Lib.hid h
  have HSUM := Lib.hid hsum
  clear h hsum
  go_enter Try.func11, Try.ntmps11
  go_wp2_with fail
  generalize hW : World.alloc (World.alloc w _) _ = W0
  have E0 : St w W0 [(none, 0, 0, (sumI d 0).natAbs)] [((w.heap.size + 1), .bool (ngB (sumI d 0)), .slice none 0 0, .int .i64 (sumS d 0 : Int)), (w.heap.size, .bool false, .slice none 0 0, .int .i64 0)] := by
    rw [← hW]
    exact ((St.start w (l := [(none, 0, 0, 0)]) (by simp; rw [Num, dg_zero]; exact Lim.nil)).lay rfl).lay (by simp)
  clear hW
  go_loopw [8] (fun iv wr => ∃ (k : Nat) (A1 : Option Addr) (n1 c1 : Nat), k ≤ n ∧ iv = .int .i64 k ∧ St w wr [(A1, n1, c1, ((sumI d k)).natAbs)] [((w.heap.size + 1), (.bool (ngB (sumI d k))), (.slice A1 n1 c1), (.int .i64 ((sumS d k) : Int))), (w.heap.size, .bool false, .slice none 0 0, .int .i64 0)]) (fun iv _ => n - (intOf iv).toNat)
  case atStart => exact ⟨0, none, 0, 0, Nat.zero_le _, rfl, E0⟩
  case round =>
    obtain ⟨k, A1, n1, c1, hk, rfl, hE⟩ := hrel
    have E := Lib.hid hE
    have hLL := HSUM.out k hk
    have hn1 : n1 ≤ 1000000 := by have := (St.got E (A := A1) (n := n1) (c := c1) (a := (sumI d k).natAbs) (by simp)).len; have := hLL.2; omega
    have hS : sumS d k ≤ 100000 := by have := hLL.1; omega
    clear hE hLL E0
    rcases Nat.lt_or_ge k n with hlt | hge
    · have HD := Lib.hid (H.out.on E.out.bel)
      have hsh := H.out.short k hlt
      obtain ⟨b, o, rfl, hb, x0, x1, x2⟩ := HD.out.at_ hlt
      have hnum := HD.out.num k hlt
      have hpn : (p k).2.1 ≤ 1000000 := by have := hnum.len; have := hsh.1; omega
      have hds : (d k).2 ≤ 100000 := by have := hsh.2; omega
      have HN := Lib.hid hnum
      clear hnum hsh HD
      obtain ⟨r0, r1, r2, rf0, rf1, rf2, rlt⟩ := St.at_ (x0 := (.bool (ngB (sumI d k)))) (x1 := (.slice A1 n1 c1)) (x2 := (.int .i64 ((sumS d k) : Int))) (g := (w.heap.size + 1)) E (by simp)
      go_wp2_with fail
      have Ea := Lib.hid (St.alloc E.out (.cells #[.bool (ngB (d k).1), .slice (p k).1 (p k).2.1 (p k).2.2, .int .i64 ((d k).2 : Int)] 25))
      refine (add5_any A1 (p k).1 n1 c1 (p k).2.1 (p k).2.2 (sumS d k) (d k).2 (sumI d k) (d k).1 _ (St.got Ea (by simp)) (HN.out.on ((Below.refl _ _).alloc (Nat.le_refl _) _)) (by omega) (by omega) (by omega) (by omega)).mono ?_
      rintro e w2 ⟨A2, n2, c2, rfl, h1, hb1⟩
      have E2 := Lib.hid (St.push Ea.out hb1 h1)
      clear h1 hb1 r0 r1 r2 rf0 rf1 rf2 rlt x0 x1 x2 Ea
      obtain ⟨r0, r1, r2, rf0, rf1, rf2, rlt⟩ := St.at_ (x0 := (.bool (ngB (sumI d k)))) (x1 := (.slice A1 n1 c1)) (x2 := (.int .i64 ((sumS d k) : Int))) (g := (w.heap.size + 1)) E2 (by simp)
      go_wp2_with fail
      go_roundw
      case rel =>
        have E3 := St.store E2.out (g := (w.heap.size + 1)) (x0 := (.bool (ngB (sumI d k)))) (x1 := (.slice A1 n1 c1)) (x2 := (.int .i64 ((sumS d k) : Int))) (by simp) (noLimb_bool _) (noLimb_slice _ _ _) (noLimb_int _) [(w.heap.size, .bool false, .slice none 0 0, .int .i64 0)] (by simp <;> omega) (.bool (ngB (addZ (sumI d k) (sumS d k) (d k).1 (d k).2))) (.slice A2 n2 c2) (.int .i64 ((max (sumS d k) (d k).2 : Nat) : Int))
        exact ⟨k + 1, A2, n2, c2, by omega, by go_num, E3.sub (by simp [sumI]) (by simp [sumI, sumS])⟩
      case measure => simp [intOf]; omega
    · obtain rfl : k = n := by omega
      obtain ⟨r0, r1, r2, rf0, rf1, rf2, rlt⟩ := St.at_ (x0 := (.bool (ngB (sumI d k)))) (x1 := (.slice A1 n1 c1)) (x2 := (.int .i64 ((sumS d k) : Int))) (g := (w.heap.size + 1)) E (by simp)
      obtain ⟨q0, q1, q2, qf0, qf1, qf2, qlt⟩ := St.at_ (x0 := .bool false) (x1 := .slice none 0 0) (x2 := .int .i64 0) (g := w.heap.size) E (by simp)
      go_wp2_with fail
      have EF := Lib.hid (St.store E.out (g := w.heap.size) (x0 := .bool false) (x1 := .slice none 0 0) (x2 := .int .i64 0) (by simp) (noLimb_bool _) (noLimb_slice _ _ _) (noLimb_int _) [] (fun q hq => by cases hq) (.bool (ngB (sumI d k))) (.slice A1 n1 c1) (.int .i64 (sumS d k : Int)))
      obtain ⟨e0, e1, e2, _, _, _, _⟩ := St.at_ (x0 := .bool (ngB (sumI d k))) (x1 := .slice A1 n1 c1) (x2 := .int .i64 (sumS d k : Int)) (g := w.heap.size) EF (by simp)
      exact bodyPost_ret (v := .agg #[.bool (ngB (sumI d k)), .slice A1 n1 c1, .int .i64 (sumS d k : Int)]) (by simp [results, Try.results11, go_sem, e0, e1, e2]) rfl ⟨A1, n1, c1, rfl, St.got EF (by simp), EF.out.bel⟩


theorem drow_set (q : DQ) : ∀ (l : List DQ) (j : Nat), drow (l.set j q) = (((drow l).set (j * 3) (.bool (ngB q.1.1))).set (j * 3 + 1) (.slice q.2.1 q.2.2.1 q.2.2.2)).set (j * 3 + 2) (.int .i64 (q.1.2 : Int)) := by
  intro l
  induction l with
  | nil => intro j; rfl
  | cons x l ih =>
    intro j
    cases j with
    | zero => rw [List.set_cons_zero, drow_cons, drow_cons]; rfl
    | succ j =>
      rw [List.set_cons_succ, drow_cons, drow_cons, ih]
      have e : (j + 1) * 3 = j * 3 + 1 + 1 + 1 := by omega
      rw [e]
      simp
/-- Block g is just these decimals. -/
def OwnQ (w : World) (g : Nat) (l : List DQ) : Prop := w.heap[g]? = some (.cells (drow l).toArray 25 (0, 0))
theorem OwnQ.frozen {w : World} {g : Nat} {l : List DQ} (h : OwnQ w g l) (i : Nat) : w.frozen? ⟨g, i, none⟩ = false := frozen_of_row w g i _ _ h
theorem OwnQ.lt {w : World} {g : Nat} {l : List DQ} (h : OwnQ w g l) : g < w.heap.size := by
  rcases Nat.lt_or_ge g w.heap.size with hlt | hge
  · exact hlt
  · unfold OwnQ at h; rw [Array.getElem?_eq_none hge] at h; cases h
theorem OwnQ.on {w w' : World} {g : Nat} {l : List DQ} (h : OwnQ w g l) (hb : Below w.heap.size w w') : OwnQ w' g l := (hb.block g h.lt).trans h
theorem OwnQ.cells {w : World} {g j : Nat} {l : List DQ} (h : OwnQ w g l) (hj : j < l.length) : w.cell? ⟨g, j * 3, none⟩ = some (.bool (ngB (dOf l j).1)) ∧ w.cell? ⟨g, j * 3 + 1, none⟩ = some (.slice (pOf l j).1 (pOf l j).2.1 (pOf l j).2.2) ∧ w.cell? ⟨g, j * 3 + 2, none⟩ = some (.int .i64 ((dOf l j).2 : Int)) := by
  have D := drow_at (of_at hj)
  rw [cell_of_row w g _ _ _ (0, 0) h, cell_of_row w g _ _ _ (0, 0) h, cell_of_row w g _ _ _ (0, 0) h]
  simpa using D
theorem OwnQ.store {w : World} {g : Nat} {l : List DQ} (h : OwnQ w g l) (j : Nat) (q : DQ) : OwnQ (((w.setCell ⟨g, j * 3, none⟩ (.bool (ngB q.1.1))).setCell ⟨g, j * 3 + 1, none⟩ (.slice q.2.1 q.2.2.1 q.2.2.2)).setCell ⟨g, j * 3 + 2, none⟩ (.int .i64 (q.1.2 : Int))) g (l.set j q) := by
  unfold OwnQ at h ⊢
  rw [heap_setCell_same _ g (j * 3 + 2) _ _ _ (heap_setCell_same _ g (j * 3 + 1) _ _ _ (heap_setCell_same w g (j * 3) _ _ _ h)), drow_set]
  simp
theorem OwnQ.row {w : World} {g n base : Nat} {l : List DQ} (h : OwnQ w g l) (hl : l.length = n) (hn : n ≤ 1000000) (hb : base ≤ g) : w.ownsRow base 25 3 (.slice (some ⟨g, 0, none⟩) n n) n (drow l) := by
  subst hl
  refine ⟨drow_len l, .inr ⟨g, l.length, (drow l).toArray, rfl, hb, h, Nat.le_refl _, by unfold maxLen; omega, by simp [drow_len], ?_⟩⟩
  rw [List.take_of_length_le (by simp [drow_len])]
theorem made_drow (n : Nat) : (madeCells (Value.agg #[.bool false, .slice none 0 0, .int .i64 0]).cells (n * 3)).toList = drow (List.replicate n ((0, 0), (none, 0, 0))) := by
  have hz : (Value.agg #[.bool false, .slice none 0 0, .int .i64 0]).cells = #[.bool false, .slice none 0 0, .int .i64 0] := by simp [Value.cells]
  rw [hz]
  apply List.ext_getElem?
  intro i
  rcases Nat.lt_or_ge i (n * 3) with hi | hi
  · obtain ⟨j, r, hr, rfl⟩ : ∃ j r, r < 3 ∧ i = j * 3 + r := ⟨i / 3, i % 3, by omega, by omega⟩
    have hj : j < n := by omega
    have D := drow_at (l := List.replicate n (((0 : Int), 0), ((none : Option Addr), 0, 0))) (j := j) (q := ((0, 0), (none, 0, 0))) (by simp [hj])
    have hL : (madeCells #[Value.bool false, .slice none 0 0, .int .i64 0] (n * 3)).toList[j * 3 + r]? = some ((#[Value.bool false, .slice none 0 0, .int .i64 0] : Array Value)[(j * 3 + r) % 3]!) := by
      unfold madeCells
      simp [hi]
    rw [hL]
    have e : (j * 3 + r) % 3 = r := by omega
    rw [e]
    match r, hr with
    | 0, _ => exact D.1.symm
    | 1, _ => exact D.2.1.symm
    | 2, _ => exact D.2.2.symm
  · rw [List.getElem?_eq_none (by rw [Array.length_toList, size_madeCells]; exact hi), List.getElem?_eq_none (by rw [drow_len, List.length_replicate]; exact hi)]
theorem OwnQ.of_made {w : World} {base n : Nat} (h : w.ownsRow base 25 3 (.slice (some ⟨base, 0, none⟩) n n) n (madeCells (Value.agg #[.bool false, .slice none 0 0, .int .i64 0]).cells (n * 3)).toList) : OwnQ w base (List.replicate n ((0, 0), (none, 0, 0))) := by
  rw [made_drow] at h
  rcases h.2 with ⟨h1, _⟩ | ⟨g, cap, cur, hv, _, hh, _, _, hsz, htk⟩
  · cases h1
  · injection hv with h1 h2 h3
    injection h1 with h1
    injection h1 with h1
    subst h1; subst h3
    unfold OwnQ
    rw [hh, ← htk, List.take_of_length_le (by simp; omega)]

end Go.Proofs.Ytllcjahekckbfaa
