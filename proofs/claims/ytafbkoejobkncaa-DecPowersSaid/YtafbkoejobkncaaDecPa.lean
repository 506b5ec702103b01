/-
  What DecPowers needs: the least and the greatest, plain; Least and Between as contracts with their values; what operations over a slice of decimals and an array of bytes yield.
-/
import Derived.Test.YtafbkoejobkncaaDecO
import Derived.Test.YtafbkoejobkncaaDecT
set_option linter.unusedVariables false
set_option linter.unusedSimpArgs false
namespace Go.Proofs.Ytafbkoejobkncaa
open Go.RowKit

theorem low_min (d : Nat → Int × Nat) : ∀ n j, j < n → 0 ≤ cmpD (d j).1 (d j).2 (d (low d n)).1 (d (low d n)).2 := by
  intro n
  induction n with
  | zero => intro j hj; omega
  | succ n ih =>
    intro j hj
    rw [low]
    split
    · rename_i h
      rcases Nat.lt_or_ge j n with h1 | h1
      · have h2 := ih j h1
        rcases Int.lt_or_le (cmpD (d j).1 (d j).2 (d n).1 (d n).2) 0 with h3 | h3
        · have := ord_trans (Int.le_of_lt h3) (Int.le_of_lt h)
          have h4 := ord_turn (d n).1 (d (low d n)).1 (d n).2 (d (low d n)).2
          have h5 := ord_turn (d j).1 (d (low d n)).1 (d j).2 (d (low d n)).2
          have h6 : cmpD (d (low d n)).1 (d (low d n)).2 (d j).1 (d j).2 ≤ 0 := by omega
          have h7 := ord_trans h6 (Int.le_of_lt h3)
          omega
        · exact h3
      · obtain rfl : j = n := by omega
        rw [cmpD_self]; omega
    · rename_i h
      rcases Nat.lt_or_ge j n with h1 | h1
      · exact ih j h1
      · obtain rfl : j = n := by omega
        omega
theorem high_max (d : Nat → Int × Nat) : ∀ n j, j < n → cmpD (d j).1 (d j).2 (d (high d n)).1 (d (high d n)).2 ≤ 0 := by
  intro n
  induction n with
  | zero => intro j hj; omega
  | succ n ih =>
    intro j hj
    rw [high]
    split
    · rename_i h
      rcases Nat.lt_or_ge j n with h1 | h1
      · have h2 := ih j h1
        have h4 := ord_turn (d n).1 (d (high d n)).1 (d n).2 (d (high d n)).2
        have h6 : cmpD (d (high d n)).1 (d (high d n)).2 (d n).1 (d n).2 ≤ 0 := by omega
        exact ord_trans h2 h6
      · obtain rfl : j = n := by omega
        rw [cmpD_self]; omega
    · rename_i h
      rcases Nat.lt_or_ge j n with h1 | h1
      · exact ih j h1
      · obtain rfl : j = n := by omega
        omega
/-- What Between answers. -/
def bet (v a b : Int × Nat) : Int × Nat := if cmpD v.1 v.2 a.1 a.2 < 0 then a else if 0 < cmpD v.1 v.2 b.1 b.2 then b else v
theorem bet_same (v a : Int × Nat) : (cmpD (bet v a a).1 (bet v a a).2 a.1 a.2 == 0) = true := by
  unfold bet
  split
  · rw [cmpD_self]; rfl
  · split
    · rw [cmpD_self]; rfl
    · rw [beq_iff_eq]; omega
theorem bet_one (v a b : Int × Nat) : bet v a b = v ∨ bet v a b = a ∨ bet v a b = b := by
  unfold bet; split
  · exact .inr (.inl rfl)
  · split
    · exact .inr (.inr rfl)
    · exact .inl rfl
section
variable {A A' A'' : Option Addr} {n c n' c' n'' c'' s t u m : Nat} {i j k x : Int} {w : World}
theorem between_is (h : Num w w.heap.size A n c i.natAbs) (h' : Num w w.heap.size A' n' c' j.natAbs) (h'' : Num w w.heap.size A'' n'' c'' k.natAbs) (hn : n ≤ 1000000) (hn' : n' ≤ 1000000) (hn'' : n'' ≤ 1000000) (hs : s ≤ 100000) (ht : t ≤ 100000) (hu : u ≤ 100000) (hx : bet (i, s) (j, t) (k, u) = (x, m)) :
    Calls Try.prog 42 #[.agg #[.bool (ngB i), .slice A n c, .int .i64 (s : Int)], .agg #[.bool (ngB j), .slice A' n' c', .int .i64 (t : Int)], .agg #[.bool (ngB k), .slice A'' n'' c'', .int .i64 (u : Int)]] w (RetDec w x m) := by
  unfold bet at hx
  split at hx
  · rename_i hz
    injection hx with h1 h2
    subst h1; subst h2
    exact between_a A A' A'' n c n' c' n'' c'' s t u i j k w h h' h'' hn hn' hn'' hs ht hu hz
  · rename_i hz
    split at hx
    · rename_i hy
      injection hx with h1 h2
      subst h1; subst h2
      exact between_b A A' A'' n c n' c' n'' c'' s t u i j k w h h' h'' hn hn' hn'' hs ht hu (by simpa using hz) hy
    · rename_i hy
      injection hx with h1 h2
      subst h1; subst h2
      exact between_d A A' A'' n c n' c' n'' c'' s t u i j k w h h' h'' hn hn' hn'' hs ht hu (by simpa using hz) (by simpa using hy)
theorem refbetween_is (h : Num w w.heap.size A n c i.natAbs) (h' : Num w w.heap.size A' n' c' j.natAbs) (h'' : Num w w.heap.size A'' n'' c'' k.natAbs) (hn : n ≤ 1000000) (hn' : n' ≤ 1000000) (hn'' : n'' ≤ 1000000) (hs : s ≤ 100000) (ht : t ≤ 100000) (hu : u ≤ 100000) (hx : bet (i, s) (j, t) (k, u) = (x, m)) :
    Calls Try.prog 43 #[.agg #[.bool (ngB i), .slice A n c, .int .i64 (s : Int)], .agg #[.bool (ngB j), .slice A' n' c', .int .i64 (t : Int)], .agg #[.bool (ngB k), .slice A'' n'' c'', .int .i64 (u : Int)]] w (RetDec w x m) := by
  unfold bet at hx
  split at hx
  · rename_i hz
    injection hx with h1 h2
    subst h1; subst h2
    exact refBetween_a A A' A'' n c n' c' n'' c'' s t u i j k w h h' h'' hn hn' hn'' hs ht hu hz
  · rename_i hz
    split at hx
    · rename_i hy
      injection hx with h1 h2
      subst h1; subst h2
      exact refBetween_b A A' A'' n c n' c' n'' c'' s t u i j k w h h' h'' hn hn' hn'' hs ht hu (by simpa using hz) hy
    · rename_i hy
      injection hx with h1 h2
      subst h1; subst h2
      exact refBetween_d A A' A'' n c n' c' n'' c'' s t u i j k w h h' h'' hn hn' hn'' hs ht hu (by simpa using hz) (by simpa using hy)
end
section
variable {A : Option Addr} {n c : Nat} {d : Nat → Int × Nat} {p : Nat → Option Addr × Nat × Nat} {w : World} {lo hi : Int}
theorem least_both (h : Decs w w.heap.size A n c d p) (hn : n ≤ 99) (hc : n = 0 ∧ lo = -1 ∧ hi = -1 ∨ 0 < n ∧ lo = (low d n : Int) ∧ hi = (high d n : Int)) : Calls Try.prog 40 #[.slice A n c] w (RetVal w (.tuple #[.int .i64 lo, .int .i64 hi])) := by
  rcases hc with ⟨rfl, rfl, rfl⟩ | ⟨h0, rfl, rfl⟩
  · exact least5_none A c w
  · exact least5_any A n c d p w h hn h0
theorem refleast_both (h : Decs w w.heap.size A n c d p) (hn : n ≤ 99) (hc : n = 0 ∧ lo = -1 ∧ hi = -1 ∨ 0 < n ∧ lo = (low d n : Int) ∧ hi = (high d n : Int)) : Calls Try.prog 41 #[.slice A n c] w (RetVal w (.tuple #[.int .i64 lo, .int .i64 hi])) := by
  rcases hc with ⟨rfl, rfl, rfl⟩ | ⟨h0, rfl, rfl⟩
  · exact refLeast5_none A c w
  · exact refLeast5_any A n c d p w h hn h0
end
theorem Decs.spot {w : World} {n c j b o : Nat} {d : Nat → Int × Nat} {p : Nat → Option Addr × Nat × Nat} (h : Decs w w.heap.size (some ⟨b, o, none⟩) n c d p) (hj : j < n) :
    ∃ i s A m e, d j = (i, s) ∧ Cel w b (o + j * 3) (.bool (ngB i)) (.slice A m e) (.int .i64 (s : Int)) ∧ Num w w.heap.size A m e i.natAbs ∧ m ≤ 12 ∧ s ≤ 60 :=
  ⟨(d j).1, (d j).2, (p j).1, (p j).2.1, (p j).2.2, rfl, h.cel hj, h.num j hj, by have h1 := (h.num j hj).len; have h2 := (h.short j hj).1; omega, (h.short j hj).2⟩
theorem bet_short {v a b : Int × Nat} (hv : (dg v.1.natAbs).length ≤ 12 ∧ v.2 ≤ 60) (ha : (dg a.1.natAbs).length ≤ 12 ∧ a.2 ≤ 60) (hb : (dg b.1.natAbs).length ≤ 12 ∧ b.2 ≤ 60) : (dg (bet v a b).1.natAbs).length ≤ 12 ∧ (bet v a b).2 ≤ 60 := by
  rcases bet_one v a b with h | h | h <;> rw [h]
  · exact hv
  · exact ha
  · exact hb
/-- An array of two bytes. -/
structure Byt2 (v : World) (g : Nat) (y z : Int) : Prop where
  c0 : v.cell? ⟨g, 0, none⟩ = some (.int .u8 y)
  c1 : v.cell? ⟨g, 1, none⟩ = some (.int .u8 z)
  lt : g < v.heap.size
theorem Byt2.newAt {g : Nat} (v : World) (y z : Int) (t : TypeId) (h : g = v.heap.size) : Byt2 (v.alloc (.cells #[.int .u8 y, .int .u8 z] t)) g y z := by
  subst h
  exact ⟨by simp, by simp, by simp⟩
theorem Byt2.on {v v' : World} {g : Nat} {y z : Int} (h : Byt2 v g y z) (hb : Below v.heap.size v v') : Byt2 v' g y z :=
  ⟨(hb.cell (p := ⟨g, 0, none⟩) h.lt).trans h.c0, (hb.cell (p := ⟨g, 1, none⟩) h.lt).trans h.c1, Nat.lt_of_lt_of_le h.lt hb.size⟩
theorem Fr.list {N : Nat} {a : Act} {l : List (Nat × Value)} (h : Fr N a l) : ∃ us : Nat → Value, a = ⟨((List.range N).map us).toArray, []⟩ ∧ ∀ q ∈ l, us q.1 = q.2 := by
  obtain ⟨h1, h2, h3⟩ := h
  refine ⟨fun i => a.tmps.getD i undef, ?_, fun q hq => ?_⟩
  · obtain ⟨t, ds⟩ := a
    simp only at h1 h2
    subst h2
    congr 1
    apply Array.ext
    · simp [h1]
    · intro i hi _
      simp [Array.getD_eq_getD_getElem?, Array.getElem?_eq_getElem hi]
  · simp only
    rw [Array.getD_eq_getD_getElem?, h3 q hq]; rfl
theorem Fr.sub {N : Nat} {a : Act} {l l' : List (Nat × Value)} (h : Fr N a l) (hs : ∀ q ∈ l', q ∈ l) : Fr N a l' := ⟨h.1, h.2.1, fun q hq => h.2.2 q (hs q hq)⟩
/-- These boxes stand, and these six cells of a slice. -/
def SBL (bs : List (Nat × Value × Value × Value)) (b o1 : Nat) (a0 a1 a2 : Value) (o2 : Nat) (y0 y1 y2 : Value) (v : World) : Prop := SB bs v ∧ Cel v b o1 a0 a1 a2 ∧ Cel v b o2 y0 y1 y2
section
variable {b o1 o2 : Nat} {a0 a1 a2 y0 y1 y2 : Value}
theorem SBL.of {w0 w : World} {l : List (Option Addr × Nat × Nat × Nat)} {bs : List (Nat × Value × Value × Value)} (h : Hid (St w0 w l bs)) (h1 : Cel w b o1 a0 a1 a2) (h2 : Cel w b o2 y0 y1 y2) : SBL bs b o1 a0 a1 a2 o2 y0 y1 y2 w := ⟨St.sb h, h1, h2⟩
theorem SBL.at_ {w : World} {bs : List (Nat × Value × Value × Value)} {g : Nat} {x0 x1 x2 : Value} (h : SBL bs b o1 a0 a1 a2 o2 y0 y1 y2 w) (hm : (g, x0, x1, x2) ∈ bs) : Box w g x0 x1 x2 := h.1 _ hm
end
section
variable {o : Oper} {ρ : Operand → Value} {x y : Operand} {w : World}
set_option maxRecDepth 100000 in
theorem e_idx {b f n c j : Nat} (hj : j < n) (hnc : n ≤ c) (hcm : c ≤ maxLen) (h : o.op = .indexAddr 40 x y) (hx : ρ x = .slice (some ⟨b, f, none⟩) n c) (hy : ρ y = .int .i64 (j : Int)) : (execOp ρ o).run Try.prog w = .ok (.value (.pointer (some ⟨b, f + j * 3, none⟩))) w := by
  unfold maxLen at hcm
  unfold execOp; rw [h]
  simp only [hx, hy]
  go_simp
set_option maxRecDepth 100000 in
theorem e_loadC {b f : Nat} {x0 x1 x2 : Value} (h : o.op = .load 25 x) (hx : ρ x = .pointer (some ⟨b, f, none⟩)) (X : Cel w b f x0 x1 x2) : (execOp ρ o).run Try.prog w = .ok (.value (.agg #[x0, x1, x2])) w := by
  obtain ⟨c0, c1, c2, _⟩ := X
  unfold execOp; rw [h]
  simp only [hx]
  go_simp
set_option maxRecDepth 100000 in
theorem e_lenL {A : Option Addr} {n c : Nat} (h : o.op = .call { callee := .builtin .len, args := #[x], argTypes := #[40] }) (hx : ρ x = .slice A n c) : (execOp ρ o).run Try.prog w = .ok (.value (.int .i64 (n : Int))) w := by
  unfold execOp; rw [h]
  simp only [resolve, List.map_toArray, List.map_cons, List.map_nil, hx]
  go_simp
end

end Go.Proofs.Ytafbkoejobkncaa
