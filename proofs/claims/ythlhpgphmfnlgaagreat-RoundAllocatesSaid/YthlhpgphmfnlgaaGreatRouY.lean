/-
 What the law RoundWhole needs: the sum of the shares; operations over a slice of decimals; a region's facts from the world that the loop began with.
-/
import Derived.Test.YthlhpgphmfnlgaaGreatRouS
import Derived.Test.YthlhpgphmfnlgaaGreatRouT
import Derived.Test.YthlhpgphmfnlgaaGreatLineF
import Derived.Test.YthlhpgphmfnlgaaGreatAllDecD
set_option maxRecDepth 100000
set_option maxHeartbeats 32000000
set_option linter.unusedVariables false
set_option linter.unusedSimpArgs false
namespace Go.Proofs.YthlhpgphmfnlgaaGreat
open Go.RowKit
def SX (W : World) (bs : List (Nat × Value × Value × Value)) (v : World) : Prop := SB bs v ∧ Below W.heap.size W v
theorem SX.of {W w : World} {l : List (Option Addr × Nat × Nat × Nat)} {bs bs' : List (Nat × Value × Value × Value)} (h : Hid (St W w l bs)) (hs : ∀ q ∈ bs', q ∈ bs) : SX W bs' w := ⟨St.sbOf h hs, h.out.bel⟩
theorem SX.at_ {W w : World} {bs : List (Nat × Value × Value × Value)} {g : Nat} {x0 x1 x2 : Value} (h : SX W bs w) (hm : (g, x0, x1, x2) ∈ bs) : Box w g x0 x1 x2 := h.1 _ hm
theorem Fr.listY {N : Nat} {a : Act} {l : List (Nat × Value)} (h : Fr N a l) : ∃ us : Nat → Value, a = ⟨((List.range N).map us).toArray, []⟩ ∧ ∀ q ∈ l, us q.1 = q.2 := by
 obtain ⟨h1, h2, h3⟩ := h
 refine ⟨fun i => a.tmps.getD i undef, ?_, fun q hq => ?_⟩
 · obtain ⟨t, ds⟩ := a
   simp only at h1 h2
   subst h2
   congr 1
   apply Array.ext
   · simp [h1]
   · intro i hi _
     simp [Array.getD_eq_getD_getElem?, Array.getElem?_eq_getElem hi]
 · simp only
   rw [Array.getD_eq_getD_getElem?, h3 q hq]; rfl
theorem Decs.spotY {w : World} {n c j b o : Nat} {d : Nat → Int × Nat} {p : Nat → Option Addr × Nat × Nat} (h : Decs w w.heap.size (some ⟨b, o, none⟩) n c d p) (hj : j < n) :
   ∃ i s A m e, d j = (i, s) ∧ Cel w b (o + j * 3) (.bool (ngB i)) (.slice A m e) (.int .i64 (s : Int)) ∧ Num w w.heap.size A m e i.natAbs ∧ m ≤ 12 ∧ s ≤ 60 :=
 ⟨(d j).1, (d j).2, (p j).1, (p j).2.1, (p j).2.2, rfl, h.cel hj, h.num j hj, by have h1 := (h.num j hj).len; have h2 := (h.short j hj).1; omega, (h.short j hj).2⟩
section
variable {o : Oper} {ρ : Operand → Value} {x y : Operand} {w : World}
theorem e_idxY {b f n c j : Nat} (hj : j < n) (hnc : n ≤ c) (hcm : c ≤ maxLen) (h : o.op = .indexAddr 26 x y) (hx : ρ x = .slice (some ⟨b, f, none⟩) n c) (hy : ρ y = .int .i64 (j : Int)) : (execOp ρ o).run Tryz.prog w = .ok (.value (.pointer (some ⟨b, f + j * 3, none⟩))) w := by
 unfold maxLen at hcm
 unfold execOp; rw [h]
 simp only [hx, hy]
 go_simp
theorem e_loadY {b f : Nat} {x0 x1 x2 : Value} (h : o.op = .load 25 x) (hx : ρ x = .pointer (some ⟨b, f, none⟩)) (X : Cel w b f x0 x1 x2) : (execOp ρ o).run Tryz.prog w = .ok (.value (.agg #[x0, x1, x2])) w := by
 obtain ⟨c0, c1, c2, _⟩ := X
 unfold execOp; rw [h]
 simp only [hx]
 go_simp
end
end Go.Proofs.YthlhpgphmfnlgaaGreat
