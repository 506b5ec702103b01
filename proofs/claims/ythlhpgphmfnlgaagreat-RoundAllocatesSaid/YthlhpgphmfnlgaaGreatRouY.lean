/-
  What the law RoundWhole needs: the sum of the shares; operations over a slice of decimals; a region's facts from the world that the loop began with.
-/
import Derived.Test.YthlhpgphmfnlgaaGreatRouS
import Derived.Test.YthlhpgphmfnlgaaGreatRouT
import Derived.Test.YthlhpgphmfnlgaaGreatLineF
import Derived.Test.YthlhpgphmfnlgaaGreatAllDecD
set_option linter.unusedVariables false
set_option linter.unusedSimpArgs false
namespace Go.Proofs.YthlhpgphmfnlgaaGreat
open Go.RowKit

/-- The shares in memory. -/
def Shares (v : World) (g : Nat) (l : List DQ) (x : Nat → Nat) (m : Nat) : Prop := RowQ v g l ∧ ∀ j, j < m → Num v v.heap.size (pOf l j).1 (pOf l j).2.1 (pOf l j).2.2 (x j)
theorem Shares.on {v v' : World} {g m : Nat} {l : List DQ} {x : Nat → Nat} (h : Shares v g l x m) (hb : Below v.heap.size v v') : Shares v' g l x m := ⟨h.1.on hb, fun j hj => (h.2 j hj).on hb⟩
theorem sum_shares {v : World} {g m cs S K : Nat} {T : Int} {l : List DQ} {zs : List Nat} {d : Nat → Int × Nat} (L : Left T.natAbs d m zs K) (hQ : Shares v g l (shareN T.natAbs d m zs K) m) (hl : l.length = m) (hmc : m ≤ cs) (hcm : cs ≤ maxLen) (hm0 : 0 < m) (hdl : ∀ j, j < m → dOf l j = (sgn (ngB T) (shareN T.natAbs d m zs K j), S)) (hS : S ≤ 60) (hT : (dg T.natAbs).length ≤ 300) :
    Calls Tryz.prog 26 #[.slice (some ⟨g, 0, none⟩) m cs] v (RetDec v T S) := by
  have hx : ∀ j, j < m → (dg (shareN T.natAbs d m zs K j)).length ≤ 300 := fun j hj => Nat.le_trans (dg_len_mono (share_le L (Nat.le_refl _) hj)) hT
  have e := sum_sgn (d := dOf l) (x := shareN T.natAbs d m zs K) (S := S) (b := ngB T) (m := m) hdl
  have hs := share_sum L (Nat.le_refl K)
  rw [Nat.sub_self, Nat.add_zero] at hs
  have C := sumG_any 300 60 300 60 (some ⟨g, 0, none⟩) m cs (dOf l) (pOf l) v (hQ.1.decs hl hmc hcm (fun _ _ => rfl) (fun j hj => by
    have h := hQ.2 j hj
    rw [hdl j hj]
    show Num _ _ _ _ _ (sgn (ngB T) _).natAbs
    rw [abs_sgn]; exact h) (fun j hj => by
    rw [hdl j hj]
    refine ⟨?_, hS⟩
    show (dg (sgn (ngB T) _).natAbs).length ≤ 300
    rw [abs_sgn]; exact hx j hj)) (by omega) (by omega) (by omega) (by omega) (fun k hk => by
    have e := sum_sgn (d := dOf l) (x := shareN T.natAbs d m zs K) (S := S) (b := ngB T) (m := k) (fun j hj => hdl j (by omega))
    refine ⟨by omega, ?_⟩
    rw [e.1, abs_sgn]
    refine Nat.le_trans (dg_len_mono ?_) hT
    have := sumN_upto (f := shareN T.natAbs d m zs K) hk
    omega)
  rw [e.1, e.2.1 hm0, hs, sgn_ng] at C
  exact C
/-- These boxes stand, and what stood when the loop began. -/
def SX (W : World) (bs : List (Nat × Value × Value × Value)) (v : World) : Prop := SB bs v ∧ Below W.heap.size W v
theorem SX.of {W w : World} {l : List (Option Addr × Nat × Nat × Nat)} {bs bs' : List (Nat × Value × Value × Value)} (h : Hid (St W w l bs)) (hs : ∀ q ∈ bs', q ∈ bs) : SX W bs' w := ⟨St.sbOf h hs, h.out.bel⟩
theorem SX.at_ {W w : World} {bs : List (Nat × Value × Value × Value)} {g : Nat} {x0 x1 x2 : Value} (h : SX W bs w) (hm : (g, x0, x1, x2) ∈ bs) : Box w g x0 x1 x2 := h.1 _ hm
theorem Fr.listY {N : Nat} {a : Act} {l : List (Nat × Value)} (h : Fr N a l) : ∃ us : Nat → Value, a = ⟨((List.range N).map us).toArray, []⟩ ∧ ∀ q ∈ l, us q.1 = q.2 := by
  obtain ⟨h1, h2, h3⟩ := h
  refine ⟨fun i => a.tmps.getD i undef, ?_, fun q hq => ?_⟩
  · obtain ⟨t, ds⟩ := a
    simp only at h1 h2
    subst h2
    congr 1
    apply Array.ext
    · simp [h1]
    · intro i hi _
      simp [Array.getD_eq_getD_getElem?, Array.getElem?_eq_getElem hi]
  · simp only
    rw [Array.getD_eq_getD_getElem?, h3 q hq]; rfl
theorem Decs.spotY {w : World} {n c j b o : Nat} {d : Nat → Int × Nat} {p : Nat → Option Addr × Nat × Nat} (h : Decs w w.heap.size (some ⟨b, o, none⟩) n c d p) (hj : j < n) :
    ∃ i s A m e, d j = (i, s) ∧ Cel w b (o + j * 3) (.bool (ngB i)) (.slice A m e) (.int .i64 (s : Int)) ∧ Num w w.heap.size A m e i.natAbs ∧ m ≤ 12 ∧ s ≤ 60 :=
  ⟨(d j).1, (d j).2, (p j).1, (p j).2.1, (p j).2.2, rfl, h.cel hj, h.num j hj, by have h1 := (h.num j hj).len; have h2 := (h.short j hj).1; omega, (h.short j hj).2⟩
section
variable {o : Oper} {ρ : Operand → Value} {x y : Operand} {w : World}
set_option maxRecDepth 100000 in
theorem e_idxY {b f n c j : Nat} (hj : j < n) (hnc : n ≤ c) (hcm : c ≤ maxLen) (h : o.op = .indexAddr 26 x y) (hx : ρ x = .slice (some ⟨b, f, none⟩) n c) (hy : ρ y = .int .i64 (j : Int)) : (execOp ρ o).run Tryz.prog w = .ok (.value (.pointer (some ⟨b, f + j * 3, none⟩))) w := by
  unfold maxLen at hcm
  unfold execOp; rw [h]
  simp only [hx, hy]
  go_simp
set_option maxRecDepth 100000 in
theorem e_loadY {b f : Nat} {x0 x1 x2 : Value} (h : o.op = .load 25 x) (hx : ρ x = .pointer (some ⟨b, f, none⟩)) (X : Cel w b f x0 x1 x2) : (execOp ρ o).run Tryz.prog w = .ok (.value (.agg #[x0, x1, x2])) w := by
  obtain ⟨c0, c1, c2, _⟩ := X
  unfold execOp; rw [h]
  simp only [hx]
  go_simp
end

end Go.Proofs.YthlhpgphmfnlgaaGreat
