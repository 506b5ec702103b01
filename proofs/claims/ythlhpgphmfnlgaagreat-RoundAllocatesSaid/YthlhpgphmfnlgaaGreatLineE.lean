/-
  What comparisons of integers yield.
-/
import Derived.Test.YthlhpgphmfnlgaaGreatLineD
set_option linter.unusedVariables false
set_option linter.unusedSimpArgs false
namespace Go.Proofs.YthlhpgphmfnlgaaGreat
open Go.RowKit

section
variable {o : Oper} {ρ : Operand → Value} {x y : Operand} {w : World}
set_option maxRecDepth 100000 in
theorem e_neq {i j : Int} {t t' : TypeId} (h : o.op = .binOp .neq t x y t') (hx : ρ x = .int .i64 i) (hy : ρ y = .int .i64 j) : (execOp ρ o).run Tryz.prog w = .ok (.value (.bool (i != j))) w := by
  unfold execOp; rw [h]
  simp only [hx, hy]
  go_simp
set_option maxRecDepth 100000 in
theorem e_leq {i j : Int} {t t' : TypeId} (h : o.op = .binOp .leq t x y t') (hx : ρ x = .int .i64 i) (hy : ρ y = .int .i64 j) : (execOp ρ o).run Tryz.prog w = .ok (.value (.bool (decide (i ≤ j)))) w := by
  unfold execOp; rw [h]
  simp only [hx, hy]
  go_simp
set_option maxRecDepth 100000 in
theorem e_lss {i j : Int} {t t' : TypeId} (h : o.op = .binOp .lss t x y t') (hx : ρ x = .int .i64 i) (hy : ρ y = .int .i64 j) : (execOp ρ o).run Tryz.prog w = .ok (.value (.bool (decide (i < j)))) w := by
  unfold execOp; rw [h]
  simp only [hx, hy]
  go_simp
set_option maxRecDepth 100000 in
theorem e_gtr {i j : Int} {t t' : TypeId} (h : o.op = .binOp .gtr t x y t') (hx : ρ x = .int .i64 i) (hy : ρ y = .int .i64 j) : (execOp ρ o).run Tryz.prog w = .ok (.value (.bool (decide (j < i)))) w := by
  unfold execOp; rw [h]
  simp only [hx, hy]
  go_simp
set_option maxRecDepth 100000 in
theorem e_geq {i j : Int} {t t' : TypeId} (h : o.op = .binOp .geq t x y t') (hx : ρ x = .int .i64 i) (hy : ρ y = .int .i64 j) : (execOp ρ o).run Tryz.prog w = .ok (.value (.bool (decide (j ≤ i)))) w := by
  unfold execOp; rw [h]
  simp only [hx, hy]
  go_simp
set_option maxRecDepth 100000 in
theorem e_neg {i : Int} (h : o.op = .unOp .neg 3 x) (hx : ρ x = .int .i64 i) : (execOp ρ o).run Tryz.prog w = .ok (.value (.int .i64 (IntKind.i64.wrap (-i)))) w := by
  unfold execOp; rw [h]
  simp only [hx]
  go_simp
end

section
variable {P : Program} {ops : Array Oper} {Q : Exit → Act → World → Prop} {S : World → Prop} {N : Nat} {T : List Row3} {sts sos : List Spot3} (R : Reg ops T sts sos)
include R
/-- An operation that its guard leaves out: nothing else may come up. -/
theorem line_not (c k : Nat) (ex : List Nat) (d : Nat) {gd : Option (Nat × Bool)} {p : Op} {l : List (Nat × Value)} (l' : List (Nat × Value)) {a : Act} {w : World} (hk : T[k]? = some (some d, gd, p)) (hN : d < N) (hcn : c < T.length) (hc : (k, ex, k) ∈ sos) (ha : Fr N a l)
    (hrun : ∀ o : Oper, o.op = p → o.guard = gd → Region.wanted o (yielded ops a.tmps) = false) (hs : ∀ q ∈ l', q ∈ l ∧ q.1 ≠ d) (hS : S w)
    (next : ∀ a, Fr N a ((d, undef) :: l') → Line P ops (NoPanic Q) S (c + 1) (k + 1) ex a w) : Line P ops (NoPanic Q) S c k ex a w := by
  obtain ⟨o, ho, hd, hg, hp⟩ := R.at_ hk
  have hl : T.length = ops.size := by rw [← R.rows]; simp
  have hw := hrun o hp hg
  have hc := R.so hc
  unfold soleB at hc
  have hc := eq_of_beq hc
  have e : ops.size - c = (ops.size - (c + 1)) + 1 := by omega
  unfold Line
  rw [e]
  refine wpAnyH_all hc (by simp) (fun i hi => ?_)
  obtain rfl : i = k := by simpa using hi
  unfold wpOp
  simp only [ho]
  rw [if_neg (by rw [hw]; simp)]
  refine ⟨hS, ?_⟩
  rw [upto_set, hd]
  exact next _ (ha.put hN hs)
end

end Go.Proofs.YthlhpgphmfnlgaaGreat
