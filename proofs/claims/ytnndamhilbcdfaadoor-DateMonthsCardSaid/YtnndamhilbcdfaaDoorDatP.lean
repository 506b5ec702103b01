/-
  Layer 8: pairs of days, compared and read.
-/
import Derived.Test.YtnndamhilbcdfaaDoorDatM
import Derived.ChangeKeysEq
set_option linter.unusedVariables false
set_option linter.unusedSimpArgs false
namespace Go.Proofs.YtnndamhilbcdfaaDoor
open Go.RowKit
section
variable {o : Oper} {ρ : Operand → Value} {x y : Operand} {w : World}
set_option maxRecDepth 100000 in
theorem run_peq8 (a b c a' b' c' : Int) : (Op.equalIn 10000 44 (.agg #[.int .i64 a, .int .i64 b, .int .i64 c, .int .i64 a', .int .i64 b', .int .i64 c']) (.agg #[.int .i64 a, .int .i64 b, .int .i64 c, .int .i64 a', .int .i64 b', .int .i64 c'])).run Tryd.prog w = .ok true w := by
  obtain ⟨i, hi⟩ := info_of_underlying Tryd.underlying23
  rw [run_equalIn_array (P := Tryd.prog) w 9999 (t := 44) (e := 23) (n := 2) _ _ Tryd.underlying44 hi]
  rw [show List.range 2 = [0, 1] from rfl, show Tryd.prog.cellsOf 23 = 3 from by kernel_rfl]
  simp only [Op.eqItems]
  go_simp
set_option maxRecDepth 100000 in
theorem e_pne8 {a b c a' b' c' : Int} {t' : TypeId} (h : o.op = .binOp .neq 44 x y t') (hx : ρ x = .agg #[.int .i64 a, .int .i64 b, .int .i64 c, .int .i64 a', .int .i64 b', .int .i64 c']) (hy : ρ y = .agg #[.int .i64 a, .int .i64 b, .int .i64 c, .int .i64 a', .int .i64 b', .int .i64 c']) : (execOp ρ o).run Tryd.prog w = .ok (.value (.bool false)) w := by
  unfold execOp; rw [h]
  simp only [hx, hy]
  have K := run_peq8 (w := w) a b c a' b' c'
  go_simp
set_option maxRecDepth 100000 in
theorem e_pload8 {b : Nat} {i : Nat} {a0 a1 a2 a3 a4 a5 : Int} (h : o.op = .load 44 x) (hx : ρ x = .pointer (some ⟨b, i, none⟩)) (h0 : w.cell? ⟨b, i, none⟩ = some (.int .i64 a0)) (h1 : w.cell? ⟨b, i + 1, none⟩ = some (.int .i64 a1)) (h2 : w.cell? ⟨b, i + 2, none⟩ = some (.int .i64 a2)) (h3 : w.cell? ⟨b, i + 3, none⟩ = some (.int .i64 a3)) (h4 : w.cell? ⟨b, i + 4, none⟩ = some (.int .i64 a4)) (h5 : w.cell? ⟨b, i + 5, none⟩ = some (.int .i64 a5)) : (execOp ρ o).run Tryd.prog w = .ok (.value (.agg #[.int .i64 a0, .int .i64 a1, .int .i64 a2, .int .i64 a3, .int .i64 a4, .int .i64 a5])) w := by
  unfold execOp; rw [h]
  simp only [hx]
  go_simp
set_option maxRecDepth 100000 in
theorem e_pidx8 {b n c k : Nat} (hk : (k : Int) < (n : Int)) (h : o.op = .indexAddr 42 x y) (hx : ρ x = .slice (some ⟨b, 0, none⟩) n c) (hy : ρ y = .int .i64 (k : Int)) : (execOp ρ o).run Tryd.prog w = .ok (.value (.pointer (some ⟨b, k * 6, none⟩))) w := by
  unfold execOp; rw [h]
  simp only [hx, hy]
  have i1 : (0 : Int) ≤ (k : Int) := by omega
  go_simp
/-- The first day of a pair. -/
theorem e_pfst8 {b i : Nat} (h : o.op = .indexAddr 44 x y) (hx : ρ x = .pointer (some ⟨b, i, none⟩)) (hy : ρ y = .int .i64 0) : (execOp ρ o).run Tryd.prog w = .ok (.value (.pointer (some ⟨b, i, none⟩))) w := by
  unfold execOp; rw [h]
  simp only [hx, hy]
  go_simp
theorem e_psnd8 {b i : Nat} (h : o.op = .indexAddr 44 x y) (hx : ρ x = .pointer (some ⟨b, i, none⟩)) (hy : ρ y = .int .i64 1) : (execOp ρ o).run Tryd.prog w = .ok (.value (.pointer (some ⟨b, i + 3, none⟩))) w := by
  unfold execOp; rw [h]
  simp only [hx, hy]
  go_simp
set_option maxRecDepth 100000 in
theorem e_rlen8 {A : Option Addr} {n c : Nat} (h : o.op = .call { callee := .builtin .len, args := #[x], argTypes := #[42] }) (hx : ρ x = .slice A n c) : (execOp ρ o).run Tryd.prog w = .ok (.value (.int .i64 (n : Int))) w := by
  unfold execOp; rw [h]
  simp only [List.map_toArray, List.map_cons, List.map_nil, hx]
  go_simp
set_option maxRecDepth 100000 in
theorem e_rem8 {i k : Int} (hk : i.tmod 7 = k) (h : o.op = .binOp .rem 3 x y 3) (hx : ρ x = .int .i64 i) (hy : ρ y = .int .i64 7) : (execOp ρ o).run Tryd.prog w = .ok (.value (.int .i64 k)) w := by
  unfold execOp; rw [h]
  simp only [hx, hy]
  go_simp
/-- A day in any block. -/
theorem e_pday8 {b i : Nat} {a0 a1 a2 : Int} (h : o.op = .load 23 x) (hx : ρ x = .pointer (some ⟨b, i, none⟩)) (h0 : w.cell? ⟨b, i, none⟩ = some (.int .i64 a0)) (h1 : w.cell? ⟨b, i + 1, none⟩ = some (.int .i64 a1)) (h2 : w.cell? ⟨b, i + 2, none⟩ = some (.int .i64 a2)) : (execOp ρ o).run Tryd.prog w = .ok (.value (.agg #[.int .i64 a0, .int .i64 a1, .int .i64 a2])) w := by
  unfold execOp; rw [h]
  simp only [hx]
  go_simp
end

section
variable {P : Program} {ops : Array Oper} {Q : Exit → Act → World → Prop} {S : World → Prop} {N : Nat} {T : List Row3} {sts sos : List Spot3} (R : Reg ops T sts sos)
include R
/-- An operation that its guard leaves out: nothing else may come up. -/
theorem line_not (c k : Nat) (ex : List Nat) (d : Nat) {gd : Option (Nat × Bool)} {p : Op} {l : List (Nat × Value)} (l' : List (Nat × Value)) {a : Act} {w : World} (hk : T[k]? = some (some d, gd, p)) (hN : d < N) (hcn : c < T.length) (hc : (k, ex, k) ∈ sos) (ha : Fr N a l)
    (hrun : ∀ o : Oper, o.op = p → o.guard = gd → Region.wanted o (yielded ops a.tmps) = false) (hs : ∀ q ∈ l', q ∈ l ∧ q.1 ≠ d) (hS : S w)
    (next : ∀ a, Fr N a ((d, undef) :: l') → Line P ops (NoPanic Q) S (c + 1) (k + 1) ex a w) : Line P ops (NoPanic Q) S c k ex a w := by
  obtain ⟨o, ho, hd, hg, hp⟩ := R.at_ hk
  have hl : T.length = ops.size := by rw [← R.rows]; simp
  have hw := hrun o hp hg
  have hc := R.so hc
  unfold soleB at hc
  have hc := eq_of_beq hc
  have e : ops.size - c = (ops.size - (c + 1)) + 1 := by omega
  unfold Line
  rw [e]
  refine wpAnyH_all hc (by simp) (fun i hi => ?_)
  obtain rfl : i = k := by simpa using hi
  unfold wpOp
  simp only [ho]
  rw [if_neg (by rw [hw]; simp)]
  refine ⟨hS, ?_⟩
  rw [upto_set, hd]
  exact next _ (ha.put hN hs)
end

end Go.Proofs.YtnndamhilbcdfaaDoor
