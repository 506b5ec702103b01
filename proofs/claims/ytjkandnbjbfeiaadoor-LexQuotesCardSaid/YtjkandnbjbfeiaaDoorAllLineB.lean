/- What the proofs of this layer need of the layer Lin, in one text. -/
import Derived.Test.YtjkandnbjbfeiaaDoorAllLineA
import Derived.Test.YtjkandnbjbfeiaaDoorAllDecB
set_option linter.unusedVariables false
set_option linter.unusedSimpArgs false

/-
  What operations over decimals yield.
-/
namespace Go.Proofs.YtjkandnbjbfeiaaDoor.Num
open Go.RowKit

/-- These blocks hold these values. -/
def SB (bs : List (Nat × Value × Value × Value)) (v : World) : Prop := ∀ q ∈ bs, Box v q.1 q.2.1 q.2.2.1 q.2.2.2
theorem St.sb {w0 w : World} {l : List (Option Addr × Nat × Nat × Nat)} {bs : List (Nat × Value × Value × Value)} (h : Hid (St w0 w l bs)) : SB bs w := fun q hq => (h.out.box q hq).1
theorem SB.at_ {w : World} {bs : List (Nat × Value × Value × Value)} {g : Nat} {x0 x1 x2 : Value} (h : SB bs w) (hm : (g, x0, x1, x2) ∈ bs) : Box w g x0 x1 x2 := h _ hm

section
variable {o : Oper} {ρ : Operand → Value} {x y : Operand} {w : World}
set_option maxRecDepth 100000 in
theorem e_load {g : Nat} {x0 x1 x2 : Value} (h : o.op = .load 67 x) (hx : ρ x = .pointer (some ⟨g, 0, none⟩)) (X : Box w g x0 x1 x2) : (execOp ρ o).run Tryd.prog w = .ok (.value (.agg #[x0, x1, x2])) w := by
  obtain ⟨c0, c1, c2, _, _, _, _⟩ := X
  unfold execOp; rw [h]
  simp only [hx]
  go_simp
set_option maxRecDepth 100000 in
theorem e_field (k : Nat) {g : Nat} (hk : k = 0 ∨ k = 1 ∨ k = 2) (h : o.op = .fieldAddr 67 x k) (hx : ρ x = .pointer (some ⟨g, 0, none⟩)) : (execOp ρ o).run Tryd.prog w = .ok (.value (.pointer (some ⟨g, k, none⟩))) w := by
  unfold execOp; rw [h]
  simp only [hx]
  rcases hk with rfl | rfl | rfl <;> go_simp
set_option maxRecDepth 100000 in
theorem e_cell {ty : TypeId} {g k : Nat} {v : Value} (ht : ty = 3 ∨ ty = 4 ∨ ty = 65) (h : o.op = .load ty x) (hx : ρ x = .pointer (some ⟨g, k, none⟩)) (hc : w.cell? ⟨g, k, none⟩ = some v) : (execOp ρ o).run Tryd.prog w = .ok (.value v) w := by
  unfold execOp; rw [h]
  simp only [hx]
  rcases ht with rfl | rfl | rfl <;> go_simp
set_option maxRecDepth 100000 in
theorem e_not {b : Bool} {t : TypeId} (h : o.op = .unOp .not t x) (hx : ρ x = .bool b) : (execOp ρ o).run Tryd.prog w = .ok (.value (.bool !b)) w := by
  unfold execOp; rw [h]
  simp only [hx]
  go_simp
set_option maxRecDepth 100000 in
theorem e_eql {i j : Int} {t t' : TypeId} (h : o.op = .binOp .eql t x y t') (hx : ρ x = .int .i64 i) (hy : ρ y = .int .i64 j) : (execOp ρ o).run Tryd.prog w = .ok (.value (.bool (i == j))) w := by
  unfold execOp; rw [h]
  simp only [hx, hy]
  go_simp
/-- A function with a body of its own. -/
def okF (P : Program) (f : FuncId) : Bool := match P.funcs[f]? with
  | some fn => !(fn.name == "runtime.NumGoroutine") && !fn.body.isNone
  | none => false
theorem run_enter {P : Program} {f : FuncId} {args : Array Value} (h : okF P f = true) : (callFunc f args).run P w = .ok (.enter f args) w := by
  unfold okF at h
  cases hf : P.funcs[f]? with
  | none => rw [hf] at h; cases h
  | some fn =>
    rw [hf] at h
    obtain ⟨h1, h2⟩ := Bool.and_eq_true_iff.1 h
    have h1 : (fn.name == "runtime.NumGoroutine") = false := by simpa using h1
    have h2 : fn.body.isNone = false := by simpa using h2
    unfold callFunc
    simp only [Sem.run_bind, run_program, Result.andThen_ok, hf, h1, h2, Bool.false_eq_true, if_false, ite_false, Sem.run_pure]
set_option maxRecDepth 100000 in
theorem e_call {f : FuncId} {xs : Array Operand} {ts : Array TypeId} {args : Array Value} (hk : okF Tryd.prog f = true) (h : o.op = .call { callee := .value (.func f), args := xs, argTypes := ts }) (hf : ρ (.func f) = .func (.func f) #[] #[]) (hx : xs.map ρ = args) : (execOp ρ o).run Tryd.prog w = .ok (.enter f args) w := by
  unfold execOp; rw [h]
  simp only [resolve, hf, hx]
  go_simp
  exact run_enter hk
end

end Go.Proofs.YtjkandnbjbfeiaaDoor.Num

/-
  What comparisons of integers yield.
-/
namespace Go.Proofs.YtjkandnbjbfeiaaDoor.Num
open Go.RowKit

section
variable {o : Oper} {ρ : Operand → Value} {x y : Operand} {w : World}
set_option maxRecDepth 100000 in
theorem e_neq {i j : Int} {t t' : TypeId} (h : o.op = .binOp .neq t x y t') (hx : ρ x = .int .i64 i) (hy : ρ y = .int .i64 j) : (execOp ρ o).run Tryd.prog w = .ok (.value (.bool (i != j))) w := by
  unfold execOp; rw [h]
  simp only [hx, hy]
  go_simp
set_option maxRecDepth 100000 in
theorem e_leq {i j : Int} {t t' : TypeId} (h : o.op = .binOp .leq t x y t') (hx : ρ x = .int .i64 i) (hy : ρ y = .int .i64 j) : (execOp ρ o).run Tryd.prog w = .ok (.value (.bool (decide (i ≤ j)))) w := by
  unfold execOp; rw [h]
  simp only [hx, hy]
  go_simp
set_option maxRecDepth 100000 in
theorem e_lss {i j : Int} {t t' : TypeId} (h : o.op = .binOp .lss t x y t') (hx : ρ x = .int .i64 i) (hy : ρ y = .int .i64 j) : (execOp ρ o).run Tryd.prog w = .ok (.value (.bool (decide (i < j)))) w := by
  unfold execOp; rw [h]
  simp only [hx, hy]
  go_simp
set_option maxRecDepth 100000 in
theorem e_gtr {i j : Int} {t t' : TypeId} (h : o.op = .binOp .gtr t x y t') (hx : ρ x = .int .i64 i) (hy : ρ y = .int .i64 j) : (execOp ρ o).run Tryd.prog w = .ok (.value (.bool (decide (j < i)))) w := by
  unfold execOp; rw [h]
  simp only [hx, hy]
  go_simp
set_option maxRecDepth 100000 in
theorem e_geq {i j : Int} {t t' : TypeId} (h : o.op = .binOp .geq t x y t') (hx : ρ x = .int .i64 i) (hy : ρ y = .int .i64 j) : (execOp ρ o).run Tryd.prog w = .ok (.value (.bool (decide (j ≤ i)))) w := by
  unfold execOp; rw [h]
  simp only [hx, hy]
  go_simp
set_option maxRecDepth 100000 in
theorem e_neg {i : Int} (h : o.op = .unOp .neg 3 x) (hx : ρ x = .int .i64 i) : (execOp ρ o).run Tryd.prog w = .ok (.value (.int .i64 (IntKind.i64.wrap (-i)))) w := by
  unfold execOp; rw [h]
  simp only [hx]
  go_simp
end

section
variable {P : Program} {ops : Array Oper} {Q : Exit → Act → World → Prop} {S : World → Prop} {N : Nat} {T : List Row3} {sts sos : List Spot3} (R : Reg ops T sts sos)
include R
/-- An operation that its guard leaves out: nothing else may come up. -/
theorem line_not (c k : Nat) (ex : List Nat) (d : Nat) {gd : Option (Nat × Bool)} {p : Op} {l : List (Nat × Value)} (l' : List (Nat × Value)) {a : Act} {w : World} (hk : T[k]? = some (some d, gd, p)) (hN : d < N) (hcn : c < T.length) (hc : (k, ex, k) ∈ sos) (ha : Fr N a l)
    (hrun : ∀ o : Oper, o.op = p → o.guard = gd → Region.wanted o (yielded ops a.tmps) = false) (hs : ∀ q ∈ l', q ∈ l ∧ q.1 ≠ d) (hS : S w)
    (next : ∀ a, Fr N a ((d, undef) :: l') → Line P ops (NoPanic Q) S (c + 1) (k + 1) ex a w) : Line P ops (NoPanic Q) S c k ex a w := by
  obtain ⟨o, ho, hd, hg, hp⟩ := R.at_ hk
  have hl : T.length = ops.size := by rw [← R.rows]; simp
  have hw := hrun o hp hg
  have hc := R.so hc
  unfold soleB at hc
  have hc := eq_of_beq hc
  have e : ops.size - c = (ops.size - (c + 1)) + 1 := by omega
  unfold Line
  rw [e]
  refine wpAnyH_all hc (by simp) (fun i hi => ?_)
  obtain rfl : i = k := by simpa using hi
  unfold wpOp
  simp only [ho]
  rw [if_neg (by rw [hw]; simp)]
  refine ⟨hS, ?_⟩
  rw [upto_set, hd]
  exact next _ (ha.put hN hs)
end

end Go.Proofs.YtjkandnbjbfeiaaDoor.Num
