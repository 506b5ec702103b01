/-
 What operations over decimals yield.
-/
import Derived.Test.YthlhpgphmfnlgaaGreatLine
import Derived.Test.YthlhpgphmfnlgaaGreatAllDecB
set_option maxRecDepth 100000
set_option maxHeartbeats 32000000
set_option linter.unusedVariables false
set_option linter.unusedSimpArgs false
namespace Go.Proofs.YthlhpgphmfnlgaaGreat
open Go.RowKit
def SB (bs : List (Nat × Value × Value × Value)) (v : World) : Prop := ∀ q ∈ bs, Box v q.1 q.2.1 q.2.2.1 q.2.2.2
theorem St.sb {w0 w : World} {l : List (Option Addr × Nat × Nat × Nat)} {bs : List (Nat × Value × Value × Value)} (h : Hid (St w0 w l bs)) : SB bs w := fun q hq => (h.out.box q hq).1
theorem SB.at_ {w : World} {bs : List (Nat × Value × Value × Value)} {g : Nat} {x0 x1 x2 : Value} (h : SB bs w) (hm : (g, x0, x1, x2) ∈ bs) : Box w g x0 x1 x2 := h _ hm
section
variable {o : Oper} {ρ : Operand → Value} {x y : Operand} {w : World}
theorem e_load {g : Nat} {x0 x1 x2 : Value} (h : o.op = .load 25 x) (hx : ρ x = .pointer (some ⟨g, 0, none⟩)) (X : Box w g x0 x1 x2) : (execOp ρ o).run Tryz.prog w = .ok (.value (.agg #[x0, x1, x2])) w := by
 obtain ⟨c0, c1, c2, _, _, _, _⟩ := X
 unfold execOp; rw [h]
 simp only [hx]
 go_simp
theorem e_not {b : Bool} {t : TypeId} (h : o.op = .unOp .not t x) (hx : ρ x = .bool b) : (execOp ρ o).run Tryz.prog w = .ok (.value (.bool !b)) w := by
 unfold execOp; rw [h]
 simp only [hx]
 go_simp
theorem e_eql {i j : Int} {t t' : TypeId} (h : o.op = .binOp .eql t x y t') (hx : ρ x = .int .i64 i) (hy : ρ y = .int .i64 j) : (execOp ρ o).run Tryz.prog w = .ok (.value (.bool (i == j))) w := by
 unfold execOp; rw [h]
 simp only [hx, hy]
 go_simp
def okF (P : Program) (f : FuncId) : Bool := match P.funcs[f]? with
 | some fn => !(fn.name == "runtime.NumGoroutine") && !fn.body.isNone
 | none => false
theorem run_enter {P : Program} {f : FuncId} {args : Array Value} (h : okF P f = true) : (callFunc f args).run P w = .ok (.enter f args) w := by
 unfold okF at h
 cases hf : P.funcs[f]? with
 | none => rw [hf] at h; cases h
 | some fn =>
   rw [hf] at h
   obtain ⟨h1, h2⟩ := Bool.and_eq_true_iff.1 h
   have h1 : (fn.name == "runtime.NumGoroutine") = false := by simpa using h1
   have h2 : fn.body.isNone = false := by simpa using h2
   unfold callFunc
   simp only [Sem.run_bind, run_program, Result.andThen_ok, hf, h1, h2, Bool.false_eq_true, if_false, ite_false, Sem.run_pure]
theorem e_call {f : FuncId} {xs : Array Operand} {ts : Array TypeId} {args : Array Value} (hk : okF Tryz.prog f = true) (h : o.op = .call { callee := .value (.func f), args := xs, argTypes := ts }) (hf : ρ (.func f) = .func (.func f) #[] #[]) (hx : xs.map ρ = args) : (execOp ρ o).run Tryz.prog w = .ok (.enter f args) w := by
 unfold execOp; rw [h]
 simp only [resolve, hf, hx]
 go_simp
 exact run_enter hk
end
end Go.Proofs.YthlhpgphmfnlgaaGreat
