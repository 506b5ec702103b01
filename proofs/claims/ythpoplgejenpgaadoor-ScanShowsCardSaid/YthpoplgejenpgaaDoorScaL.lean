/-
  What operations yield, in a drawn region that is walked in the text's order: calls, operations that a guard leaves out, indices of texts, comparisons.
-/
import Derived.Test.YthpoplgejenpgaaDoorLine
import Derived.Test.YthpoplgejenpgaaDoorScaT
set_option linter.unusedVariables false
set_option linter.unusedSimpArgs false
namespace Go.Proofs.YthpoplgejenpgaaDoor
open Go.RowKit

theorem Bx2.drew {v : World} {g : Nat} {x0 x1 : Value} (h : Bx2 v g x0 x1) : Bx2 v.drew g x0 x1 := h.on (Below.refl _ _).drew
section
variable {P : Program} {ops : Array Oper} {Q : Exit → Act → World → Prop} {S : World → Prop} {N : Nat} {T : List Row3} {sts sos : List Spot3} (R : Reg ops T sts sos)
include R
/-- An operation that its guard leaves out: nothing else may come up. -/
theorem line_not (c k : Nat) (ex : List Nat) (d : Nat) {gd : Option (Nat × Bool)} {p : Op} {l : List (Nat × Value)} (l' : List (Nat × Value)) {a : Act} {w : World} (hk : T[k]? = some (some d, gd, p)) (hN : d < N) (hcn : c < T.length) (hc : (k, ex, k) ∈ sos) (ha : Fr N a l)
    (hrun : ∀ o : Oper, o.op = p → o.guard = gd → Region.wanted o (yielded ops a.tmps) = false) (hs : ∀ q ∈ l', q ∈ l ∧ q.1 ≠ d) (hS : S w)
    (next : ∀ a, Fr N a ((d, undef) :: l') → Line P ops (NoPanic Q) S (c + 1) (k + 1) ex a w) : Line P ops (NoPanic Q) S c k ex a w := by
  obtain ⟨o, ho, hd, hg, hp⟩ := R.at_ hk
  have hl : T.length = ops.size := by rw [← R.rows]; simp
  have hw := hrun o hp hg
  have hc := R.so hc
  unfold soleB at hc
  have hc := eq_of_beq hc
  have e : ops.size - c = (ops.size - (c + 1)) + 1 := by omega
  unfold Line
  rw [e]
  refine wpAnyH_all hc (by simp) (fun i hi => ?_)
  obtain rfl : i = k := by simpa using hi
  unfold wpOp
  simp only [ho]
  rw [if_neg (by rw [hw]; simp)]
  refine ⟨hS, ?_⟩
  rw [upto_set, hd]
  exact next _ (ha.put hN hs)
end
section
variable {o : Oper} {ρ : Operand → Value} {x y : Operand} {w : World}
/-- A function with a body of its own. -/
def okF8 (P : Program) (f : FuncId) : Bool := match P.funcs[f]? with
  | some fn => !(fn.name == "runtime.NumGoroutine") && !fn.body.isNone
  | none => false
theorem run_enter8 {P : Program} {f : FuncId} {args : Array Value} (h : okF8 P f = true) : (callFunc f args).run P w = .ok (.enter f args) w := by
  unfold okF8 at h
  cases hf : P.funcs[f]? with
  | none => rw [hf] at h; cases h
  | some fn =>
    rw [hf] at h
    obtain ⟨h1, h2⟩ := Bool.and_eq_true_iff.1 h
    have h1 : (fn.name == "runtime.NumGoroutine") = false := by simpa using h1
    have h2 : fn.body.isNone = false := by simpa using h2
    unfold callFunc
    simp only [Sem.run_bind, run_program, Result.andThen_ok, hf, h1, h2, Bool.false_eq_true, if_false, ite_false, Sem.run_pure]
set_option maxRecDepth 100000 in
theorem e_call8 {f : FuncId} {xs : Array Operand} {ts : Array TypeId} {args : Array Value} (hk : okF8 Tryd.prog f = true) (h : o.op = .call { callee := .value (.func f), args := xs, argTypes := ts }) (hf : ρ (.func f) = .func (.func f) #[] #[]) (hx : xs.map ρ = args) : (execOp ρ o).run Tryd.prog w = .ok (.enter f args) w := by
  unfold execOp; rw [h]
  simp only [resolve, hf, hx]
  go_simp
  exact run_enter8 hk
set_option maxRecDepth 100000 in
theorem e_fieldP {g k : Nat} (h : o.op = .fieldAddr 23 x k) (hk : k = 0 ∨ k = 1) (hx : ρ x = .pointer (some ⟨g, 0, none⟩)) : (execOp ρ o).run Tryd.prog w = .ok (.value (.pointer (some ⟨g, k, none⟩))) w := by
  unfold execOp; rw [h]
  simp only [hx]
  rcases hk with rfl | rfl <;> go_simp
set_option maxRecDepth 100000 in
theorem e_cellI {g k : Nat} {v : Value} (h : o.op = .load 3 x) (hx : ρ x = .pointer (some ⟨g, k, none⟩)) (hc : w.cell? ⟨g, k, none⟩ = some v) : (execOp ρ o).run Tryd.prog w = .ok (.value v) w := by
  unfold execOp; rw [h]
  simp only [hx]
  go_simp
set_option maxRecDepth 100000 in
theorem e_gtrI {i j : Int} {b : Bool} {t t' : TypeId} (hb : decide (j < i) = b) (h : o.op = .binOp .gtr t x y t') (hx : ρ x = .int .i64 i) (hy : ρ y = .int .i64 j) : (execOp ρ o).run Tryd.prog w = .ok (.value (.bool b)) w := by
  subst hb
  unfold execOp; rw [h]
  simp only [hx, hy]
  go_simp
set_option maxRecDepth 100000 in
theorem e_eqU {i j : Int} {b : Bool} {t t' : TypeId} (hb : (i == j) = b) (h : o.op = .binOp .eql t x y t') (hx : ρ x = .int .u8 i) (hy : ρ y = .int .u8 j) : (execOp ρ o).run Tryd.prog w = .ok (.value (.bool b)) w := by
  subst hb
  unfold execOp; rw [h]
  simp only [hx, hy]
  go_simp
set_option maxRecDepth 100000 in
theorem e_subI {i j k : Int} (hk : i - j = k) (hb : -9223372036854775808 ≤ k ∧ k ≤ 9223372036854775807) (h : o.op = .binOp .sub 3 x y 3) (hx : ρ x = .int .i64 i) (hy : ρ y = .int .i64 j) : (execOp ρ o).run Tryd.prog w = .ok (.value (.int .i64 k)) w := by
  subst hk
  have e : IntKind.i64.wrap (i - j) = i - j := IntWalk.i64_in _ ⟨by omega, by omega⟩
  unfold execOp; rw [h]
  simp only [hx, hy]
  go_simp
set_option maxRecDepth 100000 in
theorem e_slenS {s : ByteArray} (h : o.op = .call { callee := .builtin .len, args := #[x], argTypes := #[9] }) (hx : ρ x = .string s) : (execOp ρ o).run Tryd.prog w = .ok (.value (.int .i64 (s.size : Int))) w := by
  unfold execOp; rw [h]
  simp only [List.map_toArray, List.map_cons, List.map_nil, hx]
  go_simp
set_option maxRecDepth 100000 in
theorem e_idxS {s : ByteArray} {i n : Nat} (hi : i < s.size) (hn : (s[i]'hi).toNat = n) (h : o.op = .index 9 x y) (hx : ρ x = .string s) (hy : ρ y = .int .i64 (i : Int)) : (execOp ρ o).run Tryd.prog w = .ok (.value (.int .u8 (n : Int))) w := by
  subst hn
  have h1 : (0 : Int) ≤ (i : Int) := by omega
  have h2 : (i : Int) < (s.size : Int) := by omega
  have h3 : ((i : Int)).toNat = i := rfl
  unfold execOp; rw [h]
  simp only [hx, hy]
  go_simp
end

end Go.Proofs.YthpoplgejenpgaaDoor
