/-
  What operations over days yield, in a drawn region that is walked in the text's order.
-/
import Derived.Test.YtnndamhilbcdfaaDoorLine
import Derived.Test.YtnndamhilbcdfaaDoorDatK
set_option linter.unusedVariables false
set_option linter.unusedSimpArgs false
set_option linter.unusedVariables false
set_option linter.unusedSimpArgs false
set_option linter.unusedVariables false
set_option linter.unusedSimpArgs false
namespace Go.Proofs.YtnndamhilbcdfaaDoor
open Go.RowKit

/-- These blocks hold these values. -/
def SB8 (bs : List (Nat × Value × Value × Value)) (v : World) : Prop := ∀ q ∈ bs, Bx v q.1 q.2.1 q.2.2.1 q.2.2.2
theorem S8.sb {w0 w : World} {bs : List (Nat × Value × Value × Value)} (h : Hid (S8 w0 w bs)) : SB8 bs w := fun q hq => (h.out.box q hq).1
theorem SB8.at_ {w : World} {bs : List (Nat × Value × Value × Value)} {g : Nat} {x0 x1 x2 : Value} (h : SB8 bs w) (hm : (g, x0, x1, x2) ∈ bs) : Bx w g x0 x1 x2 := h _ hm

section
variable {o : Oper} {ρ : Operand → Value} {x y : Operand} {w : World}
set_option maxRecDepth 100000 in
theorem e_load8 {g : Nat} {x0 x1 x2 : Value} (h : o.op = .load 23 x) (hx : ρ x = .pointer (some ⟨g, 0, none⟩)) (X : Bx w g x0 x1 x2) : (execOp ρ o).run Tryd.prog w = .ok (.value (.agg #[x0, x1, x2])) w := by
  obtain ⟨c0, c1, c2, _, _, _, _⟩ := X
  unfold execOp; rw [h]
  simp only [hx]
  go_simp
set_option maxRecDepth 100000 in
theorem e_field8 (k : Nat) {g : Nat} (hk : k = 0 ∨ k = 1 ∨ k = 2) (h : o.op = .fieldAddr 23 x k) (hx : ρ x = .pointer (some ⟨g, 0, none⟩)) : (execOp ρ o).run Tryd.prog w = .ok (.value (.pointer (some ⟨g, k, none⟩))) w := by
  unfold execOp; rw [h]
  simp only [hx]
  rcases hk with rfl | rfl | rfl <;> go_simp
set_option maxRecDepth 100000 in
theorem e_cell8 {g k : Nat} {v : Value} (h : o.op = .load 3 x) (hx : ρ x = .pointer (some ⟨g, k, none⟩)) (hc : w.cell? ⟨g, k, none⟩ = some v) : (execOp ρ o).run Tryd.prog w = .ok (.value v) w := by
  unfold execOp; rw [h]
  simp only [hx]
  go_simp
set_option maxRecDepth 100000 in
theorem e_not8 {b : Bool} {t : TypeId} (h : o.op = .unOp .not t x) (hx : ρ x = .bool b) : (execOp ρ o).run Tryd.prog w = .ok (.value (.bool !b)) w := by
  unfold execOp; rw [h]
  simp only [hx]
  go_simp
set_option maxRecDepth 100000 in
theorem e_eql8 {i j : Int} {t t' : TypeId} (h : o.op = .binOp .eql t x y t') (hx : ρ x = .int .i64 i) (hy : ρ y = .int .i64 j) : (execOp ρ o).run Tryd.prog w = .ok (.value (.bool (i == j))) w := by
  unfold execOp; rw [h]
  simp only [hx, hy]
  go_simp
set_option maxRecDepth 100000 in
theorem e_neq8 {i j : Int} {t t' : TypeId} (h : o.op = .binOp .neq t x y t') (hx : ρ x = .int .i64 i) (hy : ρ y = .int .i64 j) : (execOp ρ o).run Tryd.prog w = .ok (.value (.bool (i != j))) w := by
  unfold execOp; rw [h]
  simp only [hx, hy]
  go_simp
set_option maxRecDepth 100000 in
theorem e_lss8 {i j : Int} {t t' : TypeId} (h : o.op = .binOp .lss t x y t') (hx : ρ x = .int .i64 i) (hy : ρ y = .int .i64 j) : (execOp ρ o).run Tryd.prog w = .ok (.value (.bool (decide (i < j)))) w := by
  unfold execOp; rw [h]
  simp only [hx, hy]
  go_simp
set_option maxRecDepth 100000 in
theorem e_gtr8 {i j : Int} {t t' : TypeId} (h : o.op = .binOp .gtr t x y t') (hx : ρ x = .int .i64 i) (hy : ρ y = .int .i64 j) : (execOp ρ o).run Tryd.prog w = .ok (.value (.bool (decide (j < i)))) w := by
  unfold execOp; rw [h]
  simp only [hx, hy]
  go_simp
set_option maxRecDepth 100000 in
theorem e_leq8 {i j : Int} {t t' : TypeId} (h : o.op = .binOp .leq t x y t') (hx : ρ x = .int .i64 i) (hy : ρ y = .int .i64 j) : (execOp ρ o).run Tryd.prog w = .ok (.value (.bool (decide (i ≤ j)))) w := by
  unfold execOp; rw [h]
  simp only [hx, hy]
  go_simp
set_option maxRecDepth 100000 in
theorem e_geq8 {i j : Int} {t t' : TypeId} (h : o.op = .binOp .geq t x y t') (hx : ρ x = .int .i64 i) (hy : ρ y = .int .i64 j) : (execOp ρ o).run Tryd.prog w = .ok (.value (.bool (decide (j ≤ i)))) w := by
  unfold execOp; rw [h]
  simp only [hx, hy]
  go_simp
set_option maxRecDepth 100000 in
theorem e_add8 {i j k : Int} (hk : i + j = k) (hb : -9223372036854775808 ≤ k ∧ k ≤ 9223372036854775807) (h : o.op = .binOp .add 3 x y 3) (hx : ρ x = .int .i64 i) (hy : ρ y = .int .i64 j) : (execOp ρ o).run Tryd.prog w = .ok (.value (.int .i64 k)) w := by
  subst hk
  have e : IntKind.i64.wrap (i + j) = i + j := IntWalk.i64_in _ ⟨by omega, by omega⟩
  unfold execOp; rw [h]
  simp only [hx, hy]
  go_simp
set_option maxRecDepth 100000 in
theorem e_sub8 {i j k : Int} (hk : i - j = k) (hb : -9223372036854775808 ≤ k ∧ k ≤ 9223372036854775807) (h : o.op = .binOp .sub 3 x y 3) (hx : ρ x = .int .i64 i) (hy : ρ y = .int .i64 j) : (execOp ρ o).run Tryd.prog w = .ok (.value (.int .i64 k)) w := by
  subst hk
  have e : IntKind.i64.wrap (i - j) = i - j := IntWalk.i64_in _ ⟨by omega, by omega⟩
  unfold execOp; rw [h]
  simp only [hx, hy]
  go_simp
set_option maxRecDepth 100000 in
theorem e_neg8 {i k : Int} (hk : -i = k) (hb : -9223372036854775808 ≤ k ∧ k ≤ 9223372036854775807) (h : o.op = .unOp .neg 3 x) (hx : ρ x = .int .i64 i) : (execOp ρ o).run Tryd.prog w = .ok (.value (.int .i64 k)) w := by
  subst hk
  have e : IntKind.i64.wrap (-i) = -i := IntWalk.i64_in _ ⟨by omega, by omega⟩
  unfold execOp; rw [h]
  simp only [hx]
  go_simp
set_option maxRecDepth 100000 in
theorem e_beq8 {a b : Bool} {t' : TypeId} (h : o.op = .binOp .eql 4 x y t') (hx : ρ x = .bool a) (hy : ρ y = .bool b) : (execOp ρ o).run Tryd.prog w = .ok (.value (.bool (a == b))) w := by
  unfold execOp; rw [h]
  simp only [hx, hy]
  go_simp
set_option maxRecDepth 100000 in
theorem e_seql8 {s t : ByteArray} (h : o.op = .binOp .eql 9 x y 9) (hx : ρ x = .string s) (hy : ρ y = .string t) : (execOp ρ o).run Tryd.prog w = .ok (.value (.bool (s.toList == t.toList))) w := by
  unfold execOp; rw [h]
  simp only [hx, hy]
  go_simp
set_option maxRecDepth 100000 in
/-- Days that are the same. -/
theorem e_deq8 {a b c : Int} {t' : TypeId} (h : o.op = .binOp .eql 23 x y t') (hx : ρ x = .agg #[.int .i64 a, .int .i64 b, .int .i64 c]) (hy : ρ y = .agg #[.int .i64 a, .int .i64 b, .int .i64 c]) : (execOp ρ o).run Tryd.prog w = .ok (.value (.bool true)) w := by
  unfold execOp; rw [h]
  simp only [hx, hy]
  go_simp
set_option maxRecDepth 100000 in
theorem e_dne8 {a b c : Int} {t' : TypeId} (h : o.op = .binOp .neq 23 x y t') (hx : ρ x = .agg #[.int .i64 a, .int .i64 b, .int .i64 c]) (hy : ρ y = .agg #[.int .i64 a, .int .i64 b, .int .i64 c]) : (execOp ρ o).run Tryd.prog w = .ok (.value (.bool false)) w := by
  unfold execOp; rw [h]
  simp only [hx, hy]
  go_simp
set_option maxRecDepth 100000 in
theorem e_dif8 {a b c a' b' c' : Int} {z : Bool} {t' : TypeId} (hz : (a == a' && (b == b' && c == c')) = z) (h : o.op = .binOp .eql 23 x y t') (hx : ρ x = .agg #[.int .i64 a, .int .i64 b, .int .i64 c]) (hy : ρ y = .agg #[.int .i64 a', .int .i64 b', .int .i64 c']) : (execOp ρ o).run Tryd.prog w = .ok (.value (.bool z)) w := by
  subst hz
  unfold execOp; rw [h]
  simp only [hx, hy]
  go_simp
  cases h1 : (a == a') <;> cases h2 : (b == b') <;> cases h3 : (c == c') <;> simp_all
set_option maxRecDepth 100000 in
theorem e_slen8 {s : ByteArray} {k : Nat} (hk : s.size = k) (h : o.op = .call { callee := .builtin .len, args := #[x], argTypes := #[9] }) (hx : ρ x = .string s) : (execOp ρ o).run Tryd.prog w = .ok (.value (.int .i64 (k : Int))) w := by
  subst hk
  unfold execOp; rw [h]
  simp only [List.map_toArray, List.map_cons, List.map_nil, hx]
  go_simp
/-- A function with a body of its own. -/
def okF8 (P : Program) (f : FuncId) : Bool := match P.funcs[f]? with
  | some fn => !(fn.name == "runtime.NumGoroutine") && !fn.body.isNone
  | none => false
theorem run_enter8 {P : Program} {f : FuncId} {args : Array Value} (h : okF8 P f = true) : (callFunc f args).run P w = .ok (.enter f args) w := by
  unfold okF8 at h
  cases hf : P.funcs[f]? with
  | none => rw [hf] at h; cases h
  | some fn =>
    rw [hf] at h
    obtain ⟨h1, h2⟩ := Bool.and_eq_true_iff.1 h
    have h1 : (fn.name == "runtime.NumGoroutine") = false := by simpa using h1
    have h2 : fn.body.isNone = false := by simpa using h2
    unfold callFunc
    simp only [Sem.run_bind, run_program, Result.andThen_ok, hf, h1, h2, Bool.false_eq_true, if_false, ite_false, Sem.run_pure]
set_option maxRecDepth 100000 in
theorem e_call8 {f : FuncId} {xs : Array Operand} {ts : Array TypeId} {args : Array Value} (hk : okF8 Tryd.prog f = true) (h : o.op = .call { callee := .value (.func f), args := xs, argTypes := ts }) (hf : ρ (.func f) = .func (.func f) #[] #[]) (hx : xs.map ρ = args) : (execOp ρ o).run Tryd.prog w = .ok (.enter f args) w := by
  unfold execOp; rw [h]
  simp only [resolve, hf, hx]
  go_simp
  exact run_enter8 hk
end

end Go.Proofs.YtnndamhilbcdfaaDoor
