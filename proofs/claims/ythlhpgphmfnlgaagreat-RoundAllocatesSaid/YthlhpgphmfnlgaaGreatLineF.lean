/-
 A drawn region of which several operations may come up next: each of them is taken in turn; and a cut behind a region.
-/
import Derived.Test.YthlhpgphmfnlgaaGreatLineE
set_option maxRecDepth 100000
set_option maxHeartbeats 32000000
set_option linter.unusedVariables false
set_option linter.unusedSimpArgs false
namespace Go.Proofs.YthlhpgphmfnlgaaGreat
open Go.RowKit
theorem wp_cut {P : Program} {c : Code} {Q : Exit → Act → World → Prop} (R : Act → World → Prop) {a : Act} {w : World} (h : c.wp P (fun e a w => e = .normal ∧ R a w) a w) (k : ∀ a w, R a w → Q .normal a w) : c.wp P Q a w :=
 Code.wp_mono (fun e a w h => by obtain ⟨rfl, h⟩ := h; exact k _ _ h) h
theorem Fr.sub {N : Nat} {a : Act} {l l' : List (Nat × Value)} (h : Fr N a l) (hs : ∀ q ∈ l', q ∈ l) : Fr N a l' := ⟨h.1, h.2.1, fun q hq => h.2.2 q (hs q hq)⟩
theorem St.sbOf {w0 w : World} {l : List (Option Addr × Nat × Nat × Nat)} {bs bs' : List (Nat × Value × Value × Value)} (h : Hid (St w0 w l bs)) (hs : ∀ q ∈ bs', q ∈ bs) : SB bs' w := fun q hq => (h.out.box q (hs q hq)).1
abbrev Spot4 := Nat × List Nat × List Nat
def readyB (ops : Array Oper) (q : Spot4) : Bool := Region.ready .any ops (upto ops.size q.1 q.2.1) == q.2.2
theorem all_parts4 {f : Spot4 → Bool} {l m : List Spot4} (h : l.all f = true) (h' : ∀ k ∈ m, f k = true) : ∀ k ∈ l ++ m, f k = true := fun k hk => by
 rcases List.mem_append.1 hk with hk | hk
 · exact List.all_eq_true.1 h k hk
 · exact h' k hk
theorem upto_all {n : Nat} {ex : List Nat} (h : ∀ i, i < n → i ∈ ex) : upto n 0 ex = upto n n [] := by
 apply Array.ext
 · simp [upto]
 · intro i h1 h2
   simp [upto] at h1 ⊢
   simp [h i h1, h1]
section
variable {P : Program} {ops : Array Oper} {Q : Exit → Act → World → Prop} {S : World → Prop} {N : Nat}
def Turn (P : Program) (ops : Array Oper) (Q : Exit → Act → World → Prop) (S : World → Prop) (c k : Nat) (ex : List Nat) (j : Nat) (a : Act) (w : World) : Prop :=
 wpOp P ops Q j (fun a' w' => S w' ∧ wpAnyH P .any ops Q S (ops.size - (c + 1)) ((upto ops.size k ex).setIfInBounds j true) a' w') a w
variable {T : List Row3} {sts sos : List Spot3} (R : Reg ops T sts sos)
include R
theorem line_all (c k : Nat) (ex js : List Nat) {a : Act} {w : World} (hcn : c < T.length) (hc : readyB ops (k, ex, js) = true) (hne : js ≠ []) (h : ∀ j ∈ js, Turn P ops (NoPanic Q) S c k ex j a w) : Line P ops (NoPanic Q) S c k ex a w := by
 have hl : T.length = ops.size := by rw [← R.rows]; simp
 unfold readyB at hc
 have hc := eq_of_beq hc
 have e : ops.size - c = (ops.size - (c + 1)) + 1 := by omega
 unfold Line
 rw [e]
 exact wpAnyH_all hc hne h
theorem turn_call (c k : Nat) (ex : List Nat) (j d : Nat) {f : FuncId} {args : Array Value} {gd : Option (Nat × Bool)} {p : Op} {l : List (Nat × Value)} (l' : List (Nat × Value)) {a : Act} {w : World} (hj : T[j]? = some (some d, gd, p)) (hN : d < N) (ha : Fr N a l)
   (hrun : ∀ o : Oper, o.op = p → o.guard = gd → Region.wanted o (yielded ops a.tmps) = true ∧ (execOp a.eval o).run P w = .ok (.enter f args) w) (hs : ∀ q ∈ l', q ∈ l ∧ q.1 ≠ d)
   (hcall : Calls P f args w fun e w' => ∃ u, e = .returned u ∧ S w' ∧ ∀ a, Fr N a ((d, u) :: l') → Line P ops (NoPanic Q) S (c + 1) k (j :: ex) a w') : Turn P ops (NoPanic Q) S c k ex j a w := by
 obtain ⟨o, ho, hd, hg, hp⟩ := R.at_ hj
 obtain ⟨hw, hrun⟩ := hrun o hp hg
 unfold Turn wpOp
 simp only [ho]
 rw [if_pos hw]
 left
 unfold Oper.wp
 rw [hrun]
 show Calls P f args w _
 refine Calls.mono hcall fun e w' h => ?_
 obtain ⟨u, rfl, hS, hn⟩ := h
 show S w' ∧ _
 refine ⟨hS, ?_⟩
 rw [upto_more, hd]
 exact hn _ (ha.put hN hs)
theorem turn_op (c k : Nat) (ex : List Nat) (j d : Nat) {v : Value} {gd : Option (Nat × Bool)} {p : Op} {l : List (Nat × Value)} (l' : List (Nat × Value)) {a : Act} {w w' : World} (hj : T[j]? = some (some d, gd, p)) (hN : d < N) (ha : Fr N a l)
   (hrun : ∀ o : Oper, o.op = p → o.guard = gd → Region.wanted o (yielded ops a.tmps) = true ∧ (execOp a.eval o).run P w = .ok (.value v) w') (hs : ∀ q ∈ l', q ∈ l ∧ q.1 ≠ d) (hS : S w')
   (next : ∀ a, Fr N a ((d, v) :: l') → Line P ops (NoPanic Q) S (c + 1) k (j :: ex) a w') : Turn P ops (NoPanic Q) S c k ex j a w := by
 obtain ⟨o, ho, hd, hg, hp⟩ := R.at_ hj
 obtain ⟨hw, hrun⟩ := hrun o hp hg
 unfold Turn wpOp
 simp only [ho]
 rw [if_pos hw]
 left
 unfold Oper.wp
 rw [hrun]
 show S w' ∧ _
 refine ⟨hS, ?_⟩
 rw [upto_more, hd]
 exact next _ (ha.put hN hs)
theorem turn_store (c k : Nat) (ex : List Nat) (j : Nat) {gd : Option (Nat × Bool)} {p : Op} {l : List (Nat × Value)} {a : Act} {w w' : World} (hj : T[j]? = some (none, gd, p)) (ha : Fr N a l)
   (hrun : ∀ o : Oper, o.op = p → o.guard = gd → Region.wanted o (yielded ops a.tmps) = true ∧ (execOp a.eval o).run P w = .ok .skip w') (hS : S w')
   (next : ∀ a, Fr N a l → Line P ops (NoPanic Q) S (c + 1) k (j :: ex) a w') : Turn P ops (NoPanic Q) S c k ex j a w := by
 obtain ⟨o, ho, hd, hg, hp⟩ := R.at_ hj
 obtain ⟨hw, hrun⟩ := hrun o hp hg
 unfold Turn wpOp
 simp only [ho]
 rw [if_pos hw]
 left
 unfold Oper.wp
 rw [hrun]
 show S w' ∧ _
 refine ⟨hS, ?_⟩
 rw [upto_more, hd]
 exact next _ ha
theorem line_end0 {c : Nat} {ex : List Nat} {a : Act} {w : World} (hk : ∀ i, i < T.length → i ∈ ex) (h : Q .normal a w) : Line P ops (NoPanic Q) S c 0 ex a w := by
 have e : T.length = ops.size := by rw [← R.rows]; simp
 unfold Line
 rw [upto_all (by rw [← e]; exact hk)]
 exact wpAnyH_done R.done (show NoPanic Q .normal a w from h) _
end
section
variable {o : Oper} {ρ : Operand → Value} {x y : Operand} {w : World}
theorem e_alloc (h : o.op = .alloc 25) : (execOp ρ o).run Tryz.prog w = .ok (.value (.pointer (some ⟨w.heap.size, 0, none⟩))) (w.alloc (.cells #[.bool false, .slice none 0 0, .int .i64 0] 25)) := by
 unfold execOp; rw [h]
 go_simp
theorem e_extract {vs : Array Value} {k : Nat} {v : Value} (h : o.op = .extract x k) (hx : ρ x = .tuple vs) (hk : vs[k]? = some v) : (execOp ρ o).run Tryz.prog w = .ok (.value v) w := by
 unfold execOp; rw [h]
 simp only [hx]
 go_simp
theorem e_store {g : Nat} {x0 x1 x2 : Value} {b : Bool} {A : Option Addr} {n c : Nat} {i : Int} (h : o.op = .store 25 x y) (hx : ρ x = .pointer (some ⟨g, 0, none⟩)) (hy : ρ y = .agg #[.bool b, .slice A n c, .int .i64 i]) (X : Box w g x0 x1 x2) : (execOp ρ o).run Tryz.prog w = .ok .skip (put3 w g (.bool b) (.slice A n c) (.int .i64 i)) := by
 obtain ⟨c0, c1, c2, f0, f1, f2, lt⟩ := X
 unfold execOp; rw [h]
 simp only [hx, hy]
 unfold put3
 go_simp
end
end Go.Proofs.YthlhpgphmfnlgaaGreat
