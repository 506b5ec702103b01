/-
  Contracts of layer 6, the seventh part, what it needs: the document's Quantize.
-/
import Derived.Test.YtcnjbmjgambgeaaRouF
import Derived.Test.YtcnjbmjgambgeaaRouU
import Derived.Test.YtcnjbmjgambgeaaLineF
import Derived.Deep.Cut
set_option linter.unusedVariables false
set_option linter.unusedSimpArgs false
namespace Go.Proofs.Ytcnjbmjgambgeaa
open Go.RowKit

theorem Fr.list {N : Nat} {a : Act} {l : List (Nat × Value)} (h : Fr N a l) : ∃ us : Nat → Value, a = ⟨((List.range N).map us).toArray, []⟩ ∧ ∀ q ∈ l, us q.1 = q.2 := by
  obtain ⟨h1, h2, h3⟩ := h
  refine ⟨fun i => a.tmps.getD i undef, ?_, fun q hq => ?_⟩
  · obtain ⟨t, ds⟩ := a
    simp only at h1 h2
    subst h2
    congr 1
    apply Array.ext
    · simp [h1]
    · intro i hi _
      simp [Array.getD_eq_getD_getElem?, Array.getElem?_eq_getElem hi]
  · simp only
    rw [Array.getD_eq_getD_getElem?, h3 q hq]; rfl
section
variable {P : Program} {ops : Array Oper} {Q : Exit → Act → World → Prop} {S : World → Prop} {N : Nat} {T : List Row3} {sts sos : List Spot3} (R : Reg ops T sts sos)
include R
theorem line_ahead0 (c k : Nat) (ex : List Nat) (j d : Nat) (v : Value) {gd : Option (Nat × Bool)} {p : Op} {l : List (Nat × Value)} {a : Act} {w : World} (hk : T[j]? = some (some d, gd, p)) (hN : d < N) (hcn : c < T.length) (hc : (k, ex, j) ∈ sts) (ha : Fr N a l)
    (hy : ∀ o : Oper, o.op = p → o.guard = gd → YieldsIf P ops S o v a) (hs : ∀ q ∈ l, q.1 ≠ d) (hS : S w)
    (next : ∀ a, Fr N a ((d, v) :: l) → Line P ops (NoPanic Q) S (c + 1) k (j :: ex) a w) : Line P ops (NoPanic Q) S c k ex a w :=
  line_ahead R c k ex j d v l hk hN hcn hc ha hy (fun q hq => ⟨hq, hs q hq⟩) hS next
theorem turn_call0 (c k : Nat) (ex : List Nat) (j d : Nat) {f : FuncId} {args : Array Value} {gd : Option (Nat × Bool)} {p : Op} {l : List (Nat × Value)} {a : Act} {w : World} (hj : T[j]? = some (some d, gd, p)) (hN : d < N) (ha : Fr N a l)
    (hrun : ∀ o : Oper, o.op = p → o.guard = gd → Region.wanted o (yielded ops a.tmps) = true ∧ (execOp a.eval o).run P w = .ok (.enter f args) w) (hs : ∀ q ∈ l, q.1 ≠ d)
    (hcall : Calls P f args w fun e w' => ∃ u, e = .returned u ∧ S w' ∧ ∀ a, Fr N a ((d, u) :: l) → Line P ops (NoPanic Q) S (c + 1) k (j :: ex) a w') : Turn P ops (NoPanic Q) S c k ex j a w :=
  turn_call R c k ex j d l hj hN ha hrun (fun q hq => ⟨hq, hs q hq⟩) hcall
theorem turn_op0 (c k : Nat) (ex : List Nat) (j d : Nat) {v : Value} {gd : Option (Nat × Bool)} {p : Op} {l : List (Nat × Value)} {a : Act} {w w' : World} (hj : T[j]? = some (some d, gd, p)) (hN : d < N) (ha : Fr N a l)
    (hrun : ∀ o : Oper, o.op = p → o.guard = gd → Region.wanted o (yielded ops a.tmps) = true ∧ (execOp a.eval o).run P w = .ok (.value v) w') (hs : ∀ q ∈ l, q.1 ≠ d) (hS : S w')
    (next : ∀ a, Fr N a ((d, v) :: l) → Line P ops (NoPanic Q) S (c + 1) k (j :: ex) a w') : Turn P ops (NoPanic Q) S c k ex j a w :=
  turn_op R c k ex j d l hj hN ha hrun (fun q hq => ⟨hq, hs q hq⟩) hS next
end
/-- What the document cuts off at the scale S. -/
def refC (i : Int) (s S : Nat) : Nat := if s ≤ S then i.natAbs * 10 ^ (S - s) else i.natAbs / 10 ^ (s - S)
theorem refq_pick (i : Int) (s S : Nat) (zc : Int) (hz : cmpD (((subZ i s (sgn (ngB i) (refC i s S)) S).natAbs : Nat) : Int) (max s S) (((subZ (sgn (ngB i) (refC i s S + 1)) S i s).natAbs : Nat) : Int) (max S s) = zc) :
    (0 < zc ∨ zc = 0 ∧ (refC i s S + 1) % 2 = 0 → quantZ i s S = sgn (ngB i) (refC i s S + 1)) ∧ (zc < 0 ∨ zc = 0 ∧ (refC i s S + 1) % 2 ≠ 0 → quantZ i s S = sgn (ngB i) (refC i s S)) := by
  have e1 := sgn_ng i
  rw [Nat.max_comm S s, cmpD_at (M := max s S) (Nat.le_refl _) (Nat.le_refl _), up_same, up_same] at hz
  unfold subZ at hz
  rw [Nat.max_comm S s] at hz
  rcases Nat.le_total s S with hs | hs
  · have hm : max s S = S := by omega
    have hC : refC i s S = i.natAbs * 10 ^ (S - s) := by unfold refC; rw [if_pos hs]
    have hu : up i s S = sgn (ngB i) (refC i s S) := by rw [hC]; exact (sgn_up i s S).symm
    have e : quantZ i s S = sgn (ngB i) (refC i s S) := by
      unfold quantZ
      rw [hC, show i.natAbs * 10 ^ S = i.natAbs * 10 ^ (S - s) * 10 ^ s by rw [Nat.mul_assoc, ← Nat.pow_add]; congr 2; omega, near_exact _ (ten_pos s)]
    rw [hm, up_same, up_same, hu, abs_sub_sgn, abs_sub_sgn] at hz
    have hz1 : zc = -1 := by rw [← hz]; exact cmpZ_lt (by omega)
    exact ⟨fun h => by omega, fun _ => e⟩
  · have hm : max s S = s := by omega
    rw [hm, up_same] at hz
    have hq : quantZ i s S = sgn (ngB i) (nearN i.natAbs (10 ^ (s - S))) := by
      unfold quantZ
      rw [show 10 ^ s = 10 ^ (s - S) * 10 ^ S by rw [← Nat.pow_add]; congr 1; omega, near_scale (ten_pos _) (ten_pos _)]
    rw [hq]
    have hC : refC i s S = i.natAbs / 10 ^ (s - S) := by
      unfold refC
      by_cases h0 : s ≤ S
      · rw [if_pos h0]
        have : s = S := by omega
        subst this; simp
      · rw [if_neg h0]
    have h1 := Nat.div_add_mod i.natAbs (10 ^ (s - S))
    have h2 := Nat.mod_lt i.natAbs (ten_pos (s - S))
    unfold up at hz
    rw [sgn_times, sgn_times] at hz
    have e2 : (i - sgn (ngB i) (refC i s S * 10 ^ (s - S))).natAbs = ((i.natAbs : Int) - ((refC i s S * 10 ^ (s - S) : Nat) : Int)).natAbs := by
      rw [← abs_sub_sgn (ngB i), e1]
    have e3 : (sgn (ngB i) ((refC i s S + 1) * 10 ^ (s - S)) - i).natAbs = ((((refC i s S + 1) * 10 ^ (s - S) : Nat) : Int) - (i.natAbs : Int)).natAbs := by
      rw [← abs_sub_sgn (ngB i), e1]
    rw [e2, e3] at hz
    rw [hC] at hz ⊢
    unfold nearN
    generalize 10 ^ (s - S) = D at *
    generalize i.natAbs % D = r at *
    have h3 : i.natAbs = i.natAbs / D * D + r := by rw [Nat.mul_comm]; omega
    have h4 : (i.natAbs / D + 1) * D = i.natAbs / D * D + D := Nat.succ_mul _ _
    rw [h4] at hz
    generalize i.natAbs / D = q at *
    generalize q * D = Z at *
    rcases cmpZ_cases ((((i.natAbs : Int) - ((Z : Nat) : Int)).natAbs : Nat) : Int) (((((Z + D : Nat) : Int) - (i.natAbs : Int)).natAbs : Nat) : Int) with hc | hc | hc
    · refine ⟨fun h => by omega, fun _ => ?_⟩
      rw [if_neg (by omega), if_neg (by omega)]
    · constructor
      · intro h; rw [if_neg (by omega), if_pos (by omega)]
      · intro h; rw [if_neg (by omega), if_neg (by omega)]
    · refine ⟨fun _ => ?_, fun h => by omega⟩
      rw [if_pos (by omega)]

section
variable {A A' : Option Addr} {n c n' c' s t M : Nat} {i j x : Int} {w : World} {b1 b2 : Bool}
theorem sub_len5 {K : Nat} (hi : (dg i.natAbs).length ≤ K) (hj : (dg j.natAbs).length ≤ K) : (dg (subZ i s j t).natAbs).length ≤ K + max s t + 3 := by
  unfold subZ
  have h1 := up_len (i := i) (s := s) (M := max s t) rfl
  have h2 := up_len (i := j) (s := t) (M := max s t) rfl
  generalize up i s (max s t) = x at *
  generalize up j t (max s t) = y at *
  have h3 : (x - y).natAbs ≤ x.natAbs + y.natAbs := by omega
  have h4 := dg_len_mono h3
  have h5 := dg_len_add x.natAbs y.natAbs
  omega
theorem refsub_isB (e1 : b1 = ngB i) (e2 : b2 = ngB j) (h : Num w w.heap.size A n c i.natAbs) (h' : Num w w.heap.size A' n' c' j.natAbs) (hn : n ≤ 1000000) (hn' : n' ≤ 1000000) (hs : s ≤ 100000) (ht : t ≤ 100000) (hM : max s t = M) (hx : subZ i s j t = x) : Calls Try.prog 45 #[.agg #[.bool b1, .slice A n c, .int .i64 (s : Int)], .agg #[.bool b2, .slice A' n' c', .int .i64 (t : Int)]] w (RetDec w x M) := by
  subst e1; subst e2; exact refsub_is5 h h' hn hn' hs ht hM hx
end
section
variable {o : Oper} {ρ : Operand → Value} {x y : Operand} {w : World}
set_option maxRecDepth 100000 in
theorem e_len {A : Option Addr} {n c : Nat} (h : o.op = .call { callee := .builtin .len, args := #[x], argTypes := #[23] }) (hx : ρ x = .slice A n c) : (execOp ρ o).run Try.prog w = .ok (.value (.int .i64 (n : Int))) w := by
  unfold execOp; rw [h]
  simp only [resolve, List.map_toArray, List.map_cons, List.map_nil, hx]
  go_simp
set_option maxRecDepth 100000 in
theorem e_build {z : Operand} {b : Bool} {A : Option Addr} {n c : Nat} {i : Int} (h : o.op = .build 25 #[(0, x), (1, y), (2, z)]) (hx : ρ x = .bool b) (hy : ρ y = .slice A n c) (hz : ρ z = .int .i64 i) : (execOp ρ o).run Try.prog w = .ok (.value (.agg #[.bool b, .slice A n c, .int .i64 i])) w := by
  unfold execOp; rw [h]
  simp only [List.map_toArray, List.map_cons, List.map_nil, hx, hy, hz]
  go_simp
end

def rq7nT : List Row3 := [(some 41, none, .fieldAddr 25 (.tmp 2) 0), (some 42, none, .load 4 (.tmp 41)), (some 43, none, .move (.tmp 42)), (some 44, some (2, true), .move (.tmp 5)), (some 45, some (2, true), .call { callee := .builtin .len, args := #[.tmp 44], argTypes := #[23] }), (some 46, some (2, true), .binOp .gtr 3 (.tmp 45) (.const (.int .i64 0)) 3), (some 47, none, .pick (.tmp 43) (.tmp 46) (.const (.bool false))), (some 48, none, .move (.tmp 5)), (some 49, none, .move (.tmp 1)), (some 50, none, .build 25 #[(0, .tmp 47), (1, .tmp 48), (2, .tmp 49)]), (some 51, none, .fieldAddr 25 (.tmp 2) 0), (some 52, none, .load 4 (.tmp 51)), (some 53, none, .move (.tmp 6)), (some 54, none, .move (.tmp 1)), (some 55, none, .build 25 #[(0, .tmp 52), (1, .tmp 53), (2, .tmp 54)]), (some 7, none, .alloc 25), (some 8, none, .alloc 25), (none, none, .store 25 (.tmp 7) (.tmp 50)), (none, none, .store 25 (.tmp 8) (.tmp 55))]
set_option maxRecDepth 100000 in
theorem rq7nRow : (opsAt Try.prog 13 7).toList.map row3 = rq7nT := by kernel_rfl
theorem rq7nSel : Region.noSelect (opsAt Try.prog 13 7) = true := by kernel_rfl
theorem rq7nDone : Region.ready .any (opsAt Try.prog 13 7) (upto (opsAt Try.prog 13 7).size (opsAt Try.prog 13 7).size []) = [] := by kernel_rfl
theorem rq7nstill0 : [(0, [], 0), (0, [0], 1), (0, [1, 0], 2), (0, [2, 1, 0], 3), (0, [3, 2, 1, 0], 4), (0, [4, 3, 2, 1, 0], 5), (0, [5, 4, 3, 2, 1, 0], 6), (0, [6, 5, 4, 3, 2, 1, 0], 7), (0, [7, 6, 5, 4, 3, 2, 1, 0], 8), (0, [8, 7, 6, 5, 4, 3, 2, 1, 0], 9)].all (stillB (opsAt Try.prog 13 7)) = true := by kernel_rfl
theorem rq7nstill1 : [(0, [9, 8, 7, 6, 5, 4, 3, 2, 1, 0], 10), (0, [10, 9, 8, 7, 6, 5, 4, 3, 2, 1, 0], 11), (0, [11, 10, 9, 8, 7, 6, 5, 4, 3, 2, 1, 0], 12), (0, [12, 11, 10, 9, 8, 7, 6, 5, 4, 3, 2, 1, 0], 13), (0, [13, 12, 11, 10, 9, 8, 7, 6, 5, 4, 3, 2, 1, 0], 14)].all (stillB (opsAt Try.prog 13 7)) = true := by kernel_rfl
theorem rq7nready0 : [(0, [14, 13, 12, 11, 10, 9, 8, 7, 6, 5, 4, 3, 2, 1, 0], [15, 16]), (0, [15, 14, 13, 12, 11, 10, 9, 8, 7, 6, 5, 4, 3, 2, 1, 0], [16]), (0, [16, 15, 14, 13, 12, 11, 10, 9, 8, 7, 6, 5, 4, 3, 2, 1, 0], [17]), (0, [17, 16, 15, 14, 13, 12, 11, 10, 9, 8, 7, 6, 5, 4, 3, 2, 1, 0], [18]), (0, [16, 14, 13, 12, 11, 10, 9, 8, 7, 6, 5, 4, 3, 2, 1, 0], [15]), (0, [15, 16, 14, 13, 12, 11, 10, 9, 8, 7, 6, 5, 4, 3, 2, 1, 0], [17]), (0, [17, 15, 16, 14, 13, 12, 11, 10, 9, 8, 7, 6, 5, 4, 3, 2, 1, 0], [18])].all (readyB (opsAt Try.prog 13 7)) = true := by kernel_rfl
theorem rq7nR : Reg (opsAt Try.prog 13 7) rq7nT [(0, [], 0), (0, [0], 1), (0, [1, 0], 2), (0, [2, 1, 0], 3), (0, [3, 2, 1, 0], 4), (0, [4, 3, 2, 1, 0], 5), (0, [5, 4, 3, 2, 1, 0], 6), (0, [6, 5, 4, 3, 2, 1, 0], 7), (0, [7, 6, 5, 4, 3, 2, 1, 0], 8), (0, [8, 7, 6, 5, 4, 3, 2, 1, 0], 9), (0, [9, 8, 7, 6, 5, 4, 3, 2, 1, 0], 10), (0, [10, 9, 8, 7, 6, 5, 4, 3, 2, 1, 0], 11), (0, [11, 10, 9, 8, 7, 6, 5, 4, 3, 2, 1, 0], 12), (0, [12, 11, 10, 9, 8, 7, 6, 5, 4, 3, 2, 1, 0], 13), (0, [13, 12, 11, 10, 9, 8, 7, 6, 5, 4, 3, 2, 1, 0], 14)] [] := ⟨rq7nRow, rq7nSel, (all_parts rq7nstill0 (all_parts rq7nstill1 (fun k h => by cases h))), (fun k h => by cases h), rq7nDone⟩
theorem rq7nB : ∀ q ∈ ([(0, [14, 13, 12, 11, 10, 9, 8, 7, 6, 5, 4, 3, 2, 1, 0], [15, 16]), (0, [15, 14, 13, 12, 11, 10, 9, 8, 7, 6, 5, 4, 3, 2, 1, 0], [16]), (0, [16, 15, 14, 13, 12, 11, 10, 9, 8, 7, 6, 5, 4, 3, 2, 1, 0], [17]), (0, [17, 16, 15, 14, 13, 12, 11, 10, 9, 8, 7, 6, 5, 4, 3, 2, 1, 0], [18]), (0, [16, 14, 13, 12, 11, 10, 9, 8, 7, 6, 5, 4, 3, 2, 1, 0], [15]), (0, [15, 16, 14, 13, 12, 11, 10, 9, 8, 7, 6, 5, 4, 3, 2, 1, 0], [17]), (0, [17, 15, 16, 14, 13, 12, 11, 10, 9, 8, 7, 6, 5, 4, 3, 2, 1, 0], [18])] : List Spot4), readyB (opsAt Try.prog 13 7) q = true := (all_parts4 rq7nready0 (fun k h => by cases h))

def rq7pT : List Row3 := [(some 41, none, .fieldAddr 25 (.tmp 2) 0), (some 42, none, .load 4 (.tmp 41)), (some 43, none, .move (.tmp 42)), (some 44, some (2, true), .move (.tmp 5)), (some 45, some (2, true), .call { callee := .builtin .len, args := #[.tmp 44], argTypes := #[23] }), (some 46, some (2, true), .binOp .gtr 3 (.tmp 45) (.const (.int .i64 0)) 3), (some 47, none, .pick (.tmp 43) (.tmp 46) (.const (.bool false))), (some 48, none, .move (.tmp 5)), (some 49, none, .move (.tmp 1)), (some 50, none, .build 25 #[(0, .tmp 47), (1, .tmp 48), (2, .tmp 49)]), (some 51, none, .fieldAddr 25 (.tmp 2) 0), (some 52, none, .load 4 (.tmp 51)), (some 53, none, .move (.tmp 6)), (some 54, none, .move (.tmp 1)), (some 55, none, .build 25 #[(0, .tmp 52), (1, .tmp 53), (2, .tmp 54)]), (some 7, none, .alloc 25), (some 8, none, .alloc 25), (none, none, .store 25 (.tmp 7) (.tmp 50)), (none, none, .store 25 (.tmp 8) (.tmp 55))]
set_option maxRecDepth 100000 in
theorem rq7pRow : (opsAt Try.prog 13 7).toList.map row3 = rq7pT := by kernel_rfl
theorem rq7pSel : Region.noSelect (opsAt Try.prog 13 7) = true := by kernel_rfl
theorem rq7pDone : Region.ready .any (opsAt Try.prog 13 7) (upto (opsAt Try.prog 13 7).size (opsAt Try.prog 13 7).size []) = [] := by kernel_rfl
theorem rq7pstill0 : [(0, [], 0), (0, [0], 1), (0, [1, 0], 2), (0, [2, 1, 0], 3), (0, [3, 2, 1, 0], 4), (0, [4, 3, 2, 1, 0], 5), (0, [5, 4, 3, 2, 1, 0], 6), (0, [6, 5, 4, 3, 2, 1, 0], 7), (0, [7, 6, 5, 4, 3, 2, 1, 0], 8), (0, [8, 7, 6, 5, 4, 3, 2, 1, 0], 9)].all (stillB (opsAt Try.prog 13 7)) = true := by kernel_rfl
theorem rq7pstill1 : [(0, [9, 8, 7, 6, 5, 4, 3, 2, 1, 0], 10), (0, [10, 9, 8, 7, 6, 5, 4, 3, 2, 1, 0], 11), (0, [11, 10, 9, 8, 7, 6, 5, 4, 3, 2, 1, 0], 12), (0, [12, 11, 10, 9, 8, 7, 6, 5, 4, 3, 2, 1, 0], 13), (0, [13, 12, 11, 10, 9, 8, 7, 6, 5, 4, 3, 2, 1, 0], 14)].all (stillB (opsAt Try.prog 13 7)) = true := by kernel_rfl
theorem rq7pready0 : [(0, [14, 13, 12, 11, 10, 9, 8, 7, 6, 5, 4, 3, 2, 1, 0], [15, 16]), (0, [15, 14, 13, 12, 11, 10, 9, 8, 7, 6, 5, 4, 3, 2, 1, 0], [16]), (0, [16, 15, 14, 13, 12, 11, 10, 9, 8, 7, 6, 5, 4, 3, 2, 1, 0], [17]), (0, [17, 16, 15, 14, 13, 12, 11, 10, 9, 8, 7, 6, 5, 4, 3, 2, 1, 0], [18]), (0, [16, 14, 13, 12, 11, 10, 9, 8, 7, 6, 5, 4, 3, 2, 1, 0], [15]), (0, [15, 16, 14, 13, 12, 11, 10, 9, 8, 7, 6, 5, 4, 3, 2, 1, 0], [17]), (0, [17, 15, 16, 14, 13, 12, 11, 10, 9, 8, 7, 6, 5, 4, 3, 2, 1, 0], [18])].all (readyB (opsAt Try.prog 13 7)) = true := by kernel_rfl
theorem rq7pR : Reg (opsAt Try.prog 13 7) rq7pT [(0, [], 0), (0, [0], 1), (0, [1, 0], 2), (0, [2, 1, 0], 3), (0, [3, 2, 1, 0], 4), (0, [4, 3, 2, 1, 0], 5), (0, [5, 4, 3, 2, 1, 0], 6), (0, [6, 5, 4, 3, 2, 1, 0], 7), (0, [7, 6, 5, 4, 3, 2, 1, 0], 8), (0, [8, 7, 6, 5, 4, 3, 2, 1, 0], 9), (0, [9, 8, 7, 6, 5, 4, 3, 2, 1, 0], 10), (0, [10, 9, 8, 7, 6, 5, 4, 3, 2, 1, 0], 11), (0, [11, 10, 9, 8, 7, 6, 5, 4, 3, 2, 1, 0], 12), (0, [12, 11, 10, 9, 8, 7, 6, 5, 4, 3, 2, 1, 0], 13), (0, [13, 12, 11, 10, 9, 8, 7, 6, 5, 4, 3, 2, 1, 0], 14)] [] := ⟨rq7pRow, rq7pSel, (all_parts rq7pstill0 (all_parts rq7pstill1 (fun k h => by cases h))), (fun k h => by cases h), rq7pDone⟩
theorem rq7pB : ∀ q ∈ ([(0, [14, 13, 12, 11, 10, 9, 8, 7, 6, 5, 4, 3, 2, 1, 0], [15, 16]), (0, [15, 14, 13, 12, 11, 10, 9, 8, 7, 6, 5, 4, 3, 2, 1, 0], [16]), (0, [16, 15, 14, 13, 12, 11, 10, 9, 8, 7, 6, 5, 4, 3, 2, 1, 0], [17]), (0, [17, 16, 15, 14, 13, 12, 11, 10, 9, 8, 7, 6, 5, 4, 3, 2, 1, 0], [18]), (0, [16, 14, 13, 12, 11, 10, 9, 8, 7, 6, 5, 4, 3, 2, 1, 0], [15]), (0, [15, 16, 14, 13, 12, 11, 10, 9, 8, 7, 6, 5, 4, 3, 2, 1, 0], [17]), (0, [17, 15, 16, 14, 13, 12, 11, 10, 9, 8, 7, 6, 5, 4, 3, 2, 1, 0], [18])] : List Spot4), readyB (opsAt Try.prog 13 7) q = true := (all_parts4 rq7pready0 (fun k h => by cases h))

def rq8T : List Row3 := [(some 56, none, .load 25 (.tmp 2)), (some 57, none, .load 25 (.tmp 7)), (some 58, none, .call { callee := .value (.func 45), args := #[.tmp 56, .tmp 57], argTypes := #[25, 25] }), (some 59, none, .call { callee := .value (.func 44), args := #[.tmp 58], argTypes := #[25] }), (some 60, none, .load 25 (.tmp 8)), (some 61, none, .load 25 (.tmp 2)), (some 62, none, .call { callee := .value (.func 45), args := #[.tmp 60, .tmp 61], argTypes := #[25, 25] }), (some 63, none, .call { callee := .value (.func 44), args := #[.tmp 62], argTypes := #[25] }), (some 9, none, .alloc 25), (some 10, none, .alloc 25), (none, none, .store 25 (.tmp 9) (.tmp 59)), (none, none, .store 25 (.tmp 10) (.tmp 63))]
set_option maxRecDepth 100000 in
theorem rq8Row : (opsAt Try.prog 13 8).toList.map row3 = rq8T := by kernel_rfl
theorem rq8Sel : Region.noSelect (opsAt Try.prog 13 8) = true := by kernel_rfl
theorem rq8Done : Region.ready .any (opsAt Try.prog 13 8) (upto (opsAt Try.prog 13 8).size (opsAt Try.prog 13 8).size []) = [] := by kernel_rfl
theorem rq8still0 : [(0, [], 0), (0, [0], 1), (0, [1, 0], 4), (0, [4, 1, 0], 5)].all (stillB (opsAt Try.prog 13 8)) = true := by kernel_rfl
theorem rq8ready0 : [(0, [5, 4, 1, 0], [2, 8, 9]), (0, [2, 5, 4, 1, 0], [3, 8, 9]), (0, [3, 2, 5, 4, 1, 0], [6, 8, 9]), (0, [6, 3, 2, 5, 4, 1, 0], [7, 8, 9]), (0, [7, 6, 3, 2, 5, 4, 1, 0], [8, 9]), (0, [8, 7, 6, 3, 2, 5, 4, 1, 0], [9]), (0, [9, 8, 7, 6, 3, 2, 5, 4, 1, 0], [10]), (0, [10, 9, 8, 7, 6, 3, 2, 5, 4, 1, 0], [11]), (0, [9, 7, 6, 3, 2, 5, 4, 1, 0], [8]), (0, [8, 9, 7, 6, 3, 2, 5, 4, 1, 0], [10])].all (readyB (opsAt Try.prog 13 8)) = true := by kernel_rfl
theorem rq8ready1 : [(0, [10, 8, 9, 7, 6, 3, 2, 5, 4, 1, 0], [11]), (0, [8, 6, 3, 2, 5, 4, 1, 0], [7, 9]), (0, [7, 8, 6, 3, 2, 5, 4, 1, 0], [9]), (0, [9, 7, 8, 6, 3, 2, 5, 4, 1, 0], [10]), (0, [10, 9, 7, 8, 6, 3, 2, 5, 4, 1, 0], [11]), (0, [9, 8, 6, 3, 2, 5, 4, 1, 0], [7]), (0, [7, 9, 8, 6, 3, 2, 5, 4, 1, 0], [10]), (0, [10, 7, 9, 8, 6, 3, 2, 5, 4, 1, 0], [11]), (0, [9, 6, 3, 2, 5, 4, 1, 0], [7, 8]), (0, [7, 9, 6, 3, 2, 5, 4, 1, 0], [8])].all (readyB (opsAt Try.prog 13 8)) = true := by kernel_rfl
theorem rq8ready2 : [(0, [8, 7, 9, 6, 3, 2, 5, 4, 1, 0], [10]), (0, [10, 8, 7, 9, 6, 3, 2, 5, 4, 1, 0], [11]), (0, [8, 9, 6, 3, 2, 5, 4, 1, 0], [7]), (0, [7, 8, 9, 6, 3, 2, 5, 4, 1, 0], [10]), (0, [10, 7, 8, 9, 6, 3, 2, 5, 4, 1, 0], [11]), (0, [8, 3, 2, 5, 4, 1, 0], [6, 9]), (0, [6, 8, 3, 2, 5, 4, 1, 0], [7, 9]), (0, [7, 6, 8, 3, 2, 5, 4, 1, 0], [9]), (0, [9, 7, 6, 8, 3, 2, 5, 4, 1, 0], [10]), (0, [10, 9, 7, 6, 8, 3, 2, 5, 4, 1, 0], [11])].all (readyB (opsAt Try.prog 13 8)) = true := by kernel_rfl
theorem rq8ready3 : [(0, [9, 6, 8, 3, 2, 5, 4, 1, 0], [7]), (0, [7, 9, 6, 8, 3, 2, 5, 4, 1, 0], [10]), (0, [10, 7, 9, 6, 8, 3, 2, 5, 4, 1, 0], [11]), (0, [9, 8, 3, 2, 5, 4, 1, 0], [6]), (0, [6, 9, 8, 3, 2, 5, 4, 1, 0], [7]), (0, [7, 6, 9, 8, 3, 2, 5, 4, 1, 0], [10]), (0, [10, 7, 6, 9, 8, 3, 2, 5, 4, 1, 0], [11]), (0, [9, 3, 2, 5, 4, 1, 0], [6, 8]), (0, [6, 9, 3, 2, 5, 4, 1, 0], [7, 8]), (0, [7, 6, 9, 3, 2, 5, 4, 1, 0], [8])].all (readyB (opsAt Try.prog 13 8)) = true := by kernel_rfl
theorem rq8ready4 : [(0, [8, 7, 6, 9, 3, 2, 5, 4, 1, 0], [10]), (0, [10, 8, 7, 6, 9, 3, 2, 5, 4, 1, 0], [11]), (0, [8, 6, 9, 3, 2, 5, 4, 1, 0], [7]), (0, [7, 8, 6, 9, 3, 2, 5, 4, 1, 0], [10]), (0, [10, 7, 8, 6, 9, 3, 2, 5, 4, 1, 0], [11]), (0, [8, 9, 3, 2, 5, 4, 1, 0], [6]), (0, [6, 8, 9, 3, 2, 5, 4, 1, 0], [7]), (0, [7, 6, 8, 9, 3, 2, 5, 4, 1, 0], [10]), (0, [10, 7, 6, 8, 9, 3, 2, 5, 4, 1, 0], [11]), (0, [8, 2, 5, 4, 1, 0], [3, 9])].all (readyB (opsAt Try.prog 13 8)) = true := by kernel_rfl
theorem rq8ready5 : [(0, [3, 8, 2, 5, 4, 1, 0], [6, 9]), (0, [6, 3, 8, 2, 5, 4, 1, 0], [7, 9]), (0, [7, 6, 3, 8, 2, 5, 4, 1, 0], [9]), (0, [9, 7, 6, 3, 8, 2, 5, 4, 1, 0], [10]), (0, [10, 9, 7, 6, 3, 8, 2, 5, 4, 1, 0], [11]), (0, [9, 6, 3, 8, 2, 5, 4, 1, 0], [7]), (0, [7, 9, 6, 3, 8, 2, 5, 4, 1, 0], [10]), (0, [10, 7, 9, 6, 3, 8, 2, 5, 4, 1, 0], [11]), (0, [9, 3, 8, 2, 5, 4, 1, 0], [6]), (0, [6, 9, 3, 8, 2, 5, 4, 1, 0], [7])].all (readyB (opsAt Try.prog 13 8)) = true := by kernel_rfl
theorem rq8ready6 : [(0, [7, 6, 9, 3, 8, 2, 5, 4, 1, 0], [10]), (0, [10, 7, 6, 9, 3, 8, 2, 5, 4, 1, 0], [11]), (0, [9, 8, 2, 5, 4, 1, 0], [3]), (0, [3, 9, 8, 2, 5, 4, 1, 0], [6]), (0, [6, 3, 9, 8, 2, 5, 4, 1, 0], [7]), (0, [7, 6, 3, 9, 8, 2, 5, 4, 1, 0], [10]), (0, [10, 7, 6, 3, 9, 8, 2, 5, 4, 1, 0], [11]), (0, [9, 2, 5, 4, 1, 0], [3, 8]), (0, [3, 9, 2, 5, 4, 1, 0], [6, 8]), (0, [6, 3, 9, 2, 5, 4, 1, 0], [7, 8])].all (readyB (opsAt Try.prog 13 8)) = true := by kernel_rfl
theorem rq8ready7 : [(0, [7, 6, 3, 9, 2, 5, 4, 1, 0], [8]), (0, [8, 7, 6, 3, 9, 2, 5, 4, 1, 0], [10]), (0, [10, 8, 7, 6, 3, 9, 2, 5, 4, 1, 0], [11]), (0, [8, 6, 3, 9, 2, 5, 4, 1, 0], [7]), (0, [7, 8, 6, 3, 9, 2, 5, 4, 1, 0], [10]), (0, [10, 7, 8, 6, 3, 9, 2, 5, 4, 1, 0], [11]), (0, [8, 3, 9, 2, 5, 4, 1, 0], [6]), (0, [6, 8, 3, 9, 2, 5, 4, 1, 0], [7]), (0, [7, 6, 8, 3, 9, 2, 5, 4, 1, 0], [10]), (0, [10, 7, 6, 8, 3, 9, 2, 5, 4, 1, 0], [11])].all (readyB (opsAt Try.prog 13 8)) = true := by kernel_rfl
theorem rq8ready8 : [(0, [8, 9, 2, 5, 4, 1, 0], [3]), (0, [3, 8, 9, 2, 5, 4, 1, 0], [6]), (0, [6, 3, 8, 9, 2, 5, 4, 1, 0], [7]), (0, [7, 6, 3, 8, 9, 2, 5, 4, 1, 0], [10]), (0, [10, 7, 6, 3, 8, 9, 2, 5, 4, 1, 0], [11]), (0, [8, 5, 4, 1, 0], [2, 9]), (0, [2, 8, 5, 4, 1, 0], [3, 9]), (0, [3, 2, 8, 5, 4, 1, 0], [6, 9]), (0, [6, 3, 2, 8, 5, 4, 1, 0], [7, 9]), (0, [7, 6, 3, 2, 8, 5, 4, 1, 0], [9])].all (readyB (opsAt Try.prog 13 8)) = true := by kernel_rfl
theorem rq8ready9 : [(0, [9, 7, 6, 3, 2, 8, 5, 4, 1, 0], [10]), (0, [10, 9, 7, 6, 3, 2, 8, 5, 4, 1, 0], [11]), (0, [9, 6, 3, 2, 8, 5, 4, 1, 0], [7]), (0, [7, 9, 6, 3, 2, 8, 5, 4, 1, 0], [10]), (0, [10, 7, 9, 6, 3, 2, 8, 5, 4, 1, 0], [11]), (0, [9, 3, 2, 8, 5, 4, 1, 0], [6]), (0, [6, 9, 3, 2, 8, 5, 4, 1, 0], [7]), (0, [7, 6, 9, 3, 2, 8, 5, 4, 1, 0], [10]), (0, [10, 7, 6, 9, 3, 2, 8, 5, 4, 1, 0], [11]), (0, [9, 2, 8, 5, 4, 1, 0], [3])].all (readyB (opsAt Try.prog 13 8)) = true := by kernel_rfl
theorem rq8ready10 : [(0, [3, 9, 2, 8, 5, 4, 1, 0], [6]), (0, [6, 3, 9, 2, 8, 5, 4, 1, 0], [7]), (0, [7, 6, 3, 9, 2, 8, 5, 4, 1, 0], [10]), (0, [10, 7, 6, 3, 9, 2, 8, 5, 4, 1, 0], [11]), (0, [9, 8, 5, 4, 1, 0], [2]), (0, [2, 9, 8, 5, 4, 1, 0], [3]), (0, [3, 2, 9, 8, 5, 4, 1, 0], [6]), (0, [6, 3, 2, 9, 8, 5, 4, 1, 0], [7]), (0, [7, 6, 3, 2, 9, 8, 5, 4, 1, 0], [10]), (0, [10, 7, 6, 3, 2, 9, 8, 5, 4, 1, 0], [11])].all (readyB (opsAt Try.prog 13 8)) = true := by kernel_rfl
theorem rq8ready11 : [(0, [9, 5, 4, 1, 0], [2, 8]), (0, [2, 9, 5, 4, 1, 0], [3, 8]), (0, [3, 2, 9, 5, 4, 1, 0], [6, 8]), (0, [6, 3, 2, 9, 5, 4, 1, 0], [7, 8]), (0, [7, 6, 3, 2, 9, 5, 4, 1, 0], [8]), (0, [8, 7, 6, 3, 2, 9, 5, 4, 1, 0], [10]), (0, [10, 8, 7, 6, 3, 2, 9, 5, 4, 1, 0], [11]), (0, [8, 6, 3, 2, 9, 5, 4, 1, 0], [7]), (0, [7, 8, 6, 3, 2, 9, 5, 4, 1, 0], [10]), (0, [10, 7, 8, 6, 3, 2, 9, 5, 4, 1, 0], [11])].all (readyB (opsAt Try.prog 13 8)) = true := by kernel_rfl
theorem rq8ready12 : [(0, [8, 3, 2, 9, 5, 4, 1, 0], [6]), (0, [6, 8, 3, 2, 9, 5, 4, 1, 0], [7]), (0, [7, 6, 8, 3, 2, 9, 5, 4, 1, 0], [10]), (0, [10, 7, 6, 8, 3, 2, 9, 5, 4, 1, 0], [11]), (0, [8, 2, 9, 5, 4, 1, 0], [3]), (0, [3, 8, 2, 9, 5, 4, 1, 0], [6]), (0, [6, 3, 8, 2, 9, 5, 4, 1, 0], [7]), (0, [7, 6, 3, 8, 2, 9, 5, 4, 1, 0], [10]), (0, [10, 7, 6, 3, 8, 2, 9, 5, 4, 1, 0], [11]), (0, [8, 9, 5, 4, 1, 0], [2])].all (readyB (opsAt Try.prog 13 8)) = true := by kernel_rfl
theorem rq8ready13 : [(0, [2, 8, 9, 5, 4, 1, 0], [3]), (0, [3, 2, 8, 9, 5, 4, 1, 0], [6]), (0, [6, 3, 2, 8, 9, 5, 4, 1, 0], [7]), (0, [7, 6, 3, 2, 8, 9, 5, 4, 1, 0], [10]), (0, [10, 7, 6, 3, 2, 8, 9, 5, 4, 1, 0], [11])].all (readyB (opsAt Try.prog 13 8)) = true := by kernel_rfl
theorem rq8R : Reg (opsAt Try.prog 13 8) rq8T [(0, [], 0), (0, [0], 1), (0, [1, 0], 4), (0, [4, 1, 0], 5)] [] := ⟨rq8Row, rq8Sel, (all_parts rq8still0 (fun k h => by cases h)), (fun k h => by cases h), rq8Done⟩
theorem rq8B : ∀ q ∈ ([(0, [5, 4, 1, 0], [2, 8, 9]), (0, [2, 5, 4, 1, 0], [3, 8, 9]), (0, [3, 2, 5, 4, 1, 0], [6, 8, 9]), (0, [6, 3, 2, 5, 4, 1, 0], [7, 8, 9]), (0, [7, 6, 3, 2, 5, 4, 1, 0], [8, 9]), (0, [8, 7, 6, 3, 2, 5, 4, 1, 0], [9]), (0, [9, 8, 7, 6, 3, 2, 5, 4, 1, 0], [10]), (0, [10, 9, 8, 7, 6, 3, 2, 5, 4, 1, 0], [11]), (0, [9, 7, 6, 3, 2, 5, 4, 1, 0], [8]), (0, [8, 9, 7, 6, 3, 2, 5, 4, 1, 0], [10]), (0, [10, 8, 9, 7, 6, 3, 2, 5, 4, 1, 0], [11]), (0, [8, 6, 3, 2, 5, 4, 1, 0], [7, 9]), (0, [7, 8, 6, 3, 2, 5, 4, 1, 0], [9]), (0, [9, 7, 8, 6, 3, 2, 5, 4, 1, 0], [10]), (0, [10, 9, 7, 8, 6, 3, 2, 5, 4, 1, 0], [11]), (0, [9, 8, 6, 3, 2, 5, 4, 1, 0], [7]), (0, [7, 9, 8, 6, 3, 2, 5, 4, 1, 0], [10]), (0, [10, 7, 9, 8, 6, 3, 2, 5, 4, 1, 0], [11]), (0, [9, 6, 3, 2, 5, 4, 1, 0], [7, 8]), (0, [7, 9, 6, 3, 2, 5, 4, 1, 0], [8]), (0, [8, 7, 9, 6, 3, 2, 5, 4, 1, 0], [10]), (0, [10, 8, 7, 9, 6, 3, 2, 5, 4, 1, 0], [11]), (0, [8, 9, 6, 3, 2, 5, 4, 1, 0], [7]), (0, [7, 8, 9, 6, 3, 2, 5, 4, 1, 0], [10]), (0, [10, 7, 8, 9, 6, 3, 2, 5, 4, 1, 0], [11]), (0, [8, 3, 2, 5, 4, 1, 0], [6, 9]), (0, [6, 8, 3, 2, 5, 4, 1, 0], [7, 9]), (0, [7, 6, 8, 3, 2, 5, 4, 1, 0], [9]), (0, [9, 7, 6, 8, 3, 2, 5, 4, 1, 0], [10]), (0, [10, 9, 7, 6, 8, 3, 2, 5, 4, 1, 0], [11]), (0, [9, 6, 8, 3, 2, 5, 4, 1, 0], [7]), (0, [7, 9, 6, 8, 3, 2, 5, 4, 1, 0], [10]), (0, [10, 7, 9, 6, 8, 3, 2, 5, 4, 1, 0], [11]), (0, [9, 8, 3, 2, 5, 4, 1, 0], [6]), (0, [6, 9, 8, 3, 2, 5, 4, 1, 0], [7]), (0, [7, 6, 9, 8, 3, 2, 5, 4, 1, 0], [10]), (0, [10, 7, 6, 9, 8, 3, 2, 5, 4, 1, 0], [11]), (0, [9, 3, 2, 5, 4, 1, 0], [6, 8]), (0, [6, 9, 3, 2, 5, 4, 1, 0], [7, 8]), (0, [7, 6, 9, 3, 2, 5, 4, 1, 0], [8]), (0, [8, 7, 6, 9, 3, 2, 5, 4, 1, 0], [10]), (0, [10, 8, 7, 6, 9, 3, 2, 5, 4, 1, 0], [11]), (0, [8, 6, 9, 3, 2, 5, 4, 1, 0], [7]), (0, [7, 8, 6, 9, 3, 2, 5, 4, 1, 0], [10]), (0, [10, 7, 8, 6, 9, 3, 2, 5, 4, 1, 0], [11]), (0, [8, 9, 3, 2, 5, 4, 1, 0], [6]), (0, [6, 8, 9, 3, 2, 5, 4, 1, 0], [7]), (0, [7, 6, 8, 9, 3, 2, 5, 4, 1, 0], [10]), (0, [10, 7, 6, 8, 9, 3, 2, 5, 4, 1, 0], [11]), (0, [8, 2, 5, 4, 1, 0], [3, 9]), (0, [3, 8, 2, 5, 4, 1, 0], [6, 9]), (0, [6, 3, 8, 2, 5, 4, 1, 0], [7, 9]), (0, [7, 6, 3, 8, 2, 5, 4, 1, 0], [9]), (0, [9, 7, 6, 3, 8, 2, 5, 4, 1, 0], [10]), (0, [10, 9, 7, 6, 3, 8, 2, 5, 4, 1, 0], [11]), (0, [9, 6, 3, 8, 2, 5, 4, 1, 0], [7]), (0, [7, 9, 6, 3, 8, 2, 5, 4, 1, 0], [10]), (0, [10, 7, 9, 6, 3, 8, 2, 5, 4, 1, 0], [11]), (0, [9, 3, 8, 2, 5, 4, 1, 0], [6]), (0, [6, 9, 3, 8, 2, 5, 4, 1, 0], [7]), (0, [7, 6, 9, 3, 8, 2, 5, 4, 1, 0], [10]), (0, [10, 7, 6, 9, 3, 8, 2, 5, 4, 1, 0], [11]), (0, [9, 8, 2, 5, 4, 1, 0], [3]), (0, [3, 9, 8, 2, 5, 4, 1, 0], [6]), (0, [6, 3, 9, 8, 2, 5, 4, 1, 0], [7]), (0, [7, 6, 3, 9, 8, 2, 5, 4, 1, 0], [10]), (0, [10, 7, 6, 3, 9, 8, 2, 5, 4, 1, 0], [11]), (0, [9, 2, 5, 4, 1, 0], [3, 8]), (0, [3, 9, 2, 5, 4, 1, 0], [6, 8]), (0, [6, 3, 9, 2, 5, 4, 1, 0], [7, 8]), (0, [7, 6, 3, 9, 2, 5, 4, 1, 0], [8]), (0, [8, 7, 6, 3, 9, 2, 5, 4, 1, 0], [10]), (0, [10, 8, 7, 6, 3, 9, 2, 5, 4, 1, 0], [11]), (0, [8, 6, 3, 9, 2, 5, 4, 1, 0], [7]), (0, [7, 8, 6, 3, 9, 2, 5, 4, 1, 0], [10]), (0, [10, 7, 8, 6, 3, 9, 2, 5, 4, 1, 0], [11]), (0, [8, 3, 9, 2, 5, 4, 1, 0], [6]), (0, [6, 8, 3, 9, 2, 5, 4, 1, 0], [7]), (0, [7, 6, 8, 3, 9, 2, 5, 4, 1, 0], [10]), (0, [10, 7, 6, 8, 3, 9, 2, 5, 4, 1, 0], [11]), (0, [8, 9, 2, 5, 4, 1, 0], [3]), (0, [3, 8, 9, 2, 5, 4, 1, 0], [6]), (0, [6, 3, 8, 9, 2, 5, 4, 1, 0], [7]), (0, [7, 6, 3, 8, 9, 2, 5, 4, 1, 0], [10]), (0, [10, 7, 6, 3, 8, 9, 2, 5, 4, 1, 0], [11]), (0, [8, 5, 4, 1, 0], [2, 9]), (0, [2, 8, 5, 4, 1, 0], [3, 9]), (0, [3, 2, 8, 5, 4, 1, 0], [6, 9]), (0, [6, 3, 2, 8, 5, 4, 1, 0], [7, 9]), (0, [7, 6, 3, 2, 8, 5, 4, 1, 0], [9]), (0, [9, 7, 6, 3, 2, 8, 5, 4, 1, 0], [10]), (0, [10, 9, 7, 6, 3, 2, 8, 5, 4, 1, 0], [11]), (0, [9, 6, 3, 2, 8, 5, 4, 1, 0], [7]), (0, [7, 9, 6, 3, 2, 8, 5, 4, 1, 0], [10]), (0, [10, 7, 9, 6, 3, 2, 8, 5, 4, 1, 0], [11]), (0, [9, 3, 2, 8, 5, 4, 1, 0], [6]), (0, [6, 9, 3, 2, 8, 5, 4, 1, 0], [7]), (0, [7, 6, 9, 3, 2, 8, 5, 4, 1, 0], [10]), (0, [10, 7, 6, 9, 3, 2, 8, 5, 4, 1, 0], [11]), (0, [9, 2, 8, 5, 4, 1, 0], [3]), (0, [3, 9, 2, 8, 5, 4, 1, 0], [6]), (0, [6, 3, 9, 2, 8, 5, 4, 1, 0], [7]), (0, [7, 6, 3, 9, 2, 8, 5, 4, 1, 0], [10]), (0, [10, 7, 6, 3, 9, 2, 8, 5, 4, 1, 0], [11]), (0, [9, 8, 5, 4, 1, 0], [2]), (0, [2, 9, 8, 5, 4, 1, 0], [3]), (0, [3, 2, 9, 8, 5, 4, 1, 0], [6]), (0, [6, 3, 2, 9, 8, 5, 4, 1, 0], [7]), (0, [7, 6, 3, 2, 9, 8, 5, 4, 1, 0], [10]), (0, [10, 7, 6, 3, 2, 9, 8, 5, 4, 1, 0], [11]), (0, [9, 5, 4, 1, 0], [2, 8]), (0, [2, 9, 5, 4, 1, 0], [3, 8]), (0, [3, 2, 9, 5, 4, 1, 0], [6, 8]), (0, [6, 3, 2, 9, 5, 4, 1, 0], [7, 8]), (0, [7, 6, 3, 2, 9, 5, 4, 1, 0], [8]), (0, [8, 7, 6, 3, 2, 9, 5, 4, 1, 0], [10]), (0, [10, 8, 7, 6, 3, 2, 9, 5, 4, 1, 0], [11]), (0, [8, 6, 3, 2, 9, 5, 4, 1, 0], [7]), (0, [7, 8, 6, 3, 2, 9, 5, 4, 1, 0], [10]), (0, [10, 7, 8, 6, 3, 2, 9, 5, 4, 1, 0], [11]), (0, [8, 3, 2, 9, 5, 4, 1, 0], [6]), (0, [6, 8, 3, 2, 9, 5, 4, 1, 0], [7]), (0, [7, 6, 8, 3, 2, 9, 5, 4, 1, 0], [10]), (0, [10, 7, 6, 8, 3, 2, 9, 5, 4, 1, 0], [11]), (0, [8, 2, 9, 5, 4, 1, 0], [3]), (0, [3, 8, 2, 9, 5, 4, 1, 0], [6]), (0, [6, 3, 8, 2, 9, 5, 4, 1, 0], [7]), (0, [7, 6, 3, 8, 2, 9, 5, 4, 1, 0], [10]), (0, [10, 7, 6, 3, 8, 2, 9, 5, 4, 1, 0], [11]), (0, [8, 9, 5, 4, 1, 0], [2]), (0, [2, 8, 9, 5, 4, 1, 0], [3]), (0, [3, 2, 8, 9, 5, 4, 1, 0], [6]), (0, [6, 3, 2, 8, 9, 5, 4, 1, 0], [7]), (0, [7, 6, 3, 2, 8, 9, 5, 4, 1, 0], [10]), (0, [10, 7, 6, 3, 2, 8, 9, 5, 4, 1, 0], [11])] : List Spot4), readyB (opsAt Try.prog 13 8) q = true := (all_parts4 rq8ready0 (all_parts4 rq8ready1 (all_parts4 rq8ready2 (all_parts4 rq8ready3 (all_parts4 rq8ready4 (all_parts4 rq8ready5 (all_parts4 rq8ready6 (all_parts4 rq8ready7 (all_parts4 rq8ready8 (all_parts4 rq8ready9 (all_parts4 rq8ready10 (all_parts4 rq8ready11 (all_parts4 rq8ready12 (all_parts4 rq8ready13 (fun k h => by cases h)))))))))))))))

end Go.Proofs.Ytcnjbmjgambgeaa
