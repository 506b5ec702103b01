/-
  DateSplits answers true.
-/
import Derived.Test.YtnndamhilbcdfaaDoorDatN
import Derived.Test.YtnndamhilbcdfaaDoorDatU
set_option linter.unusedVariables false
set_option linter.unusedSimpArgs false
namespace Go.Proofs.YtnndamhilbcdfaaDoor
open Go.RowKit

/-- What the drawn regions read: boxes, a row of pieces, and one piece. -/
structure SR8 (bs : List (Nat × Value × Value × Value)) (v : Value) (G : List D6) (w : World) : Prop where
  sb : SB8 bs w
  rd : Rd8 w v G
theorem SR8.at_ {w : World} {bs : List (Nat × Value × Value × Value)} {v : Value} {G : List D6} {g : Nat} {x0 x1 x2 : Value} (h : SR8 bs v G w) (hm : (g, x0, x1, x2) ∈ bs) : Bx w g x0 x1 x2 := h.sb _ hm
theorem SR8.fst {w : World} {bs : List (Nat × Value × Value × Value)} {b n c : Nat} {G : List D6} {k : Nat} {x y z : Int} (h : SR8 bs (.slice (some ⟨b, 0, none⟩) n c) G w) (hk : k < G.length) (e : (G.getD k z6).1 = (x, y, z)) : w.cell? ⟨b, k * 6, none⟩ = some (.int .i64 x) ∧ w.cell? ⟨b, k * 6 + 1, none⟩ = some (.int .i64 y) ∧ w.cell? ⟨b, k * 6 + 2, none⟩ = some (.int .i64 z) := by
  obtain ⟨b', c', h1, _, _, x0, x1, x2, _, _, _⟩ := h.rd.at_ hk
  injection h1 with h1 _ _
  injection h1 with h1
  injection h1 with h1 _ _
  subst h1
  rw [e] at x0 x1 x2
  exact ⟨x0, x1, x2⟩
theorem SR8.snd {w : World} {bs : List (Nat × Value × Value × Value)} {b n c : Nat} {G : List D6} {k : Nat} {x y z : Int} (h : SR8 bs (.slice (some ⟨b, 0, none⟩) n c) G w) (hk : k < G.length) (e : (G.getD k z6).2 = (x, y, z)) : w.cell? ⟨b, k * 6 + 3, none⟩ = some (.int .i64 x) ∧ w.cell? ⟨b, k * 6 + 4, none⟩ = some (.int .i64 y) ∧ w.cell? ⟨b, k * 6 + 5, none⟩ = some (.int .i64 z) := by
  obtain ⟨b', c', h1, _, _, _, _, _, x0, x1, x2⟩ := h.rd.at_ hk
  injection h1 with h1 _ _
  injection h1 with h1
  injection h1 with h1 _ _
  subst h1
  rw [e] at x0 x1 x2
  exact ⟨x0, x1, x2⟩
/-- The slots of a frame that a region does not write. -/
def rest8 (a : Act) (N lo hi : Nat) : List (Nat × Value) := ((List.range N).filter (fun i => !(Nat.ble lo i && Nat.ble (i + 1) hi))).map (fun i => (i, a.tmps.getD i undef))
theorem rest8_far {a : Act} {N lo hi : Nat} (d : Nat) (h1 : lo ≤ d) (h2 : d < hi) : ∀ q ∈ rest8 a N lo hi, q.1 ≠ d := by
  intro q hq e
  unfold rest8 at hq
  obtain ⟨i, hif, rfl⟩ := List.mem_map.1 hq
  have := (List.mem_filter.1 hif).2
  have e' : i = d := e
  have hb : (Nat.ble lo i && Nat.ble (i + 1) hi) = true := by rw [Bool.and_eq_true, Nat.ble_eq, Nat.ble_eq]; omega
  rw [hb] at this
  cases this
theorem Fr.rest {N : Nat} {a : Act} {l : List (Nat × Value)} (h : Fr N a l) (lo hi : Nat) : Fr N a (l ++ rest8 a N lo hi) := by
  refine ⟨h.1, h.2.1, fun q hq => ?_⟩
  rcases List.mem_append.1 hq with hq | hq
  · exact h.2.2 q hq
  · unfold rest8 at hq
    obtain ⟨i, hi, rfl⟩ := List.mem_map.1 hq
    have hr := List.mem_range.1 (List.mem_filter.1 hi).1
    have hs : i < a.tmps.size := by rw [h.1]; exact hr
    simp [Array.getD_eq_getD_getElem?, Array.getElem?_eq_getElem hs]
theorem Fr.splice {N lo hi : Nat} {a a0 : Act} {l : List (Nat × Value)} (h : Fr N a (l ++ rest8 a0 N lo hi)) : ∃ us : Nat → Value, a = ⟨((List.range N).map (fun i => bif Nat.ble lo i && Nat.ble (i + 1) hi then us i else a0.tmps.getD i undef)).toArray, []⟩ ∧ ∀ q ∈ l, us q.1 = q.2 := by
  obtain ⟨h1, h2, h3⟩ := h
  refine ⟨fun i => a.tmps.getD i undef, ?_, fun q hq => ?_⟩
  · obtain ⟨t, ds⟩ := a
    simp only at h1 h2
    subst h2
    congr 1
    apply Array.ext
    · simp [h1]
    · intro i hi' _
      have hiN : i < N := by rw [← h1]; exact hi'
      cases hb : (Nat.ble lo i && Nat.ble (i + 1) hi) with
      | true => simp [hb, Array.getD_eq_getD_getElem?, Array.getElem?_eq_getElem hi']
      | false =>
        have := h3 (i, a0.tmps.getD i undef) (List.mem_append.2 (.inr (by
          unfold rest8
          exact List.mem_map.2 ⟨i, List.mem_filter.2 ⟨List.mem_range.2 hiN, by rw [hb]; rfl⟩, rfl⟩)))
        simp only [Array.getElem?_eq_getElem hi', Option.some.injEq] at this
        simp [hb, this]
  · simp only
    rw [Array.getD_eq_getD_getElem?, h3 q (List.mem_append.2 (.inl hq))]; rfl
/-- Six cells. -/
structure Six8 (w : World) (g : Nat) (p1 p2 p3 p4 p5 p6 : Int) : Prop where
  c0 : w.cell? ⟨g, 0, none⟩ = some (.int .i64 p1)
  c1 : w.cell? ⟨g, 1, none⟩ = some (.int .i64 p2)
  c2 : w.cell? ⟨g, 2, none⟩ = some (.int .i64 p3)
  c3 : w.cell? ⟨g, 3, none⟩ = some (.int .i64 p4)
  c4 : w.cell? ⟨g, 4, none⟩ = some (.int .i64 p5)
  c5 : w.cell? ⟨g, 5, none⟩ = some (.int .i64 p6)
  lt : g < w.heap.size
theorem Six8.new (w : World) (p1 p2 p3 p4 p5 p6 : Int) (t : TypeId) : Six8 (w.alloc (.cells #[.int .i64 p1, .int .i64 p2, .int .i64 p3, .int .i64 p4, .int .i64 p5, .int .i64 p6] t)) w.heap.size p1 p2 p3 p4 p5 p6 := by
  exact ⟨by simp, by simp, by simp, by simp, by simp, by simp, by simp⟩
theorem Six8.on {w w' : World} {g : Nat} {p1 p2 p3 p4 p5 p6 : Int} (h : Six8 w g p1 p2 p3 p4 p5 p6) (hb : Below w.heap.size w w') : Six8 w' g p1 p2 p3 p4 p5 p6 :=
  ⟨(hb.cell (p := ⟨g, 0, none⟩) h.lt).trans h.c0, (hb.cell (p := ⟨g, 1, none⟩) h.lt).trans h.c1, (hb.cell (p := ⟨g, 2, none⟩) h.lt).trans h.c2, (hb.cell (p := ⟨g, 3, none⟩) h.lt).trans h.c3, (hb.cell (p := ⟨g, 4, none⟩) h.lt).trans h.c4, (hb.cell (p := ⟨g, 5, none⟩) h.lt).trans h.c5, Nat.lt_of_lt_of_le h.lt hb.size⟩
structure SX8 (bs : List (Nat × Value × Value × Value)) (v : Value) (G : List D6) (g : Nat) (p1 p2 p3 p4 p5 p6 : Int) (w : World) : Prop where
  sr : SR8 bs v G w
  six : Six8 w g p1 p2 p3 p4 p5 p6

def sp12T : List Row3 := [(some 96, none, .move (.tmp 16)), (some 97, none, .call { callee := .builtin .len, args := #[.tmp 96], argTypes := #[42] }), (some 98, none, .load 23 (.tmp 7)), (some 99, none, .load 23 (.tmp 9)), (some 100, none, .call { callee := .value (.func 33), args := #[.tmp 98, .tmp 99], argTypes := #[23, 23] }), (some 101, none, .binOp .add 3 (.tmp 100) (.const (.int .i64 1)) 3), (some 102, none, .binOp .neq 3 (.tmp 97) (.tmp 101) 3), (some 103, none, .move (.tmp 102)), (some 104, some (7, false), .move (.tmp 16)), (some 105, some (7, false), .indexAddr 42 (.tmp 104) (.const (.int .i64 0))), (some 106, some (7, false), .indexAddr 44 (.tmp 105) (.const (.int .i64 0))), (some 107, some (7, false), .load 23 (.tmp 106)), (some 108, some (7, false), .load 23 (.tmp 7)), (some 109, some (7, false), .binOp .neq 23 (.tmp 107) (.tmp 108) 23), (some 110, none, .pick (.tmp 103) (.const (.bool true)) (.tmp 109)), (some 111, none, .move (.tmp 110)), (some 112, some (15, false), .move (.tmp 16)), (some 113, some (15, false), .move (.tmp 16)), (some 114, some (15, false), .call { callee := .builtin .len, args := #[.tmp 113], argTypes := #[42] }), (some 115, some (15, false), .binOp .sub 3 (.tmp 114) (.const (.int .i64 1)) 3), (some 116, some (15, false), .indexAddr 42 (.tmp 112) (.tmp 115)), (some 117, some (15, false), .indexAddr 44 (.tmp 116) (.const (.int .i64 1))), (some 118, some (15, false), .load 23 (.tmp 117)), (some 119, some (15, false), .load 23 (.tmp 9)), (some 120, some (15, false), .binOp .neq 23 (.tmp 118) (.tmp 119) 23), (some 121, none, .pick (.tmp 111) (.const (.bool true)) (.tmp 120))]
set_option maxRecDepth 100000 in
theorem sp12Row : (opsAt Tryd.prog 7 12).toList.map row3 = sp12T := by kernel_rfl
theorem sp12Sel : Region.noSelect (opsAt Tryd.prog 7 12) = true := by kernel_rfl
theorem sp12Done : Region.ready .any (opsAt Tryd.prog 7 12) (upto (opsAt Tryd.prog 7 12).size (opsAt Tryd.prog 7 12).size []) = [] := by kernel_rfl
theorem sp12still0 : [(0, [], 0), (1, [], 1), (2, [], 2), (3, [], 3), (5, [], 5), (6, [], 6), (7, [], 7), (8, [], 8), (9, [], 9), (10, [], 10)].all (stillB (opsAt Tryd.prog 7 12)) = true := by kernel_rfl
theorem sp12still1 : [(11, [], 11), (12, [], 12), (13, [], 13), (14, [], 14), (15, [], 15), (16, [], 16), (17, [], 17), (18, [], 18), (19, [], 19), (20, [], 20)].all (stillB (opsAt Tryd.prog 7 12)) = true := by kernel_rfl
theorem sp12still2 : [(21, [], 21), (22, [], 22), (23, [], 23), (24, [], 24), (25, [], 25)].all (stillB (opsAt Tryd.prog 7 12)) = true := by kernel_rfl
theorem sp12sole0 : [(4, [], 4)].all (soleB (opsAt Tryd.prog 7 12)) = true := by kernel_rfl
theorem sp12R : Reg (opsAt Tryd.prog 7 12) sp12T [(0, [], 0), (1, [], 1), (2, [], 2), (3, [], 3), (5, [], 5), (6, [], 6), (7, [], 7), (8, [], 8), (9, [], 9), (10, [], 10), (11, [], 11), (12, [], 12), (13, [], 13), (14, [], 14), (15, [], 15), (16, [], 16), (17, [], 17), (18, [], 18), (19, [], 19), (20, [], 20), (21, [], 21), (22, [], 22), (23, [], 23), (24, [], 24), (25, [], 25)] [(4, [], 4)] := ⟨sp12Row, sp12Sel, (all_parts sp12still0 (all_parts sp12still1 (all_parts sp12still2 (fun k h => by cases h)))), (all_parts sp12sole0 (fun k h => by cases h)), sp12Done⟩

def sp17zT : List Row3 := [(some 129, none, .indexAddr 44 (.tmp 18) (.const (.int .i64 0))), (some 130, none, .load 23 (.tmp 129)), (some 131, none, .indexAddr 44 (.tmp 18) (.const (.int .i64 1))), (some 132, none, .load 23 (.tmp 131)), (some 133, none, .call { callee := .value (.func 21), args := #[.tmp 130, .tmp 132], argTypes := #[23, 23] }), (some 134, none, .binOp .gtr 3 (.tmp 133) (.const (.int .i64 0)) 3), (some 135, none, .move (.tmp 134)), (some 136, some (6, false), .indexAddr 44 (.tmp 18) (.const (.int .i64 0))), (some 137, some (6, false), .load 23 (.tmp 136)), (some 138, some (6, false), .indexAddr 44 (.tmp 18) (.const (.int .i64 1))), (some 139, some (6, false), .load 23 (.tmp 138)), (some 140, some (6, false), .call { callee := .value (.func 33), args := #[.tmp 137, .tmp 139], argTypes := #[23, 23] }), (some 141, some (6, false), .binOp .neq 3 (.tmp 140) (.const (.int .i64 0)) 3), (some 142, none, .pick (.tmp 135) (.const (.bool true)) (.tmp 141)), (some 143, none, .move (.tmp 142)), (some 144, some (14, false), .move (.tmp 17)), (some 145, some (14, false), .binOp .gtr 3 (.tmp 144) (.const (.int .i64 0)) 3), (some 146, some (14, false), .move (.tmp 145)), (some 147, some (17, true), .indexAddr 44 (.tmp 18) (.const (.int .i64 0))), (some 148, some (17, true), .load 23 (.tmp 147)), (some 149, some (17, true), .call { callee := .value (.func 23), args := #[.tmp 148], argTypes := #[23] }), (some 150, some (17, true), .move (.tmp 16)), (some 151, some (17, true), .move (.tmp 17)), (some 152, some (17, true), .binOp .sub 3 (.tmp 151) (.const (.int .i64 1)) 3), (some 153, some (17, true), .indexAddr 42 (.tmp 150) (.tmp 152)), (some 154, some (17, true), .indexAddr 44 (.tmp 153) (.const (.int .i64 1))), (some 155, some (17, true), .load 23 (.tmp 154)), (some 156, some (17, true), .call { callee := .value (.func 23), args := #[.tmp 155], argTypes := #[23] }), (some 157, some (17, true), .binOp .add 3 (.tmp 156) (.const (.int .i64 1)) 3), (some 158, some (17, true), .binOp .neq 3 (.tmp 149) (.tmp 157) 3), (some 159, some (14, false), .pick (.tmp 146) (.tmp 158) (.const (.bool false))), (some 160, none, .pick (.tmp 143) (.const (.bool true)) (.tmp 159))]
set_option maxRecDepth 100000 in
theorem sp17zRow : (opsAt Tryd.prog 7 17).toList.map row3 = sp17zT := by kernel_rfl
theorem sp17zSel : Region.noSelect (opsAt Tryd.prog 7 17) = true := by kernel_rfl
theorem sp17zDone : Region.ready .any (opsAt Tryd.prog 7 17) (upto (opsAt Tryd.prog 7 17).size (opsAt Tryd.prog 7 17).size []) = [] := by kernel_rfl
theorem sp17zstill0 : [(0, [], 0), (1, [], 1), (2, [], 2), (3, [], 3), (5, [], 5), (6, [], 6), (7, [], 7), (8, [], 8), (9, [], 9), (10, [], 10)].all (stillB (opsAt Tryd.prog 7 17)) = true := by kernel_rfl
theorem sp17zstill1 : [(12, [], 12), (13, [], 13), (14, [], 14), (15, [], 15), (16, [], 16), (17, [], 17), (18, [], 18), (19, [], 19), (20, [], 21), (20, [21], 22)].all (stillB (opsAt Tryd.prog 7 17)) = true := by kernel_rfl
theorem sp17zstill2 : [(20, [22, 21], 23), (20, [23, 22, 21], 24), (20, [24, 23, 22, 21], 25), (20, [25, 24, 23, 22, 21], 26), (28, [], 28), (29, [], 29), (30, [], 30), (31, [], 31)].all (stillB (opsAt Tryd.prog 7 17)) = true := by kernel_rfl
theorem sp17zsole0 : [(4, [], 4), (11, [], 11), (20, [26, 25, 24, 23, 22, 21], 20), (27, [], 27)].all (soleB (opsAt Tryd.prog 7 17)) = true := by kernel_rfl
theorem sp17zR : Reg (opsAt Tryd.prog 7 17) sp17zT [(0, [], 0), (1, [], 1), (2, [], 2), (3, [], 3), (5, [], 5), (6, [], 6), (7, [], 7), (8, [], 8), (9, [], 9), (10, [], 10), (12, [], 12), (13, [], 13), (14, [], 14), (15, [], 15), (16, [], 16), (17, [], 17), (18, [], 18), (19, [], 19), (20, [], 21), (20, [21], 22), (20, [22, 21], 23), (20, [23, 22, 21], 24), (20, [24, 23, 22, 21], 25), (20, [25, 24, 23, 22, 21], 26), (28, [], 28), (29, [], 29), (30, [], 30), (31, [], 31)] [(4, [], 4), (11, [], 11), (20, [26, 25, 24, 23, 22, 21], 20), (27, [], 27)] := ⟨sp17zRow, sp17zSel, (all_parts sp17zstill0 (all_parts sp17zstill1 (all_parts sp17zstill2 (fun k h => by cases h)))), (all_parts sp17zsole0 (fun k h => by cases h)), sp17zDone⟩

def sp17pT : List Row3 := [(some 129, none, .indexAddr 44 (.tmp 18) (.const (.int .i64 0))), (some 130, none, .load 23 (.tmp 129)), (some 131, none, .indexAddr 44 (.tmp 18) (.const (.int .i64 1))), (some 132, none, .load 23 (.tmp 131)), (some 133, none, .call { callee := .value (.func 21), args := #[.tmp 130, .tmp 132], argTypes := #[23, 23] }), (some 134, none, .binOp .gtr 3 (.tmp 133) (.const (.int .i64 0)) 3), (some 135, none, .move (.tmp 134)), (some 136, some (6, false), .indexAddr 44 (.tmp 18) (.const (.int .i64 0))), (some 137, some (6, false), .load 23 (.tmp 136)), (some 138, some (6, false), .indexAddr 44 (.tmp 18) (.const (.int .i64 1))), (some 139, some (6, false), .load 23 (.tmp 138)), (some 140, some (6, false), .call { callee := .value (.func 33), args := #[.tmp 137, .tmp 139], argTypes := #[23, 23] }), (some 141, some (6, false), .binOp .neq 3 (.tmp 140) (.const (.int .i64 0)) 3), (some 142, none, .pick (.tmp 135) (.const (.bool true)) (.tmp 141)), (some 143, none, .move (.tmp 142)), (some 144, some (14, false), .move (.tmp 17)), (some 145, some (14, false), .binOp .gtr 3 (.tmp 144) (.const (.int .i64 0)) 3), (some 146, some (14, false), .move (.tmp 145)), (some 147, some (17, true), .indexAddr 44 (.tmp 18) (.const (.int .i64 0))), (some 148, some (17, true), .load 23 (.tmp 147)), (some 149, some (17, true), .call { callee := .value (.func 23), args := #[.tmp 148], argTypes := #[23] }), (some 150, some (17, true), .move (.tmp 16)), (some 151, some (17, true), .move (.tmp 17)), (some 152, some (17, true), .binOp .sub 3 (.tmp 151) (.const (.int .i64 1)) 3), (some 153, some (17, true), .indexAddr 42 (.tmp 150) (.tmp 152)), (some 154, some (17, true), .indexAddr 44 (.tmp 153) (.const (.int .i64 1))), (some 155, some (17, true), .load 23 (.tmp 154)), (some 156, some (17, true), .call { callee := .value (.func 23), args := #[.tmp 155], argTypes := #[23] }), (some 157, some (17, true), .binOp .add 3 (.tmp 156) (.const (.int .i64 1)) 3), (some 158, some (17, true), .binOp .neq 3 (.tmp 149) (.tmp 157) 3), (some 159, some (14, false), .pick (.tmp 146) (.tmp 158) (.const (.bool false))), (some 160, none, .pick (.tmp 143) (.const (.bool true)) (.tmp 159))]
set_option maxRecDepth 100000 in
theorem sp17pRow : (opsAt Tryd.prog 7 17).toList.map row3 = sp17pT := by kernel_rfl
theorem sp17pSel : Region.noSelect (opsAt Tryd.prog 7 17) = true := by kernel_rfl
theorem sp17pDone : Region.ready .any (opsAt Tryd.prog 7 17) (upto (opsAt Tryd.prog 7 17).size (opsAt Tryd.prog 7 17).size []) = [] := by kernel_rfl
theorem sp17pstill0 : [(0, [], 0), (1, [], 1), (2, [], 2), (3, [], 3), (5, [], 5), (6, [], 6), (7, [], 7), (8, [], 8), (9, [], 9), (10, [], 10)].all (stillB (opsAt Tryd.prog 7 17)) = true := by kernel_rfl
theorem sp17pstill1 : [(12, [], 12), (13, [], 13), (14, [], 14), (15, [], 15), (16, [], 16), (17, [], 17), (18, [], 18), (19, [], 19), (20, [], 21), (20, [21], 22)].all (stillB (opsAt Tryd.prog 7 17)) = true := by kernel_rfl
theorem sp17pstill2 : [(20, [22, 21], 23), (20, [23, 22, 21], 24), (20, [24, 23, 22, 21], 25), (20, [25, 24, 23, 22, 21], 26), (28, [], 28), (29, [], 29), (30, [], 30), (31, [], 31)].all (stillB (opsAt Tryd.prog 7 17)) = true := by kernel_rfl
theorem sp17psole0 : [(4, [], 4), (11, [], 11), (20, [26, 25, 24, 23, 22, 21], 20), (27, [], 27)].all (soleB (opsAt Tryd.prog 7 17)) = true := by kernel_rfl
theorem sp17pR : Reg (opsAt Tryd.prog 7 17) sp17pT [(0, [], 0), (1, [], 1), (2, [], 2), (3, [], 3), (5, [], 5), (6, [], 6), (7, [], 7), (8, [], 8), (9, [], 9), (10, [], 10), (12, [], 12), (13, [], 13), (14, [], 14), (15, [], 15), (16, [], 16), (17, [], 17), (18, [], 18), (19, [], 19), (20, [], 21), (20, [21], 22), (20, [22, 21], 23), (20, [23, 22, 21], 24), (20, [24, 23, 22, 21], 25), (20, [25, 24, 23, 22, 21], 26), (28, [], 28), (29, [], 29), (30, [], 30), (31, [], 31)] [(4, [], 4), (11, [], 11), (20, [26, 25, 24, 23, 22, 21], 20), (27, [], 27)] := ⟨sp17pRow, sp17pSel, (all_parts sp17pstill0 (all_parts sp17pstill1 (all_parts sp17pstill2 (fun k h => by cases h)))), (all_parts sp17psole0 (fun k h => by cases h)), sp17pDone⟩

def sp21T : List Row3 := [(some 166, none, .move (.tmp 19)), (some 167, none, .binOp .geq 3 (.tmp 166) (.const (.int .i64 1)) 3), (some 168, none, .move (.tmp 167)), (some 169, some (2, true), .move (.tmp 19)), (some 170, some (2, true), .binOp .leq 3 (.tmp 169) (.const (.int .i64 7)) 3), (some 171, none, .pick (.tmp 168) (.tmp 170) (.const (.bool false))), (some 172, none, .move (.tmp 171)), (some 173, some (6, true), .move (.tmp 20)), (some 174, some (6, true), .move (.tmp 19)), (some 175, some (6, true), .binOp .sub 3 (.tmp 173) (.tmp 174) 3), (some 176, some (6, true), .load 23 (.tmp 9)), (some 177, some (6, true), .call { callee := .value (.func 23), args := #[.tmp 176], argTypes := #[23] }), (some 178, some (6, true), .load 23 (.tmp 7)), (some 179, some (6, true), .call { callee := .value (.func 23), args := #[.tmp 178], argTypes := #[23] }), (some 180, some (6, true), .binOp .sub 3 (.tmp 177) (.tmp 179) 3), (some 181, some (6, true), .binOp .sub 3 (.tmp 175) (.tmp 180) 3), (some 182, some (6, true), .binOp .rem 3 (.tmp 181) (.const (.int .i64 7)) 3), (some 183, some (6, true), .binOp .eql 3 (.tmp 182) (.const (.int .i64 0)) 3), (some 184, none, .pick (.tmp 172) (.tmp 183) (.const (.bool false))), (some 185, none, .move (.tmp 184)), (some 186, some (19, true), .load 23 (.tmp 7)), (some 187, some (19, true), .call { callee := .value (.func 35), args := #[.tmp 186], argTypes := #[23] }), (some 188, some (19, true), .binOp .geq 3 (.tmp 187) (.const (.int .i64 1)) 3), (some 189, none, .pick (.tmp 185) (.tmp 188) (.const (.bool false))), (some 190, none, .move (.tmp 189)), (some 191, some (24, true), .load 23 (.tmp 7)), (some 192, some (24, true), .call { callee := .value (.func 35), args := #[.tmp 191], argTypes := #[23] }), (some 193, some (24, true), .binOp .leq 3 (.tmp 192) (.const (.int .i64 4)) 3), (some 194, none, .pick (.tmp 190) (.tmp 193) (.const (.bool false))), (some 195, none, .move (.tmp 194)), (some 196, some (29, true), .call { callee := .value (.func 8), args := #[], argTypes := #[] }), (some 197, none, .pick (.tmp 195) (.tmp 196) (.const (.bool false))), (some 6, none, .assign (.tmp 197))]
set_option maxRecDepth 100000 in
theorem sp21Row : (opsAt Tryd.prog 7 21).toList.map row3 = sp21T := by kernel_rfl
theorem sp21Sel : Region.noSelect (opsAt Tryd.prog 7 21) = true := by kernel_rfl
theorem sp21Done : Region.ready .any (opsAt Tryd.prog 7 21) (upto (opsAt Tryd.prog 7 21).size (opsAt Tryd.prog 7 21).size []) = [] := by kernel_rfl
theorem sp21still0 : [(0, [], 0), (1, [], 1), (2, [], 2), (3, [], 3), (4, [], 4), (5, [], 5), (6, [], 6), (7, [], 7), (8, [], 8), (9, [], 9)].all (stillB (opsAt Tryd.prog 7 21)) = true := by kernel_rfl
theorem sp21still1 : [(10, [], 10), (11, [], 12), (14, [], 14), (15, [], 15), (16, [], 16), (17, [], 17), (18, [], 18), (19, [], 19), (20, [], 20), (22, [], 22)].all (stillB (opsAt Tryd.prog 7 21)) = true := by kernel_rfl
theorem sp21still2 : [(23, [], 23), (24, [], 24), (25, [], 25), (27, [], 27), (28, [], 28), (29, [], 29), (31, [], 31), (32, [], 32)].all (stillB (opsAt Tryd.prog 7 21)) = true := by kernel_rfl
theorem sp21sole0 : [(11, [12], 11), (13, [], 13), (21, [], 21), (26, [], 26), (30, [], 30)].all (soleB (opsAt Tryd.prog 7 21)) = true := by kernel_rfl
theorem sp21R : Reg (opsAt Tryd.prog 7 21) sp21T [(0, [], 0), (1, [], 1), (2, [], 2), (3, [], 3), (4, [], 4), (5, [], 5), (6, [], 6), (7, [], 7), (8, [], 8), (9, [], 9), (10, [], 10), (11, [], 12), (14, [], 14), (15, [], 15), (16, [], 16), (17, [], 17), (18, [], 18), (19, [], 19), (20, [], 20), (22, [], 22), (23, [], 23), (24, [], 24), (25, [], 25), (27, [], 27), (28, [], 28), (29, [], 29), (31, [], 31), (32, [], 32)] [(11, [12], 11), (13, [], 13), (21, [], 21), (26, [], 26), (30, [], 30)] := ⟨sp21Row, sp21Sel, (all_parts sp21still0 (all_parts sp21still1 (all_parts sp21still2 (fun k h => by cases h)))), (all_parts sp21sole0 (fun k h => by cases h)), sp21Done⟩

set_option maxHeartbeats 4000000 in
set_option maxRecDepth 100000 in
theorem splits8_law (n days months : Int)  (w : World) (hT : Tabs w) : Calls Tryd.prog 7 #[.int .i64 n, .int .i64 days, .int .i64 months] w (Ret8 w (.bool true)) := by
  have HT := Lib.hid hT
  clear hT
  obtain ⟨u, hu⟩ : ∃ u, IntKind.u64.wrap n = u := ⟨_, rfl⟩
  have hub := u64_bd n
  rw [hu] at hub
  obtain ⟨u0, u1⟩ := hub
  obtain ⟨s, hs⟩ : ∃ s, IntKind.u64.wrap days = s := ⟨_, rfl⟩
  have hsb := u64_bd days
  rw [hs] at hsb
  obtain ⟨s0, s1⟩ := hsb
  obtain ⟨t, ht⟩ : ∃ t, IntKind.u64.wrap months = t := ⟨_, rfl⟩
  have htb := u64_bd months
  rw [ht] at htb
  obtain ⟨t0, t1⟩ := htb
  obtain ⟨na, hna⟩ : ∃ k, u % 3600000 + 1 = k := ⟨_, rfl⟩
  have k1 : 1 ≤ na := by omega
  have k2 : na ≤ 3600000 := by omega
  have e2 : 1 + u % 3600000 = na := by omega
  obtain ⟨df, hdf⟩ : ∃ k, s % 800 = k := ⟨_, rfl⟩
  have d1 : 0 ≤ df := by omega
  have d2 : df < 800 := by omega
  obtain ⟨k, hk⟩ : ∃ k, t % 500 = k := ⟨_, rfl⟩
  have m1 : 0 ≤ k := by omega
  have m2 : k < 500 := by omega
  obtain ⟨nb, hnb⟩ : ∃ q, na + df = q := ⟨_, rfl⟩
  have n1 : 1 ≤ nb := by omega
  have n2 : nb ≤ 3600799 := by omega
  obtain ⟨y, m, d, hr, hn⟩ := day_of k1 (by omega)
  obtain ⟨y', m', d', hr', hn'⟩ := day_of n1 (by omega)
  obtain ⟨Y, M, Z, Y2, M2, Z2, g1, g2, g3, g4, g5, g6, g7, g8⟩ := add_back hr (by omega) m1 m2
  obtain ⟨G, f0, f1, f2, f3, f4, f5, f6, f7⟩ := split8_facts hr hr' (by omega) (by omega)
  have b1 := wd8_bd hr
  have b2 := wd8_bd hr'
  have b3 := wd8_on hr hr' (t := df) (by omega)
  have b4 := qu8_bd hr
  obtain ⟨q1, h1⟩ : ∃ q, wd8 y m d = q := ⟨_, rfl⟩
  obtain ⟨q2, h2⟩ : ∃ q, wd8 y' m' d' = q := ⟨_, rfl⟩
  obtain ⟨q3, h3⟩ : ∃ q, qu8 y m d = q := ⟨_, rfl⟩
  rw [h1] at b1 b3
  rw [h2] at b2 b3
  rw [h3] at b4
  have HR := Lib.hid hr
  have HR' := Lib.hid hr'
  have HN := Lib.hid hn
  have HN' := Lib.hid hn'
  have HD : Hid (days8 y m d = na) := (days8_ok hr).trans hn
  have HD' : Hid (days8 y' m' d' = nb) := (days8_ok hr').trans hn'
  have B1 := Lib.hid b1
  have B2 := Lib.hid b2
  have B3 := Lib.hid b3
  have B4 := Lib.hid b4
  have H1 := Lib.hid h1
  have H2 := Lib.hid h2
  have H3 := Lib.hid h3
  have G1 := Lib.hid g1
  have G2 := Lib.hid g2
  have G3 := Lib.hid g3
  have G4 := Lib.hid g4
  have G5 := Lib.hid g5
  have G6 := Lib.hid g6
  have G7 := Lib.hid g7
  have G8 := Lib.hid g8
  have F0 := Lib.hid f0
  have F1 := Lib.hid f1
  have F2 := Lib.hid f2
  have F3 := Lib.hid f3
  have F4 := Lib.hid f4
  have F5 := Lib.hid f5
  have F6 := Lib.hid f6
  have F7 := Lib.hid f7
  have K1 : Hid (1 ≤ na ∧ na ≤ 3600000) := ⟨k1, k2⟩
  have D1 : Hid (0 ≤ df ∧ df < 800) := ⟨d1, d2⟩
  have NB := Lib.hid hnb
  clear hna hr hn hr' hn' g1 g2 g3 g4 g6 g7 g8 f0 f1 f2 f3 f4 f5 f6 f7 b1 b2 b3 b4 h1 h2 h3
  have E : Hid (S8 w w []) := S8.start w HT.out
  go_enter Tryd.func7, Tryd.ntmps7
  go_wp2_with fail
  refine (of_is E.out.tab HR.out HN.out).mono ?_; rintro e w1 ⟨rfl, hb⟩; replace E := Lib.hid (S8.step E.out hb); clear hb
  go_wp2_with fail
  replace E := Lib.hid (S8.lay (t := 23) (x0 := .int .i64 y) (x1 := .int .i64 m) (x2 := .int .i64 d) (g := w1.heap.size) E.out rfl)
  generalize hW2 : World.alloc w1 _ = V1 at E ⊢
  clear hW2
  obtain ⟨p0, p1, p2, pf0, pf1, pf2, plt⟩ := (S8.at_ (x0 := .int .i64 y) (x1 := .int .i64 m) (x2 := .int .i64 d) (g := w1.heap.size) E (by simp))
  go_wp2_with fail
  clear p0 p1 p2 pf0 pf1 pf2 plt
  refine (days_is E.out.tab HD.out).mono ?_; rintro e w2 ⟨rfl, hb⟩; replace E := Lib.hid (S8.step E.out hb); clear hb
  go_wp2_with fail
  refine (of_is E.out.tab HR'.out HN'.out).mono ?_; rintro e w3 ⟨rfl, hb⟩; replace E := Lib.hid (S8.step E.out hb); clear hb
  obtain ⟨p0, p1, p2, pf0, pf1, pf2, plt⟩ := (S8.at_ (x0 := .int .i64 y) (x1 := .int .i64 m) (x2 := .int .i64 d) (g := w1.heap.size) E (by simp))
  go_wp2_with fail
  clear p0 p1 p2 pf0 pf1 pf2 plt
  replace E := Lib.hid (S8.lay (t := 23) (x0 := .int .i64 y') (x1 := .int .i64 m') (x2 := .int .i64 d') (g := w3.heap.size) E.out rfl)
  generalize hW2 : World.alloc w3 _ = V2 at E ⊢
  clear hW2
  obtain ⟨q0, q1, q2, qf0, qf1, qf2, qlt⟩ := (S8.at_ (x0 := .int .i64 y) (x1 := .int .i64 m) (x2 := .int .i64 d) (g := w1.heap.size) E (by simp))
  go_wp2_with fail
  clear q0 q1 q2 qf0 qf1 qf2 qlt
  refine (add_is E.out.tab G2.out G1.out).mono ?_; rintro e w4 ⟨rfl, hb⟩; replace E := Lib.hid (S8.step E.out hb); clear hb
  obtain ⟨p0, p1, p2, pf0, pf1, pf2, plt⟩ := (S8.at_ (x0 := .int .i64 y') (x1 := .int .i64 m') (x2 := .int .i64 d') (g := w3.heap.size) E (by simp))
  obtain ⟨q0, q1, q2, qf0, qf1, qf2, qlt⟩ := (S8.at_ (x0 := .int .i64 y) (x1 := .int .i64 m) (x2 := .int .i64 d) (g := w1.heap.size) E (by simp))
  go_wp2_with fail
  clear p0 p1 p2 pf0 pf1 pf2 plt q0 q1 q2 qf0 qf1 qf2 qlt
  replace E := Lib.hid (S8.lay (t := 23) (x0 := .int .i64 Y) (x1 := .int .i64 M) (x2 := .int .i64 Z) (g := w4.heap.size) E.out rfl)
  generalize hW2 : World.alloc w4 _ = V3 at E ⊢
  clear hW2
  obtain ⟨p0, p1, p2, pf0, pf1, pf2, plt⟩ := (S8.at_ (x0 := .int .i64 Y) (x1 := .int .i64 M) (x2 := .int .i64 Z) (g := w4.heap.size) E (by simp))
  obtain ⟨q0, q1, q2, qf0, qf1, qf2, qlt⟩ := (S8.at_ (x0 := .int .i64 y') (x1 := .int .i64 m') (x2 := .int .i64 d') (g := w3.heap.size) E (by simp))
  obtain ⟨r0, r1, r2, rf0, rf1, rf2, rlt⟩ := (S8.at_ (x0 := .int .i64 y) (x1 := .int .i64 m) (x2 := .int .i64 d) (g := w1.heap.size) E (by simp))
  go_wp2_with fail
  clear p0 p1 p2 pf0 pf1 pf2 plt q0 q1 q2 qf0 qf1 qf2 qlt r0 r1 r2 rf0 rf1 rf2 rlt
  refine (add_is E.out.tab G7.out G6.out).mono ?_; rintro e w5 ⟨rfl, hb⟩; replace E := Lib.hid (S8.step E.out hb); clear hb
  obtain ⟨p0, p1, p2, pf0, pf1, pf2, plt⟩ := (S8.at_ (x0 := .int .i64 Y) (x1 := .int .i64 M) (x2 := .int .i64 Z) (g := w4.heap.size) E (by simp))
  obtain ⟨q0, q1, q2, qf0, qf1, qf2, qlt⟩ := (S8.at_ (x0 := .int .i64 y') (x1 := .int .i64 m') (x2 := .int .i64 d') (g := w3.heap.size) E (by simp))
  obtain ⟨r0, r1, r2, rf0, rf1, rf2, rlt⟩ := (S8.at_ (x0 := .int .i64 y) (x1 := .int .i64 m) (x2 := .int .i64 d) (g := w1.heap.size) E (by simp))
  go_wp2_with fail
  clear p0 p1 p2 pf0 pf1 pf2 plt q0 q1 q2 qf0 qf1 qf2 qlt r0 r1 r2 rf0 rf1 rf2 rlt
  replace E := Lib.hid (S8.lay (t := 23) (x0 := .int .i64 Y2) (x1 := .int .i64 M2) (x2 := .int .i64 Z2) (g := w5.heap.size) E.out rfl)
  generalize hW2 : World.alloc w5 _ = V4 at E ⊢
  clear hW2
  obtain ⟨p0, p1, p2, pf0, pf1, pf2, plt⟩ := (S8.at_ (x0 := .int .i64 Y2) (x1 := .int .i64 M2) (x2 := .int .i64 Z2) (g := w5.heap.size) E (by simp))
  obtain ⟨q0, q1, q2, qf0, qf1, qf2, qlt⟩ := (S8.at_ (x0 := .int .i64 Y) (x1 := .int .i64 M) (x2 := .int .i64 Z) (g := w4.heap.size) E (by simp))
  obtain ⟨r0, r1, r2, rf0, rf1, rf2, rlt⟩ := (S8.at_ (x0 := .int .i64 y') (x1 := .int .i64 m') (x2 := .int .i64 d') (g := w3.heap.size) E (by simp))
  obtain ⟨s0, s1, s2, sf0, sf1, sf2, slt⟩ := (S8.at_ (x0 := .int .i64 y) (x1 := .int .i64 m) (x2 := .int .i64 d) (g := w1.heap.size) E (by simp))
  go_wp2_with fail
  clear p0 p1 p2 pf0 pf1 pf2 plt q0 q1 q2 qf0 qf1 qf2 qlt r0 r1 r2 rf0 rf1 rf2 rlt s0 s1 s2 sf0 sf1 sf2 slt
  refine (months_is E.out.tab G4.out).mono ?_; rintro e w6 ⟨rfl, hb⟩; replace E := Lib.hid (S8.step E.out hb); clear hb
  obtain ⟨p0, p1, p2, pf0, pf1, pf2, plt⟩ := (S8.at_ (x0 := .int .i64 Y2) (x1 := .int .i64 M2) (x2 := .int .i64 Z2) (g := w5.heap.size) E (by simp))
  obtain ⟨q0, q1, q2, qf0, qf1, qf2, qlt⟩ := (S8.at_ (x0 := .int .i64 Y) (x1 := .int .i64 M) (x2 := .int .i64 Z) (g := w4.heap.size) E (by simp))
  obtain ⟨r0, r1, r2, rf0, rf1, rf2, rlt⟩ := (S8.at_ (x0 := .int .i64 y') (x1 := .int .i64 m') (x2 := .int .i64 d') (g := w3.heap.size) E (by simp))
  obtain ⟨s0, s1, s2, sf0, sf1, sf2, slt⟩ := (S8.at_ (x0 := .int .i64 y) (x1 := .int .i64 m) (x2 := .int .i64 d) (g := w1.heap.size) E (by simp))
  go_wp2_with fail
  clear p0 p1 p2 pf0 pf1 pf2 plt q0 q1 q2 qf0 qf1 qf2 qlt r0 r1 r2 rf0 rf1 rf2 rlt s0 s1 s2 sf0 sf1 sf2 slt
  refine (months_is E.out.tab G8.out).mono ?_; rintro e w7 ⟨rfl, hb⟩; replace E := Lib.hid (S8.step E.out hb); clear hb
  obtain ⟨p0, p1, p2, pf0, pf1, pf2, plt⟩ := (S8.at_ (x0 := .int .i64 Y2) (x1 := .int .i64 M2) (x2 := .int .i64 Z2) (g := w5.heap.size) E (by simp))
  obtain ⟨q0, q1, q2, qf0, qf1, qf2, qlt⟩ := (S8.at_ (x0 := .int .i64 Y) (x1 := .int .i64 M) (x2 := .int .i64 Z) (g := w4.heap.size) E (by simp))
  obtain ⟨r0, r1, r2, rf0, rf1, rf2, rlt⟩ := (S8.at_ (x0 := .int .i64 y') (x1 := .int .i64 m') (x2 := .int .i64 d') (g := w3.heap.size) E (by simp))
  obtain ⟨s0, s1, s2, sf0, sf1, sf2, slt⟩ := (S8.at_ (x0 := .int .i64 y) (x1 := .int .i64 m) (x2 := .int .i64 d) (g := w1.heap.size) E (by simp))
  go_wp2_with fail
  clear p0 p1 p2 pf0 pf1 pf2 plt q0 q1 q2 qf0 qf1 qf2 qlt r0 r1 r2 rf0 rf1 rf2 rlt s0 s1 s2 sf0 sf1 sf2 slt
  refine (right_is E.out.tab G3.out).mono ?_; rintro e w8 ⟨rfl, hb⟩; replace E := Lib.hid (S8.step E.out hb); clear hb
  obtain ⟨r0, r1, r2, rf0, rf1, rf2, rlt⟩ := (S8.at_ (x0 := .int .i64 y') (x1 := .int .i64 m') (x2 := .int .i64 d') (g := w3.heap.size) E (by simp))
  obtain ⟨s0, s1, s2, sf0, sf1, sf2, slt⟩ := (S8.at_ (x0 := .int .i64 y) (x1 := .int .i64 m) (x2 := .int .i64 d) (g := w1.heap.size) E (by simp))
  go_wp2_with fail
  clear r0 r1 r2 rf0 rf1 rf2 rlt s0 s1 s2 sf0 sf1 sf2 slt
  replace E : Hid (S8 w w8 [(w3.heap.size, .int .i64 y', .int .i64 m', .int .i64 d'), (w1.heap.size, .int .i64 y, .int .i64 m, .int .i64 d)]) := Lib.hid (S8.sub E.out (fun q hq => by simp at hq ⊢; (try rcases hq with rfl | rfl <;> simp)))
  have CS1 : Hid (∀ w, Tabs w → Calls Tryd.prog 37 #[.agg #[.int .i64 y, .int .i64 m, .int .i64 d], .agg #[.int .i64 y', .int .i64 m', .int .i64 d']] w (RetRd8 w G)) := by show ∀ w, _ → _; rw [← F0.out]; exact fun w hT => split_is y m d y' m' d' w hT
  refine (CS1.out _ E.out.tab).mono ?_; rintro e wx ⟨vx, rfl, hrx, hb⟩; replace E := Lib.hid (S8.step E.out hb); have RX := Lib.hid hrx; clear hb hrx
  obtain ⟨bx, cx, hvx, _⟩ := RX.out.at_ (k := 0) F2.out
  subst hvx
  have len1 := F2.out
  have len2 := F1.out
  go_wp2_with fail
  obtain ⟨mm, hmm⟩ : ∃ q, months8 y m d y' m' d' = q := ⟨_, rfl⟩
  have hm1 := F3.out
  rw [hmm] at hm1
  have MM := Lib.hid hmm
  obtain ⟨lz, hlz⟩ : ∃ q, G.length = q + 1 := ⟨G.length - 1, by omega⟩
  have F5b : Hid ((G.getD lz z6).2 = (y', m', d')) := by show _ = _; have h := F5.out; rwa [show G.length - 1 = lz by omega] at h
  have A1 : Hid (mm + 1 = (G.length : Int) ∧ -9223372036854775808 ≤ (G.length : Int) ∧ (G.length : Int) ≤ 9223372036854775807) := ⟨by omega, by omega, by omega⟩
  have A2 : Hid ((G.length : Int) - 1 = (lz : Int) ∧ -9223372036854775808 ≤ (lz : Int) ∧ (lz : Int) ≤ 9223372036854775807) := ⟨by omega, by omega, by omega⟩
  have A3 : Hid (lz < G.length) := by show _ < _; omega
  have A4 : Hid ((lz : Int) < (G.length : Int)) := by show _ < _; omega
  have A5 : Hid (((0 : Nat) : Int) < (G.length : Int)) := by show _ < _; omega
  clear hmm hm1 hlz
  replace E := Lib.hid (S8.drew E.out)
  replace RX := Lib.hid (RX.out.on (Below.refl _ _).drew)
  rename_i K hK
  refine line_start (ops := opsAt Tryd.prog 7 12) (S := SR8 [(w3.heap.size, .int .i64 y', .int .i64 m', .int .i64 d'), (w1.heap.size, .int .i64 y, .int .i64 m, .int .i64 d)] (.slice (some ⟨bx, 0, none⟩) G.length cx) G) (by kernel_rfl) (by kernel_rfl) (SR8.mk (S8.sb E) RX.out) ?_
  have hSw := SR8.mk (S8.sb E) RX.out
  generalize hA : Act.mk _ _ = a
  have ha : Fr 198 a [(7, .pointer (some ⟨w1.heap.size, 0, none⟩)), (9, .pointer (some ⟨w3.heap.size, 0, none⟩)), (16, .slice (some ⟨bx, 0, none⟩) G.length cx)] := by rw [← hA]; exact ⟨rfl, rfl, by intro q hq; simp at hq; rcases hq with rfl | rfl | rfl <;> rfl⟩
  clear hA
  refine line_still sp12R 0 0 [] 96 (.slice (some ⟨bx, 0, none⟩) G.length cx) [(7, .pointer (some ⟨w1.heap.size, 0, none⟩)), (9, .pointer (some ⟨w3.heap.size, 0, none⟩)), (16, .slice (some ⟨bx, 0, none⟩) G.length cx)] rfl (by decide) (by decide) (by decide) ha (fun o ho hg => y_of (wanted_none hg) (fun wx hS => e_move (.inl ho) (ha.ev (i := 16) (v := .slice (some ⟨bx, 0, none⟩) G.length cx) (by simp)))) (by simp) hSw ?_; intro a ha
  refine line_still sp12R 1 1 [] 97 (.int .i64 ((G.length : Int))) [(7, .pointer (some ⟨w1.heap.size, 0, none⟩)), (9, .pointer (some ⟨w3.heap.size, 0, none⟩)), (16, .slice (some ⟨bx, 0, none⟩) G.length cx)] rfl (by decide) (by decide) (by decide) ha (fun o ho hg => y_of (wanted_none hg) (fun wx hS => e_rlen8 ho (ha.ev (i := 96) (v := .slice (some ⟨bx, 0, none⟩) G.length cx) (by simp)))) (by simp) hSw ?_; intro a ha
  refine line_still sp12R 2 2 [] 98 (.agg #[.int .i64 y, .int .i64 m, .int .i64 d]) [(97, .int .i64 ((G.length : Int))), (7, .pointer (some ⟨w1.heap.size, 0, none⟩)), (9, .pointer (some ⟨w3.heap.size, 0, none⟩)), (16, .slice (some ⟨bx, 0, none⟩) G.length cx)] rfl (by decide) (by decide) (by decide) ha (fun o ho hg => y_of (wanted_none hg) (fun wx hS => e_load8 ho (ha.ev (i := 7) (v := .pointer (some ⟨w1.heap.size, 0, none⟩)) (by simp)) (hS.at_ (g := w1.heap.size) (x0 := .int .i64 y) (x1 := .int .i64 m) (x2 := .int .i64 d) (by simp)))) (by simp) hSw ?_; intro a ha
  refine line_still sp12R 3 3 [] 99 (.agg #[.int .i64 y', .int .i64 m', .int .i64 d']) [(98, .agg #[.int .i64 y, .int .i64 m, .int .i64 d]), (97, .int .i64 ((G.length : Int))), (7, .pointer (some ⟨w1.heap.size, 0, none⟩)), (9, .pointer (some ⟨w3.heap.size, 0, none⟩)), (16, .slice (some ⟨bx, 0, none⟩) G.length cx)] rfl (by decide) (by decide) (by decide) ha (fun o ho hg => y_of (wanted_none hg) (fun wx hS => e_load8 ho (ha.ev (i := 9) (v := .pointer (some ⟨w3.heap.size, 0, none⟩)) (by simp)) (hS.at_ (g := w3.heap.size) (x0 := .int .i64 y') (x1 := .int .i64 m') (x2 := .int .i64 d') (by simp)))) (by simp) hSw ?_; intro a ha
  refine line_call sp12R 4 4 [] 100 (args := #[.agg #[.int .i64 y, .int .i64 m, .int .i64 d], .agg #[.int .i64 y', .int .i64 m', .int .i64 d']]) [(97, .int .i64 ((G.length : Int))), (7, .pointer (some ⟨w1.heap.size, 0, none⟩)), (9, .pointer (some ⟨w3.heap.size, 0, none⟩)), (16, .slice (some ⟨bx, 0, none⟩) G.length cx)] rfl (by decide) (by decide) (by decide) ha (fun o ho hg => ⟨(wanted_none hg), e_call8 (by kernel_rfl) ho rfl (by have q0 := ha.ev (i := 98) (v := .agg #[.int .i64 y, .int .i64 m, .int .i64 d]) (by simp); have q1 := ha.ev (i := 99) (v := .agg #[.int .i64 y', .int .i64 m', .int .i64 d']) (by simp); simp only [List.map_toArray, List.map_cons, List.map_nil, ev_const, q0, q1])⟩) (by simp) ?_
  refine (months_is E.out.tab MM.out).mono ?_; rintro e w9 ⟨rfl, hb⟩
  replace E := Lib.hid (S8.step E.out hb)
  replace RX := Lib.hid (RX.out.on hb)
  clear hb
  have hSw := SR8.mk (S8.sb E) RX.out; refine ⟨_, rfl, hSw, ?_⟩; intro a ha
  refine line_still sp12R 5 5 [] 101 (.int .i64 ((G.length : Int))) [(97, .int .i64 ((G.length : Int))), (7, .pointer (some ⟨w1.heap.size, 0, none⟩)), (9, .pointer (some ⟨w3.heap.size, 0, none⟩)), (16, .slice (some ⟨bx, 0, none⟩) G.length cx)] rfl (by decide) (by decide) (by decide) ha (fun o ho hg => y_of (wanted_none hg) (fun wx hS => e_add8 A1.out.1 A1.out.2 ho (ha.ev (i := 100) (v := .int .i64 mm) (by simp)) rfl)) (by simp) hSw ?_; intro a ha
  refine line_still sp12R 6 6 [] 102 (.bool false) [(7, .pointer (some ⟨w1.heap.size, 0, none⟩)), (9, .pointer (some ⟨w3.heap.size, 0, none⟩)), (16, .slice (some ⟨bx, 0, none⟩) G.length cx)] rfl (by decide) (by decide) (by decide) ha (fun o ho hg => y_of (wanted_none hg) (fun wx hS => (e_neq8 ho (ha.ev (i := 97) (v := .int .i64 ((G.length : Int))) (by simp)) (ha.ev (i := 101) (v := .int .i64 ((G.length : Int))) (by simp))).trans (by rw [bne_self_eq_false]))) (by simp) hSw ?_; intro a ha
  refine line_still sp12R 7 7 [] 103 (.bool false) [(7, .pointer (some ⟨w1.heap.size, 0, none⟩)), (9, .pointer (some ⟨w3.heap.size, 0, none⟩)), (16, .slice (some ⟨bx, 0, none⟩) G.length cx)] rfl (by decide) (by decide) (by decide) ha (fun o ho hg => y_of (wanted_none hg) (fun wx hS => e_move (.inl ho) (ha.ev (i := 102) (v := .bool false) (by simp)))) (by simp) hSw ?_; intro a ha
  refine line_still sp12R 8 8 [] 104 (.slice (some ⟨bx, 0, none⟩) G.length cx) [(103, .bool false), (7, .pointer (some ⟨w1.heap.size, 0, none⟩)), (9, .pointer (some ⟨w3.heap.size, 0, none⟩)), (16, .slice (some ⟨bx, 0, none⟩) G.length cx)] rfl (by decide) (by decide) (by decide) ha (fun o ho hg => y_of (sp12R.wanted hg rfl ha (d := 103) (by simp)) (fun wx hS => e_move (.inl ho) (ha.ev (i := 16) (v := .slice (some ⟨bx, 0, none⟩) G.length cx) (by simp)))) (by simp) hSw ?_; intro a ha
  refine line_still sp12R 9 9 [] 105 (.pointer (some ⟨bx, 0 * 6, none⟩)) [(103, .bool false), (7, .pointer (some ⟨w1.heap.size, 0, none⟩)), (9, .pointer (some ⟨w3.heap.size, 0, none⟩)), (16, .slice (some ⟨bx, 0, none⟩) G.length cx)] rfl (by decide) (by decide) (by decide) ha (fun o ho hg => y_of (sp12R.wanted hg rfl ha (d := 103) (by simp)) (fun wx hS => e_pidx8 (k := 0) A5.out ho (ha.ev (i := 104) (v := .slice (some ⟨bx, 0, none⟩) G.length cx) (by simp)) rfl)) (by simp) hSw ?_; intro a ha
  refine line_still sp12R 10 10 [] 106 (.pointer (some ⟨bx, 0 * 6, none⟩)) [(103, .bool false), (7, .pointer (some ⟨w1.heap.size, 0, none⟩)), (9, .pointer (some ⟨w3.heap.size, 0, none⟩)), (16, .slice (some ⟨bx, 0, none⟩) G.length cx)] rfl (by decide) (by decide) (by decide) ha (fun o ho hg => y_of (sp12R.wanted hg rfl ha (d := 103) (by simp)) (fun wx hS => e_pfst8 ho (ha.ev (i := 105) (v := .pointer (some ⟨bx, 0 * 6, none⟩)) (by simp)) rfl)) (by simp) hSw ?_; intro a ha
  refine line_still sp12R 11 11 [] 107 (.agg #[.int .i64 y, .int .i64 m, .int .i64 d]) [(103, .bool false), (7, .pointer (some ⟨w1.heap.size, 0, none⟩)), (9, .pointer (some ⟨w3.heap.size, 0, none⟩)), (16, .slice (some ⟨bx, 0, none⟩) G.length cx)] rfl (by decide) (by decide) (by decide) ha (fun o ho hg => y_of (sp12R.wanted hg rfl ha (d := 103) (by simp)) (fun wx hS => e_pday8 ho (ha.ev (i := 106) (v := .pointer (some ⟨bx, 0 * 6, none⟩)) (by simp)) (hS.fst F2.out F4.out).1 (hS.fst F2.out F4.out).2.1 (hS.fst F2.out F4.out).2.2)) (by simp) hSw ?_; intro a ha
  refine line_still sp12R 12 12 [] 108 (.agg #[.int .i64 y, .int .i64 m, .int .i64 d]) [(107, .agg #[.int .i64 y, .int .i64 m, .int .i64 d]), (103, .bool false), (7, .pointer (some ⟨w1.heap.size, 0, none⟩)), (9, .pointer (some ⟨w3.heap.size, 0, none⟩)), (16, .slice (some ⟨bx, 0, none⟩) G.length cx)] rfl (by decide) (by decide) (by decide) ha (fun o ho hg => y_of (sp12R.wanted hg rfl ha (d := 103) (by simp)) (fun wx hS => e_load8 ho (ha.ev (i := 7) (v := .pointer (some ⟨w1.heap.size, 0, none⟩)) (by simp)) (hS.at_ (g := w1.heap.size) (x0 := .int .i64 y) (x1 := .int .i64 m) (x2 := .int .i64 d) (by simp)))) (by simp) hSw ?_; intro a ha
  refine line_still sp12R 13 13 [] 109 (.bool false) [(103, .bool false), (7, .pointer (some ⟨w1.heap.size, 0, none⟩)), (9, .pointer (some ⟨w3.heap.size, 0, none⟩)), (16, .slice (some ⟨bx, 0, none⟩) G.length cx)] rfl (by decide) (by decide) (by decide) ha (fun o ho hg => y_of (sp12R.wanted hg rfl ha (d := 103) (by simp)) (fun wx hS => e_dne8 ho (ha.ev (i := 107) (v := .agg #[.int .i64 y, .int .i64 m, .int .i64 d]) (by simp)) (ha.ev (i := 108) (v := .agg #[.int .i64 y, .int .i64 m, .int .i64 d]) (by simp)))) (by simp) hSw ?_; intro a ha
  refine line_still sp12R 14 14 [] 110 (.bool false) [(7, .pointer (some ⟨w1.heap.size, 0, none⟩)), (9, .pointer (some ⟨w3.heap.size, 0, none⟩)), (16, .slice (some ⟨bx, 0, none⟩) G.length cx)] rfl (by decide) (by decide) (by decide) ha (fun o ho hg => y_of (wanted_none hg) (fun wx hS => e_pick ho (ha.ev (i := 103) (v := .bool false) (by simp)) rfl (ha.ev (i := 109) (v := .bool false) (by simp)))) (by simp) hSw ?_; intro a ha
  refine line_still sp12R 15 15 [] 111 (.bool false) [(7, .pointer (some ⟨w1.heap.size, 0, none⟩)), (9, .pointer (some ⟨w3.heap.size, 0, none⟩)), (16, .slice (some ⟨bx, 0, none⟩) G.length cx)] rfl (by decide) (by decide) (by decide) ha (fun o ho hg => y_of (wanted_none hg) (fun wx hS => e_move (.inl ho) (ha.ev (i := 110) (v := .bool false) (by simp)))) (by simp) hSw ?_; intro a ha
  refine line_still sp12R 16 16 [] 112 (.slice (some ⟨bx, 0, none⟩) G.length cx) [(111, .bool false), (7, .pointer (some ⟨w1.heap.size, 0, none⟩)), (9, .pointer (some ⟨w3.heap.size, 0, none⟩)), (16, .slice (some ⟨bx, 0, none⟩) G.length cx)] rfl (by decide) (by decide) (by decide) ha (fun o ho hg => y_of (sp12R.wanted hg rfl ha (d := 111) (by simp)) (fun wx hS => e_move (.inl ho) (ha.ev (i := 16) (v := .slice (some ⟨bx, 0, none⟩) G.length cx) (by simp)))) (by simp) hSw ?_; intro a ha
  refine line_still sp12R 17 17 [] 113 (.slice (some ⟨bx, 0, none⟩) G.length cx) [(112, .slice (some ⟨bx, 0, none⟩) G.length cx), (111, .bool false), (7, .pointer (some ⟨w1.heap.size, 0, none⟩)), (9, .pointer (some ⟨w3.heap.size, 0, none⟩)), (16, .slice (some ⟨bx, 0, none⟩) G.length cx)] rfl (by decide) (by decide) (by decide) ha (fun o ho hg => y_of (sp12R.wanted hg rfl ha (d := 111) (by simp)) (fun wx hS => e_move (.inl ho) (ha.ev (i := 16) (v := .slice (some ⟨bx, 0, none⟩) G.length cx) (by simp)))) (by simp) hSw ?_; intro a ha
  refine line_still sp12R 18 18 [] 114 (.int .i64 ((G.length : Int))) [(112, .slice (some ⟨bx, 0, none⟩) G.length cx), (111, .bool false), (7, .pointer (some ⟨w1.heap.size, 0, none⟩)), (9, .pointer (some ⟨w3.heap.size, 0, none⟩)), (16, .slice (some ⟨bx, 0, none⟩) G.length cx)] rfl (by decide) (by decide) (by decide) ha (fun o ho hg => y_of (sp12R.wanted hg rfl ha (d := 111) (by simp)) (fun wx hS => e_rlen8 ho (ha.ev (i := 113) (v := .slice (some ⟨bx, 0, none⟩) G.length cx) (by simp)))) (by simp) hSw ?_; intro a ha
  refine line_still sp12R 19 19 [] 115 (.int .i64 ((lz : Int))) [(112, .slice (some ⟨bx, 0, none⟩) G.length cx), (111, .bool false), (7, .pointer (some ⟨w1.heap.size, 0, none⟩)), (9, .pointer (some ⟨w3.heap.size, 0, none⟩)), (16, .slice (some ⟨bx, 0, none⟩) G.length cx)] rfl (by decide) (by decide) (by decide) ha (fun o ho hg => y_of (sp12R.wanted hg rfl ha (d := 111) (by simp)) (fun wx hS => e_sub8 A2.out.1 A2.out.2 ho (ha.ev (i := 114) (v := .int .i64 ((G.length : Int))) (by simp)) rfl)) (by simp) hSw ?_; intro a ha
  refine line_still sp12R 20 20 [] 116 (.pointer (some ⟨bx, lz * 6, none⟩)) [(111, .bool false), (7, .pointer (some ⟨w1.heap.size, 0, none⟩)), (9, .pointer (some ⟨w3.heap.size, 0, none⟩)), (16, .slice (some ⟨bx, 0, none⟩) G.length cx)] rfl (by decide) (by decide) (by decide) ha (fun o ho hg => y_of (sp12R.wanted hg rfl ha (d := 111) (by simp)) (fun wx hS => e_pidx8 (k := lz) A4.out ho (ha.ev (i := 112) (v := .slice (some ⟨bx, 0, none⟩) G.length cx) (by simp)) (ha.ev (i := 115) (v := .int .i64 ((lz : Int))) (by simp)))) (by simp) hSw ?_; intro a ha
  refine line_still sp12R 21 21 [] 117 (.pointer (some ⟨bx, lz * 6 + 3, none⟩)) [(111, .bool false), (7, .pointer (some ⟨w1.heap.size, 0, none⟩)), (9, .pointer (some ⟨w3.heap.size, 0, none⟩)), (16, .slice (some ⟨bx, 0, none⟩) G.length cx)] rfl (by decide) (by decide) (by decide) ha (fun o ho hg => y_of (sp12R.wanted hg rfl ha (d := 111) (by simp)) (fun wx hS => e_psnd8 ho (ha.ev (i := 116) (v := .pointer (some ⟨bx, lz * 6, none⟩)) (by simp)) rfl)) (by simp) hSw ?_; intro a ha
  refine line_still sp12R 22 22 [] 118 (.agg #[.int .i64 y', .int .i64 m', .int .i64 d']) [(111, .bool false), (7, .pointer (some ⟨w1.heap.size, 0, none⟩)), (9, .pointer (some ⟨w3.heap.size, 0, none⟩)), (16, .slice (some ⟨bx, 0, none⟩) G.length cx)] rfl (by decide) (by decide) (by decide) ha (fun o ho hg => y_of (sp12R.wanted hg rfl ha (d := 111) (by simp)) (fun wx hS => e_pday8 ho (ha.ev (i := 117) (v := .pointer (some ⟨bx, lz * 6 + 3, none⟩)) (by simp)) (hS.snd A3.out F5b.out).1 (hS.snd A3.out F5b.out).2.1 (hS.snd A3.out F5b.out).2.2)) (by simp) hSw ?_; intro a ha
  refine line_still sp12R 23 23 [] 119 (.agg #[.int .i64 y', .int .i64 m', .int .i64 d']) [(118, .agg #[.int .i64 y', .int .i64 m', .int .i64 d']), (111, .bool false), (7, .pointer (some ⟨w1.heap.size, 0, none⟩)), (9, .pointer (some ⟨w3.heap.size, 0, none⟩)), (16, .slice (some ⟨bx, 0, none⟩) G.length cx)] rfl (by decide) (by decide) (by decide) ha (fun o ho hg => y_of (sp12R.wanted hg rfl ha (d := 111) (by simp)) (fun wx hS => e_load8 ho (ha.ev (i := 9) (v := .pointer (some ⟨w3.heap.size, 0, none⟩)) (by simp)) (hS.at_ (g := w3.heap.size) (x0 := .int .i64 y') (x1 := .int .i64 m') (x2 := .int .i64 d') (by simp)))) (by simp) hSw ?_; intro a ha
  refine line_still sp12R 24 24 [] 120 (.bool false) [(111, .bool false), (7, .pointer (some ⟨w1.heap.size, 0, none⟩)), (9, .pointer (some ⟨w3.heap.size, 0, none⟩)), (16, .slice (some ⟨bx, 0, none⟩) G.length cx)] rfl (by decide) (by decide) (by decide) ha (fun o ho hg => y_of (sp12R.wanted hg rfl ha (d := 111) (by simp)) (fun wx hS => e_dne8 ho (ha.ev (i := 118) (v := .agg #[.int .i64 y', .int .i64 m', .int .i64 d']) (by simp)) (ha.ev (i := 119) (v := .agg #[.int .i64 y', .int .i64 m', .int .i64 d']) (by simp)))) (by simp) hSw ?_; intro a ha
  refine line_still sp12R 25 25 [] 121 (.bool false) [(7, .pointer (some ⟨w1.heap.size, 0, none⟩)), (9, .pointer (some ⟨w3.heap.size, 0, none⟩)), (16, .slice (some ⟨bx, 0, none⟩) G.length cx)] rfl (by decide) (by decide) (by decide) ha (fun o ho hg => y_of (wanted_none hg) (fun wx hS => e_pick ho (ha.ev (i := 111) (v := .bool false) (by simp)) rfl (ha.ev (i := 120) (v := .bool false) (by simp)))) (by simp) hSw ?_; intro a ha
  refine line_end sp12R rfl ?_
  simp only [Exit.then]
  refine hK _ _ ?_
  clear hK K
  obtain ⟨us, rfl, hu⟩ := ha.list8
  have eu7 : us 7 = .pointer (some ⟨w1.heap.size, 0, none⟩) := hu (7, .pointer (some ⟨w1.heap.size, 0, none⟩)) (by simp)
  have eu9 : us 9 = .pointer (some ⟨w3.heap.size, 0, none⟩) := hu (9, .pointer (some ⟨w3.heap.size, 0, none⟩)) (by simp)
  have eu16 : us 16 = .slice (some ⟨bx, 0, none⟩) G.length cx := hu (16, .slice (some ⟨bx, 0, none⟩) G.length cx) (by simp)
  have eu121 : us 121 = .bool false := hu (121, .bool false) (by simp)
  rw [show (List.range 198).map us = [us 0, us 1, us 2, us 3, us 4, us 5, us 6, us 7, us 8, us 9, us 10, us 11, us 12, us 13, us 14, us 15, us 16, us 17, us 18, us 19, us 20, us 21, us 22, us 23, us 24, us 25, us 26, us 27, us 28, us 29, us 30, us 31, us 32, us 33, us 34, us 35, us 36, us 37, us 38, us 39, us 40, us 41, us 42, us 43, us 44, us 45, us 46, us 47, us 48, us 49, us 50, us 51, us 52, us 53, us 54, us 55, us 56, us 57, us 58, us 59, us 60, us 61, us 62, us 63, us 64, us 65, us 66, us 67, us 68, us 69, us 70, us 71, us 72, us 73, us 74, us 75, us 76, us 77, us 78, us 79, us 80, us 81, us 82, us 83, us 84, us 85, us 86, us 87, us 88, us 89, us 90, us 91, us 92, us 93, us 94, us 95, us 96, us 97, us 98, us 99, us 100, us 101, us 102, us 103, us 104, us 105, us 106, us 107, us 108, us 109, us 110, us 111, us 112, us 113, us 114, us 115, us 116, us 117, us 118, us 119, us 120, us 121, us 122, us 123, us 124, us 125, us 126, us 127, us 128, us 129, us 130, us 131, us 132, us 133, us 134, us 135, us 136, us 137, us 138, us 139, us 140, us 141, us 142, us 143, us 144, us 145, us 146, us 147, us 148, us 149, us 150, us 151, us 152, us 153, us 154, us 155, us 156, us 157, us 158, us 159, us 160, us 161, us 162, us 163, us 164, us 165, us 166, us 167, us 168, us 169, us 170, us 171, us 172, us 173, us 174, us 175, us 176, us 177, us 178, us 179, us 180, us 181, us 182, us 183, us 184, us 185, us 186, us 187, us 188, us 189, us 190, us 191, us 192, us 193, us 194, us 195, us 196, us 197] from rfl, eu7, eu9, eu16, eu121]
  clear hu ha eu7 eu9 eu16 eu121
  go_wp2_with fail
  clear len1 len2
  go_loopw [124] (fun iv wr => ∃ j : Nat, j ≤ G.length ∧ iv = .int .i64 (j : Int) ∧ S8 w wr [(w3.heap.size, .int .i64 y', .int .i64 m', .int .i64 d'), (w1.heap.size, .int .i64 y, .int .i64 m, .int .i64 d)] ∧ Rd8 wr (.slice (some ⟨bx, 0, none⟩) G.length cx) G) (fun iv _ => G.length - (intOf iv).toNat)
  case atStart => exact ⟨0, Nat.zero_le _, rfl, E.out, RX.out⟩
  case round =>
    obtain ⟨j, hj, rfl, hE, hrx⟩ := hrel
    clear E RX
    have E := Lib.hid hE
    have RX := Lib.hid hrx
    clear hE hrx
    by_cases hlt : j < G.length
    ·
      obtain ⟨b_, c_, hb1, hc1, hm1, x0, x1, x2, x3, x4, x5⟩ := RX.out.at_ hlt
      have PC := F6.out j hlt
      obtain ⟨⟨⟨P1, P2, P3⟩, P4, P5, P6⟩, hq⟩ : ∃ q : D6, G.getD j z6 = q := ⟨_, rfl⟩
      rw [show ((0, 0, 0), (0, 0, 0)) = z6 from rfl, hq] at x0 x1 x2 x3 x4 x5
      rw [hq] at PC
      have HQ := Lib.hid hq
      clear hq
      injection hb1 with hb1a _ hb1c
      injection hb1a with hb1a
      injection hb1a with hb1a _ _
      subst hb1a
      subst hb1c
      unfold maxLen at hm1
      have i1 : (0 : Int) ≤ (j : Int) := by omega
      have i2 : (j : Int) < (G.length : Int) := by omega
      go_wp2_with fail
      rename_i K hK t1_ t2_ t3_
      clear t1_ t2_ t3_ x0 x1 x2 x3 x4 x5
      obtain ⟨W9, hW9⟩ : ∃ v, wr.alloc (.cells #[.int .i64 P1, .int .i64 P2, .int .i64 P3, .int .i64 P4, .int .i64 P5, .int .i64 P6] 44) = v := ⟨_, rfl⟩
      replace E : Hid (S8 w W9 [(w3.heap.size, .int .i64 y', .int .i64 m', .int .i64 d'), (w1.heap.size, .int .i64 y, .int .i64 m, .int .i64 d)]) := by rw [← hW9]; exact S8.alloc E.out _
      replace RX : Hid (Rd8 W9 (.slice (some ⟨bx, 0, none⟩) G.length cx) G) := by rw [← hW9]; exact RX.out.on ((Below.refl _ _).alloc (Nat.le_refl _) _)
      have SIX : Hid (Six8 W9 wr.heap.size P1 P2 P3 P4 P5 P6) := by rw [← hW9]; exact Six8.new _ _ _ _ _ _ _ _
      rw [hW9]
      clear hW9
      obtain ⟨pc1, pc2, pc3, pc4, pc5⟩ := PC
      have c1 : ok8 P1 P2 P3 = true := pc1
      have c2 : ok8 P4 P5 P6 = true := pc2
      have c3 : cmp8 P1 P2 P3 P4 P5 P6 ≤ 0 := pc3
      have c4 : P1 = P4 := pc4
      have c5 : P2 = P5 := pc5
      clear pc1 pc2 pc3 pc4 pc5
      have MZ : Hid (months8 P1 P2 P3 P4 P5 P6 = 0) := by show _ = _; rw [months8_ok c1 c2, c4, c5]; exact Int.sub_self _
      obtain ⟨cz, hcz⟩ : ∃ q, cmp8 P1 P2 P3 P4 P5 P6 = q := ⟨_, rfl⟩
      rw [hcz] at c3
      have CZ := Lib.hid hcz
      have GZ : Hid (decide (0 < cz) = false) := decide_eq_false (by omega)
      have PI : Hid ((j : Int) < (G.length : Int)) := i2
      clear hcz c1 c2 c3 c4 c5
      by_cases hj0 : j = 0
      ·
        have IZ : Hid (decide (0 < (j : Int)) = false) := decide_eq_false (by omega)
        clear hj0
        replace E := Lib.hid (S8.drew E.out)
        replace RX := Lib.hid (RX.out.on (Below.refl _ _).drew)
        replace SIX := Lib.hid (SIX.out.on (Below.refl _ _).drew)
        refine line_start (ops := opsAt Tryd.prog 7 17) (S := SX8 [(w3.heap.size, .int .i64 y', .int .i64 m', .int .i64 d'), (w1.heap.size, .int .i64 y, .int .i64 m, .int .i64 d)] (.slice (some ⟨bx, 0, none⟩) G.length cx) G wr.heap.size P1 P2 P3 P4 P5 P6) (by kernel_rfl) (by kernel_rfl) (SX8.mk (SR8.mk (S8.sb E) RX.out) SIX.out) ?_
        have hSw := SX8.mk (SR8.mk (S8.sb E) RX.out) SIX.out
        generalize hA : Act.mk _ _ = a0
        have ha := Fr.rest (show Fr 198 a0 [(16, .slice (some ⟨bx, 0, none⟩) G.length cx), (17, .int .i64 (j : Int)), (18, .pointer (some ⟨wr.heap.size, 0, none⟩))] by rw [← hA]; exact ⟨rfl, rfl, by intro q hq; simp at hq; rcases hq with rfl | rfl | rfl <;> rfl⟩) 129 161
        obtain ⟨RR, hRR⟩ : ∃ R, rest8 a0 198 129 161 = R := ⟨_, rfl⟩
        have far : ∀ d : Nat, 129 ≤ d → d < 161 → ∀ q ∈ RR, q.1 ≠ d := by rw [← hRR]; exact fun d h1 h2 => rest8_far d h1 h2
        rw [hRR] at ha
        refine line_still sp17zR 0 0 [] 129 (.pointer (some ⟨wr.heap.size, 0, none⟩)) ([(16, .slice (some ⟨bx, 0, none⟩) G.length cx), (17, .int .i64 (j : Int)), (18, .pointer (some ⟨wr.heap.size, 0, none⟩))] ++ RR) rfl (by decide) (by decide) (by decide) ha (fun o ho hg => y_of (wanted_none hg) (fun wx hS => e_pfst8 ho (ha.ev (i := 18) (v := .pointer (some ⟨wr.heap.size, 0, none⟩)) (by simp)) rfl)) (List.forall_mem_append.2 ⟨by simp, fun q hq => ⟨by simp [hq], far _ (by decide) (by decide) q hq⟩⟩) hSw ?_; intro a ha
        refine line_still sp17zR 1 1 [] 130 (.agg #[.int .i64 P1, .int .i64 P2, .int .i64 P3]) ([(16, .slice (some ⟨bx, 0, none⟩) G.length cx), (17, .int .i64 (j : Int)), (18, .pointer (some ⟨wr.heap.size, 0, none⟩))] ++ RR) rfl (by decide) (by decide) (by decide) ha (fun o ho hg => y_of (wanted_none hg) (fun wx hS => e_pday8 ho (ha.ev (i := 129) (v := .pointer (some ⟨wr.heap.size, 0, none⟩)) (by simp)) hS.six.c0 hS.six.c1 hS.six.c2)) (List.forall_mem_append.2 ⟨by simp, fun q hq => ⟨by simp [hq], far _ (by decide) (by decide) q hq⟩⟩) hSw ?_; intro a ha
        refine line_still sp17zR 2 2 [] 131 (.pointer (some ⟨wr.heap.size, 0 + 3, none⟩)) ([(130, .agg #[.int .i64 P1, .int .i64 P2, .int .i64 P3]), (16, .slice (some ⟨bx, 0, none⟩) G.length cx), (17, .int .i64 (j : Int)), (18, .pointer (some ⟨wr.heap.size, 0, none⟩))] ++ RR) rfl (by decide) (by decide) (by decide) ha (fun o ho hg => y_of (wanted_none hg) (fun wx hS => e_psnd8 ho (ha.ev (i := 18) (v := .pointer (some ⟨wr.heap.size, 0, none⟩)) (by simp)) rfl)) (List.forall_mem_append.2 ⟨by simp, fun q hq => ⟨by simp [hq], far _ (by decide) (by decide) q hq⟩⟩) hSw ?_; intro a ha
        refine line_still sp17zR 3 3 [] 132 (.agg #[.int .i64 P4, .int .i64 P5, .int .i64 P6]) ([(130, .agg #[.int .i64 P1, .int .i64 P2, .int .i64 P3]), (16, .slice (some ⟨bx, 0, none⟩) G.length cx), (17, .int .i64 (j : Int)), (18, .pointer (some ⟨wr.heap.size, 0, none⟩))] ++ RR) rfl (by decide) (by decide) (by decide) ha (fun o ho hg => y_of (wanted_none hg) (fun wx hS => e_pday8 ho (ha.ev (i := 131) (v := .pointer (some ⟨wr.heap.size, 0 + 3, none⟩)) (by simp)) hS.six.c3 hS.six.c4 hS.six.c5)) (List.forall_mem_append.2 ⟨by simp, fun q hq => ⟨by simp [hq], far _ (by decide) (by decide) q hq⟩⟩) hSw ?_; intro a ha
        refine line_call sp17zR 4 4 [] 133 (args := #[.agg #[.int .i64 P1, .int .i64 P2, .int .i64 P3], .agg #[.int .i64 P4, .int .i64 P5, .int .i64 P6]]) ([(16, .slice (some ⟨bx, 0, none⟩) G.length cx), (17, .int .i64 (j : Int)), (18, .pointer (some ⟨wr.heap.size, 0, none⟩))] ++ RR) rfl (by decide) (by decide) (by decide) ha (fun o ho hg => ⟨(wanted_none hg), e_call8 (by kernel_rfl) ho rfl (by have q0 := ha.ev (i := 130) (v := .agg #[.int .i64 P1, .int .i64 P2, .int .i64 P3]) (by simp); have q1 := ha.ev (i := 132) (v := .agg #[.int .i64 P4, .int .i64 P5, .int .i64 P6]) (by simp); simp only [List.map_toArray, List.map_cons, List.map_nil, ev_const, q0, q1])⟩) (List.forall_mem_append.2 ⟨by simp, fun q hq => ⟨by simp [hq], far _ (by decide) (by decide) q hq⟩⟩) ?_
        refine (cmp_is E.out.tab CZ.out).mono ?_; rintro e w10 ⟨rfl, hb⟩
        replace E := Lib.hid (S8.step E.out hb)
        replace RX := Lib.hid (RX.out.on hb)
        replace SIX := Lib.hid (SIX.out.on hb)
        clear hb
        have hSw := SX8.mk (SR8.mk (S8.sb E) RX.out) SIX.out; refine ⟨_, rfl, hSw, ?_⟩; intro a ha
        refine line_still sp17zR 5 5 [] 134 (.bool false) ([(16, .slice (some ⟨bx, 0, none⟩) G.length cx), (17, .int .i64 (j : Int)), (18, .pointer (some ⟨wr.heap.size, 0, none⟩))] ++ RR) rfl (by decide) (by decide) (by decide) ha (fun o ho hg => y_of (wanted_none hg) (fun wx hS => (e_gtr8 ho (ha.ev (i := 133) (v := .int .i64 cz) (by simp)) rfl).trans (by rw [GZ.out]))) (List.forall_mem_append.2 ⟨by simp, fun q hq => ⟨by simp [hq], far _ (by decide) (by decide) q hq⟩⟩) hSw ?_; intro a ha
        refine line_still sp17zR 6 6 [] 135 (.bool false) ([(16, .slice (some ⟨bx, 0, none⟩) G.length cx), (17, .int .i64 (j : Int)), (18, .pointer (some ⟨wr.heap.size, 0, none⟩))] ++ RR) rfl (by decide) (by decide) (by decide) ha (fun o ho hg => y_of (wanted_none hg) (fun wx hS => e_move (.inl ho) (ha.ev (i := 134) (v := .bool false) (by simp)))) (List.forall_mem_append.2 ⟨by simp, fun q hq => ⟨by simp [hq], far _ (by decide) (by decide) q hq⟩⟩) hSw ?_; intro a ha
        refine line_still sp17zR 7 7 [] 136 (.pointer (some ⟨wr.heap.size, 0, none⟩)) ([(135, .bool false), (16, .slice (some ⟨bx, 0, none⟩) G.length cx), (17, .int .i64 (j : Int)), (18, .pointer (some ⟨wr.heap.size, 0, none⟩))] ++ RR) rfl (by decide) (by decide) (by decide) ha (fun o ho hg => y_of (sp17zR.wanted hg rfl ha (d := 135) (by simp)) (fun wx hS => e_pfst8 ho (ha.ev (i := 18) (v := .pointer (some ⟨wr.heap.size, 0, none⟩)) (by simp)) rfl)) (List.forall_mem_append.2 ⟨by simp, fun q hq => ⟨by simp [hq], far _ (by decide) (by decide) q hq⟩⟩) hSw ?_; intro a ha
        refine line_still sp17zR 8 8 [] 137 (.agg #[.int .i64 P1, .int .i64 P2, .int .i64 P3]) ([(135, .bool false), (16, .slice (some ⟨bx, 0, none⟩) G.length cx), (17, .int .i64 (j : Int)), (18, .pointer (some ⟨wr.heap.size, 0, none⟩))] ++ RR) rfl (by decide) (by decide) (by decide) ha (fun o ho hg => y_of (sp17zR.wanted hg rfl ha (d := 135) (by simp)) (fun wx hS => e_pday8 ho (ha.ev (i := 136) (v := .pointer (some ⟨wr.heap.size, 0, none⟩)) (by simp)) hS.six.c0 hS.six.c1 hS.six.c2)) (List.forall_mem_append.2 ⟨by simp, fun q hq => ⟨by simp [hq], far _ (by decide) (by decide) q hq⟩⟩) hSw ?_; intro a ha
        refine line_still sp17zR 9 9 [] 138 (.pointer (some ⟨wr.heap.size, 0 + 3, none⟩)) ([(137, .agg #[.int .i64 P1, .int .i64 P2, .int .i64 P3]), (135, .bool false), (16, .slice (some ⟨bx, 0, none⟩) G.length cx), (17, .int .i64 (j : Int)), (18, .pointer (some ⟨wr.heap.size, 0, none⟩))] ++ RR) rfl (by decide) (by decide) (by decide) ha (fun o ho hg => y_of (sp17zR.wanted hg rfl ha (d := 135) (by simp)) (fun wx hS => e_psnd8 ho (ha.ev (i := 18) (v := .pointer (some ⟨wr.heap.size, 0, none⟩)) (by simp)) rfl)) (List.forall_mem_append.2 ⟨by simp, fun q hq => ⟨by simp [hq], far _ (by decide) (by decide) q hq⟩⟩) hSw ?_; intro a ha
        refine line_still sp17zR 10 10 [] 139 (.agg #[.int .i64 P4, .int .i64 P5, .int .i64 P6]) ([(137, .agg #[.int .i64 P1, .int .i64 P2, .int .i64 P3]), (135, .bool false), (16, .slice (some ⟨bx, 0, none⟩) G.length cx), (17, .int .i64 (j : Int)), (18, .pointer (some ⟨wr.heap.size, 0, none⟩))] ++ RR) rfl (by decide) (by decide) (by decide) ha (fun o ho hg => y_of (sp17zR.wanted hg rfl ha (d := 135) (by simp)) (fun wx hS => e_pday8 ho (ha.ev (i := 138) (v := .pointer (some ⟨wr.heap.size, 0 + 3, none⟩)) (by simp)) hS.six.c3 hS.six.c4 hS.six.c5)) (List.forall_mem_append.2 ⟨by simp, fun q hq => ⟨by simp [hq], far _ (by decide) (by decide) q hq⟩⟩) hSw ?_; intro a ha
        refine line_call sp17zR 11 11 [] 140 (args := #[.agg #[.int .i64 P1, .int .i64 P2, .int .i64 P3], .agg #[.int .i64 P4, .int .i64 P5, .int .i64 P6]]) ([(135, .bool false), (16, .slice (some ⟨bx, 0, none⟩) G.length cx), (17, .int .i64 (j : Int)), (18, .pointer (some ⟨wr.heap.size, 0, none⟩))] ++ RR) rfl (by decide) (by decide) (by decide) ha (fun o ho hg => ⟨(sp17zR.wanted hg rfl ha (d := 135) (by simp)), e_call8 (by kernel_rfl) ho rfl (by have q0 := ha.ev (i := 137) (v := .agg #[.int .i64 P1, .int .i64 P2, .int .i64 P3]) (by simp); have q1 := ha.ev (i := 139) (v := .agg #[.int .i64 P4, .int .i64 P5, .int .i64 P6]) (by simp); simp only [List.map_toArray, List.map_cons, List.map_nil, ev_const, q0, q1])⟩) (List.forall_mem_append.2 ⟨by simp, fun q hq => ⟨by simp [hq], far _ (by decide) (by decide) q hq⟩⟩) ?_
        refine (months_is E.out.tab MZ.out).mono ?_; rintro e w11 ⟨rfl, hb⟩
        replace E := Lib.hid (S8.step E.out hb)
        replace RX := Lib.hid (RX.out.on hb)
        replace SIX := Lib.hid (SIX.out.on hb)
        clear hb
        have hSw := SX8.mk (SR8.mk (S8.sb E) RX.out) SIX.out; refine ⟨_, rfl, hSw, ?_⟩; intro a ha
        refine line_still sp17zR 12 12 [] 141 (.bool false) ([(135, .bool false), (16, .slice (some ⟨bx, 0, none⟩) G.length cx), (17, .int .i64 (j : Int)), (18, .pointer (some ⟨wr.heap.size, 0, none⟩))] ++ RR) rfl (by decide) (by decide) (by decide) ha (fun o ho hg => y_of (sp17zR.wanted hg rfl ha (d := 135) (by simp)) (fun wx hS => e_neq8 ho (ha.ev (i := 140) (v := .int .i64 (0)) (by simp)) rfl)) (List.forall_mem_append.2 ⟨by simp, fun q hq => ⟨by simp [hq], far _ (by decide) (by decide) q hq⟩⟩) hSw ?_; intro a ha
        refine line_still sp17zR 13 13 [] 142 (.bool false) ([(16, .slice (some ⟨bx, 0, none⟩) G.length cx), (17, .int .i64 (j : Int)), (18, .pointer (some ⟨wr.heap.size, 0, none⟩))] ++ RR) rfl (by decide) (by decide) (by decide) ha (fun o ho hg => y_of (wanted_none hg) (fun wx hS => e_pick ho (ha.ev (i := 135) (v := .bool false) (by simp)) rfl (ha.ev (i := 141) (v := .bool false) (by simp)))) (List.forall_mem_append.2 ⟨by simp, fun q hq => ⟨by simp [hq], far _ (by decide) (by decide) q hq⟩⟩) hSw ?_; intro a ha
        refine line_still sp17zR 14 14 [] 143 (.bool false) ([(16, .slice (some ⟨bx, 0, none⟩) G.length cx), (17, .int .i64 (j : Int)), (18, .pointer (some ⟨wr.heap.size, 0, none⟩))] ++ RR) rfl (by decide) (by decide) (by decide) ha (fun o ho hg => y_of (wanted_none hg) (fun wx hS => e_move (.inl ho) (ha.ev (i := 142) (v := .bool false) (by simp)))) (List.forall_mem_append.2 ⟨by simp, fun q hq => ⟨by simp [hq], far _ (by decide) (by decide) q hq⟩⟩) hSw ?_; intro a ha
        refine line_still sp17zR 15 15 [] 144 (.int .i64 (j : Int)) ([(143, .bool false), (16, .slice (some ⟨bx, 0, none⟩) G.length cx), (17, .int .i64 (j : Int)), (18, .pointer (some ⟨wr.heap.size, 0, none⟩))] ++ RR) rfl (by decide) (by decide) (by decide) ha (fun o ho hg => y_of (sp17zR.wanted hg rfl ha (d := 143) (by simp)) (fun wx hS => e_move (.inl ho) (ha.ev (i := 17) (v := .int .i64 (j : Int)) (by simp)))) (List.forall_mem_append.2 ⟨by simp, fun q hq => ⟨by simp [hq], far _ (by decide) (by decide) q hq⟩⟩) hSw ?_; intro a ha
        refine line_still sp17zR 16 16 [] 145 (.bool false) ([(143, .bool false), (16, .slice (some ⟨bx, 0, none⟩) G.length cx), (17, .int .i64 (j : Int)), (18, .pointer (some ⟨wr.heap.size, 0, none⟩))] ++ RR) rfl (by decide) (by decide) (by decide) ha (fun o ho hg => y_of (sp17zR.wanted hg rfl ha (d := 143) (by simp)) (fun wx hS => (e_gtr8 ho (ha.ev (i := 144) (v := .int .i64 (j : Int)) (by simp)) rfl).trans (by rw [IZ.out]))) (List.forall_mem_append.2 ⟨by simp, fun q hq => ⟨by simp [hq], far _ (by decide) (by decide) q hq⟩⟩) hSw ?_; intro a ha
        refine line_still sp17zR 17 17 [] 146 (.bool false) ([(143, .bool false), (16, .slice (some ⟨bx, 0, none⟩) G.length cx), (17, .int .i64 (j : Int)), (18, .pointer (some ⟨wr.heap.size, 0, none⟩))] ++ RR) rfl (by decide) (by decide) (by decide) ha (fun o ho hg => y_of (sp17zR.wanted hg rfl ha (d := 143) (by simp)) (fun wx hS => e_move (.inl ho) (ha.ev (i := 145) (v := .bool false) (by simp)))) (List.forall_mem_append.2 ⟨by simp, fun q hq => ⟨by simp [hq], far _ (by decide) (by decide) q hq⟩⟩) hSw ?_; intro a ha
        refine line_still sp17zR 18 18 [] 147 undef ([(146, .bool false), (143, .bool false), (16, .slice (some ⟨bx, 0, none⟩) G.length cx), (17, .int .i64 (j : Int))] ++ RR) rfl (by decide) (by decide) (by decide) ha (fun o ho hg => y_not (sp17zR.unwanted hg rfl ha (d := 146) (by simp))) (List.forall_mem_append.2 ⟨by simp, fun q hq => ⟨by simp [hq], far _ (by decide) (by decide) q hq⟩⟩) hSw ?_; intro a ha
        refine line_still sp17zR 19 19 [] 148 undef ([(146, .bool false), (143, .bool false), (16, .slice (some ⟨bx, 0, none⟩) G.length cx), (17, .int .i64 (j : Int))] ++ RR) rfl (by decide) (by decide) (by decide) ha (fun o ho hg => y_not (sp17zR.unwanted hg rfl ha (d := 146) (by simp))) (List.forall_mem_append.2 ⟨by simp, fun q hq => ⟨by simp [hq], far _ (by decide) (by decide) q hq⟩⟩) hSw ?_; intro a ha
        refine line_ahead sp17zR 20 20 [] 21 150 undef ([(148, undef), (146, .bool false), (143, .bool false), (17, .int .i64 (j : Int))] ++ RR) rfl (by decide) (by decide) (by decide) ha (fun o ho hg => y_not (sp17zR.unwanted hg rfl ha (d := 146) (by simp))) (List.forall_mem_append.2 ⟨by simp, fun q hq => ⟨by simp [hq], far _ (by decide) (by decide) q hq⟩⟩) hSw ?_; intro a ha
        refine line_ahead sp17zR 21 20 [21] 22 151 undef ([(150, undef), (148, undef), (146, .bool false), (143, .bool false)] ++ RR) rfl (by decide) (by decide) (by decide) ha (fun o ho hg => y_not (sp17zR.unwanted hg rfl ha (d := 146) (by simp))) (List.forall_mem_append.2 ⟨by simp, fun q hq => ⟨by simp [hq], far _ (by decide) (by decide) q hq⟩⟩) hSw ?_; intro a ha
        refine line_ahead sp17zR 22 20 [22, 21] 23 152 undef ([(150, undef), (148, undef), (146, .bool false), (143, .bool false)] ++ RR) rfl (by decide) (by decide) (by decide) ha (fun o ho hg => y_not (sp17zR.unwanted hg rfl ha (d := 146) (by simp))) (List.forall_mem_append.2 ⟨by simp, fun q hq => ⟨by simp [hq], far _ (by decide) (by decide) q hq⟩⟩) hSw ?_; intro a ha
        refine line_ahead sp17zR 23 20 [23, 22, 21] 24 153 undef ([(148, undef), (146, .bool false), (143, .bool false)] ++ RR) rfl (by decide) (by decide) (by decide) ha (fun o ho hg => y_not (sp17zR.unwanted hg rfl ha (d := 146) (by simp))) (List.forall_mem_append.2 ⟨by simp, fun q hq => ⟨by simp [hq], far _ (by decide) (by decide) q hq⟩⟩) hSw ?_; intro a ha
        refine line_ahead sp17zR 24 20 [24, 23, 22, 21] 25 154 undef ([(148, undef), (146, .bool false), (143, .bool false)] ++ RR) rfl (by decide) (by decide) (by decide) ha (fun o ho hg => y_not (sp17zR.unwanted hg rfl ha (d := 146) (by simp))) (List.forall_mem_append.2 ⟨by simp, fun q hq => ⟨by simp [hq], far _ (by decide) (by decide) q hq⟩⟩) hSw ?_; intro a ha
        refine line_ahead sp17zR 25 20 [25, 24, 23, 22, 21] 26 155 undef ([(148, undef), (146, .bool false), (143, .bool false)] ++ RR) rfl (by decide) (by decide) (by decide) ha (fun o ho hg => y_not (sp17zR.unwanted hg rfl ha (d := 146) (by simp))) (List.forall_mem_append.2 ⟨by simp, fun q hq => ⟨by simp [hq], far _ (by decide) (by decide) q hq⟩⟩) hSw ?_; intro a ha
        refine line_not sp17zR 26 20 [26, 25, 24, 23, 22, 21] 149 ([(155, undef), (146, .bool false), (143, .bool false)] ++ RR) rfl (by decide) (by decide) (by decide) ha (fun o ho hg => sp17zR.unwanted hg rfl ha (d := 146) (by simp)) (List.forall_mem_append.2 ⟨by simp, fun q hq => ⟨by simp [hq], far _ (by decide) (by decide) q hq⟩⟩) hSw ?_; intro a ha
        refine line_skip [26, 25, 24, 23, 22] (by intro i; simp <;> omega) ?_
        refine line_skip [26, 25, 24, 23] (by intro i; simp <;> omega) ?_
        refine line_skip [26, 25, 24] (by intro i; simp <;> omega) ?_
        refine line_skip [26, 25] (by intro i; simp <;> omega) ?_
        refine line_skip [26] (by intro i; simp <;> omega) ?_
        refine line_skip [] (by intro i; simp <;> omega) ?_
        refine line_not sp17zR 27 27 [] 156 ([(149, undef), (146, .bool false), (143, .bool false)] ++ RR) rfl (by decide) (by decide) (by decide) ha (fun o ho hg => sp17zR.unwanted hg rfl ha (d := 146) (by simp)) (List.forall_mem_append.2 ⟨by simp, fun q hq => ⟨by simp [hq], far _ (by decide) (by decide) q hq⟩⟩) hSw ?_; intro a ha
        refine line_still sp17zR 28 28 [] 157 undef ([(149, undef), (146, .bool false), (143, .bool false)] ++ RR) rfl (by decide) (by decide) (by decide) ha (fun o ho hg => y_not (sp17zR.unwanted hg rfl ha (d := 146) (by simp))) (List.forall_mem_append.2 ⟨by simp, fun q hq => ⟨by simp [hq], far _ (by decide) (by decide) q hq⟩⟩) hSw ?_; intro a ha
        refine line_still sp17zR 29 29 [] 158 undef ([(146, .bool false), (143, .bool false)] ++ RR) rfl (by decide) (by decide) (by decide) ha (fun o ho hg => y_not (sp17zR.unwanted hg rfl ha (d := 146) (by simp))) (List.forall_mem_append.2 ⟨by simp, fun q hq => ⟨by simp [hq], far _ (by decide) (by decide) q hq⟩⟩) hSw ?_; intro a ha
        refine line_still sp17zR 30 30 [] 159 (.bool false) ([(143, .bool false)] ++ RR) rfl (by decide) (by decide) (by decide) ha (fun o ho hg => y_of (sp17zR.wanted hg rfl ha (d := 143) (by simp)) (fun wx hS => e_pick ho (ha.ev (i := 146) (v := .bool false) (by simp)) (ha.ev (i := 158) (v := undef) (by simp)) rfl)) (List.forall_mem_append.2 ⟨by simp, fun q hq => ⟨by simp [hq], far _ (by decide) (by decide) q hq⟩⟩) hSw ?_; intro a ha
        refine line_still sp17zR 31 31 [] 160 (.bool false) ([] ++ RR) rfl (by decide) (by decide) (by decide) ha (fun o ho hg => y_of (wanted_none hg) (fun wx hS => e_pick ho (ha.ev (i := 143) (v := .bool false) (by simp)) rfl (ha.ev (i := 159) (v := .bool false) (by simp)))) (List.forall_mem_append.2 ⟨by simp, fun q hq => ⟨by simp [hq], far _ (by decide) (by decide) q hq⟩⟩) hSw ?_; intro a ha
        refine line_end sp17zR rfl ?_
        rw [← hRR] at ha
        clear far hSw
        obtain ⟨us_, hae, hu⟩ := Fr.splice (l := [(160, .bool false)]) ha
        have eu := hu (160, .bool false) (by simp)
        have hax : a = ⟨#[us 0, us 1, us 2, us 3, us 4, us 5, u6, .pointer (some ⟨w1.heap.size, 0, none⟩), us 8, .pointer (some ⟨w3.heap.size, 0, none⟩), us 10, us 11, us 12, us 13, us 14, us 15, .slice (some ⟨bx, 0, none⟩) G.length cx, .int .i64 (j : Int), .pointer (some ⟨wr.heap.size, 0, none⟩), us 19, us 20, us 21, us 22, us 23, us 24, us 25, us 26, us 27, us 28, us 29, us 30, us 31, us 32, us 33, us 34, us 35, us 36, us 37, us 38, us 39, us 40, us 41, us 42, us 43, us 44, us 45, us 46, us 47, us 48, us 49, us 50, us 51, us 52, us 53, us 54, us 55, us 56, us 57, us 58, us 59, us 60, us 61, us 62, us 63, us 64, us 65, us 66, us 67, us 68, us 69, us 70, us 71, us 72, us 73, us 74, us 75, us 76, us 77, us 78, us 79, us 80, us 81, us 82, us 83, us 84, us 85, us 86, us 87, us 88, us 89, us 90, us 91, us 92, us 93, us 94, us 95, us 96, us 97, us 98, us 99, us 100, us 101, us 102, us 103, us 104, us 105, us 106, us 107, us 108, us 109, us 110, us 111, us 112, us 113, us 114, us 115, us 116, us 117, us 118, us 119, us 120, .bool false, .slice (some ⟨bx, 0, none⟩) G.length cx, .int .i64 ((G.length : Int)), .int .i64 (j : Int), .bool true, .int .i64 (j : Int), .pointer (some ⟨bx, j * 6, none⟩), .agg #[.int .i64 P1, .int .i64 P2, .int .i64 P3, .int .i64 P4, .int .i64 P5, .int .i64 P6], us_ 129, us_ 130, us_ 131, us_ 132, us_ 133, us_ 134, us_ 135, us_ 136, us_ 137, us_ 138, us_ 139, us_ 140, us_ 141, us_ 142, us_ 143, us_ 144, us_ 145, us_ 146, us_ 147, us_ 148, us_ 149, us_ 150, us_ 151, us_ 152, us_ 153, us_ 154, us_ 155, us_ 156, us_ 157, us_ 158, us_ 159, us_ 160, u161, us 162, us 163, us 164, us 165, us 166, us 167, us 168, us 169, us 170, us 171, us 172, us 173, us 174, us 175, us 176, us 177, us 178, us 179, us 180, us 181, us 182, us 183, us 184, us 185, us 186, us 187, us 188, us 189, us 190, us 191, us 192, us 193, us 194, us 195, us 196, us 197], []⟩ := by rw [hae, ← hA]; rfl
        simp only at eu
        clear hu hRR ha hae hA
        subst hax
        simp only [Exit.then]
        refine hK _ _ ?_
        clear hK K
        rw [eu]
        clear eu
        have bel := E.out.bel
        go_wp2_with fail
        exact ⟨⟨j + 1, hlt, by push_cast; rfl, E.out, RX.out⟩, by simp [intOf]; omega⟩
      ·
        have IZ : Hid (decide (0 < (j : Int)) = true) := decide_eq_true (by omega)
        obtain ⟨jp, hjp⟩ : ∃ q, j = q + 1 := ⟨j - 1, by omega⟩
        obtain ⟨r1, r2, r3, t1, t2, t3, hf, hbk, hd⟩ := F7.out jp (by omega)
        rw [← hjp, HQ.out] at hf
        replace hf : ((P1, P2, P3) : D3) = (r1, r2, r3) := hf
        simp only [Prod.mk.injEq] at hf
        rw [← hf.1, ← hf.2.1, ← hf.2.2] at hd
        clear hf
        obtain ⟨dq, hdq⟩ : ∃ q, days8 t1 t2 t3 = q := ⟨_, rfl⟩
        obtain ⟨dp, hdp⟩ : ∃ q, days8 P1 P2 P3 = q := ⟨_, rfl⟩
        have hbd := days8_bd P1 P2 P3
        rw [hdq, hdp] at hd
        rw [hdp] at hbd
        have DQ := Lib.hid hdq
        have DP := Lib.hid hdp
        have DA : Hid (dq + 1 = dp ∧ -9223372036854775808 ≤ dp ∧ dp ≤ 9223372036854775807) := ⟨by omega, by omega, by omega⟩
        have JA : Hid ((j : Int) - 1 = (jp : Int) ∧ -9223372036854775808 ≤ (jp : Int) ∧ (jp : Int) ≤ 9223372036854775807) := by have := F1.out; exact ⟨by omega, by omega, by omega⟩
        have JL : Hid (jp < G.length) := by show _ < _; omega
        have JI : Hid ((jp : Int) < (G.length : Int)) := by show _ < _; omega
        have HB := Lib.hid hbk
        clear hbk hd hbd hdq hdp hjp hj0
        replace E := Lib.hid (S8.drew E.out)
        replace RX := Lib.hid (RX.out.on (Below.refl _ _).drew)
        replace SIX := Lib.hid (SIX.out.on (Below.refl _ _).drew)
        refine line_start (ops := opsAt Tryd.prog 7 17) (S := SX8 [(w3.heap.size, .int .i64 y', .int .i64 m', .int .i64 d'), (w1.heap.size, .int .i64 y, .int .i64 m, .int .i64 d)] (.slice (some ⟨bx, 0, none⟩) G.length cx) G wr.heap.size P1 P2 P3 P4 P5 P6) (by kernel_rfl) (by kernel_rfl) (SX8.mk (SR8.mk (S8.sb E) RX.out) SIX.out) ?_
        have hSw := SX8.mk (SR8.mk (S8.sb E) RX.out) SIX.out
        generalize hA : Act.mk _ _ = a0
        have ha := Fr.rest (show Fr 198 a0 [(16, .slice (some ⟨bx, 0, none⟩) G.length cx), (17, .int .i64 (j : Int)), (18, .pointer (some ⟨wr.heap.size, 0, none⟩))] by rw [← hA]; exact ⟨rfl, rfl, by intro q hq; simp at hq; rcases hq with rfl | rfl | rfl <;> rfl⟩) 129 161
        obtain ⟨RR, hRR⟩ : ∃ R, rest8 a0 198 129 161 = R := ⟨_, rfl⟩
        have far : ∀ d : Nat, 129 ≤ d → d < 161 → ∀ q ∈ RR, q.1 ≠ d := by rw [← hRR]; exact fun d h1 h2 => rest8_far d h1 h2
        rw [hRR] at ha
        refine line_still sp17pR 0 0 [] 129 (.pointer (some ⟨wr.heap.size, 0, none⟩)) ([(16, .slice (some ⟨bx, 0, none⟩) G.length cx), (17, .int .i64 (j : Int)), (18, .pointer (some ⟨wr.heap.size, 0, none⟩))] ++ RR) rfl (by decide) (by decide) (by decide) ha (fun o ho hg => y_of (wanted_none hg) (fun wx hS => e_pfst8 ho (ha.ev (i := 18) (v := .pointer (some ⟨wr.heap.size, 0, none⟩)) (by simp)) rfl)) (List.forall_mem_append.2 ⟨by simp, fun q hq => ⟨by simp [hq], far _ (by decide) (by decide) q hq⟩⟩) hSw ?_; intro a ha
        refine line_still sp17pR 1 1 [] 130 (.agg #[.int .i64 P1, .int .i64 P2, .int .i64 P3]) ([(16, .slice (some ⟨bx, 0, none⟩) G.length cx), (17, .int .i64 (j : Int)), (18, .pointer (some ⟨wr.heap.size, 0, none⟩))] ++ RR) rfl (by decide) (by decide) (by decide) ha (fun o ho hg => y_of (wanted_none hg) (fun wx hS => e_pday8 ho (ha.ev (i := 129) (v := .pointer (some ⟨wr.heap.size, 0, none⟩)) (by simp)) hS.six.c0 hS.six.c1 hS.six.c2)) (List.forall_mem_append.2 ⟨by simp, fun q hq => ⟨by simp [hq], far _ (by decide) (by decide) q hq⟩⟩) hSw ?_; intro a ha
        refine line_still sp17pR 2 2 [] 131 (.pointer (some ⟨wr.heap.size, 0 + 3, none⟩)) ([(130, .agg #[.int .i64 P1, .int .i64 P2, .int .i64 P3]), (16, .slice (some ⟨bx, 0, none⟩) G.length cx), (17, .int .i64 (j : Int)), (18, .pointer (some ⟨wr.heap.size, 0, none⟩))] ++ RR) rfl (by decide) (by decide) (by decide) ha (fun o ho hg => y_of (wanted_none hg) (fun wx hS => e_psnd8 ho (ha.ev (i := 18) (v := .pointer (some ⟨wr.heap.size, 0, none⟩)) (by simp)) rfl)) (List.forall_mem_append.2 ⟨by simp, fun q hq => ⟨by simp [hq], far _ (by decide) (by decide) q hq⟩⟩) hSw ?_; intro a ha
        refine line_still sp17pR 3 3 [] 132 (.agg #[.int .i64 P4, .int .i64 P5, .int .i64 P6]) ([(130, .agg #[.int .i64 P1, .int .i64 P2, .int .i64 P3]), (16, .slice (some ⟨bx, 0, none⟩) G.length cx), (17, .int .i64 (j : Int)), (18, .pointer (some ⟨wr.heap.size, 0, none⟩))] ++ RR) rfl (by decide) (by decide) (by decide) ha (fun o ho hg => y_of (wanted_none hg) (fun wx hS => e_pday8 ho (ha.ev (i := 131) (v := .pointer (some ⟨wr.heap.size, 0 + 3, none⟩)) (by simp)) hS.six.c3 hS.six.c4 hS.six.c5)) (List.forall_mem_append.2 ⟨by simp, fun q hq => ⟨by simp [hq], far _ (by decide) (by decide) q hq⟩⟩) hSw ?_; intro a ha
        refine line_call sp17pR 4 4 [] 133 (args := #[.agg #[.int .i64 P1, .int .i64 P2, .int .i64 P3], .agg #[.int .i64 P4, .int .i64 P5, .int .i64 P6]]) ([(16, .slice (some ⟨bx, 0, none⟩) G.length cx), (17, .int .i64 (j : Int)), (18, .pointer (some ⟨wr.heap.size, 0, none⟩))] ++ RR) rfl (by decide) (by decide) (by decide) ha (fun o ho hg => ⟨(wanted_none hg), e_call8 (by kernel_rfl) ho rfl (by have q0 := ha.ev (i := 130) (v := .agg #[.int .i64 P1, .int .i64 P2, .int .i64 P3]) (by simp); have q1 := ha.ev (i := 132) (v := .agg #[.int .i64 P4, .int .i64 P5, .int .i64 P6]) (by simp); simp only [List.map_toArray, List.map_cons, List.map_nil, ev_const, q0, q1])⟩) (List.forall_mem_append.2 ⟨by simp, fun q hq => ⟨by simp [hq], far _ (by decide) (by decide) q hq⟩⟩) ?_
        refine (cmp_is E.out.tab CZ.out).mono ?_; rintro e w12 ⟨rfl, hb⟩
        replace E := Lib.hid (S8.step E.out hb)
        replace RX := Lib.hid (RX.out.on hb)
        replace SIX := Lib.hid (SIX.out.on hb)
        clear hb
        have hSw := SX8.mk (SR8.mk (S8.sb E) RX.out) SIX.out; refine ⟨_, rfl, hSw, ?_⟩; intro a ha
        refine line_still sp17pR 5 5 [] 134 (.bool false) ([(16, .slice (some ⟨bx, 0, none⟩) G.length cx), (17, .int .i64 (j : Int)), (18, .pointer (some ⟨wr.heap.size, 0, none⟩))] ++ RR) rfl (by decide) (by decide) (by decide) ha (fun o ho hg => y_of (wanted_none hg) (fun wx hS => (e_gtr8 ho (ha.ev (i := 133) (v := .int .i64 cz) (by simp)) rfl).trans (by rw [GZ.out]))) (List.forall_mem_append.2 ⟨by simp, fun q hq => ⟨by simp [hq], far _ (by decide) (by decide) q hq⟩⟩) hSw ?_; intro a ha
        refine line_still sp17pR 6 6 [] 135 (.bool false) ([(16, .slice (some ⟨bx, 0, none⟩) G.length cx), (17, .int .i64 (j : Int)), (18, .pointer (some ⟨wr.heap.size, 0, none⟩))] ++ RR) rfl (by decide) (by decide) (by decide) ha (fun o ho hg => y_of (wanted_none hg) (fun wx hS => e_move (.inl ho) (ha.ev (i := 134) (v := .bool false) (by simp)))) (List.forall_mem_append.2 ⟨by simp, fun q hq => ⟨by simp [hq], far _ (by decide) (by decide) q hq⟩⟩) hSw ?_; intro a ha
        refine line_still sp17pR 7 7 [] 136 (.pointer (some ⟨wr.heap.size, 0, none⟩)) ([(135, .bool false), (16, .slice (some ⟨bx, 0, none⟩) G.length cx), (17, .int .i64 (j : Int)), (18, .pointer (some ⟨wr.heap.size, 0, none⟩))] ++ RR) rfl (by decide) (by decide) (by decide) ha (fun o ho hg => y_of (sp17pR.wanted hg rfl ha (d := 135) (by simp)) (fun wx hS => e_pfst8 ho (ha.ev (i := 18) (v := .pointer (some ⟨wr.heap.size, 0, none⟩)) (by simp)) rfl)) (List.forall_mem_append.2 ⟨by simp, fun q hq => ⟨by simp [hq], far _ (by decide) (by decide) q hq⟩⟩) hSw ?_; intro a ha
        refine line_still sp17pR 8 8 [] 137 (.agg #[.int .i64 P1, .int .i64 P2, .int .i64 P3]) ([(135, .bool false), (16, .slice (some ⟨bx, 0, none⟩) G.length cx), (17, .int .i64 (j : Int)), (18, .pointer (some ⟨wr.heap.size, 0, none⟩))] ++ RR) rfl (by decide) (by decide) (by decide) ha (fun o ho hg => y_of (sp17pR.wanted hg rfl ha (d := 135) (by simp)) (fun wx hS => e_pday8 ho (ha.ev (i := 136) (v := .pointer (some ⟨wr.heap.size, 0, none⟩)) (by simp)) hS.six.c0 hS.six.c1 hS.six.c2)) (List.forall_mem_append.2 ⟨by simp, fun q hq => ⟨by simp [hq], far _ (by decide) (by decide) q hq⟩⟩) hSw ?_; intro a ha
        refine line_still sp17pR 9 9 [] 138 (.pointer (some ⟨wr.heap.size, 0 + 3, none⟩)) ([(137, .agg #[.int .i64 P1, .int .i64 P2, .int .i64 P3]), (135, .bool false), (16, .slice (some ⟨bx, 0, none⟩) G.length cx), (17, .int .i64 (j : Int)), (18, .pointer (some ⟨wr.heap.size, 0, none⟩))] ++ RR) rfl (by decide) (by decide) (by decide) ha (fun o ho hg => y_of (sp17pR.wanted hg rfl ha (d := 135) (by simp)) (fun wx hS => e_psnd8 ho (ha.ev (i := 18) (v := .pointer (some ⟨wr.heap.size, 0, none⟩)) (by simp)) rfl)) (List.forall_mem_append.2 ⟨by simp, fun q hq => ⟨by simp [hq], far _ (by decide) (by decide) q hq⟩⟩) hSw ?_; intro a ha
        refine line_still sp17pR 10 10 [] 139 (.agg #[.int .i64 P4, .int .i64 P5, .int .i64 P6]) ([(137, .agg #[.int .i64 P1, .int .i64 P2, .int .i64 P3]), (135, .bool false), (16, .slice (some ⟨bx, 0, none⟩) G.length cx), (17, .int .i64 (j : Int)), (18, .pointer (some ⟨wr.heap.size, 0, none⟩))] ++ RR) rfl (by decide) (by decide) (by decide) ha (fun o ho hg => y_of (sp17pR.wanted hg rfl ha (d := 135) (by simp)) (fun wx hS => e_pday8 ho (ha.ev (i := 138) (v := .pointer (some ⟨wr.heap.size, 0 + 3, none⟩)) (by simp)) hS.six.c3 hS.six.c4 hS.six.c5)) (List.forall_mem_append.2 ⟨by simp, fun q hq => ⟨by simp [hq], far _ (by decide) (by decide) q hq⟩⟩) hSw ?_; intro a ha
        refine line_call sp17pR 11 11 [] 140 (args := #[.agg #[.int .i64 P1, .int .i64 P2, .int .i64 P3], .agg #[.int .i64 P4, .int .i64 P5, .int .i64 P6]]) ([(135, .bool false), (16, .slice (some ⟨bx, 0, none⟩) G.length cx), (17, .int .i64 (j : Int)), (18, .pointer (some ⟨wr.heap.size, 0, none⟩))] ++ RR) rfl (by decide) (by decide) (by decide) ha (fun o ho hg => ⟨(sp17pR.wanted hg rfl ha (d := 135) (by simp)), e_call8 (by kernel_rfl) ho rfl (by have q0 := ha.ev (i := 137) (v := .agg #[.int .i64 P1, .int .i64 P2, .int .i64 P3]) (by simp); have q1 := ha.ev (i := 139) (v := .agg #[.int .i64 P4, .int .i64 P5, .int .i64 P6]) (by simp); simp only [List.map_toArray, List.map_cons, List.map_nil, ev_const, q0, q1])⟩) (List.forall_mem_append.2 ⟨by simp, fun q hq => ⟨by simp [hq], far _ (by decide) (by decide) q hq⟩⟩) ?_
        refine (months_is E.out.tab MZ.out).mono ?_; rintro e w13 ⟨rfl, hb⟩
        replace E := Lib.hid (S8.step E.out hb)
        replace RX := Lib.hid (RX.out.on hb)
        replace SIX := Lib.hid (SIX.out.on hb)
        clear hb
        have hSw := SX8.mk (SR8.mk (S8.sb E) RX.out) SIX.out; refine ⟨_, rfl, hSw, ?_⟩; intro a ha
        refine line_still sp17pR 12 12 [] 141 (.bool false) ([(135, .bool false), (16, .slice (some ⟨bx, 0, none⟩) G.length cx), (17, .int .i64 (j : Int)), (18, .pointer (some ⟨wr.heap.size, 0, none⟩))] ++ RR) rfl (by decide) (by decide) (by decide) ha (fun o ho hg => y_of (sp17pR.wanted hg rfl ha (d := 135) (by simp)) (fun wx hS => e_neq8 ho (ha.ev (i := 140) (v := .int .i64 (0)) (by simp)) rfl)) (List.forall_mem_append.2 ⟨by simp, fun q hq => ⟨by simp [hq], far _ (by decide) (by decide) q hq⟩⟩) hSw ?_; intro a ha
        refine line_still sp17pR 13 13 [] 142 (.bool false) ([(16, .slice (some ⟨bx, 0, none⟩) G.length cx), (17, .int .i64 (j : Int)), (18, .pointer (some ⟨wr.heap.size, 0, none⟩))] ++ RR) rfl (by decide) (by decide) (by decide) ha (fun o ho hg => y_of (wanted_none hg) (fun wx hS => e_pick ho (ha.ev (i := 135) (v := .bool false) (by simp)) rfl (ha.ev (i := 141) (v := .bool false) (by simp)))) (List.forall_mem_append.2 ⟨by simp, fun q hq => ⟨by simp [hq], far _ (by decide) (by decide) q hq⟩⟩) hSw ?_; intro a ha
        refine line_still sp17pR 14 14 [] 143 (.bool false) ([(16, .slice (some ⟨bx, 0, none⟩) G.length cx), (17, .int .i64 (j : Int)), (18, .pointer (some ⟨wr.heap.size, 0, none⟩))] ++ RR) rfl (by decide) (by decide) (by decide) ha (fun o ho hg => y_of (wanted_none hg) (fun wx hS => e_move (.inl ho) (ha.ev (i := 142) (v := .bool false) (by simp)))) (List.forall_mem_append.2 ⟨by simp, fun q hq => ⟨by simp [hq], far _ (by decide) (by decide) q hq⟩⟩) hSw ?_; intro a ha
        refine line_still sp17pR 15 15 [] 144 (.int .i64 (j : Int)) ([(143, .bool false), (16, .slice (some ⟨bx, 0, none⟩) G.length cx), (17, .int .i64 (j : Int)), (18, .pointer (some ⟨wr.heap.size, 0, none⟩))] ++ RR) rfl (by decide) (by decide) (by decide) ha (fun o ho hg => y_of (sp17pR.wanted hg rfl ha (d := 143) (by simp)) (fun wx hS => e_move (.inl ho) (ha.ev (i := 17) (v := .int .i64 (j : Int)) (by simp)))) (List.forall_mem_append.2 ⟨by simp, fun q hq => ⟨by simp [hq], far _ (by decide) (by decide) q hq⟩⟩) hSw ?_; intro a ha
        refine line_still sp17pR 16 16 [] 145 (.bool true) ([(143, .bool false), (16, .slice (some ⟨bx, 0, none⟩) G.length cx), (17, .int .i64 (j : Int)), (18, .pointer (some ⟨wr.heap.size, 0, none⟩))] ++ RR) rfl (by decide) (by decide) (by decide) ha (fun o ho hg => y_of (sp17pR.wanted hg rfl ha (d := 143) (by simp)) (fun wx hS => (e_gtr8 ho (ha.ev (i := 144) (v := .int .i64 (j : Int)) (by simp)) rfl).trans (by rw [IZ.out]))) (List.forall_mem_append.2 ⟨by simp, fun q hq => ⟨by simp [hq], far _ (by decide) (by decide) q hq⟩⟩) hSw ?_; intro a ha
        refine line_still sp17pR 17 17 [] 146 (.bool true) ([(143, .bool false), (16, .slice (some ⟨bx, 0, none⟩) G.length cx), (17, .int .i64 (j : Int)), (18, .pointer (some ⟨wr.heap.size, 0, none⟩))] ++ RR) rfl (by decide) (by decide) (by decide) ha (fun o ho hg => y_of (sp17pR.wanted hg rfl ha (d := 143) (by simp)) (fun wx hS => e_move (.inl ho) (ha.ev (i := 145) (v := .bool true) (by simp)))) (List.forall_mem_append.2 ⟨by simp, fun q hq => ⟨by simp [hq], far _ (by decide) (by decide) q hq⟩⟩) hSw ?_; intro a ha
        refine line_still sp17pR 18 18 [] 147 (.pointer (some ⟨wr.heap.size, 0, none⟩)) ([(146, .bool true), (143, .bool false), (16, .slice (some ⟨bx, 0, none⟩) G.length cx), (17, .int .i64 (j : Int))] ++ RR) rfl (by decide) (by decide) (by decide) ha (fun o ho hg => y_of (sp17pR.wanted hg rfl ha (d := 146) (by simp)) (fun wx hS => e_pfst8 ho (ha.ev (i := 18) (v := .pointer (some ⟨wr.heap.size, 0, none⟩)) (by simp)) rfl)) (List.forall_mem_append.2 ⟨by simp, fun q hq => ⟨by simp [hq], far _ (by decide) (by decide) q hq⟩⟩) hSw ?_; intro a ha
        refine line_still sp17pR 19 19 [] 148 (.agg #[.int .i64 P1, .int .i64 P2, .int .i64 P3]) ([(146, .bool true), (143, .bool false), (16, .slice (some ⟨bx, 0, none⟩) G.length cx), (17, .int .i64 (j : Int))] ++ RR) rfl (by decide) (by decide) (by decide) ha (fun o ho hg => y_of (sp17pR.wanted hg rfl ha (d := 146) (by simp)) (fun wx hS => e_pday8 ho (ha.ev (i := 147) (v := .pointer (some ⟨wr.heap.size, 0, none⟩)) (by simp)) hS.six.c0 hS.six.c1 hS.six.c2)) (List.forall_mem_append.2 ⟨by simp, fun q hq => ⟨by simp [hq], far _ (by decide) (by decide) q hq⟩⟩) hSw ?_; intro a ha
        refine line_ahead sp17pR 20 20 [] 21 150 (.slice (some ⟨bx, 0, none⟩) G.length cx) ([(148, .agg #[.int .i64 P1, .int .i64 P2, .int .i64 P3]), (146, .bool true), (143, .bool false), (17, .int .i64 (j : Int))] ++ RR) rfl (by decide) (by decide) (by decide) ha (fun o ho hg => y_of (sp17pR.wanted hg rfl ha (d := 146) (by simp)) (fun wx hS => e_move (.inl ho) (ha.ev (i := 16) (v := .slice (some ⟨bx, 0, none⟩) G.length cx) (by simp)))) (List.forall_mem_append.2 ⟨by simp, fun q hq => ⟨by simp [hq], far _ (by decide) (by decide) q hq⟩⟩) hSw ?_; intro a ha
        refine line_ahead sp17pR 21 20 [21] 22 151 (.int .i64 (j : Int)) ([(150, .slice (some ⟨bx, 0, none⟩) G.length cx), (148, .agg #[.int .i64 P1, .int .i64 P2, .int .i64 P3]), (146, .bool true), (143, .bool false)] ++ RR) rfl (by decide) (by decide) (by decide) ha (fun o ho hg => y_of (sp17pR.wanted hg rfl ha (d := 146) (by simp)) (fun wx hS => e_move (.inl ho) (ha.ev (i := 17) (v := .int .i64 (j : Int)) (by simp)))) (List.forall_mem_append.2 ⟨by simp, fun q hq => ⟨by simp [hq], far _ (by decide) (by decide) q hq⟩⟩) hSw ?_; intro a ha
        refine line_ahead sp17pR 22 20 [22, 21] 23 152 (.int .i64 (jp : Int)) ([(150, .slice (some ⟨bx, 0, none⟩) G.length cx), (148, .agg #[.int .i64 P1, .int .i64 P2, .int .i64 P3]), (146, .bool true), (143, .bool false)] ++ RR) rfl (by decide) (by decide) (by decide) ha (fun o ho hg => y_of (sp17pR.wanted hg rfl ha (d := 146) (by simp)) (fun wx hS => e_sub8 JA.out.1 JA.out.2 ho (ha.ev (i := 151) (v := .int .i64 (j : Int)) (by simp)) rfl)) (List.forall_mem_append.2 ⟨by simp, fun q hq => ⟨by simp [hq], far _ (by decide) (by decide) q hq⟩⟩) hSw ?_; intro a ha
        refine line_ahead sp17pR 23 20 [23, 22, 21] 24 153 (.pointer (some ⟨bx, jp * 6, none⟩)) ([(148, .agg #[.int .i64 P1, .int .i64 P2, .int .i64 P3]), (146, .bool true), (143, .bool false)] ++ RR) rfl (by decide) (by decide) (by decide) ha (fun o ho hg => y_of (sp17pR.wanted hg rfl ha (d := 146) (by simp)) (fun wx hS => e_pidx8 (k := jp) JI.out ho (ha.ev (i := 150) (v := .slice (some ⟨bx, 0, none⟩) G.length cx) (by simp)) (ha.ev (i := 152) (v := .int .i64 (jp : Int)) (by simp)))) (List.forall_mem_append.2 ⟨by simp, fun q hq => ⟨by simp [hq], far _ (by decide) (by decide) q hq⟩⟩) hSw ?_; intro a ha
        refine line_ahead sp17pR 24 20 [24, 23, 22, 21] 25 154 (.pointer (some ⟨bx, jp * 6 + 3, none⟩)) ([(148, .agg #[.int .i64 P1, .int .i64 P2, .int .i64 P3]), (146, .bool true), (143, .bool false)] ++ RR) rfl (by decide) (by decide) (by decide) ha (fun o ho hg => y_of (sp17pR.wanted hg rfl ha (d := 146) (by simp)) (fun wx hS => e_psnd8 ho (ha.ev (i := 153) (v := .pointer (some ⟨bx, jp * 6, none⟩)) (by simp)) rfl)) (List.forall_mem_append.2 ⟨by simp, fun q hq => ⟨by simp [hq], far _ (by decide) (by decide) q hq⟩⟩) hSw ?_; intro a ha
        refine line_ahead sp17pR 25 20 [25, 24, 23, 22, 21] 26 155 (.agg #[.int .i64 t1, .int .i64 t2, .int .i64 t3]) ([(148, .agg #[.int .i64 P1, .int .i64 P2, .int .i64 P3]), (146, .bool true), (143, .bool false)] ++ RR) rfl (by decide) (by decide) (by decide) ha (fun o ho hg => y_of (sp17pR.wanted hg rfl ha (d := 146) (by simp)) (fun wx hS => e_pday8 ho (ha.ev (i := 154) (v := .pointer (some ⟨bx, jp * 6 + 3, none⟩)) (by simp)) (hS.sr.snd JL.out HB.out).1 (hS.sr.snd JL.out HB.out).2.1 (hS.sr.snd JL.out HB.out).2.2)) (List.forall_mem_append.2 ⟨by simp, fun q hq => ⟨by simp [hq], far _ (by decide) (by decide) q hq⟩⟩) hSw ?_; intro a ha
        refine line_call sp17pR 26 20 [26, 25, 24, 23, 22, 21] 149 (args := #[.agg #[.int .i64 P1, .int .i64 P2, .int .i64 P3]]) ([(155, .agg #[.int .i64 t1, .int .i64 t2, .int .i64 t3]), (146, .bool true), (143, .bool false)] ++ RR) rfl (by decide) (by decide) (by decide) ha (fun o ho hg => ⟨(sp17pR.wanted hg rfl ha (d := 146) (by simp)), e_call8 (by kernel_rfl) ho rfl (by have q0 := ha.ev (i := 148) (v := .agg #[.int .i64 P1, .int .i64 P2, .int .i64 P3]) (by simp); simp only [List.map_toArray, List.map_cons, List.map_nil, ev_const, q0])⟩) (List.forall_mem_append.2 ⟨by simp, fun q hq => ⟨by simp [hq], far _ (by decide) (by decide) q hq⟩⟩) ?_
        refine (days_is E.out.tab DP.out).mono ?_; rintro e w14 ⟨rfl, hb⟩
        replace E := Lib.hid (S8.step E.out hb)
        replace RX := Lib.hid (RX.out.on hb)
        replace SIX := Lib.hid (SIX.out.on hb)
        clear hb
        have hSw := SX8.mk (SR8.mk (S8.sb E) RX.out) SIX.out; refine ⟨_, rfl, hSw, ?_⟩; intro a ha
        refine line_skip [26, 25, 24, 23, 22] (by intro i; simp <;> omega) ?_
        refine line_skip [26, 25, 24, 23] (by intro i; simp <;> omega) ?_
        refine line_skip [26, 25, 24] (by intro i; simp <;> omega) ?_
        refine line_skip [26, 25] (by intro i; simp <;> omega) ?_
        refine line_skip [26] (by intro i; simp <;> omega) ?_
        refine line_skip [] (by intro i; simp <;> omega) ?_
        refine line_call sp17pR 27 27 [] 156 (args := #[.agg #[.int .i64 t1, .int .i64 t2, .int .i64 t3]]) ([(149, .int .i64 dp), (146, .bool true), (143, .bool false)] ++ RR) rfl (by decide) (by decide) (by decide) ha (fun o ho hg => ⟨(sp17pR.wanted hg rfl ha (d := 146) (by simp)), e_call8 (by kernel_rfl) ho rfl (by have q0 := ha.ev (i := 155) (v := .agg #[.int .i64 t1, .int .i64 t2, .int .i64 t3]) (by simp); simp only [List.map_toArray, List.map_cons, List.map_nil, ev_const, q0])⟩) (List.forall_mem_append.2 ⟨by simp, fun q hq => ⟨by simp [hq], far _ (by decide) (by decide) q hq⟩⟩) ?_
        refine (days_is E.out.tab DQ.out).mono ?_; rintro e w15 ⟨rfl, hb⟩
        replace E := Lib.hid (S8.step E.out hb)
        replace RX := Lib.hid (RX.out.on hb)
        replace SIX := Lib.hid (SIX.out.on hb)
        clear hb
        have hSw := SX8.mk (SR8.mk (S8.sb E) RX.out) SIX.out; refine ⟨_, rfl, hSw, ?_⟩; intro a ha
        refine line_still sp17pR 28 28 [] 157 (.int .i64 dp) ([(149, .int .i64 dp), (146, .bool true), (143, .bool false)] ++ RR) rfl (by decide) (by decide) (by decide) ha (fun o ho hg => y_of (sp17pR.wanted hg rfl ha (d := 146) (by simp)) (fun wx hS => e_add8 DA.out.1 DA.out.2 ho (ha.ev (i := 156) (v := .int .i64 dq) (by simp)) rfl)) (List.forall_mem_append.2 ⟨by simp, fun q hq => ⟨by simp [hq], far _ (by decide) (by decide) q hq⟩⟩) hSw ?_; intro a ha
        refine line_still sp17pR 29 29 [] 158 (.bool false) ([(146, .bool true), (143, .bool false)] ++ RR) rfl (by decide) (by decide) (by decide) ha (fun o ho hg => y_of (sp17pR.wanted hg rfl ha (d := 146) (by simp)) (fun wx hS => (e_neq8 ho (ha.ev (i := 149) (v := .int .i64 dp) (by simp)) (ha.ev (i := 157) (v := .int .i64 dp) (by simp))).trans (by rw [bne_self_eq_false]))) (List.forall_mem_append.2 ⟨by simp, fun q hq => ⟨by simp [hq], far _ (by decide) (by decide) q hq⟩⟩) hSw ?_; intro a ha
        refine line_still sp17pR 30 30 [] 159 (.bool false) ([(143, .bool false)] ++ RR) rfl (by decide) (by decide) (by decide) ha (fun o ho hg => y_of (sp17pR.wanted hg rfl ha (d := 143) (by simp)) (fun wx hS => e_pick ho (ha.ev (i := 146) (v := .bool true) (by simp)) (ha.ev (i := 158) (v := .bool false) (by simp)) rfl)) (List.forall_mem_append.2 ⟨by simp, fun q hq => ⟨by simp [hq], far _ (by decide) (by decide) q hq⟩⟩) hSw ?_; intro a ha
        refine line_still sp17pR 31 31 [] 160 (.bool false) ([] ++ RR) rfl (by decide) (by decide) (by decide) ha (fun o ho hg => y_of (wanted_none hg) (fun wx hS => e_pick ho (ha.ev (i := 143) (v := .bool false) (by simp)) rfl (ha.ev (i := 159) (v := .bool false) (by simp)))) (List.forall_mem_append.2 ⟨by simp, fun q hq => ⟨by simp [hq], far _ (by decide) (by decide) q hq⟩⟩) hSw ?_; intro a ha
        refine line_end sp17pR rfl ?_
        rw [← hRR] at ha
        clear far hSw
        obtain ⟨us_, hae, hu⟩ := Fr.splice (l := [(160, .bool false)]) ha
        have eu := hu (160, .bool false) (by simp)
        have hax : a = ⟨#[us 0, us 1, us 2, us 3, us 4, us 5, u6, .pointer (some ⟨w1.heap.size, 0, none⟩), us 8, .pointer (some ⟨w3.heap.size, 0, none⟩), us 10, us 11, us 12, us 13, us 14, us 15, .slice (some ⟨bx, 0, none⟩) G.length cx, .int .i64 (j : Int), .pointer (some ⟨wr.heap.size, 0, none⟩), us 19, us 20, us 21, us 22, us 23, us 24, us 25, us 26, us 27, us 28, us 29, us 30, us 31, us 32, us 33, us 34, us 35, us 36, us 37, us 38, us 39, us 40, us 41, us 42, us 43, us 44, us 45, us 46, us 47, us 48, us 49, us 50, us 51, us 52, us 53, us 54, us 55, us 56, us 57, us 58, us 59, us 60, us 61, us 62, us 63, us 64, us 65, us 66, us 67, us 68, us 69, us 70, us 71, us 72, us 73, us 74, us 75, us 76, us 77, us 78, us 79, us 80, us 81, us 82, us 83, us 84, us 85, us 86, us 87, us 88, us 89, us 90, us 91, us 92, us 93, us 94, us 95, us 96, us 97, us 98, us 99, us 100, us 101, us 102, us 103, us 104, us 105, us 106, us 107, us 108, us 109, us 110, us 111, us 112, us 113, us 114, us 115, us 116, us 117, us 118, us 119, us 120, .bool false, .slice (some ⟨bx, 0, none⟩) G.length cx, .int .i64 ((G.length : Int)), .int .i64 (j : Int), .bool true, .int .i64 (j : Int), .pointer (some ⟨bx, j * 6, none⟩), .agg #[.int .i64 P1, .int .i64 P2, .int .i64 P3, .int .i64 P4, .int .i64 P5, .int .i64 P6], us_ 129, us_ 130, us_ 131, us_ 132, us_ 133, us_ 134, us_ 135, us_ 136, us_ 137, us_ 138, us_ 139, us_ 140, us_ 141, us_ 142, us_ 143, us_ 144, us_ 145, us_ 146, us_ 147, us_ 148, us_ 149, us_ 150, us_ 151, us_ 152, us_ 153, us_ 154, us_ 155, us_ 156, us_ 157, us_ 158, us_ 159, us_ 160, u161, us 162, us 163, us 164, us 165, us 166, us 167, us 168, us 169, us 170, us 171, us 172, us 173, us 174, us 175, us 176, us 177, us 178, us 179, us 180, us 181, us 182, us 183, us 184, us 185, us 186, us 187, us 188, us 189, us 190, us 191, us 192, us 193, us 194, us 195, us 196, us 197], []⟩ := by rw [hae, ← hA]; rfl
        simp only at eu
        clear hu hRR ha hae hA
        subst hax
        simp only [Exit.then]
        refine hK _ _ ?_
        clear hK K
        rw [eu]
        clear eu
        have bel := E.out.bel
        go_wp2_with fail
        exact ⟨⟨j + 1, hlt, by push_cast; rfl, E.out, RX.out⟩, by simp [intOf]; omega⟩
    ·
      go_wp2_with fail
      replace E := Lib.hid (S8.drew E.out)
      go_region_held3 (fun v => v.cell? ⟨w3.heap.size, 0, none⟩ = some (.int .i64 y') ∧ v.cell? ⟨w3.heap.size, 1, none⟩ = some (.int .i64 m') ∧ v.cell? ⟨w3.heap.size, 2, none⟩ = some (.int .i64 d') ∧ v.cell? ⟨w1.heap.size, 0, none⟩ = some (.int .i64 y) ∧ v.cell? ⟨w1.heap.size, 1, none⟩ = some (.int .i64 m) ∧ v.cell? ⟨w1.heap.size, 2, none⟩ = some (.int .i64 d)) (with_reducible exact ⟨(S8.at_ (x0 := .int .i64 y') (x1 := .int .i64 m') (x2 := .int .i64 d') (g := w3.heap.size) E (by simp)).c0, (S8.at_ (x0 := .int .i64 y') (x1 := .int .i64 m') (x2 := .int .i64 d') (g := w3.heap.size) E (by simp)).c1, (S8.at_ (x0 := .int .i64 y') (x1 := .int .i64 m') (x2 := .int .i64 d') (g := w3.heap.size) E (by simp)).c2, (S8.at_ (x0 := .int .i64 y) (x1 := .int .i64 m) (x2 := .int .i64 d) (g := w1.heap.size) E (by simp)).c0, (S8.at_ (x0 := .int .i64 y) (x1 := .int .i64 m) (x2 := .int .i64 d) (g := w1.heap.size) E (by simp)).c1, (S8.at_ (x0 := .int .i64 y) (x1 := .int .i64 m) (x2 := .int .i64 d) (g := w1.heap.size) E (by simp)).c2⟩)
        ((first | (go_at_call 29; (with_reducible refine (weekday_is E.out.tab H1.out).mono ?_); rintro e w16 ⟨rfl, hb⟩; replace E := Lib.hid (S8.step E.out hb); clear hb) | (go_at_call 29; (with_reducible refine (weekday_is E.out.tab H2.out).mono ?_); rintro e w17 ⟨rfl, hb⟩; replace E := Lib.hid (S8.step E.out hb); clear hb)))
      go_wp2_with fail
      have bb1 := B1.out
      have bb2 := B2.out
      have bb3 := B3.out
      have bb4 := B4.out
      have B1a : Hid (decide (1 ≤ q1) = true) := decide_eq_true bb1.1
      have B1b : Hid (decide (q1 ≤ 7) = true) := decide_eq_true bb1.2
      have B4a : Hid (decide (1 ≤ q3) = true) := decide_eq_true bb4.1
      have B4b : Hid (decide (q3 ≤ 4) = true) := decide_eq_true bb4.2
      obtain ⟨r1, hr1⟩ : ∃ q, q2 - q1 = q := ⟨_, rfl⟩
      obtain ⟨r2, hr2⟩ : ∃ q, r1 - df = q := ⟨_, rfl⟩
      have R1 : Hid (q2 - q1 = r1 ∧ -9223372036854775808 ≤ r1 ∧ r1 ≤ 9223372036854775807) := ⟨hr1, by omega, by omega⟩
      have R2 : Hid (nb - na = df ∧ -9223372036854775808 ≤ df ∧ df ≤ 9223372036854775807) := ⟨by omega, by omega, by omega⟩
      have R3 : Hid (r1 - df = r2 ∧ -9223372036854775808 ≤ r2 ∧ r2 ≤ 9223372036854775807) := ⟨hr2, by omega, by omega⟩
      rw [hr1, hr2] at bb3
      have R4 := Lib.hid bb3
      clear bb1 bb2 bb3 bb4 hr1 hr2
      replace E := Lib.hid (S8.drew E.out)
      rename_i K hK
      refine line_start (ops := opsAt Tryd.prog 7 21) (S := SB8 [(w3.heap.size, .int .i64 y', .int .i64 m', .int .i64 d'), (w1.heap.size, .int .i64 y, .int .i64 m, .int .i64 d)]) (by kernel_rfl) (by kernel_rfl) (S8.sb E) ?_
      have hSw := S8.sb E
      generalize hA : Act.mk _ _ = a
      have ha : Fr 198 a [(7, .pointer (some ⟨w1.heap.size, 0, none⟩)), (9, .pointer (some ⟨w3.heap.size, 0, none⟩)), (19, .int .i64 q1), (20, .int .i64 q2)] := by rw [← hA]; exact ⟨rfl, rfl, by intro q hq; simp at hq; rcases hq with rfl | rfl | rfl | rfl <;> rfl⟩
      clear hA
      refine line_still sp21R 0 0 [] 166 (.int .i64 q1) [(7, .pointer (some ⟨w1.heap.size, 0, none⟩)), (9, .pointer (some ⟨w3.heap.size, 0, none⟩)), (19, .int .i64 q1), (20, .int .i64 q2)] rfl (by decide) (by decide) (by decide) ha (fun o ho hg => y_of (wanted_none hg) (fun wx hS => e_move (.inl ho) (ha.ev (i := 19) (v := .int .i64 q1) (by simp)))) (by simp) hSw ?_; intro a ha
      refine line_still sp21R 1 1 [] 167 (.bool true) [(7, .pointer (some ⟨w1.heap.size, 0, none⟩)), (9, .pointer (some ⟨w3.heap.size, 0, none⟩)), (19, .int .i64 q1), (20, .int .i64 q2)] rfl (by decide) (by decide) (by decide) ha (fun o ho hg => y_of (wanted_none hg) (fun wx hS => (e_geq8 ho (ha.ev (i := 166) (v := .int .i64 q1) (by simp)) rfl).trans (by rw [B1a.out]))) (by simp) hSw ?_; intro a ha
      refine line_still sp21R 2 2 [] 168 (.bool true) [(7, .pointer (some ⟨w1.heap.size, 0, none⟩)), (9, .pointer (some ⟨w3.heap.size, 0, none⟩)), (19, .int .i64 q1), (20, .int .i64 q2)] rfl (by decide) (by decide) (by decide) ha (fun o ho hg => y_of (wanted_none hg) (fun wx hS => e_move (.inl ho) (ha.ev (i := 167) (v := .bool true) (by simp)))) (by simp) hSw ?_; intro a ha
      refine line_still sp21R 3 3 [] 169 (.int .i64 q1) [(168, .bool true), (7, .pointer (some ⟨w1.heap.size, 0, none⟩)), (9, .pointer (some ⟨w3.heap.size, 0, none⟩)), (19, .int .i64 q1), (20, .int .i64 q2)] rfl (by decide) (by decide) (by decide) ha (fun o ho hg => y_of (sp21R.wanted hg rfl ha (d := 168) (by simp)) (fun wx hS => e_move (.inl ho) (ha.ev (i := 19) (v := .int .i64 q1) (by simp)))) (by simp) hSw ?_; intro a ha
      refine line_still sp21R 4 4 [] 170 (.bool true) [(168, .bool true), (7, .pointer (some ⟨w1.heap.size, 0, none⟩)), (9, .pointer (some ⟨w3.heap.size, 0, none⟩)), (19, .int .i64 q1), (20, .int .i64 q2)] rfl (by decide) (by decide) (by decide) ha (fun o ho hg => y_of (sp21R.wanted hg rfl ha (d := 168) (by simp)) (fun wx hS => (e_leq8 ho (ha.ev (i := 169) (v := .int .i64 q1) (by simp)) rfl).trans (by rw [B1b.out]))) (by simp) hSw ?_; intro a ha
      refine line_still sp21R 5 5 [] 171 (.bool true) [(7, .pointer (some ⟨w1.heap.size, 0, none⟩)), (9, .pointer (some ⟨w3.heap.size, 0, none⟩)), (19, .int .i64 q1), (20, .int .i64 q2)] rfl (by decide) (by decide) (by decide) ha (fun o ho hg => y_of (wanted_none hg) (fun wx hS => e_pick ho (ha.ev (i := 168) (v := .bool true) (by simp)) (ha.ev (i := 170) (v := .bool true) (by simp)) rfl)) (by simp) hSw ?_; intro a ha
      refine line_still sp21R 6 6 [] 172 (.bool true) [(7, .pointer (some ⟨w1.heap.size, 0, none⟩)), (9, .pointer (some ⟨w3.heap.size, 0, none⟩)), (19, .int .i64 q1), (20, .int .i64 q2)] rfl (by decide) (by decide) (by decide) ha (fun o ho hg => y_of (wanted_none hg) (fun wx hS => e_move (.inl ho) (ha.ev (i := 171) (v := .bool true) (by simp)))) (by simp) hSw ?_; intro a ha
      refine line_still sp21R 7 7 [] 173 (.int .i64 q2) [(172, .bool true), (7, .pointer (some ⟨w1.heap.size, 0, none⟩)), (9, .pointer (some ⟨w3.heap.size, 0, none⟩)), (19, .int .i64 q1)] rfl (by decide) (by decide) (by decide) ha (fun o ho hg => y_of (sp21R.wanted hg rfl ha (d := 172) (by simp)) (fun wx hS => e_move (.inl ho) (ha.ev (i := 20) (v := .int .i64 q2) (by simp)))) (by simp) hSw ?_; intro a ha
      refine line_still sp21R 8 8 [] 174 (.int .i64 q1) [(173, .int .i64 q2), (172, .bool true), (7, .pointer (some ⟨w1.heap.size, 0, none⟩)), (9, .pointer (some ⟨w3.heap.size, 0, none⟩))] rfl (by decide) (by decide) (by decide) ha (fun o ho hg => y_of (sp21R.wanted hg rfl ha (d := 172) (by simp)) (fun wx hS => e_move (.inl ho) (ha.ev (i := 19) (v := .int .i64 q1) (by simp)))) (by simp) hSw ?_; intro a ha
      refine line_still sp21R 9 9 [] 175 (.int .i64 r1) [(172, .bool true), (7, .pointer (some ⟨w1.heap.size, 0, none⟩)), (9, .pointer (some ⟨w3.heap.size, 0, none⟩))] rfl (by decide) (by decide) (by decide) ha (fun o ho hg => y_of (sp21R.wanted hg rfl ha (d := 172) (by simp)) (fun wx hS => e_sub8 R1.out.1 R1.out.2 ho (ha.ev (i := 173) (v := .int .i64 q2) (by simp)) (ha.ev (i := 174) (v := .int .i64 q1) (by simp)))) (by simp) hSw ?_; intro a ha
      refine line_still sp21R 10 10 [] 176 (.agg #[.int .i64 y', .int .i64 m', .int .i64 d']) [(175, .int .i64 r1), (172, .bool true), (7, .pointer (some ⟨w1.heap.size, 0, none⟩))] rfl (by decide) (by decide) (by decide) ha (fun o ho hg => y_of (sp21R.wanted hg rfl ha (d := 172) (by simp)) (fun wx hS => e_load8 ho (ha.ev (i := 9) (v := .pointer (some ⟨w3.heap.size, 0, none⟩)) (by simp)) (hS.at_ (g := w3.heap.size) (x0 := .int .i64 y') (x1 := .int .i64 m') (x2 := .int .i64 d') (by simp)))) (by simp) hSw ?_; intro a ha
      refine line_ahead sp21R 11 11 [] 12 178 (.agg #[.int .i64 y, .int .i64 m, .int .i64 d]) [(176, .agg #[.int .i64 y', .int .i64 m', .int .i64 d']), (175, .int .i64 r1), (172, .bool true), (7, .pointer (some ⟨w1.heap.size, 0, none⟩))] rfl (by decide) (by decide) (by decide) ha (fun o ho hg => y_of (sp21R.wanted hg rfl ha (d := 172) (by simp)) (fun wx hS => e_load8 ho (ha.ev (i := 7) (v := .pointer (some ⟨w1.heap.size, 0, none⟩)) (by simp)) (hS.at_ (g := w1.heap.size) (x0 := .int .i64 y) (x1 := .int .i64 m) (x2 := .int .i64 d) (by simp)))) (by simp) hSw ?_; intro a ha
      refine line_call sp21R 12 11 [12] 177 (args := #[.agg #[.int .i64 y', .int .i64 m', .int .i64 d']]) [(178, .agg #[.int .i64 y, .int .i64 m, .int .i64 d]), (175, .int .i64 r1), (172, .bool true), (7, .pointer (some ⟨w1.heap.size, 0, none⟩))] rfl (by decide) (by decide) (by decide) ha (fun o ho hg => ⟨(sp21R.wanted hg rfl ha (d := 172) (by simp)), e_call8 (by kernel_rfl) ho rfl (by have q0 := ha.ev (i := 176) (v := .agg #[.int .i64 y', .int .i64 m', .int .i64 d']) (by simp); simp only [List.map_toArray, List.map_cons, List.map_nil, ev_const, q0])⟩) (by simp) ?_
      refine (days_is E.out.tab HD'.out).mono ?_; rintro e w18 ⟨rfl, hb⟩
      replace E := Lib.hid (S8.step E.out hb)
      clear hb
      have hSw := S8.sb E; refine ⟨_, rfl, hSw, ?_⟩; intro a ha
      refine line_skip [] (by intro i; simp <;> omega) ?_
      refine line_call sp21R 13 13 [] 179 (args := #[.agg #[.int .i64 y, .int .i64 m, .int .i64 d]]) [(177, .int .i64 nb), (175, .int .i64 r1), (172, .bool true), (7, .pointer (some ⟨w1.heap.size, 0, none⟩))] rfl (by decide) (by decide) (by decide) ha (fun o ho hg => ⟨(sp21R.wanted hg rfl ha (d := 172) (by simp)), e_call8 (by kernel_rfl) ho rfl (by have q0 := ha.ev (i := 178) (v := .agg #[.int .i64 y, .int .i64 m, .int .i64 d]) (by simp); simp only [List.map_toArray, List.map_cons, List.map_nil, ev_const, q0])⟩) (by simp) ?_
      refine (days_is E.out.tab HD.out).mono ?_; rintro e w19 ⟨rfl, hb⟩
      replace E := Lib.hid (S8.step E.out hb)
      clear hb
      have hSw := S8.sb E; refine ⟨_, rfl, hSw, ?_⟩; intro a ha
      refine line_still sp21R 14 14 [] 180 (.int .i64 df) [(175, .int .i64 r1), (172, .bool true), (7, .pointer (some ⟨w1.heap.size, 0, none⟩))] rfl (by decide) (by decide) (by decide) ha (fun o ho hg => y_of (sp21R.wanted hg rfl ha (d := 172) (by simp)) (fun wx hS => e_sub8 R2.out.1 R2.out.2 ho (ha.ev (i := 177) (v := .int .i64 nb) (by simp)) (ha.ev (i := 179) (v := .int .i64 na) (by simp)))) (by simp) hSw ?_; intro a ha
      refine line_still sp21R 15 15 [] 181 (.int .i64 r2) [(172, .bool true), (7, .pointer (some ⟨w1.heap.size, 0, none⟩))] rfl (by decide) (by decide) (by decide) ha (fun o ho hg => y_of (sp21R.wanted hg rfl ha (d := 172) (by simp)) (fun wx hS => e_sub8 R3.out.1 R3.out.2 ho (ha.ev (i := 175) (v := .int .i64 r1) (by simp)) (ha.ev (i := 180) (v := .int .i64 df) (by simp)))) (by simp) hSw ?_; intro a ha
      refine line_still sp21R 16 16 [] 182 (.int .i64 (0)) [(172, .bool true), (7, .pointer (some ⟨w1.heap.size, 0, none⟩))] rfl (by decide) (by decide) (by decide) ha (fun o ho hg => y_of (sp21R.wanted hg rfl ha (d := 172) (by simp)) (fun wx hS => e_rem8 R4.out ho (ha.ev (i := 181) (v := .int .i64 r2) (by simp)) rfl)) (by simp) hSw ?_; intro a ha
      refine line_still sp21R 17 17 [] 183 (.bool true) [(172, .bool true), (7, .pointer (some ⟨w1.heap.size, 0, none⟩))] rfl (by decide) (by decide) (by decide) ha (fun o ho hg => y_of (sp21R.wanted hg rfl ha (d := 172) (by simp)) (fun wx hS => e_eql8 ho (ha.ev (i := 182) (v := .int .i64 (0)) (by simp)) rfl)) (by simp) hSw ?_; intro a ha
      refine line_still sp21R 18 18 [] 184 (.bool true) [(7, .pointer (some ⟨w1.heap.size, 0, none⟩))] rfl (by decide) (by decide) (by decide) ha (fun o ho hg => y_of (wanted_none hg) (fun wx hS => e_pick ho (ha.ev (i := 172) (v := .bool true) (by simp)) (ha.ev (i := 183) (v := .bool true) (by simp)) rfl)) (by simp) hSw ?_; intro a ha
      refine line_still sp21R 19 19 [] 185 (.bool true) [(7, .pointer (some ⟨w1.heap.size, 0, none⟩))] rfl (by decide) (by decide) (by decide) ha (fun o ho hg => y_of (wanted_none hg) (fun wx hS => e_move (.inl ho) (ha.ev (i := 184) (v := .bool true) (by simp)))) (by simp) hSw ?_; intro a ha
      refine line_still sp21R 20 20 [] 186 (.agg #[.int .i64 y, .int .i64 m, .int .i64 d]) [(185, .bool true), (7, .pointer (some ⟨w1.heap.size, 0, none⟩))] rfl (by decide) (by decide) (by decide) ha (fun o ho hg => y_of (sp21R.wanted hg rfl ha (d := 185) (by simp)) (fun wx hS => e_load8 ho (ha.ev (i := 7) (v := .pointer (some ⟨w1.heap.size, 0, none⟩)) (by simp)) (hS.at_ (g := w1.heap.size) (x0 := .int .i64 y) (x1 := .int .i64 m) (x2 := .int .i64 d) (by simp)))) (by simp) hSw ?_; intro a ha
      refine line_call sp21R 21 21 [] 187 (args := #[.agg #[.int .i64 y, .int .i64 m, .int .i64 d]]) [(185, .bool true), (7, .pointer (some ⟨w1.heap.size, 0, none⟩))] rfl (by decide) (by decide) (by decide) ha (fun o ho hg => ⟨(sp21R.wanted hg rfl ha (d := 185) (by simp)), e_call8 (by kernel_rfl) ho rfl (by have q0 := ha.ev (i := 186) (v := .agg #[.int .i64 y, .int .i64 m, .int .i64 d]) (by simp); simp only [List.map_toArray, List.map_cons, List.map_nil, ev_const, q0])⟩) (by simp) ?_
      refine (quarter_is E.out.tab H3.out).mono ?_; rintro e w20 ⟨rfl, hb⟩
      replace E := Lib.hid (S8.step E.out hb)
      clear hb
      have hSw := S8.sb E; refine ⟨_, rfl, hSw, ?_⟩; intro a ha
      refine line_still sp21R 22 22 [] 188 (.bool true) [(185, .bool true), (7, .pointer (some ⟨w1.heap.size, 0, none⟩))] rfl (by decide) (by decide) (by decide) ha (fun o ho hg => y_of (sp21R.wanted hg rfl ha (d := 185) (by simp)) (fun wx hS => (e_geq8 ho (ha.ev (i := 187) (v := .int .i64 q3) (by simp)) rfl).trans (by rw [B4a.out]))) (by simp) hSw ?_; intro a ha
      refine line_still sp21R 23 23 [] 189 (.bool true) [(7, .pointer (some ⟨w1.heap.size, 0, none⟩))] rfl (by decide) (by decide) (by decide) ha (fun o ho hg => y_of (wanted_none hg) (fun wx hS => e_pick ho (ha.ev (i := 185) (v := .bool true) (by simp)) (ha.ev (i := 188) (v := .bool true) (by simp)) rfl)) (by simp) hSw ?_; intro a ha
      refine line_still sp21R 24 24 [] 190 (.bool true) [(7, .pointer (some ⟨w1.heap.size, 0, none⟩))] rfl (by decide) (by decide) (by decide) ha (fun o ho hg => y_of (wanted_none hg) (fun wx hS => e_move (.inl ho) (ha.ev (i := 189) (v := .bool true) (by simp)))) (by simp) hSw ?_; intro a ha
      refine line_still sp21R 25 25 [] 191 (.agg #[.int .i64 y, .int .i64 m, .int .i64 d]) [(190, .bool true)] rfl (by decide) (by decide) (by decide) ha (fun o ho hg => y_of (sp21R.wanted hg rfl ha (d := 190) (by simp)) (fun wx hS => e_load8 ho (ha.ev (i := 7) (v := .pointer (some ⟨w1.heap.size, 0, none⟩)) (by simp)) (hS.at_ (g := w1.heap.size) (x0 := .int .i64 y) (x1 := .int .i64 m) (x2 := .int .i64 d) (by simp)))) (by simp) hSw ?_; intro a ha
      refine line_call sp21R 26 26 [] 192 (args := #[.agg #[.int .i64 y, .int .i64 m, .int .i64 d]]) [(190, .bool true)] rfl (by decide) (by decide) (by decide) ha (fun o ho hg => ⟨(sp21R.wanted hg rfl ha (d := 190) (by simp)), e_call8 (by kernel_rfl) ho rfl (by have q0 := ha.ev (i := 191) (v := .agg #[.int .i64 y, .int .i64 m, .int .i64 d]) (by simp); simp only [List.map_toArray, List.map_cons, List.map_nil, ev_const, q0])⟩) (by simp) ?_
      refine (quarter_is E.out.tab H3.out).mono ?_; rintro e w21 ⟨rfl, hb⟩
      replace E := Lib.hid (S8.step E.out hb)
      clear hb
      have hSw := S8.sb E; refine ⟨_, rfl, hSw, ?_⟩; intro a ha
      refine line_still sp21R 27 27 [] 193 (.bool true) [(190, .bool true)] rfl (by decide) (by decide) (by decide) ha (fun o ho hg => y_of (sp21R.wanted hg rfl ha (d := 190) (by simp)) (fun wx hS => (e_leq8 ho (ha.ev (i := 192) (v := .int .i64 q3) (by simp)) rfl).trans (by rw [B4b.out]))) (by simp) hSw ?_; intro a ha
      refine line_still sp21R 28 28 [] 194 (.bool true) [] rfl (by decide) (by decide) (by decide) ha (fun o ho hg => y_of (wanted_none hg) (fun wx hS => e_pick ho (ha.ev (i := 190) (v := .bool true) (by simp)) (ha.ev (i := 193) (v := .bool true) (by simp)) rfl)) (by simp) hSw ?_; intro a ha
      refine line_still sp21R 29 29 [] 195 (.bool true) [] rfl (by decide) (by decide) (by decide) ha (fun o ho hg => y_of (wanted_none hg) (fun wx hS => e_move (.inl ho) (ha.ev (i := 194) (v := .bool true) (by simp)))) (by simp) hSw ?_; intro a ha
      refine line_call sp21R 30 30 [] 196 (args := #[]) [(195, .bool true)] rfl (by decide) (by decide) (by decide) ha (fun o ho hg => ⟨(sp21R.wanted hg rfl ha (d := 195) (by simp)), e_call8 (by kernel_rfl) ho rfl (by simp only [List.map_toArray, List.map_cons, List.map_nil, ev_const])⟩) (by simp) ?_
      refine (awake8 _ E.out.tab).mono ?_; rintro e w22 ⟨rfl, hb⟩
      replace E := Lib.hid (S8.step E.out hb)
      clear hb
      have hSw := S8.sb E; refine ⟨_, rfl, hSw, ?_⟩; intro a ha
      refine line_still sp21R 31 31 [] 197 (.bool true) [] rfl (by decide) (by decide) (by decide) ha (fun o ho hg => y_of (wanted_none hg) (fun wx hS => e_pick ho (ha.ev (i := 195) (v := .bool true) (by simp)) (ha.ev (i := 196) (v := .bool true) (by simp)) rfl)) (by simp) hSw ?_; intro a ha
      refine line_still sp21R 32 32 [] 6 (.bool true) [] rfl (by decide) (by decide) (by decide) ha (fun o ho hg => y_of (wanted_none hg) (fun wx hS => e_move (.inr ho) (ha.ev (i := 197) (v := .bool true) (by simp)))) (by simp) hSw ?_; intro a ha
      refine line_end sp21R rfl ?_
      simp only [Exit.then]
      refine hK _ _ ?_
      go_wp2
      exact bodyPost_ret (v := .bool true) (by have := ha.2.2 (6, .bool true) (by simp); simp [results, Tryd.results7, go_sem, Array.getD_eq_getD_getElem?, this]) ha.2.1 ⟨rfl, E.out.bel⟩

end Go.Proofs.YtnndamhilbcdfaaDoor
