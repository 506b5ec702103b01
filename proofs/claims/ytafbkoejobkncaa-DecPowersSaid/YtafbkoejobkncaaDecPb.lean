/-
  DecPowers answers true.
-/
import Derived.Test.YtafbkoejobkncaaDecPa
set_option linter.unusedVariables false
set_option linter.unusedSimpArgs false
namespace Go.Proofs.Ytafbkoejobkncaa
open Go.RowKit

set_option maxHeartbeats 2000000 in
set_option maxRecDepth 100000 in
theorem powers_a (b1 : Bool) (A1 : Option Addr) (n1 c1 : Nat) (xs1 : List Nat) (k1 : Int) (A : Option Addr) (n c : Nat) (r : Nat → Rw) (y z : Int) (gy : 0 ≤ y) (gy2 : y ≤ 255) (gz : 0 ≤ z) (gz2 : z ≤ 255) (w : World) (h1 : Lim w w.heap.size A1 n1 c1 xs1) (h : Raws w w.heap.size A n c r) (g1 : 3 < n1) : Calls Try.prog 7 #[.agg #[.bool b1, .slice A1 n1 c1, .int .i64 k1], .slice A n c, .agg #[.int .u8 y, .int .u8 z]] w (RetVal w (.bool true)) := by
  have hc := h.cap
  have hm := h.room
  unfold maxLen at hm
  have H1 := Lib.hid h1
  clear h1 h
  go_enter Try.func7, Try.ntmps7
  go_wp2_with fail
  generalize hW : World.alloc (World.alloc w _) _ = W0
  have E0 : St w W0 [] [(w.heap.size, .bool b1, .slice A1 n1 c1, .int .i64 k1)] := by rw [← hW]; exact ((St.start w (l := []) (fun q hq => by cases hq)).lay rfl).alloc _
  have E := Lib.hid E0
  have T0 : Byt2 W0 (w.heap.size + 1) y z := by rw [← hW]; exact Byt2.newAt _ _ _ _ (by simp)
  have T := Lib.hid T0
  clear hW E0 T0
  refine (awake5 _).mono ?_; rintro e w9 ⟨rfl, hb⟩; replace E := Lib.hid (St.step E.out hb); clear hb
  go_wp2_with fail
  go_ret
  exact ⟨rfl, E.out.bel⟩

set_option maxHeartbeats 2000000 in
set_option maxRecDepth 100000 in
theorem powers_b (b1 : Bool) (A1 : Option Addr) (n1 c1 : Nat) (xs1 : List Nat) (k1 : Int) (A : Option Addr) (n c : Nat) (r : Nat → Rw) (y z : Int) (gy : 0 ≤ y) (gy2 : y ≤ 255) (gz : 0 ≤ z) (gz2 : z ≤ 255) (w : World) (h1 : Lim w w.heap.size A1 n1 c1 xs1) (h : Raws w w.heap.size A n c r) (g1 : n1 ≤ 3) (l1 : longB b1 n1 xs1 k1 = true) : Calls Try.prog 7 #[.agg #[.bool b1, .slice A1 n1 c1, .int .i64 k1], .slice A n c, .agg #[.int .u8 y, .int .u8 z]] w (RetVal w (.bool true)) := by
  have hc := h.cap
  have hm := h.room
  unfold maxLen at hm
  have H1 := Lib.hid h1
  have L1 := Lib.hid l1
  clear h1 h l1
  go_enter Try.func7, Try.ntmps7
  go_wp2_with fail
  generalize hW : World.alloc (World.alloc w _) _ = W0
  have E0 : St w W0 [] [(w.heap.size, .bool b1, .slice A1 n1 c1, .int .i64 k1)] := by rw [← hW]; exact ((St.start w (l := []) (fun q hq => by cases hq)).lay rfl).alloc _
  have E := Lib.hid E0
  have T0 : Byt2 W0 (w.heap.size + 1) y z := by rw [← hW]; exact Byt2.newAt _ _ _ _ (by simp)
  have T := Lib.hid T0
  clear hW E0 T0
  refine (long_is (H1.out.on E.out.bel) L1.out).mono ?_; rintro e w1 ⟨rfl, hb⟩; replace E := Lib.hid (St.step E.out hb); clear hb
  go_wp2_with fail
  refine (awake5 _).mono ?_; rintro e w9 ⟨rfl, hb⟩; replace E := Lib.hid (St.step E.out hb); clear hb
  go_wp2_with fail
  go_ret
  exact ⟨rfl, E.out.bel⟩

set_option maxHeartbeats 2000000 in
set_option maxRecDepth 100000 in
theorem powers_c (b1 : Bool) (A1 : Option Addr) (n1 c1 : Nat) (xs1 : List Nat) (k1 : Int) (A : Option Addr) (n c : Nat) (r : Nat → Rw) (y z : Int) (gy : 0 ≤ y) (gy2 : y ≤ 255) (gz : 0 ≤ z) (gz2 : z ≤ 255) (w : World) (h1 : Lim w w.heap.size A1 n1 c1 xs1) (h : Raws w w.heap.size A n c r) (g1 : n1 ≤ 3) (l1 : longB b1 n1 xs1 k1 = false) (hn : 20 < n) : Calls Try.prog 7 #[.agg #[.bool b1, .slice A1 n1 c1, .int .i64 k1], .slice A n c, .agg #[.int .u8 y, .int .u8 z]] w (RetVal w (.bool true)) := by
  have hc := h.cap
  have hm := h.room
  unfold maxLen at hm
  have H1 := Lib.hid h1
  have L1 := Lib.hid l1
  clear h1 h l1
  go_enter Try.func7, Try.ntmps7
  go_wp2_with fail
  generalize hW : World.alloc (World.alloc w _) _ = W0
  have E0 : St w W0 [] [(w.heap.size, .bool b1, .slice A1 n1 c1, .int .i64 k1)] := by rw [← hW]; exact ((St.start w (l := []) (fun q hq => by cases hq)).lay rfl).alloc _
  have E := Lib.hid E0
  have T0 : Byt2 W0 (w.heap.size + 1) y z := by rw [← hW]; exact Byt2.newAt _ _ _ _ (by simp)
  have T := Lib.hid T0
  clear hW E0 T0
  refine (long_is (H1.out.on E.out.bel) L1.out).mono ?_; rintro e w1 ⟨rfl, hb⟩; replace E := Lib.hid (St.step E.out hb); clear hb
  go_wp2_with fail
  refine (awake5 _).mono ?_; rintro e w9 ⟨rfl, hb⟩; replace E := Lib.hid (St.step E.out hb); clear hb
  go_wp2_with fail
  go_ret
  exact ⟨rfl, E.out.bel⟩

theorem tmod_nn {i k : Int} (h0 : 0 ≤ i) : i.tmod k = i % k := Int.tmod_eq_emod_of_nonneg h0

def pwAT : List Row3 := [(some 96, none, .move (.tmp 12)), (some 97, none, .binOp .neq 45 (.tmp 96) (.const (.int .i64 0)) 45), (some 98, none, .move (.tmp 97)), (some 99, some (2, false), .move (.tmp 14)), (some 100, some (2, false), .binOp .neq 45 (.tmp 99) (.const (.int .i64 0)) 45), (some 101, none, .pick (.tmp 98) (.const (.bool true)) (.tmp 100)), (some 102, none, .move (.tmp 101)), (some 103, some (6, false), .move (.tmp 16)), (some 104, some (6, false), .binOp .neq 45 (.tmp 103) (.const (.int .i64 0)) 45), (some 105, none, .pick (.tmp 102) (.const (.bool true)) (.tmp 104)), (some 106, none, .move (.tmp 105)), (some 107, some (10, false), .move (.tmp 12)), (some 108, some (10, false), .move (.tmp 18)), (some 109, some (10, false), .binOp .neq 45 (.tmp 107) (.tmp 108) 45), (some 110, none, .pick (.tmp 106) (.const (.bool true)) (.tmp 109)), (some 111, none, .move (.tmp 110)), (some 112, some (15, false), .load 25 (.tmp 11)), (some 113, some (15, false), .load 25 (.tmp 17)), (some 114, some (15, false), .call { callee := .value (.func 10), args := #[.tmp 112, .tmp 113], argTypes := #[25, 25] }), (some 115, some (15, false), .unOp .not 4 (.tmp 114)), (some 116, none, .pick (.tmp 111) (.const (.bool true)) (.tmp 115)), (some 117, none, .move (.tmp 116)), (some 118, some (21, false), .load 25 (.tmp 11)), (some 119, some (21, false), .load 25 (.tmp 13)), (some 120, some (21, false), .call { callee := .value (.func 32), args := #[.tmp 118, .tmp 119], argTypes := #[25, 25] }), (some 121, some (21, false), .load 25 (.tmp 15)), (some 122, some (21, false), .call { callee := .value (.func 27), args := #[.tmp 120, .tmp 121], argTypes := #[25, 25] }), (some 123, some (21, false), .unOp .not 4 (.tmp 122)), (some 124, none, .pick (.tmp 117) (.const (.bool true)) (.tmp 123)), (some 125, none, .move (.tmp 124)), (some 126, some (29, false), .move (.tmp 19)), (some 127, some (29, false), .move (.tmp 21)), (some 128, some (29, false), .binOp .neq 3 (.tmp 126) (.tmp 127) 3), (some 129, none, .pick (.tmp 125) (.const (.bool true)) (.tmp 128)), (some 130, none, .move (.tmp 129)), (some 131, some (34, false), .move (.tmp 20)), (some 132, some (34, false), .move (.tmp 22)), (some 133, some (34, false), .binOp .neq 3 (.tmp 131) (.tmp 132) 3), (some 134, none, .pick (.tmp 130) (.const (.bool true)) (.tmp 133)), (some 135, none, .move (.tmp 134)), (some 136, some (39, false), .move (.tmp 19)), (some 137, some (39, false), .binOp .lss 3 (.tmp 136) (.const (.int .i64 0)) 3), (some 138, some (39, false), .move (.tmp 1)), (some 139, some (39, false), .call { callee := .builtin .len, args := #[.tmp 138], argTypes := #[40] }), (some 140, some (39, false), .binOp .eql 3 (.tmp 139) (.const (.int .i64 0)) 3), (some 141, some (39, false), .binOp .neq 4 (.tmp 137) (.tmp 140) 4), (some 142, none, .pick (.tmp 135) (.const (.bool true)) (.tmp 141)), (some 143, none, .move (.tmp 142)), (some 144, some (47, false), .move (.tmp 19)), (some 145, some (47, false), .move (.tmp 1)), (some 146, some (47, false), .call { callee := .builtin .len, args := #[.tmp 145], argTypes := #[40] }), (some 147, some (47, false), .binOp .geq 3 (.tmp 144) (.tmp 146) 3), (some 148, none, .pick (.tmp 143) (.const (.bool true)) (.tmp 147)), (some 149, none, .move (.tmp 148)), (some 150, some (53, false), .move (.tmp 20)), (some 151, some (53, false), .move (.tmp 1)), (some 152, some (53, false), .call { callee := .builtin .len, args := #[.tmp 151], argTypes := #[40] }), (some 153, some (53, false), .binOp .geq 3 (.tmp 150) (.tmp 152) 3), (some 154, none, .pick (.tmp 149) (.const (.bool true)) (.tmp 153))]
set_option maxRecDepth 100000 in
theorem pwARow : (opsAt Try.prog 7 16).toList.map row3 = pwAT := by kernel_rfl
theorem pwASel : Region.noSelect (opsAt Try.prog 7 16) = true := by kernel_rfl
theorem pwADone : Region.ready .any (opsAt Try.prog 7 16) (upto (opsAt Try.prog 7 16).size (opsAt Try.prog 7 16).size []) = [] := by kernel_rfl
theorem pwAstill0 : [(0, [], 0), (1, [], 1), (2, [], 2), (3, [], 3), (4, [], 4), (5, [], 5), (6, [], 6), (7, [], 7), (8, [], 8), (9, [], 9)].all (stillB (opsAt Try.prog 7 16)) = true := by kernel_rfl
theorem pwAstill1 : [(10, [], 10), (11, [], 11), (12, [], 12), (13, [], 13), (14, [], 14), (15, [], 15), (16, [], 16), (17, [], 17), (19, [], 19), (20, [], 20)].all (stillB (opsAt Try.prog 7 16)) = true := by kernel_rfl
theorem pwAstill2 : [(21, [], 21), (22, [], 22), (23, [], 23), (24, [], 25), (27, [], 27), (28, [], 28), (29, [], 29), (30, [], 30), (31, [], 31), (32, [], 32)].all (stillB (opsAt Try.prog 7 16)) = true := by kernel_rfl
theorem pwAstill3 : [(33, [], 33), (34, [], 34), (35, [], 35), (36, [], 36), (37, [], 37), (38, [], 38), (39, [], 39), (40, [], 40), (41, [], 41), (42, [], 42)].all (stillB (opsAt Try.prog 7 16)) = true := by kernel_rfl
theorem pwAstill4 : [(43, [], 43), (44, [], 44), (45, [], 45), (46, [], 46), (47, [], 47), (48, [], 48), (49, [], 49), (50, [], 50), (51, [], 51), (52, [], 52)].all (stillB (opsAt Try.prog 7 16)) = true := by kernel_rfl
theorem pwAstill5 : [(53, [], 53), (54, [], 54), (55, [], 55), (56, [], 56), (57, [], 57), (58, [], 58)].all (stillB (opsAt Try.prog 7 16)) = true := by kernel_rfl
theorem pwAsole0 : [(18, [], 18), (24, [25], 24), (26, [], 26)].all (soleB (opsAt Try.prog 7 16)) = true := by kernel_rfl
theorem pwAR : Reg (opsAt Try.prog 7 16) pwAT [(0, [], 0), (1, [], 1), (2, [], 2), (3, [], 3), (4, [], 4), (5, [], 5), (6, [], 6), (7, [], 7), (8, [], 8), (9, [], 9), (10, [], 10), (11, [], 11), (12, [], 12), (13, [], 13), (14, [], 14), (15, [], 15), (16, [], 16), (17, [], 17), (19, [], 19), (20, [], 20), (21, [], 21), (22, [], 22), (23, [], 23), (24, [], 25), (27, [], 27), (28, [], 28), (29, [], 29), (30, [], 30), (31, [], 31), (32, [], 32), (33, [], 33), (34, [], 34), (35, [], 35), (36, [], 36), (37, [], 37), (38, [], 38), (39, [], 39), (40, [], 40), (41, [], 41), (42, [], 42), (43, [], 43), (44, [], 44), (45, [], 45), (46, [], 46), (47, [], 47), (48, [], 48), (49, [], 49), (50, [], 50), (51, [], 51), (52, [], 52), (53, [], 53), (54, [], 54), (55, [], 55), (56, [], 56), (57, [], 57), (58, [], 58)] [(18, [], 18), (24, [25], 24), (26, [], 26)] := ⟨pwARow, pwASel, (all_parts pwAstill0 (all_parts pwAstill1 (all_parts pwAstill2 (all_parts pwAstill3 (all_parts pwAstill4 (all_parts pwAstill5 (fun k h => by cases h))))))), (all_parts pwAsole0 (fun k h => by cases h)), pwADone⟩

def pwBT : List Row3 := [(some 165, none, .load 25 (.tmp 24)), (some 166, none, .move (.tmp 1)), (some 167, none, .move (.tmp 19)), (some 168, none, .indexAddr 40 (.tmp 166) (.tmp 167)), (some 169, none, .load 25 (.tmp 168)), (some 170, none, .call { callee := .value (.func 23), args := #[.tmp 165, .tmp 169], argTypes := #[25, 25] }), (some 171, none, .binOp .lss 3 (.tmp 170) (.const (.int .i64 0)) 3), (some 172, none, .move (.tmp 171)), (some 173, some (7, false), .load 25 (.tmp 24)), (some 174, some (7, false), .move (.tmp 1)), (some 175, some (7, false), .move (.tmp 20)), (some 176, some (7, false), .indexAddr 40 (.tmp 174) (.tmp 175)), (some 177, some (7, false), .load 25 (.tmp 176)), (some 178, some (7, false), .call { callee := .value (.func 23), args := #[.tmp 173, .tmp 177], argTypes := #[25, 25] }), (some 179, some (7, false), .binOp .gtr 3 (.tmp 178) (.const (.int .i64 0)) 3), (some 180, none, .pick (.tmp 172) (.const (.bool true)) (.tmp 179)), (some 181, none, .move (.tmp 180)), (some 182, some (16, false), .load 25 (.tmp 25)), (some 183, some (16, false), .load 25 (.tmp 3)), (some 184, some (16, false), .call { callee := .value (.func 25), args := #[.tmp 182, .tmp 183], argTypes := #[25, 25] }), (some 185, some (16, false), .unOp .not 4 (.tmp 184)), (some 186, none, .pick (.tmp 181) (.const (.bool true)) (.tmp 185)), (some 187, none, .move (.tmp 186)), (some 188, some (22, false), .load 25 (.tmp 24)), (some 189, some (22, false), .move (.tmp 1)), (some 190, some (22, false), .move (.tmp 19)), (some 191, some (22, false), .indexAddr 40 (.tmp 189) (.tmp 190)), (some 192, some (22, false), .load 25 (.tmp 191)), (some 193, some (22, false), .load 25 (.tmp 3)), (some 194, some (22, false), .call { callee := .value (.func 42), args := #[.tmp 188, .tmp 192, .tmp 193], argTypes := #[25, 25, 25] }), (some 195, some (22, false), .load 25 (.tmp 24)), (some 196, some (22, false), .move (.tmp 1)), (some 197, some (22, false), .move (.tmp 19)), (some 198, some (22, false), .indexAddr 40 (.tmp 196) (.tmp 197)), (some 199, some (22, false), .load 25 (.tmp 198)), (some 200, some (22, false), .load 25 (.tmp 3)), (some 201, some (22, false), .call { callee := .value (.func 43), args := #[.tmp 195, .tmp 199, .tmp 200], argTypes := #[25, 25, 25] }), (some 202, some (22, false), .call { callee := .value (.func 10), args := #[.tmp 194, .tmp 201], argTypes := #[25, 25] }), (some 203, some (22, false), .unOp .not 4 (.tmp 202)), (some 204, none, .pick (.tmp 187) (.const (.bool true)) (.tmp 203))]
set_option maxRecDepth 100000 in
theorem pwBRow : (opsAt Try.prog 7 22).toList.map row3 = pwBT := by kernel_rfl
theorem pwBSel : Region.noSelect (opsAt Try.prog 7 22) = true := by kernel_rfl
theorem pwBDone : Region.ready .any (opsAt Try.prog 7 22) (upto (opsAt Try.prog 7 22).size (opsAt Try.prog 7 22).size []) = [] := by kernel_rfl
theorem pwBstill0 : [(0, [], 0), (1, [], 1), (2, [], 2), (3, [], 3), (4, [], 4), (6, [], 6), (7, [], 7), (8, [], 8), (9, [], 9), (10, [], 10)].all (stillB (opsAt Try.prog 7 22)) = true := by kernel_rfl
theorem pwBstill1 : [(11, [], 11), (12, [], 12), (14, [], 14), (15, [], 15), (16, [], 16), (17, [], 17), (18, [], 18), (20, [], 20), (21, [], 21), (22, [], 22)].all (stillB (opsAt Try.prog 7 22)) = true := by kernel_rfl
theorem pwBstill2 : [(23, [], 23), (24, [], 24), (25, [], 25), (26, [], 26), (27, [], 27), (28, [], 28), (29, [], 30), (29, [30], 31), (29, [31, 30], 32), (29, [32, 31, 30], 33)].all (stillB (opsAt Try.prog 7 22)) = true := by kernel_rfl
theorem pwBstill3 : [(29, [33, 32, 31, 30], 34), (29, [34, 33, 32, 31, 30], 35), (38, [], 38), (39, [], 39)].all (stillB (opsAt Try.prog 7 22)) = true := by kernel_rfl
theorem pwBsole0 : [(5, [], 5), (13, [], 13), (19, [], 19), (29, [35, 34, 33, 32, 31, 30], 29), (36, [], 36), (37, [], 37)].all (soleB (opsAt Try.prog 7 22)) = true := by kernel_rfl
theorem pwBR : Reg (opsAt Try.prog 7 22) pwBT [(0, [], 0), (1, [], 1), (2, [], 2), (3, [], 3), (4, [], 4), (6, [], 6), (7, [], 7), (8, [], 8), (9, [], 9), (10, [], 10), (11, [], 11), (12, [], 12), (14, [], 14), (15, [], 15), (16, [], 16), (17, [], 17), (18, [], 18), (20, [], 20), (21, [], 21), (22, [], 22), (23, [], 23), (24, [], 24), (25, [], 25), (26, [], 26), (27, [], 27), (28, [], 28), (29, [], 30), (29, [30], 31), (29, [31, 30], 32), (29, [32, 31, 30], 33), (29, [33, 32, 31, 30], 34), (29, [34, 33, 32, 31, 30], 35), (38, [], 38), (39, [], 39)] [(5, [], 5), (13, [], 13), (19, [], 19), (29, [35, 34, 33, 32, 31, 30], 29), (36, [], 36), (37, [], 37)] := ⟨pwBRow, pwBSel, (all_parts pwBstill0 (all_parts pwBstill1 (all_parts pwBstill2 (all_parts pwBstill3 (fun k h => by cases h))))), (all_parts pwBsole0 (fun k h => by cases h)), pwBDone⟩

set_option maxHeartbeats 8000000 in
set_option maxRecDepth 100000 in
theorem powers_dec (Aa : Option Addr) (na ca s : Nat) (i : Int) (A : Option Addr) (n c : Nat) (r : Nat → Rw) (y z : Int) (gy : 0 ≤ y) (gy2 : y ≤ 255) (gz : 0 ≤ z) (gz2 : z ≤ 255) (w : World) (h1 : Num w w.heap.size Aa na ca i.natAbs) (m1 : na ≤ 3) (t1 : s ≤ 60) (h : Raws w w.heap.size A n c r) (hn : n ≤ 20) : Calls Try.prog 7 #[.agg #[.bool (ngB i), .slice Aa na ca, .int .i64 (s : Int)], .slice A n c, .agg #[.int .u8 y, .int .u8 z]] w (RetVal w (.bool true)) := by
  have hc := h.cap
  have hm := h.room
  unfold maxLen at hm
  have hca := h.addr
  have N1 : Hid (longB (ngB i) na (dg i.natAbs) (s : Int) = false) := not_long h1 (by omega) t1
  obtain ⟨N, hN⟩ : ∃ N : Nat, y % 9 = (N : Int) := ⟨(y % 9).toNat, by omega⟩
  obtain ⟨M, hM⟩ : ∃ M : Nat, z % 9 = (M : Int) := ⟨(z % 9).toNat, by omega⟩
  have hN8 : N ≤ 8 := by omega
  have hM8 : M ≤ 8 := by omega
  have HN := Lib.hid hN
  have HM := Lib.hid hM
  clear hN hM
  have z_1 : Sz i s 108 := (Sz.of_len (by have := h1.len; omega : (dg i.natAbs).length ≤ 12))
  have hsN : s * N ≤ 60 * 8 := Nat.mul_le_mul t1 hN8
  have hsM : s * M ≤ 60 * 8 := Nat.mul_le_mul t1 hM8
  have hsNM : s * (N + M) ≤ 60 * 16 := Nat.mul_le_mul t1 (by omega)
  obtain ⟨x1, hx1⟩ : ∃ rr, i ^ N = rr := ⟨_, rfl⟩
  obtain ⟨s1, hs1⟩ : ∃ rr, s * N = rr := ⟨_, rfl⟩
  have z1 : Sz x1 s1 865 := by rw [← hx1, ← hs1]; exact ((z_1.pow N).mono (show 108 * N + 1 ≤ 865 by omega)).mono (by decide)
  have u1 : s1 ≤ 480 := by omega
  have HL1 : Hid ((dg x1.natAbs).length ≤ 1345) := (by show _ ≤ _; have := z1.len; omega)
  have HX1 := Lib.hid hx1
  have HS1 := Lib.hid hs1
  obtain ⟨x2, hx2⟩ : ∃ rr, i ^ M = rr := ⟨_, rfl⟩
  obtain ⟨s2, hs2⟩ : ∃ rr, s * M = rr := ⟨_, rfl⟩
  have z2 : Sz x2 s2 865 := by rw [← hx2, ← hs2]; exact ((z_1.pow M).mono (show 108 * M + 1 ≤ 865 by omega)).mono (by decide)
  have u2 : s2 ≤ 480 := by omega
  have HL2 : Hid ((dg x2.natAbs).length ≤ 1345) := (by show _ ≤ _; have := z2.len; omega)
  have HX2 := Lib.hid hx2
  have HS2 := Lib.hid hs2
  obtain ⟨x3, hx3⟩ : ∃ rr, i ^ (N + M) = rr := ⟨_, rfl⟩
  obtain ⟨s3, hs3⟩ : ∃ rr, s * (N + M) = rr := ⟨_, rfl⟩
  have z3 : Sz x3 s3 1729 := by rw [← hx3, ← hs3]; exact ((z_1.pow (N + M)).mono (show 108 * (N + M) + 1 ≤ 1729 by omega)).mono (by decide)
  have u3 : s3 ≤ 960 := by omega
  have HL3 : Hid ((dg x3.natAbs).length ≤ 2689) := (by show _ ≤ _; have := z3.len; omega)
  have HX3 := Lib.hid hx3
  have HS3 := Lib.hid hs3
  obtain ⟨x4, hx4⟩ : ∃ rr, x1 * x2 = rr := ⟨_, rfl⟩
  obtain ⟨s4, hs4⟩ : ∃ rr, s1 + s2 = rr := ⟨_, rfl⟩
  have z4 : Sz x4 s4 1730 := by rw [← hx4, ← hs4]; exact (z1.mul z2).mono (by decide)
  have u4 : s4 ≤ 960 := by omega
  have HL4 : Hid ((dg x4.natAbs).length ≤ 2690) := (by show _ ≤ _; have := z4.len; omega)
  have HX4 := Lib.hid hx4
  have HS4 := Lib.hid hs4
  have F1 : Hid (alikeB x4 s4 x3 s3 = true) := (by show _ = _; subst hs4; subst hx4; subst hs3; subst hx3; subst hs2; subst hx2; subst hs1; subst hx1; exact (alike_yes (Int.pow_add _ _ _).symm (Nat.mul_add _ _ _).symm))
  clear hx1 hs1 hx2 hs2 hx3 hs3 hx4 hs4
  clear z_1 z1 z2 z3 z4
  have H1 := Lib.hid h1
  have H := Lib.hid h
  have HCA := Lib.hid hca
  clear h1 h hca
  go_enter Try.func7, Try.ntmps7
  go_wp2_with fail
  generalize hW : World.alloc (World.alloc w _) _ = W0
  have E0 : St w W0 [(Aa, na, ca, (i).natAbs)] [(w.heap.size, (.bool (ngB i)), (.slice Aa na ca), (.int .i64 (s : Int)))] := by rw [← hW]; exact ((St.start w (l := [(Aa, na, ca, (i).natAbs)]) (by simp; exact H1.out)).lay rfl).alloc _
  have E := Lib.hid E0
  have T0 : Byt2 W0 (w.heap.size + 1) y z := by rw [← hW]; exact Byt2.newAt _ _ _ _ (by simp)
  have T := Lib.hid T0
  clear hW E0 T0
  refine (long_is (num_lim5 (St.got E (A := Aa) (n := na) (c := ca) (a := (i).natAbs) (by simp))) N1.out).mono ?_; rintro e w1 ⟨rfl, hb⟩; replace E := Lib.hid (St.step E.out hb); replace T := Lib.hid (T.out.on hb); clear hb
  go_wp2_with fail
  have EL := E.out
  have TL := T.out
  clear E T
  go_loopw [44] (fun iv wr => ∃ (k : Nat), k ≤ n ∧ iv = .int .i64 k ∧ (∀ j, j < k → longR r j = false) ∧ St w wr [(Aa, na, ca, (i).natAbs)] [(w.heap.size, (.bool (ngB i)), (.slice Aa na ca), (.int .i64 (s : Int)))] ∧ Byt2 wr (w.heap.size + 1) y z) (fun iv _ => n - (intOf iv).toNat)
  case atStart => exact ⟨0, Nat.zero_le _, rfl, fun j hj => absurd hj (Nat.not_lt_zero _), EL, TL⟩
  case round =>
    obtain ⟨k, hk, rfl, hl, hE, hT⟩ := hrel
    have E := Lib.hid hE
    have T := Lib.hid hT
    clear hE hT EL TL
    rcases Nat.lt_or_ge k n with hlt | hge
    · have HD := Lib.hid (H.out.on E.out.bel)
      obtain ⟨b, o, rfl, hb, x0, x1, x2⟩ := HD.out.at_ hlt
      have HN1 := Lib.hid (HD.out.lim k hlt)
      have HL := Lib.hid hl
      clear HD hl
      go_wp2_with fail
      have Ea := Lib.hid (St.alloc E.out (.cells #[.bool (r k).b, .slice (r k).A (r k).n (r k).c, .int .i64 (r k).k] 25))
      have Ta := Lib.hid (T.out.on ((Below.refl _ _).alloc (Nat.le_refl _) (.cells #[.bool (r k).b, .slice (r k).A (r k).n (r k).c, .int .i64 (r k).k] 25)))
      cases lk : longR r k with
      | true =>
        have LK : Hid (longB (r k).b (r k).n (r k).xs (r k).k = true) := lk
        clear lk
        refine (long_is (HN1.out.on ((Below.refl _ _).alloc (Nat.le_refl _) _)) LK.out).mono ?_; rintro e w2 ⟨rfl, hb1⟩; have E2 := Lib.hid (St.step Ea.out hb1); clear hb1 x0 x1 x2 Ea Ta
        go_wp2_with fail
        refine (awake5 _).mono ?_; rintro e w9 ⟨rfl, hb1⟩; replace E2 := Lib.hid (St.step E2.out hb1); clear hb1
        go_wp2_with fail
        go_ret
        exact ⟨rfl, E2.out.bel⟩
      | false =>
        have LK : Hid (longB (r k).b (r k).n (r k).xs (r k).k = false) := lk
        refine (long_is (HN1.out.on ((Below.refl _ _).alloc (Nat.le_refl _) _)) LK.out).mono ?_; rintro e w2 ⟨rfl, hb1⟩; have E2 := Lib.hid (St.step Ea.out hb1); have T2 := Lib.hid (Ta.out.on hb1); clear hb1 x0 x1 x2 Ea Ta
        go_wp2_with fail
        go_roundw
        case rel => exact ⟨k + 1, by omega, by go_num, fun j hj => (Nat.lt_or_eq_of_le (Nat.le_of_lt_succ hj)).elim (fun h => HL.out j h) (fun h => by rw [h]; exact lk), E2.out, T2.out⟩
        case measure => simp [intOf]; omega
    · obtain rfl : k = n := by omega
      obtain ⟨d, hd, hr⟩ := H.out.decs hl
      have HD := Lib.hid hd
      clear hd hr hl H
      have ht0 := T.out.c0
      have ht1 := T.out.c1
      have hta := tmod_nn (k := 9) gy
      have htb := tmod_nn (k := 9) gz
      rw [HN.out] at hta
      rw [HM.out] at htb
      have hua : IntKind.u8.wrap (N : Int) = (N : Int) := IntWalk.u8_in _ ⟨by omega, by omega⟩
      have hub : IntKind.u8.wrap (M : Int) = (M : Int) := IntWalk.u8_in _ ⟨by omega, by omega⟩
      have hia : IntKind.i64.wrap (N : Int) = (N : Int) := IntWalk.i64_in _ ⟨by omega, by omega⟩
      have hib : IntKind.i64.wrap (M : Int) = (M : Int) := IntWalk.i64_in _ ⟨by omega, by omega⟩
      go_wp2_with fail
      go_quiet ((fail))
      clear ht0 ht1 hta htb hua hub hia hib T
      replace E := Lib.hid (St.step E.out (Below.of_quiet (n := nq)))
      generalize wr.drewN nq = V0 at E ⊢
      obtain ⟨p0a, p0b, p0c, p0d, p0e, p0f, p0g⟩ := St.at_ (x0 := (.bool (ngB i))) (x1 := (.slice Aa na ca)) (x2 := (.int .i64 (s : Int))) (g := w.heap.size) E (by simp)
      go_wp2_with fail
      refine (power_is5 (i := i) (s := s) (k := N) (St.got E (A := Aa) (n := na) (c := ca) (a := (i).natAbs) (by simp)) (by omega) (by omega) (by omega) rfl HS1.out HX1.out).mono ?_; rintro e w1 ⟨A1, n1, c1, rfl, h, hb⟩
      have b1 : n1 ≤ 1345 := len_le h HL1.out
      clear p0a p0b p0c p0d p0e p0f p0g
      replace E := Lib.hid (St.push E.out hb h)
      clear h hb
      obtain ⟨p0a, p0b, p0c, p0d, p0e, p0f, p0g⟩ := St.at_ (x0 := (.bool (ngB i))) (x1 := (.slice Aa na ca)) (x2 := (.int .i64 (s : Int))) (g := w.heap.size) E (by simp)
      go_wp2_with fail
      clear p0a p0b p0c p0d p0e p0f p0g
      replace E := Lib.hid (St.lay (t := 25) (x0 := (.bool (ngB x1))) (x1 := (.slice A1 n1 c1)) (x2 := (.int .i64 (s1 : Int))) (g := w1.heap.size) E.out rfl)
      generalize hW : World.alloc w1 _ = Z0 at E ⊢; clear hW
      refine (power_is5 (i := i) (s := s) (k := M) (St.got E (A := Aa) (n := na) (c := ca) (a := (i).natAbs) (by simp)) (by omega) (by omega) (by omega) rfl HS2.out HX2.out).mono ?_; rintro e w2 ⟨A2, n2, c2, rfl, h, hb⟩
      have b2 : n2 ≤ 1345 := len_le h HL2.out
      replace E := Lib.hid (St.push E.out hb h)
      clear h hb
      obtain ⟨p0a, p0b, p0c, p0d, p0e, p0f, p0g⟩ := St.at_ (x0 := (.bool (ngB x1))) (x1 := (.slice A1 n1 c1)) (x2 := (.int .i64 (s1 : Int))) (g := w1.heap.size) E (by simp)
      obtain ⟨p1a, p1b, p1c, p1d, p1e, p1f, p1g⟩ := St.at_ (x0 := (.bool (ngB i))) (x1 := (.slice Aa na ca)) (x2 := (.int .i64 (s : Int))) (g := w.heap.size) E (by simp)
      go_wp2_with fail
      clear p0a p0b p0c p0d p0e p0f p0g p1a p1b p1c p1d p1e p1f p1g
      replace E := Lib.hid (St.lay (t := 25) (x0 := (.bool (ngB x2))) (x1 := (.slice A2 n2 c2)) (x2 := (.int .i64 (s2 : Int))) (g := w2.heap.size) E.out rfl)
      generalize hW : World.alloc w2 _ = Z1 at E ⊢; clear hW
      refine (power_is5 (i := i) (s := s) (k := N + M) (St.got E (A := Aa) (n := na) (c := ca) (a := (i).natAbs) (by simp)) (by omega) (by omega) (by omega) (by omega) HS3.out HX3.out).mono ?_; rintro e w3 ⟨A3, n3, c3, rfl, h, hb⟩
      have b3 : n3 ≤ 2689 := len_le h HL3.out
      replace E := Lib.hid (St.push E.out hb h)
      clear h hb
      obtain ⟨p0a, p0b, p0c, p0d, p0e, p0f, p0g⟩ := St.at_ (x0 := (.bool (ngB x2))) (x1 := (.slice A2 n2 c2)) (x2 := (.int .i64 (s2 : Int))) (g := w2.heap.size) E (by simp)
      obtain ⟨p1a, p1b, p1c, p1d, p1e, p1f, p1g⟩ := St.at_ (x0 := (.bool (ngB x1))) (x1 := (.slice A1 n1 c1)) (x2 := (.int .i64 (s1 : Int))) (g := w1.heap.size) E (by simp)
      obtain ⟨p2a, p2b, p2c, p2d, p2e, p2f, p2g⟩ := St.at_ (x0 := (.bool (ngB i))) (x1 := (.slice Aa na ca)) (x2 := (.int .i64 (s : Int))) (g := w.heap.size) E (by simp)
      go_wp2_with fail
      clear p0a p0b p0c p0d p0e p0f p0g p1a p1b p1c p1d p1e p1f p1g p2a p2b p2c p2d p2e p2f p2g
      replace E := Lib.hid (St.lay (t := 25) (x0 := (.bool (ngB x3))) (x1 := (.slice A3 n3 c3)) (x2 := (.int .i64 (s3 : Int))) (g := w3.heap.size) E.out rfl)
      generalize hW : World.alloc w3 _ = Z2 at E ⊢; clear hW
      refine (refpower_is5 (i := i) (s := s) (k := N) (St.got E (A := Aa) (n := na) (c := ca) (a := (i).natAbs) (by simp)) (by omega) (by omega) (by omega) rfl HS1.out HX1.out).mono ?_; rintro e w4 ⟨A4, n4, c4, rfl, h, hb⟩
      have b4 : n4 ≤ 1345 := len_le h HL1.out
      replace E := Lib.hid (St.push E.out hb h)
      clear h hb
      obtain ⟨p0a, p0b, p0c, p0d, p0e, p0f, p0g⟩ := St.at_ (x0 := (.bool (ngB x3))) (x1 := (.slice A3 n3 c3)) (x2 := (.int .i64 (s3 : Int))) (g := w3.heap.size) E (by simp)
      obtain ⟨p1a, p1b, p1c, p1d, p1e, p1f, p1g⟩ := St.at_ (x0 := (.bool (ngB x2))) (x1 := (.slice A2 n2 c2)) (x2 := (.int .i64 (s2 : Int))) (g := w2.heap.size) E (by simp)
      obtain ⟨p2a, p2b, p2c, p2d, p2e, p2f, p2g⟩ := St.at_ (x0 := (.bool (ngB x1))) (x1 := (.slice A1 n1 c1)) (x2 := (.int .i64 (s1 : Int))) (g := w1.heap.size) E (by simp)
      obtain ⟨p3a, p3b, p3c, p3d, p3e, p3f, p3g⟩ := St.at_ (x0 := (.bool (ngB i))) (x1 := (.slice Aa na ca)) (x2 := (.int .i64 (s : Int))) (g := w.heap.size) E (by simp)
      go_wp2_with fail
      clear p0a p0b p0c p0d p0e p0f p0g p1a p1b p1c p1d p1e p1f p1g p2a p2b p2c p2d p2e p2f p2g p3a p3b p3c p3d p3e p3f p3g
      replace E := Lib.hid (St.lay (t := 25) (x0 := (.bool (ngB x1))) (x1 := (.slice A4 n4 c4)) (x2 := (.int .i64 (s1 : Int))) (g := w4.heap.size) E.out rfl)
      generalize hW : World.alloc w4 _ = Z3 at E ⊢; clear hW
      obtain ⟨lo, hi, hlh⟩ : ∃ lo hi : Int, (k = 0 ∧ lo = -1 ∧ hi = -1 ∨ 0 < k ∧ lo = (low d k : Int) ∧ hi = (high d k : Int)) := by
        rcases Nat.eq_zero_or_pos k with h0 | h0
        · exact ⟨-1, -1, .inl ⟨h0, rfl, rfl⟩⟩
        · exact ⟨_, _, .inr ⟨h0, rfl, rfl⟩⟩
      have hlk : (low d k : Int) ≤ (k : Int) := by have := low_le d k; omega
      have hhk : (high d k : Int) ≤ (k : Int) := by have := high_le d k; omega
      have hlk2 : 0 < k → (low d k : Int) < (k : Int) := fun h => by have := low_lt d (k - 1); rw [show k - 1 + 1 = k by omega] at this; omega
      have hhk2 : 0 < k → (high d k : Int) < (k : Int) := fun h => by have := high_lt d (k - 1); rw [show k - 1 + 1 = k by omega] at this; omega
      have E1 : Hid ((lo != lo) = false) := by show _ = _; simp
      have E2 : Hid ((hi != hi) = false) := by show _ = _; simp
      obtain ⟨b0, hb0⟩ : ∃ b0, decide (lo < 0) = b0 := ⟨_, rfl⟩
      have E3 := Lib.hid hb0
      have E4 : Hid (((k : Int) == 0) = b0) := by show _ = _; rw [← hb0, Bool.eq_iff_iff, beq_iff_eq, decide_eq_true_iff]; omega
      have E5 : Hid ((b0 != b0) = false) := by show _ = _; simp
      have E6 : Hid (decide ((k : Int) ≤ lo) = false) := decide_eq_false (by rcases hlh with ⟨h0, h1, h2⟩ | ⟨h0, h1, h2⟩; omega; have := hlk2 h0; omega)
      have E7 : Hid (decide ((k : Int) ≤ hi) = false) := decide_eq_false (by rcases hlh with ⟨h0, h1, h2⟩ | ⟨h0, h1, h2⟩; omega; have := hhk2 h0; omega)
      have HLH := Lib.hid hlh
      clear hlh hlk hhk hlk2 hhk2 hb0
      refine (least_both (HD.out.on E.out.bel) (by omega) HLH.out).mono ?_; rintro e w5 ⟨rfl, hb⟩
      replace E := Lib.hid (St.step E.out hb)
      clear hb
      go_wp2_with fail
      refine (refleast_both (HD.out.on E.out.bel) (by omega) HLH.out).mono ?_; rintro e w6 ⟨rfl, hb⟩
      replace E := Lib.hid (St.step E.out hb)
      clear hb
      go_wp2_with fail
      replace E := Lib.hid (St.drew E.out)
      rename_i K0 hK0 K hK
      refine line_start (ops := opsAt Try.prog 7 16) (S := SB [(w4.heap.size, (.bool (ngB x1)), (.slice A4 n4 c4), (.int .i64 (s1 : Int))), (w3.heap.size, (.bool (ngB x3)), (.slice A3 n3 c3), (.int .i64 (s3 : Int))), (w2.heap.size, (.bool (ngB x2)), (.slice A2 n2 c2), (.int .i64 (s2 : Int))), (w1.heap.size, (.bool (ngB x1)), (.slice A1 n1 c1), (.int .i64 (s1 : Int))), (w.heap.size, (.bool (ngB i)), (.slice Aa na ca), (.int .i64 (s : Int)))]) (by kernel_rfl) (by kernel_rfl) (St.sb E) ?_
      have hSw := St.sb E
      generalize hA : Act.mk _ _ = a
      have ha : Fr 216 a [(3, .pointer (some ⟨w.heap.size, 0, none⟩)), (11, .pointer (some ⟨w1.heap.size, 0, none⟩)), (13, .pointer (some ⟨w2.heap.size, 0, none⟩)), (15, .pointer (some ⟨w3.heap.size, 0, none⟩)), (17, .pointer (some ⟨w4.heap.size, 0, none⟩)), (1, .slice A k c), (12, .int .i64 0), (14, .int .i64 0), (16, .int .i64 0), (18, .int .i64 0), (19, .int .i64 lo), (20, .int .i64 hi), (21, .int .i64 lo), (22, .int .i64 hi)] := by rw [← hA]; exact ⟨rfl, rfl, by intro q hq; simp at hq; rcases hq with rfl | rfl | rfl | rfl | rfl | rfl | rfl | rfl | rfl | rfl | rfl | rfl | rfl | rfl <;> rfl⟩
      clear hA
      refine line_still pwAR 0 0 [] 96 (.int .i64 0) [(3, .pointer (some ⟨w.heap.size, 0, none⟩)), (11, .pointer (some ⟨w1.heap.size, 0, none⟩)), (13, .pointer (some ⟨w2.heap.size, 0, none⟩)), (15, .pointer (some ⟨w3.heap.size, 0, none⟩)), (17, .pointer (some ⟨w4.heap.size, 0, none⟩)), (1, .slice A k c), (12, .int .i64 0), (14, .int .i64 0), (16, .int .i64 0), (18, .int .i64 0), (19, .int .i64 lo), (20, .int .i64 hi), (21, .int .i64 lo), (22, .int .i64 hi)] rfl (by decide) (by decide) (by decide) ha (fun o ho hg => y_of (wanted_none hg) (fun wx hS => e_move (.inl ho) (ha.ev (i := 12) (v := .int .i64 0) (by simp)))) (by simp) hSw ?_; intro a ha
      refine line_still pwAR 1 1 [] 97 (.bool false) [(3, .pointer (some ⟨w.heap.size, 0, none⟩)), (11, .pointer (some ⟨w1.heap.size, 0, none⟩)), (13, .pointer (some ⟨w2.heap.size, 0, none⟩)), (15, .pointer (some ⟨w3.heap.size, 0, none⟩)), (17, .pointer (some ⟨w4.heap.size, 0, none⟩)), (1, .slice A k c), (12, .int .i64 0), (14, .int .i64 0), (16, .int .i64 0), (18, .int .i64 0), (19, .int .i64 lo), (20, .int .i64 hi), (21, .int .i64 lo), (22, .int .i64 hi)] rfl (by decide) (by decide) (by decide) ha (fun o ho hg => y_of (wanted_none hg) (fun wx hS => e_neq ho (ha.ev (i := 96) (v := .int .i64 0) (by simp)) rfl)) (by simp) hSw ?_; intro a ha
      refine line_still pwAR 2 2 [] 98 (.bool false) [(3, .pointer (some ⟨w.heap.size, 0, none⟩)), (11, .pointer (some ⟨w1.heap.size, 0, none⟩)), (13, .pointer (some ⟨w2.heap.size, 0, none⟩)), (15, .pointer (some ⟨w3.heap.size, 0, none⟩)), (17, .pointer (some ⟨w4.heap.size, 0, none⟩)), (1, .slice A k c), (12, .int .i64 0), (14, .int .i64 0), (16, .int .i64 0), (18, .int .i64 0), (19, .int .i64 lo), (20, .int .i64 hi), (21, .int .i64 lo), (22, .int .i64 hi)] rfl (by decide) (by decide) (by decide) ha (fun o ho hg => y_of (wanted_none hg) (fun wx hS => e_move (.inl ho) (ha.ev (i := 97) (v := .bool false) (by simp)))) (by simp) hSw ?_; intro a ha
      refine line_still pwAR 3 3 [] 99 (.int .i64 0) [(98, .bool false), (3, .pointer (some ⟨w.heap.size, 0, none⟩)), (11, .pointer (some ⟨w1.heap.size, 0, none⟩)), (13, .pointer (some ⟨w2.heap.size, 0, none⟩)), (15, .pointer (some ⟨w3.heap.size, 0, none⟩)), (17, .pointer (some ⟨w4.heap.size, 0, none⟩)), (1, .slice A k c), (12, .int .i64 0), (16, .int .i64 0), (18, .int .i64 0), (19, .int .i64 lo), (20, .int .i64 hi), (21, .int .i64 lo), (22, .int .i64 hi)] rfl (by decide) (by decide) (by decide) ha (fun o ho hg => y_of (pwAR.wanted hg rfl ha (d := 98) (by simp)) (fun wx hS => e_move (.inl ho) (ha.ev (i := 14) (v := .int .i64 0) (by simp)))) (by simp) hSw ?_; intro a ha
      refine line_still pwAR 4 4 [] 100 (.bool false) [(98, .bool false), (3, .pointer (some ⟨w.heap.size, 0, none⟩)), (11, .pointer (some ⟨w1.heap.size, 0, none⟩)), (13, .pointer (some ⟨w2.heap.size, 0, none⟩)), (15, .pointer (some ⟨w3.heap.size, 0, none⟩)), (17, .pointer (some ⟨w4.heap.size, 0, none⟩)), (1, .slice A k c), (12, .int .i64 0), (16, .int .i64 0), (18, .int .i64 0), (19, .int .i64 lo), (20, .int .i64 hi), (21, .int .i64 lo), (22, .int .i64 hi)] rfl (by decide) (by decide) (by decide) ha (fun o ho hg => y_of (pwAR.wanted hg rfl ha (d := 98) (by simp)) (fun wx hS => e_neq ho (ha.ev (i := 99) (v := .int .i64 0) (by simp)) rfl)) (by simp) hSw ?_; intro a ha
      refine line_still pwAR 5 5 [] 101 (.bool false) [(3, .pointer (some ⟨w.heap.size, 0, none⟩)), (11, .pointer (some ⟨w1.heap.size, 0, none⟩)), (13, .pointer (some ⟨w2.heap.size, 0, none⟩)), (15, .pointer (some ⟨w3.heap.size, 0, none⟩)), (17, .pointer (some ⟨w4.heap.size, 0, none⟩)), (1, .slice A k c), (12, .int .i64 0), (16, .int .i64 0), (18, .int .i64 0), (19, .int .i64 lo), (20, .int .i64 hi), (21, .int .i64 lo), (22, .int .i64 hi)] rfl (by decide) (by decide) (by decide) ha (fun o ho hg => y_of (wanted_none hg) (fun wx hS => e_pick ho (ha.ev (i := 98) (v := .bool false) (by simp)) rfl (ha.ev (i := 100) (v := .bool false) (by simp)))) (by simp) hSw ?_; intro a ha
      refine line_still pwAR 6 6 [] 102 (.bool false) [(3, .pointer (some ⟨w.heap.size, 0, none⟩)), (11, .pointer (some ⟨w1.heap.size, 0, none⟩)), (13, .pointer (some ⟨w2.heap.size, 0, none⟩)), (15, .pointer (some ⟨w3.heap.size, 0, none⟩)), (17, .pointer (some ⟨w4.heap.size, 0, none⟩)), (1, .slice A k c), (12, .int .i64 0), (16, .int .i64 0), (18, .int .i64 0), (19, .int .i64 lo), (20, .int .i64 hi), (21, .int .i64 lo), (22, .int .i64 hi)] rfl (by decide) (by decide) (by decide) ha (fun o ho hg => y_of (wanted_none hg) (fun wx hS => e_move (.inl ho) (ha.ev (i := 101) (v := .bool false) (by simp)))) (by simp) hSw ?_; intro a ha
      refine line_still pwAR 7 7 [] 103 (.int .i64 0) [(102, .bool false), (3, .pointer (some ⟨w.heap.size, 0, none⟩)), (11, .pointer (some ⟨w1.heap.size, 0, none⟩)), (13, .pointer (some ⟨w2.heap.size, 0, none⟩)), (15, .pointer (some ⟨w3.heap.size, 0, none⟩)), (17, .pointer (some ⟨w4.heap.size, 0, none⟩)), (1, .slice A k c), (12, .int .i64 0), (18, .int .i64 0), (19, .int .i64 lo), (20, .int .i64 hi), (21, .int .i64 lo), (22, .int .i64 hi)] rfl (by decide) (by decide) (by decide) ha (fun o ho hg => y_of (pwAR.wanted hg rfl ha (d := 102) (by simp)) (fun wx hS => e_move (.inl ho) (ha.ev (i := 16) (v := .int .i64 0) (by simp)))) (by simp) hSw ?_; intro a ha
      refine line_still pwAR 8 8 [] 104 (.bool false) [(102, .bool false), (3, .pointer (some ⟨w.heap.size, 0, none⟩)), (11, .pointer (some ⟨w1.heap.size, 0, none⟩)), (13, .pointer (some ⟨w2.heap.size, 0, none⟩)), (15, .pointer (some ⟨w3.heap.size, 0, none⟩)), (17, .pointer (some ⟨w4.heap.size, 0, none⟩)), (1, .slice A k c), (12, .int .i64 0), (18, .int .i64 0), (19, .int .i64 lo), (20, .int .i64 hi), (21, .int .i64 lo), (22, .int .i64 hi)] rfl (by decide) (by decide) (by decide) ha (fun o ho hg => y_of (pwAR.wanted hg rfl ha (d := 102) (by simp)) (fun wx hS => e_neq ho (ha.ev (i := 103) (v := .int .i64 0) (by simp)) rfl)) (by simp) hSw ?_; intro a ha
      refine line_still pwAR 9 9 [] 105 (.bool false) [(3, .pointer (some ⟨w.heap.size, 0, none⟩)), (11, .pointer (some ⟨w1.heap.size, 0, none⟩)), (13, .pointer (some ⟨w2.heap.size, 0, none⟩)), (15, .pointer (some ⟨w3.heap.size, 0, none⟩)), (17, .pointer (some ⟨w4.heap.size, 0, none⟩)), (1, .slice A k c), (12, .int .i64 0), (18, .int .i64 0), (19, .int .i64 lo), (20, .int .i64 hi), (21, .int .i64 lo), (22, .int .i64 hi)] rfl (by decide) (by decide) (by decide) ha (fun o ho hg => y_of (wanted_none hg) (fun wx hS => e_pick ho (ha.ev (i := 102) (v := .bool false) (by simp)) rfl (ha.ev (i := 104) (v := .bool false) (by simp)))) (by simp) hSw ?_; intro a ha
      refine line_still pwAR 10 10 [] 106 (.bool false) [(3, .pointer (some ⟨w.heap.size, 0, none⟩)), (11, .pointer (some ⟨w1.heap.size, 0, none⟩)), (13, .pointer (some ⟨w2.heap.size, 0, none⟩)), (15, .pointer (some ⟨w3.heap.size, 0, none⟩)), (17, .pointer (some ⟨w4.heap.size, 0, none⟩)), (1, .slice A k c), (12, .int .i64 0), (18, .int .i64 0), (19, .int .i64 lo), (20, .int .i64 hi), (21, .int .i64 lo), (22, .int .i64 hi)] rfl (by decide) (by decide) (by decide) ha (fun o ho hg => y_of (wanted_none hg) (fun wx hS => e_move (.inl ho) (ha.ev (i := 105) (v := .bool false) (by simp)))) (by simp) hSw ?_; intro a ha
      refine line_still pwAR 11 11 [] 107 (.int .i64 0) [(106, .bool false), (3, .pointer (some ⟨w.heap.size, 0, none⟩)), (11, .pointer (some ⟨w1.heap.size, 0, none⟩)), (13, .pointer (some ⟨w2.heap.size, 0, none⟩)), (15, .pointer (some ⟨w3.heap.size, 0, none⟩)), (17, .pointer (some ⟨w4.heap.size, 0, none⟩)), (1, .slice A k c), (18, .int .i64 0), (19, .int .i64 lo), (20, .int .i64 hi), (21, .int .i64 lo), (22, .int .i64 hi)] rfl (by decide) (by decide) (by decide) ha (fun o ho hg => y_of (pwAR.wanted hg rfl ha (d := 106) (by simp)) (fun wx hS => e_move (.inl ho) (ha.ev (i := 12) (v := .int .i64 0) (by simp)))) (by simp) hSw ?_; intro a ha
      refine line_still pwAR 12 12 [] 108 (.int .i64 0) [(107, .int .i64 0), (106, .bool false), (3, .pointer (some ⟨w.heap.size, 0, none⟩)), (11, .pointer (some ⟨w1.heap.size, 0, none⟩)), (13, .pointer (some ⟨w2.heap.size, 0, none⟩)), (15, .pointer (some ⟨w3.heap.size, 0, none⟩)), (17, .pointer (some ⟨w4.heap.size, 0, none⟩)), (1, .slice A k c), (19, .int .i64 lo), (20, .int .i64 hi), (21, .int .i64 lo), (22, .int .i64 hi)] rfl (by decide) (by decide) (by decide) ha (fun o ho hg => y_of (pwAR.wanted hg rfl ha (d := 106) (by simp)) (fun wx hS => e_move (.inl ho) (ha.ev (i := 18) (v := .int .i64 0) (by simp)))) (by simp) hSw ?_; intro a ha
      refine line_still pwAR 13 13 [] 109 (.bool false) [(106, .bool false), (3, .pointer (some ⟨w.heap.size, 0, none⟩)), (11, .pointer (some ⟨w1.heap.size, 0, none⟩)), (13, .pointer (some ⟨w2.heap.size, 0, none⟩)), (15, .pointer (some ⟨w3.heap.size, 0, none⟩)), (17, .pointer (some ⟨w4.heap.size, 0, none⟩)), (1, .slice A k c), (19, .int .i64 lo), (20, .int .i64 hi), (21, .int .i64 lo), (22, .int .i64 hi)] rfl (by decide) (by decide) (by decide) ha (fun o ho hg => y_of (pwAR.wanted hg rfl ha (d := 106) (by simp)) (fun wx hS => e_neq ho (ha.ev (i := 107) (v := .int .i64 0) (by simp)) (ha.ev (i := 108) (v := .int .i64 0) (by simp)))) (by simp) hSw ?_; intro a ha
      refine line_still pwAR 14 14 [] 110 (.bool false) [(3, .pointer (some ⟨w.heap.size, 0, none⟩)), (11, .pointer (some ⟨w1.heap.size, 0, none⟩)), (13, .pointer (some ⟨w2.heap.size, 0, none⟩)), (15, .pointer (some ⟨w3.heap.size, 0, none⟩)), (17, .pointer (some ⟨w4.heap.size, 0, none⟩)), (1, .slice A k c), (19, .int .i64 lo), (20, .int .i64 hi), (21, .int .i64 lo), (22, .int .i64 hi)] rfl (by decide) (by decide) (by decide) ha (fun o ho hg => y_of (wanted_none hg) (fun wx hS => e_pick ho (ha.ev (i := 106) (v := .bool false) (by simp)) rfl (ha.ev (i := 109) (v := .bool false) (by simp)))) (by simp) hSw ?_; intro a ha
      refine line_still pwAR 15 15 [] 111 (.bool false) [(3, .pointer (some ⟨w.heap.size, 0, none⟩)), (11, .pointer (some ⟨w1.heap.size, 0, none⟩)), (13, .pointer (some ⟨w2.heap.size, 0, none⟩)), (15, .pointer (some ⟨w3.heap.size, 0, none⟩)), (17, .pointer (some ⟨w4.heap.size, 0, none⟩)), (1, .slice A k c), (19, .int .i64 lo), (20, .int .i64 hi), (21, .int .i64 lo), (22, .int .i64 hi)] rfl (by decide) (by decide) (by decide) ha (fun o ho hg => y_of (wanted_none hg) (fun wx hS => e_move (.inl ho) (ha.ev (i := 110) (v := .bool false) (by simp)))) (by simp) hSw ?_; intro a ha
      refine line_still pwAR 16 16 [] 112 (.agg #[(.bool (ngB x1)), (.slice A1 n1 c1), (.int .i64 (s1 : Int))]) [(111, .bool false), (3, .pointer (some ⟨w.heap.size, 0, none⟩)), (11, .pointer (some ⟨w1.heap.size, 0, none⟩)), (13, .pointer (some ⟨w2.heap.size, 0, none⟩)), (15, .pointer (some ⟨w3.heap.size, 0, none⟩)), (17, .pointer (some ⟨w4.heap.size, 0, none⟩)), (1, .slice A k c), (19, .int .i64 lo), (20, .int .i64 hi), (21, .int .i64 lo), (22, .int .i64 hi)] rfl (by decide) (by decide) (by decide) ha (fun o ho hg => y_of (pwAR.wanted hg rfl ha (d := 111) (by simp)) (fun wx hS => e_load ho (ha.ev (i := 11) (v := .pointer (some ⟨w1.heap.size, 0, none⟩)) (by simp)) (hS.at_ (g := w1.heap.size) (x0 := (.bool (ngB x1))) (x1 := (.slice A1 n1 c1)) (x2 := (.int .i64 (s1 : Int))) (by simp)))) (by simp) hSw ?_; intro a ha
      refine line_still pwAR 17 17 [] 113 (.agg #[(.bool (ngB x1)), (.slice A4 n4 c4), (.int .i64 (s1 : Int))]) [(112, .agg #[(.bool (ngB x1)), (.slice A1 n1 c1), (.int .i64 (s1 : Int))]), (111, .bool false), (3, .pointer (some ⟨w.heap.size, 0, none⟩)), (11, .pointer (some ⟨w1.heap.size, 0, none⟩)), (13, .pointer (some ⟨w2.heap.size, 0, none⟩)), (15, .pointer (some ⟨w3.heap.size, 0, none⟩)), (1, .slice A k c), (19, .int .i64 lo), (20, .int .i64 hi), (21, .int .i64 lo), (22, .int .i64 hi)] rfl (by decide) (by decide) (by decide) ha (fun o ho hg => y_of (pwAR.wanted hg rfl ha (d := 111) (by simp)) (fun wx hS => e_load ho (ha.ev (i := 17) (v := .pointer (some ⟨w4.heap.size, 0, none⟩)) (by simp)) (hS.at_ (g := w4.heap.size) (x0 := (.bool (ngB x1))) (x1 := (.slice A4 n4 c4)) (x2 := (.int .i64 (s1 : Int))) (by simp)))) (by simp) hSw ?_; intro a ha
      refine line_call pwAR 18 18 [] 114 (args := #[.agg #[(.bool (ngB x1)), (.slice A1 n1 c1), (.int .i64 (s1 : Int))], .agg #[(.bool (ngB x1)), (.slice A4 n4 c4), (.int .i64 (s1 : Int))]]) [(111, .bool false), (3, .pointer (some ⟨w.heap.size, 0, none⟩)), (11, .pointer (some ⟨w1.heap.size, 0, none⟩)), (13, .pointer (some ⟨w2.heap.size, 0, none⟩)), (15, .pointer (some ⟨w3.heap.size, 0, none⟩)), (1, .slice A k c), (19, .int .i64 lo), (20, .int .i64 hi), (21, .int .i64 lo), (22, .int .i64 hi)] rfl (by decide) (by decide) (by decide) ha (fun o ho hg => ⟨(pwAR.wanted hg rfl ha (d := 111) (by simp)), e_call (by kernel_rfl) ho rfl (by have q0 := ha.ev (i := 112) (v := .agg #[(.bool (ngB x1)), (.slice A1 n1 c1), (.int .i64 (s1 : Int))]) (by simp); have q1 := ha.ev (i := 113) (v := .agg #[(.bool (ngB x1)), (.slice A4 n4 c4), (.int .i64 (s1 : Int))]) (by simp); simp only [List.map_toArray, List.map_cons, List.map_nil, ev_const, q0, q1])⟩) (by simp) ?_
      refine (refalike_is5 (i := x1) (j := x1) (s := s1) (t := s1) (St.got E (A := A1) (n := n1) (c := c1) (a := (x1).natAbs) (by simp)) (St.got E (A := A4) (n := n4) (c := c4) (a := (x1).natAbs) (by simp)) (alike_yes rfl rfl)).mono ?_; rintro e w7 ⟨rfl, hb⟩
      replace E := Lib.hid (St.step E.out hb)
      clear hb
      have hSw := St.sb E; refine ⟨_, rfl, hSw, ?_⟩; intro a ha
      refine line_still pwAR 19 19 [] 115 (.bool false) [(111, .bool false), (3, .pointer (some ⟨w.heap.size, 0, none⟩)), (11, .pointer (some ⟨w1.heap.size, 0, none⟩)), (13, .pointer (some ⟨w2.heap.size, 0, none⟩)), (15, .pointer (some ⟨w3.heap.size, 0, none⟩)), (1, .slice A k c), (19, .int .i64 lo), (20, .int .i64 hi), (21, .int .i64 lo), (22, .int .i64 hi)] rfl (by decide) (by decide) (by decide) ha (fun o ho hg => y_of (pwAR.wanted hg rfl ha (d := 111) (by simp)) (fun wx hS => e_not ho (ha.ev (i := 114) (v := .bool true) (by simp)))) (by simp) hSw ?_; intro a ha
      refine line_still pwAR 20 20 [] 116 (.bool false) [(3, .pointer (some ⟨w.heap.size, 0, none⟩)), (11, .pointer (some ⟨w1.heap.size, 0, none⟩)), (13, .pointer (some ⟨w2.heap.size, 0, none⟩)), (15, .pointer (some ⟨w3.heap.size, 0, none⟩)), (1, .slice A k c), (19, .int .i64 lo), (20, .int .i64 hi), (21, .int .i64 lo), (22, .int .i64 hi)] rfl (by decide) (by decide) (by decide) ha (fun o ho hg => y_of (wanted_none hg) (fun wx hS => e_pick ho (ha.ev (i := 111) (v := .bool false) (by simp)) rfl (ha.ev (i := 115) (v := .bool false) (by simp)))) (by simp) hSw ?_; intro a ha
      refine line_still pwAR 21 21 [] 117 (.bool false) [(3, .pointer (some ⟨w.heap.size, 0, none⟩)), (11, .pointer (some ⟨w1.heap.size, 0, none⟩)), (13, .pointer (some ⟨w2.heap.size, 0, none⟩)), (15, .pointer (some ⟨w3.heap.size, 0, none⟩)), (1, .slice A k c), (19, .int .i64 lo), (20, .int .i64 hi), (21, .int .i64 lo), (22, .int .i64 hi)] rfl (by decide) (by decide) (by decide) ha (fun o ho hg => y_of (wanted_none hg) (fun wx hS => e_move (.inl ho) (ha.ev (i := 116) (v := .bool false) (by simp)))) (by simp) hSw ?_; intro a ha
      refine line_still pwAR 22 22 [] 118 (.agg #[(.bool (ngB x1)), (.slice A1 n1 c1), (.int .i64 (s1 : Int))]) [(117, .bool false), (3, .pointer (some ⟨w.heap.size, 0, none⟩)), (13, .pointer (some ⟨w2.heap.size, 0, none⟩)), (15, .pointer (some ⟨w3.heap.size, 0, none⟩)), (1, .slice A k c), (19, .int .i64 lo), (20, .int .i64 hi), (21, .int .i64 lo), (22, .int .i64 hi)] rfl (by decide) (by decide) (by decide) ha (fun o ho hg => y_of (pwAR.wanted hg rfl ha (d := 117) (by simp)) (fun wx hS => e_load ho (ha.ev (i := 11) (v := .pointer (some ⟨w1.heap.size, 0, none⟩)) (by simp)) (hS.at_ (g := w1.heap.size) (x0 := (.bool (ngB x1))) (x1 := (.slice A1 n1 c1)) (x2 := (.int .i64 (s1 : Int))) (by simp)))) (by simp) hSw ?_; intro a ha
      refine line_still pwAR 23 23 [] 119 (.agg #[(.bool (ngB x2)), (.slice A2 n2 c2), (.int .i64 (s2 : Int))]) [(118, .agg #[(.bool (ngB x1)), (.slice A1 n1 c1), (.int .i64 (s1 : Int))]), (117, .bool false), (3, .pointer (some ⟨w.heap.size, 0, none⟩)), (15, .pointer (some ⟨w3.heap.size, 0, none⟩)), (1, .slice A k c), (19, .int .i64 lo), (20, .int .i64 hi), (21, .int .i64 lo), (22, .int .i64 hi)] rfl (by decide) (by decide) (by decide) ha (fun o ho hg => y_of (pwAR.wanted hg rfl ha (d := 117) (by simp)) (fun wx hS => e_load ho (ha.ev (i := 13) (v := .pointer (some ⟨w2.heap.size, 0, none⟩)) (by simp)) (hS.at_ (g := w2.heap.size) (x0 := (.bool (ngB x2))) (x1 := (.slice A2 n2 c2)) (x2 := (.int .i64 (s2 : Int))) (by simp)))) (by simp) hSw ?_; intro a ha
      refine line_ahead pwAR 24 24 [] 25 121 (.agg #[(.bool (ngB x3)), (.slice A3 n3 c3), (.int .i64 (s3 : Int))]) [(119, .agg #[(.bool (ngB x2)), (.slice A2 n2 c2), (.int .i64 (s2 : Int))]), (118, .agg #[(.bool (ngB x1)), (.slice A1 n1 c1), (.int .i64 (s1 : Int))]), (117, .bool false), (3, .pointer (some ⟨w.heap.size, 0, none⟩)), (1, .slice A k c), (19, .int .i64 lo), (20, .int .i64 hi), (21, .int .i64 lo), (22, .int .i64 hi)] rfl (by decide) (by decide) (by decide) ha (fun o ho hg => y_of (pwAR.wanted hg rfl ha (d := 117) (by simp)) (fun wx hS => e_load ho (ha.ev (i := 15) (v := .pointer (some ⟨w3.heap.size, 0, none⟩)) (by simp)) (hS.at_ (g := w3.heap.size) (x0 := (.bool (ngB x3))) (x1 := (.slice A3 n3 c3)) (x2 := (.int .i64 (s3 : Int))) (by simp)))) (by simp) hSw ?_; intro a ha
      refine line_call pwAR 25 24 [25] 120 (args := #[.agg #[(.bool (ngB x1)), (.slice A1 n1 c1), (.int .i64 (s1 : Int))], .agg #[(.bool (ngB x2)), (.slice A2 n2 c2), (.int .i64 (s2 : Int))]]) [(121, .agg #[(.bool (ngB x3)), (.slice A3 n3 c3), (.int .i64 (s3 : Int))]), (117, .bool false), (3, .pointer (some ⟨w.heap.size, 0, none⟩)), (1, .slice A k c), (19, .int .i64 lo), (20, .int .i64 hi), (21, .int .i64 lo), (22, .int .i64 hi)] rfl (by decide) (by decide) (by decide) ha (fun o ho hg => ⟨(pwAR.wanted hg rfl ha (d := 117) (by simp)), e_call (by kernel_rfl) ho rfl (by have q0 := ha.ev (i := 118) (v := .agg #[(.bool (ngB x1)), (.slice A1 n1 c1), (.int .i64 (s1 : Int))]) (by simp); have q1 := ha.ev (i := 119) (v := .agg #[(.bool (ngB x2)), (.slice A2 n2 c2), (.int .i64 (s2 : Int))]) (by simp); simp only [List.map_toArray, List.map_cons, List.map_nil, ev_const, q0, q1])⟩) (by simp) ?_
      refine (mul_is5 (i := x1) (s := s1) (j := x2) (t := s2) (St.got E (A := A1) (n := n1) (c := c1) (a := (x1).natAbs) (by simp)) (St.got E (A := A2) (n := n2) (c := c2) (a := (x2).natAbs) (by simp)) (by omega) (by omega) (by omega) (by omega) HS4.out HX4.out).mono ?_; rintro e w8 ⟨A8, n8, c8, rfl, h, hb⟩
      have b8 : n8 ≤ 2690 := len_le h HL4.out
      replace E := Lib.hid (St.push E.out hb h)
      clear h hb
      have hSw := St.sb E; refine ⟨_, rfl, hSw, ?_⟩; intro a ha
      refine line_skip [] (by intro i; simp <;> omega) ?_
      refine line_call pwAR 26 26 [] 122 (args := #[.agg #[.bool (ngB x4), .slice A8 n8 c8, .int .i64 (s4 : Int)], .agg #[(.bool (ngB x3)), (.slice A3 n3 c3), (.int .i64 (s3 : Int))]]) [(117, .bool false), (3, .pointer (some ⟨w.heap.size, 0, none⟩)), (1, .slice A k c), (19, .int .i64 lo), (20, .int .i64 hi), (21, .int .i64 lo), (22, .int .i64 hi)] rfl (by decide) (by decide) (by decide) ha (fun o ho hg => ⟨(pwAR.wanted hg rfl ha (d := 117) (by simp)), e_call (by kernel_rfl) ho rfl (by have q0 := ha.ev (i := 120) (v := .agg #[.bool (ngB x4), .slice A8 n8 c8, .int .i64 (s4 : Int)]) (by simp); have q1 := ha.ev (i := 121) (v := .agg #[(.bool (ngB x3)), (.slice A3 n3 c3), (.int .i64 (s3 : Int))]) (by simp); simp only [List.map_toArray, List.map_cons, List.map_nil, ev_const, q0, q1])⟩) (by simp) ?_
      refine (alike_is5 (i := x4) (j := x3) (s := s4) (t := s3) (St.got E (A := A8) (n := n8) (c := c8) (a := (x4).natAbs) (by simp)) (St.got E (A := A3) (n := n3) (c := c3) (a := (x3).natAbs) (by simp)) F1.out).mono ?_; rintro e w9 ⟨rfl, hb⟩
      replace E := Lib.hid (St.step E.out hb)
      clear hb
      replace E : Hid (St w w9 [(A4, n4, c4, (x1).natAbs), (A3, n3, c3, (x3).natAbs), (A2, n2, c2, (x2).natAbs), (A1, n1, c1, (x1).natAbs), (Aa, na, ca, (i).natAbs)] [(w4.heap.size, (.bool (ngB x1)), (.slice A4 n4 c4), (.int .i64 (s1 : Int))), (w3.heap.size, (.bool (ngB x3)), (.slice A3 n3 c3), (.int .i64 (s3 : Int))), (w2.heap.size, (.bool (ngB x2)), (.slice A2 n2 c2), (.int .i64 (s2 : Int))), (w1.heap.size, (.bool (ngB x1)), (.slice A1 n1 c1), (.int .i64 (s1 : Int))), (w.heap.size, (.bool (ngB i)), (.slice Aa na ca), (.int .i64 (s : Int)))]) := Lib.hid ((E.out).sub (by simp) (by simp))
      have hSw := St.sb E; refine ⟨_, rfl, hSw, ?_⟩; intro a ha
      refine line_still pwAR 27 27 [] 123 (.bool false) [(117, .bool false), (3, .pointer (some ⟨w.heap.size, 0, none⟩)), (1, .slice A k c), (19, .int .i64 lo), (20, .int .i64 hi), (21, .int .i64 lo), (22, .int .i64 hi)] rfl (by decide) (by decide) (by decide) ha (fun o ho hg => y_of (pwAR.wanted hg rfl ha (d := 117) (by simp)) (fun wx hS => e_not ho (ha.ev (i := 122) (v := .bool true) (by simp)))) (by simp) hSw ?_; intro a ha
      refine line_still pwAR 28 28 [] 124 (.bool false) [(3, .pointer (some ⟨w.heap.size, 0, none⟩)), (1, .slice A k c), (19, .int .i64 lo), (20, .int .i64 hi), (21, .int .i64 lo), (22, .int .i64 hi)] rfl (by decide) (by decide) (by decide) ha (fun o ho hg => y_of (wanted_none hg) (fun wx hS => e_pick ho (ha.ev (i := 117) (v := .bool false) (by simp)) rfl (ha.ev (i := 123) (v := .bool false) (by simp)))) (by simp) hSw ?_; intro a ha
      refine line_still pwAR 29 29 [] 125 (.bool false) [(3, .pointer (some ⟨w.heap.size, 0, none⟩)), (1, .slice A k c), (19, .int .i64 lo), (20, .int .i64 hi), (21, .int .i64 lo), (22, .int .i64 hi)] rfl (by decide) (by decide) (by decide) ha (fun o ho hg => y_of (wanted_none hg) (fun wx hS => e_move (.inl ho) (ha.ev (i := 124) (v := .bool false) (by simp)))) (by simp) hSw ?_; intro a ha
      refine line_still pwAR 30 30 [] 126 (.int .i64 lo) [(125, .bool false), (3, .pointer (some ⟨w.heap.size, 0, none⟩)), (1, .slice A k c), (19, .int .i64 lo), (20, .int .i64 hi), (21, .int .i64 lo), (22, .int .i64 hi)] rfl (by decide) (by decide) (by decide) ha (fun o ho hg => y_of (pwAR.wanted hg rfl ha (d := 125) (by simp)) (fun wx hS => e_move (.inl ho) (ha.ev (i := 19) (v := .int .i64 lo) (by simp)))) (by simp) hSw ?_; intro a ha
      refine line_still pwAR 31 31 [] 127 (.int .i64 lo) [(126, .int .i64 lo), (125, .bool false), (3, .pointer (some ⟨w.heap.size, 0, none⟩)), (1, .slice A k c), (19, .int .i64 lo), (20, .int .i64 hi), (22, .int .i64 hi)] rfl (by decide) (by decide) (by decide) ha (fun o ho hg => y_of (pwAR.wanted hg rfl ha (d := 125) (by simp)) (fun wx hS => e_move (.inl ho) (ha.ev (i := 21) (v := .int .i64 lo) (by simp)))) (by simp) hSw ?_; intro a ha
      refine line_still pwAR 32 32 [] 128 (.bool false) [(125, .bool false), (3, .pointer (some ⟨w.heap.size, 0, none⟩)), (1, .slice A k c), (19, .int .i64 lo), (20, .int .i64 hi), (22, .int .i64 hi)] rfl (by decide) (by decide) (by decide) ha (fun o ho hg => y_of (pwAR.wanted hg rfl ha (d := 125) (by simp)) (fun wx hS => (e_neq ho (ha.ev (i := 126) (v := .int .i64 lo) (by simp)) (ha.ev (i := 127) (v := .int .i64 lo) (by simp))).trans (by rw [E1.out]))) (by simp) hSw ?_; intro a ha
      refine line_still pwAR 33 33 [] 129 (.bool false) [(3, .pointer (some ⟨w.heap.size, 0, none⟩)), (1, .slice A k c), (19, .int .i64 lo), (20, .int .i64 hi), (22, .int .i64 hi)] rfl (by decide) (by decide) (by decide) ha (fun o ho hg => y_of (wanted_none hg) (fun wx hS => e_pick ho (ha.ev (i := 125) (v := .bool false) (by simp)) rfl (ha.ev (i := 128) (v := .bool false) (by simp)))) (by simp) hSw ?_; intro a ha
      refine line_still pwAR 34 34 [] 130 (.bool false) [(3, .pointer (some ⟨w.heap.size, 0, none⟩)), (1, .slice A k c), (19, .int .i64 lo), (20, .int .i64 hi), (22, .int .i64 hi)] rfl (by decide) (by decide) (by decide) ha (fun o ho hg => y_of (wanted_none hg) (fun wx hS => e_move (.inl ho) (ha.ev (i := 129) (v := .bool false) (by simp)))) (by simp) hSw ?_; intro a ha
      refine line_still pwAR 35 35 [] 131 (.int .i64 hi) [(130, .bool false), (3, .pointer (some ⟨w.heap.size, 0, none⟩)), (1, .slice A k c), (19, .int .i64 lo), (20, .int .i64 hi), (22, .int .i64 hi)] rfl (by decide) (by decide) (by decide) ha (fun o ho hg => y_of (pwAR.wanted hg rfl ha (d := 130) (by simp)) (fun wx hS => e_move (.inl ho) (ha.ev (i := 20) (v := .int .i64 hi) (by simp)))) (by simp) hSw ?_; intro a ha
      refine line_still pwAR 36 36 [] 132 (.int .i64 hi) [(131, .int .i64 hi), (130, .bool false), (3, .pointer (some ⟨w.heap.size, 0, none⟩)), (1, .slice A k c), (19, .int .i64 lo), (20, .int .i64 hi)] rfl (by decide) (by decide) (by decide) ha (fun o ho hg => y_of (pwAR.wanted hg rfl ha (d := 130) (by simp)) (fun wx hS => e_move (.inl ho) (ha.ev (i := 22) (v := .int .i64 hi) (by simp)))) (by simp) hSw ?_; intro a ha
      refine line_still pwAR 37 37 [] 133 (.bool false) [(130, .bool false), (3, .pointer (some ⟨w.heap.size, 0, none⟩)), (1, .slice A k c), (19, .int .i64 lo), (20, .int .i64 hi)] rfl (by decide) (by decide) (by decide) ha (fun o ho hg => y_of (pwAR.wanted hg rfl ha (d := 130) (by simp)) (fun wx hS => (e_neq ho (ha.ev (i := 131) (v := .int .i64 hi) (by simp)) (ha.ev (i := 132) (v := .int .i64 hi) (by simp))).trans (by rw [E2.out]))) (by simp) hSw ?_; intro a ha
      refine line_still pwAR 38 38 [] 134 (.bool false) [(3, .pointer (some ⟨w.heap.size, 0, none⟩)), (1, .slice A k c), (19, .int .i64 lo), (20, .int .i64 hi)] rfl (by decide) (by decide) (by decide) ha (fun o ho hg => y_of (wanted_none hg) (fun wx hS => e_pick ho (ha.ev (i := 130) (v := .bool false) (by simp)) rfl (ha.ev (i := 133) (v := .bool false) (by simp)))) (by simp) hSw ?_; intro a ha
      refine line_still pwAR 39 39 [] 135 (.bool false) [(3, .pointer (some ⟨w.heap.size, 0, none⟩)), (1, .slice A k c), (19, .int .i64 lo), (20, .int .i64 hi)] rfl (by decide) (by decide) (by decide) ha (fun o ho hg => y_of (wanted_none hg) (fun wx hS => e_move (.inl ho) (ha.ev (i := 134) (v := .bool false) (by simp)))) (by simp) hSw ?_; intro a ha
      refine line_still pwAR 40 40 [] 136 (.int .i64 lo) [(135, .bool false), (3, .pointer (some ⟨w.heap.size, 0, none⟩)), (1, .slice A k c), (19, .int .i64 lo), (20, .int .i64 hi)] rfl (by decide) (by decide) (by decide) ha (fun o ho hg => y_of (pwAR.wanted hg rfl ha (d := 135) (by simp)) (fun wx hS => e_move (.inl ho) (ha.ev (i := 19) (v := .int .i64 lo) (by simp)))) (by simp) hSw ?_; intro a ha
      refine line_still pwAR 41 41 [] 137 (.bool b0) [(135, .bool false), (3, .pointer (some ⟨w.heap.size, 0, none⟩)), (1, .slice A k c), (19, .int .i64 lo), (20, .int .i64 hi)] rfl (by decide) (by decide) (by decide) ha (fun o ho hg => y_of (pwAR.wanted hg rfl ha (d := 135) (by simp)) (fun wx hS => (e_lss ho (ha.ev (i := 136) (v := .int .i64 lo) (by simp)) rfl).trans (by rw [E3.out]))) (by simp) hSw ?_; intro a ha
      refine line_still pwAR 42 42 [] 138 (.slice A k c) [(137, .bool b0), (135, .bool false), (3, .pointer (some ⟨w.heap.size, 0, none⟩)), (1, .slice A k c), (19, .int .i64 lo), (20, .int .i64 hi)] rfl (by decide) (by decide) (by decide) ha (fun o ho hg => y_of (pwAR.wanted hg rfl ha (d := 135) (by simp)) (fun wx hS => e_move (.inl ho) (ha.ev (i := 1) (v := .slice A k c) (by simp)))) (by simp) hSw ?_; intro a ha
      refine line_still pwAR 43 43 [] 139 (.int .i64 (k : Int)) [(137, .bool b0), (135, .bool false), (3, .pointer (some ⟨w.heap.size, 0, none⟩)), (1, .slice A k c), (19, .int .i64 lo), (20, .int .i64 hi)] rfl (by decide) (by decide) (by decide) ha (fun o ho hg => y_of (pwAR.wanted hg rfl ha (d := 135) (by simp)) (fun wx hS => e_lenL ho (ha.ev (i := 138) (v := .slice A k c) (by simp)))) (by simp) hSw ?_; intro a ha
      refine line_still pwAR 44 44 [] 140 (.bool b0) [(137, .bool b0), (135, .bool false), (3, .pointer (some ⟨w.heap.size, 0, none⟩)), (1, .slice A k c), (19, .int .i64 lo), (20, .int .i64 hi)] rfl (by decide) (by decide) (by decide) ha (fun o ho hg => y_of (pwAR.wanted hg rfl ha (d := 135) (by simp)) (fun wx hS => (e_eql ho (ha.ev (i := 139) (v := .int .i64 (k : Int)) (by simp)) rfl).trans (by rw [E4.out]))) (by simp) hSw ?_; intro a ha
      refine line_still pwAR 45 45 [] 141 (.bool false) [(135, .bool false), (3, .pointer (some ⟨w.heap.size, 0, none⟩)), (1, .slice A k c), (19, .int .i64 lo), (20, .int .i64 hi)] rfl (by decide) (by decide) (by decide) ha (fun o ho hg => y_of (pwAR.wanted hg rfl ha (d := 135) (by simp)) (fun wx hS => (e_bne ho (ha.ev (i := 137) (v := .bool b0) (by simp)) (ha.ev (i := 140) (v := .bool b0) (by simp))).trans (by rw [E5.out]))) (by simp) hSw ?_; intro a ha
      refine line_still pwAR 46 46 [] 142 (.bool false) [(3, .pointer (some ⟨w.heap.size, 0, none⟩)), (1, .slice A k c), (19, .int .i64 lo), (20, .int .i64 hi)] rfl (by decide) (by decide) (by decide) ha (fun o ho hg => y_of (wanted_none hg) (fun wx hS => e_pick ho (ha.ev (i := 135) (v := .bool false) (by simp)) rfl (ha.ev (i := 141) (v := .bool false) (by simp)))) (by simp) hSw ?_; intro a ha
      refine line_still pwAR 47 47 [] 143 (.bool false) [(3, .pointer (some ⟨w.heap.size, 0, none⟩)), (1, .slice A k c), (19, .int .i64 lo), (20, .int .i64 hi)] rfl (by decide) (by decide) (by decide) ha (fun o ho hg => y_of (wanted_none hg) (fun wx hS => e_move (.inl ho) (ha.ev (i := 142) (v := .bool false) (by simp)))) (by simp) hSw ?_; intro a ha
      refine line_still pwAR 48 48 [] 144 (.int .i64 lo) [(143, .bool false), (3, .pointer (some ⟨w.heap.size, 0, none⟩)), (1, .slice A k c), (19, .int .i64 lo), (20, .int .i64 hi)] rfl (by decide) (by decide) (by decide) ha (fun o ho hg => y_of (pwAR.wanted hg rfl ha (d := 143) (by simp)) (fun wx hS => e_move (.inl ho) (ha.ev (i := 19) (v := .int .i64 lo) (by simp)))) (by simp) hSw ?_; intro a ha
      refine line_still pwAR 49 49 [] 145 (.slice A k c) [(144, .int .i64 lo), (143, .bool false), (3, .pointer (some ⟨w.heap.size, 0, none⟩)), (1, .slice A k c), (19, .int .i64 lo), (20, .int .i64 hi)] rfl (by decide) (by decide) (by decide) ha (fun o ho hg => y_of (pwAR.wanted hg rfl ha (d := 143) (by simp)) (fun wx hS => e_move (.inl ho) (ha.ev (i := 1) (v := .slice A k c) (by simp)))) (by simp) hSw ?_; intro a ha
      refine line_still pwAR 50 50 [] 146 (.int .i64 (k : Int)) [(144, .int .i64 lo), (143, .bool false), (3, .pointer (some ⟨w.heap.size, 0, none⟩)), (1, .slice A k c), (19, .int .i64 lo), (20, .int .i64 hi)] rfl (by decide) (by decide) (by decide) ha (fun o ho hg => y_of (pwAR.wanted hg rfl ha (d := 143) (by simp)) (fun wx hS => e_lenL ho (ha.ev (i := 145) (v := .slice A k c) (by simp)))) (by simp) hSw ?_; intro a ha
      refine line_still pwAR 51 51 [] 147 (.bool false) [(143, .bool false), (3, .pointer (some ⟨w.heap.size, 0, none⟩)), (1, .slice A k c), (19, .int .i64 lo), (20, .int .i64 hi)] rfl (by decide) (by decide) (by decide) ha (fun o ho hg => y_of (pwAR.wanted hg rfl ha (d := 143) (by simp)) (fun wx hS => (e_geq ho (ha.ev (i := 144) (v := .int .i64 lo) (by simp)) (ha.ev (i := 146) (v := .int .i64 (k : Int)) (by simp))).trans (by rw [E6.out]))) (by simp) hSw ?_; intro a ha
      refine line_still pwAR 52 52 [] 148 (.bool false) [(3, .pointer (some ⟨w.heap.size, 0, none⟩)), (1, .slice A k c), (19, .int .i64 lo), (20, .int .i64 hi)] rfl (by decide) (by decide) (by decide) ha (fun o ho hg => y_of (wanted_none hg) (fun wx hS => e_pick ho (ha.ev (i := 143) (v := .bool false) (by simp)) rfl (ha.ev (i := 147) (v := .bool false) (by simp)))) (by simp) hSw ?_; intro a ha
      refine line_still pwAR 53 53 [] 149 (.bool false) [(3, .pointer (some ⟨w.heap.size, 0, none⟩)), (1, .slice A k c), (19, .int .i64 lo), (20, .int .i64 hi)] rfl (by decide) (by decide) (by decide) ha (fun o ho hg => y_of (wanted_none hg) (fun wx hS => e_move (.inl ho) (ha.ev (i := 148) (v := .bool false) (by simp)))) (by simp) hSw ?_; intro a ha
      refine line_still pwAR 54 54 [] 150 (.int .i64 hi) [(149, .bool false), (3, .pointer (some ⟨w.heap.size, 0, none⟩)), (1, .slice A k c), (19, .int .i64 lo), (20, .int .i64 hi)] rfl (by decide) (by decide) (by decide) ha (fun o ho hg => y_of (pwAR.wanted hg rfl ha (d := 149) (by simp)) (fun wx hS => e_move (.inl ho) (ha.ev (i := 20) (v := .int .i64 hi) (by simp)))) (by simp) hSw ?_; intro a ha
      refine line_still pwAR 55 55 [] 151 (.slice A k c) [(150, .int .i64 hi), (149, .bool false), (3, .pointer (some ⟨w.heap.size, 0, none⟩)), (1, .slice A k c), (19, .int .i64 lo), (20, .int .i64 hi)] rfl (by decide) (by decide) (by decide) ha (fun o ho hg => y_of (pwAR.wanted hg rfl ha (d := 149) (by simp)) (fun wx hS => e_move (.inl ho) (ha.ev (i := 1) (v := .slice A k c) (by simp)))) (by simp) hSw ?_; intro a ha
      refine line_still pwAR 56 56 [] 152 (.int .i64 (k : Int)) [(150, .int .i64 hi), (149, .bool false), (3, .pointer (some ⟨w.heap.size, 0, none⟩)), (1, .slice A k c), (19, .int .i64 lo), (20, .int .i64 hi)] rfl (by decide) (by decide) (by decide) ha (fun o ho hg => y_of (pwAR.wanted hg rfl ha (d := 149) (by simp)) (fun wx hS => e_lenL ho (ha.ev (i := 151) (v := .slice A k c) (by simp)))) (by simp) hSw ?_; intro a ha
      refine line_still pwAR 57 57 [] 153 (.bool false) [(149, .bool false), (3, .pointer (some ⟨w.heap.size, 0, none⟩)), (1, .slice A k c), (19, .int .i64 lo), (20, .int .i64 hi)] rfl (by decide) (by decide) (by decide) ha (fun o ho hg => y_of (pwAR.wanted hg rfl ha (d := 149) (by simp)) (fun wx hS => (e_geq ho (ha.ev (i := 150) (v := .int .i64 hi) (by simp)) (ha.ev (i := 152) (v := .int .i64 (k : Int)) (by simp))).trans (by rw [E7.out]))) (by simp) hSw ?_; intro a ha
      refine line_still pwAR 58 58 [] 154 (.bool false) [(3, .pointer (some ⟨w.heap.size, 0, none⟩)), (1, .slice A k c), (19, .int .i64 lo), (20, .int .i64 hi)] rfl (by decide) (by decide) (by decide) ha (fun o ho hg => y_of (wanted_none hg) (fun wx hS => e_pick ho (ha.ev (i := 149) (v := .bool false) (by simp)) rfl (ha.ev (i := 153) (v := .bool false) (by simp)))) (by simp) hSw ?_; intro a ha
      refine line_end pwAR rfl ?_
      simp only [Exit.then]
      refine hK _ _ ?_
      refine wp_cond_false (ha.ev (by simp)) ?_
      refine wp_skip ?_
      simp only [Exit.then]
      refine hK0 _ _ ?_
      clear hK hK0 K K0
      replace E : Hid (St w w9 [(Aa, na, ca, (i).natAbs)] [(w.heap.size, (.bool (ngB i)), (.slice Aa na ca), (.int .i64 (s : Int)))]) := Lib.hid (E.out.sub (by simp) (by simp))
      obtain ⟨us, rfl, hu⟩ := ha.list
      have eu1 : us 1 = .slice A k c := hu (1, .slice A k c) (by simp)
      have eu3 : us 3 = .pointer (some ⟨w.heap.size, 0, none⟩) := hu (3, .pointer (some ⟨w.heap.size, 0, none⟩)) (by simp)
      have eu19 : us 19 = .int .i64 lo := hu (19, .int .i64 lo) (by simp)
      have eu20 : us 20 = .int .i64 hi := hu (20, .int .i64 hi) (by simp)
      rw [show (List.range 216).map us = [us 0, us 1, us 2, us 3, us 4, us 5, us 6, us 7, us 8, us 9, us 10, us 11, us 12, us 13, us 14, us 15, us 16, us 17, us 18, us 19, us 20, us 21, us 22, us 23, us 24, us 25, us 26, us 27, us 28, us 29, us 30, us 31, us 32, us 33, us 34, us 35, us 36, us 37, us 38, us 39, us 40, us 41, us 42, us 43, us 44, us 45, us 46, us 47, us 48, us 49, us 50, us 51, us 52, us 53, us 54, us 55, us 56, us 57, us 58, us 59, us 60, us 61, us 62, us 63, us 64, us 65, us 66, us 67, us 68, us 69, us 70, us 71, us 72, us 73, us 74, us 75, us 76, us 77, us 78, us 79, us 80, us 81, us 82, us 83, us 84, us 85, us 86, us 87, us 88, us 89, us 90, us 91, us 92, us 93, us 94, us 95, us 96, us 97, us 98, us 99, us 100, us 101, us 102, us 103, us 104, us 105, us 106, us 107, us 108, us 109, us 110, us 111, us 112, us 113, us 114, us 115, us 116, us 117, us 118, us 119, us 120, us 121, us 122, us 123, us 124, us 125, us 126, us 127, us 128, us 129, us 130, us 131, us 132, us 133, us 134, us 135, us 136, us 137, us 138, us 139, us 140, us 141, us 142, us 143, us 144, us 145, us 146, us 147, us 148, us 149, us 150, us 151, us 152, us 153, us 154, us 155, us 156, us 157, us 158, us 159, us 160, us 161, us 162, us 163, us 164, us 165, us 166, us 167, us 168, us 169, us 170, us 171, us 172, us 173, us 174, us 175, us 176, us 177, us 178, us 179, us 180, us 181, us 182, us 183, us 184, us 185, us 186, us 187, us 188, us 189, us 190, us 191, us 192, us 193, us 194, us 195, us 196, us 197, us 198, us 199, us 200, us 201, us 202, us 203, us 204, us 205, us 206, us 207, us 208, us 209, us 210, us 211, us 212, us 213, us 214, us 215] from rfl, eu1, eu3, eu19, eu20]
      clear hu ha eu1 eu3 eu19 eu20
      go_wp2_with fail
      refine wp_loop_ghost (fun (R : Nat) (a : Act) (w' : World) => ∃ j : Nat, j ≤ k ∧ R = k - j ∧ Fr 216 a [(1, .slice A k c), (3, .pointer (some ⟨w.heap.size, 0, none⟩)), (19, .int .i64 lo), (20, .int .i64 hi), (155, .slice A k c), (156, .int .i64 (k : Int)), (157, .int .i64 (j : Int))] ∧ Hid (St w w' [(Aa, na, ca, (i).natAbs)] [(w.heap.size, (.bool (ngB i)), (.slice Aa na ca), (.int .i64 (s : Int)))])) k ⟨0, Nat.zero_le _, rfl, ⟨rfl, rfl, by intro q hq; simp at hq; rcases hq with rfl | rfl | rfl | rfl | rfl | rfl | rfl <;> rfl⟩, E⟩ ?_
      clear E
      rintro R a V ⟨j, hj, rfl, ha, E⟩
      obtain ⟨us, rfl, hu⟩ := ha.list
      have eu1 : us 1 = .slice A k c := hu (1, .slice A k c) (by simp)
      have eu3 : us 3 = .pointer (some ⟨w.heap.size, 0, none⟩) := hu (3, .pointer (some ⟨w.heap.size, 0, none⟩)) (by simp)
      have eu19 : us 19 = .int .i64 lo := hu (19, .int .i64 lo) (by simp)
      have eu20 : us 20 = .int .i64 hi := hu (20, .int .i64 hi) (by simp)
      have eu155 : us 155 = .slice A k c := hu (155, .slice A k c) (by simp)
      have eu156 : us 156 = .int .i64 (k : Int) := hu (156, .int .i64 (k : Int)) (by simp)
      have eu157 : us 157 = .int .i64 (j : Int) := hu (157, .int .i64 (j : Int)) (by simp)
      rw [show (List.range 216).map us = [us 0, us 1, us 2, us 3, us 4, us 5, us 6, us 7, us 8, us 9, us 10, us 11, us 12, us 13, us 14, us 15, us 16, us 17, us 18, us 19, us 20, us 21, us 22, us 23, us 24, us 25, us 26, us 27, us 28, us 29, us 30, us 31, us 32, us 33, us 34, us 35, us 36, us 37, us 38, us 39, us 40, us 41, us 42, us 43, us 44, us 45, us 46, us 47, us 48, us 49, us 50, us 51, us 52, us 53, us 54, us 55, us 56, us 57, us 58, us 59, us 60, us 61, us 62, us 63, us 64, us 65, us 66, us 67, us 68, us 69, us 70, us 71, us 72, us 73, us 74, us 75, us 76, us 77, us 78, us 79, us 80, us 81, us 82, us 83, us 84, us 85, us 86, us 87, us 88, us 89, us 90, us 91, us 92, us 93, us 94, us 95, us 96, us 97, us 98, us 99, us 100, us 101, us 102, us 103, us 104, us 105, us 106, us 107, us 108, us 109, us 110, us 111, us 112, us 113, us 114, us 115, us 116, us 117, us 118, us 119, us 120, us 121, us 122, us 123, us 124, us 125, us 126, us 127, us 128, us 129, us 130, us 131, us 132, us 133, us 134, us 135, us 136, us 137, us 138, us 139, us 140, us 141, us 142, us 143, us 144, us 145, us 146, us 147, us 148, us 149, us 150, us 151, us 152, us 153, us 154, us 155, us 156, us 157, us 158, us 159, us 160, us 161, us 162, us 163, us 164, us 165, us 166, us 167, us 168, us 169, us 170, us 171, us 172, us 173, us 174, us 175, us 176, us 177, us 178, us 179, us 180, us 181, us 182, us 183, us 184, us 185, us 186, us 187, us 188, us 189, us 190, us 191, us 192, us 193, us 194, us 195, us 196, us 197, us 198, us 199, us 200, us 201, us 202, us 203, us 204, us 205, us 206, us 207, us 208, us 209, us 210, us 211, us 212, us 213, us 214, us 215] from rfl, eu1, eu3, eu19, eu20, eu155, eu156, eu157]
      clear hu ha eu1 eu3 eu19 eu20 eu155 eu156 eu157
      rcases Nat.lt_or_ge j k with hlt | hge
      ·
        obtain ⟨b, f0, rfl, _, _, _, _⟩ := HD.out.at_ hlt
        obtain ⟨l, hh, rfl, rfl, hl1, hl2, hl3, hl4⟩ : ∃ l hh : Nat, lo = (l : Int) ∧ hi = (hh : Int) ∧ l < k ∧ hh < k ∧ (∀ j, j < k → 0 ≤ cmpD (d j).1 (d j).2 (d l).1 (d l).2) ∧ (∀ j, j < k → cmpD (d j).1 (d j).2 (d hh).1 (d hh).2 ≤ 0) := by
          rcases HLH.out with ⟨h0, _, _⟩ | ⟨h0, h1, h2⟩
          · omega
          · refine ⟨low d k, high d k, h1, h2, ?_, ?_, low_min d k, high_max d k⟩
            · have := low_lt d (k - 1); rw [show k - 1 + 1 = k by omega] at this; omega
            · have := high_lt d (k - 1); rw [show k - 1 + 1 = k by omega] at this; omega
        obtain ⟨iv, sv, Av, nv, cv, hdv, Cv, Nv, mv, tv⟩ := HD.out.spot hlt
        have HCv := Lib.hid Cv
        have HNv := Lib.hid Nv
        clear Cv
        obtain ⟨il, sl, Al, nl, cl, hdl, Cl, Nl, ml, tl⟩ := HD.out.spot hl1
        have HCl := Lib.hid Cl
        have HNl := Lib.hid Nl
        clear Cl
        obtain ⟨ih, sh, Ah, nh, ch, hdh, Ch, Nh, mh, th⟩ := HD.out.spot hl2
        have HCh := Lib.hid Ch
        have HNh := Lib.hid Nh
        clear Ch
        have f1 := hl3 j hlt
        have f2 := hl4 j hlt
        rw [hdv, hdl] at f1
        rw [hdv, hdh] at f2
        obtain ⟨z1, hz1⟩ : ∃ z1, cmpD iv sv il sl = z1 := ⟨_, rfl⟩
        obtain ⟨z2, hz2⟩ : ∃ z2, cmpD iv sv ih sh = z2 := ⟨_, rfl⟩
        have D1 : Hid (decide (z1 < 0) = false) := decide_eq_false (by have : 0 ≤ cmpD iv sv il sl := f1; omega)
        have D2 : Hid (decide (0 < z2) = false) := decide_eq_false (by have : cmpD iv sv ih sh ≤ 0 := f2; omega)
        have HZ1 := Lib.hid hz1
        have HZ2 := Lib.hid hz2
        have sv1 : (dg (iv, sv).1.natAbs).length ≤ 12 ∧ (iv, sv).2 ≤ 60 := ⟨by have h1 := Nv.len; show (dg iv.natAbs).length ≤ 12; omega, tv⟩
        have sl1 : (dg (il, sl).1.natAbs).length ≤ 12 ∧ (il, sl).2 ≤ 60 := ⟨by have h1 := Nl.len; show (dg il.natAbs).length ≤ 12; omega, tl⟩
        have sd1 : (dg (i, s).1.natAbs).length ≤ 12 ∧ (i, s).2 ≤ 60 := ⟨by have h1 := H1.out.len; show (dg i.natAbs).length ≤ 12; omega, t1⟩
        have q1 := bet_short sv1 sd1 sd1
        have q2 := bet_short sv1 sl1 sd1
        have q3 := bet_same (iv, sv) (i, s)
        obtain ⟨⟨xw, tw⟩, hxw⟩ : ∃ q, bet (iv, sv) (i, s) (i, s) = q := ⟨_, rfl⟩
        obtain ⟨⟨xb, tb⟩, hxb⟩ : ∃ q, bet (iv, sv) (il, sl) (i, s) = q := ⟨_, rfl⟩
        rw [hxw] at q1 q3
        rw [hxb] at q2
        have LW : Hid ((dg xw.natAbs).length ≤ 12) := q1.1
        have LB : Hid ((dg xb.natAbs).length ≤ 12) := q2.1
        have hw60 : tw ≤ 60 := q1.2
        have hb60 : tb ≤ 60 := q2.2
        have HSW : Hid ((cmpD xw tw i s == 0) = true) := q3
        have HXW := Lib.hid hxw
        have HXB := Lib.hid hxb
        clear q1 q2 q3 hxw hxb sv1 sl1 sd1 f1 f2 hz1 hz2 hdv hdl hdh hl3 hl4 Nv Nl Nh
        obtain ⟨x0, x1, x2, _⟩ := HCv.out.on E.out.bel
        replace E := Lib.hid (((E.out.push (Below.refl _ _) (HNh.out.on E.out.bel)).push (Below.refl _ _) (HNl.out.on E.out.bel)).push (Below.refl _ _) (HNv.out.on E.out.bel))
        obtain ⟨p0a, p0b, p0c, p0d, p0e, p0f, p0g⟩ := St.at_ (x0 := (.bool (ngB i))) (x1 := (.slice Aa na ca)) (x2 := (.int .i64 (s : Int))) (g := w.heap.size) E (by simp)
        go_wp2_with fail
        clear p0a p0b p0c p0d p0e p0f p0g
        clear x0 x1 x2
        replace E := Lib.hid (St.lay (t := 25) (x0 := (.bool (ngB iv))) (x1 := (.slice Av nv cv)) (x2 := (.int .i64 (sv : Int))) (g := V.heap.size) E.out rfl)
        refine (between_is (i := iv) (s := sv) (j := i) (t := s) (k := i) (u := s) (St.got E (A := Av) (n := nv) (c := cv) (a := (iv).natAbs) (by simp)) (St.got E (A := Aa) (n := na) (c := ca) (a := (i).natAbs) (by simp)) (St.got E (A := Aa) (n := na) (c := ca) (a := (i).natAbs) (by simp)) (by omega) (by omega) (by omega) (by omega) (by omega) (by omega) HXW.out).mono ?_; rintro e V1 ⟨Aw, nw, cw, rfl, h, hb⟩
        have bw : nw ≤ 12 := len_le h LW.out
        replace E := Lib.hid (St.push E.out hb h); clear h hb
        go_wp2_with fail
        replace E := Lib.hid (St.lay (t := 25) (x0 := (.bool (ngB xw))) (x1 := (.slice Aw nw cw)) (x2 := (.int .i64 (tw : Int))) (g := V1.heap.size) E.out rfl)
        generalize hW : World.alloc V1 _ = V2 at E ⊢; clear hW
        replace E := Lib.hid (St.drew E.out)
        rename_i K0 hK0 K hK
        have HKC : Hid (k ≤ c) := HD.out.cap
        have HCM : Hid (c ≤ maxLen) := HD.out.room
        refine line_start (ops := opsAt Try.prog 7 22) (S := SBL [(V1.heap.size, (.bool (ngB xw)), (.slice Aw nw cw), (.int .i64 (tw : Int))), (V.heap.size, (.bool (ngB iv)), (.slice Av nv cv), (.int .i64 (sv : Int))), (w.heap.size, (.bool (ngB i)), (.slice Aa na ca), (.int .i64 (s : Int)))] b (f0 + l * 3) (.bool (ngB il)) (.slice Al nl cl) (.int .i64 (sl : Int)) (f0 + hh * 3) (.bool (ngB ih)) (.slice Ah nh ch) (.int .i64 (sh : Int))) (by kernel_rfl) (by kernel_rfl) (SBL.of E (HCl.out.on E.out.bel) (HCh.out.on E.out.bel)) ?_
        have hSw := SBL.of E (HCl.out.on E.out.bel) (HCh.out.on E.out.bel)
        generalize hA : Act.mk _ _ = a
        have ha : Fr 216 a [(3, .pointer (some ⟨w.heap.size, 0, none⟩)), (24, .pointer (some ⟨V.heap.size, 0, none⟩)), (25, .pointer (some ⟨V1.heap.size, 0, none⟩)), (1, .slice (some ⟨b, f0, none⟩) k c), (19, .int .i64 (l : Int)), (20, .int .i64 (hh : Int)), (155, .slice (some ⟨b, f0, none⟩) k c), (156, .int .i64 (k : Int)), (157, .int .i64 (j : Int))] := by rw [← hA]; exact ⟨rfl, rfl, by intro q hq; simp at hq; rcases hq with rfl | rfl | rfl | rfl | rfl | rfl | rfl | rfl | rfl <;> rfl⟩
        clear hA
        refine line_still pwBR 0 0 [] 165 (.agg #[(.bool (ngB iv)), (.slice Av nv cv), (.int .i64 (sv : Int))]) [(3, .pointer (some ⟨w.heap.size, 0, none⟩)), (24, .pointer (some ⟨V.heap.size, 0, none⟩)), (25, .pointer (some ⟨V1.heap.size, 0, none⟩)), (1, .slice (some ⟨b, f0, none⟩) k c), (19, .int .i64 (l : Int)), (20, .int .i64 (hh : Int)), (155, .slice (some ⟨b, f0, none⟩) k c), (156, .int .i64 (k : Int)), (157, .int .i64 (j : Int))] rfl (by decide) (by decide) (by decide) ha (fun o ho hg => y_of (wanted_none hg) (fun wx hS => e_load ho (ha.ev (i := 24) (v := .pointer (some ⟨V.heap.size, 0, none⟩)) (by simp)) (hS.at_ (g := V.heap.size) (x0 := (.bool (ngB iv))) (x1 := (.slice Av nv cv)) (x2 := (.int .i64 (sv : Int))) (by simp)))) (by simp) hSw ?_; intro a ha
        refine line_still pwBR 1 1 [] 166 (.slice (some ⟨b, f0, none⟩) k c) [(165, .agg #[(.bool (ngB iv)), (.slice Av nv cv), (.int .i64 (sv : Int))]), (3, .pointer (some ⟨w.heap.size, 0, none⟩)), (24, .pointer (some ⟨V.heap.size, 0, none⟩)), (25, .pointer (some ⟨V1.heap.size, 0, none⟩)), (1, .slice (some ⟨b, f0, none⟩) k c), (19, .int .i64 (l : Int)), (20, .int .i64 (hh : Int)), (155, .slice (some ⟨b, f0, none⟩) k c), (156, .int .i64 (k : Int)), (157, .int .i64 (j : Int))] rfl (by decide) (by decide) (by decide) ha (fun o ho hg => y_of (wanted_none hg) (fun wx hS => e_move (.inl ho) (ha.ev (i := 1) (v := .slice (some ⟨b, f0, none⟩) k c) (by simp)))) (by simp) hSw ?_; intro a ha
        refine line_still pwBR 2 2 [] 167 (.int .i64 (l : Int)) [(166, .slice (some ⟨b, f0, none⟩) k c), (165, .agg #[(.bool (ngB iv)), (.slice Av nv cv), (.int .i64 (sv : Int))]), (3, .pointer (some ⟨w.heap.size, 0, none⟩)), (24, .pointer (some ⟨V.heap.size, 0, none⟩)), (25, .pointer (some ⟨V1.heap.size, 0, none⟩)), (1, .slice (some ⟨b, f0, none⟩) k c), (19, .int .i64 (l : Int)), (20, .int .i64 (hh : Int)), (155, .slice (some ⟨b, f0, none⟩) k c), (156, .int .i64 (k : Int)), (157, .int .i64 (j : Int))] rfl (by decide) (by decide) (by decide) ha (fun o ho hg => y_of (wanted_none hg) (fun wx hS => e_move (.inl ho) (ha.ev (i := 19) (v := .int .i64 (l : Int)) (by simp)))) (by simp) hSw ?_; intro a ha
        refine line_still pwBR 3 3 [] 168 (.pointer (some ⟨b, f0 + l * 3, none⟩)) [(165, .agg #[(.bool (ngB iv)), (.slice Av nv cv), (.int .i64 (sv : Int))]), (3, .pointer (some ⟨w.heap.size, 0, none⟩)), (24, .pointer (some ⟨V.heap.size, 0, none⟩)), (25, .pointer (some ⟨V1.heap.size, 0, none⟩)), (1, .slice (some ⟨b, f0, none⟩) k c), (19, .int .i64 (l : Int)), (20, .int .i64 (hh : Int)), (155, .slice (some ⟨b, f0, none⟩) k c), (156, .int .i64 (k : Int)), (157, .int .i64 (j : Int))] rfl (by decide) (by decide) (by decide) ha (fun o ho hg => y_of (wanted_none hg) (fun wx hS => e_idx hl1 HKC.out HCM.out ho (ha.ev (i := 166) (v := .slice (some ⟨b, f0, none⟩) k c) (by simp)) (ha.ev (i := 167) (v := .int .i64 (l : Int)) (by simp)))) (by simp) hSw ?_; intro a ha
        refine line_still pwBR 4 4 [] 169 (.agg #[(.bool (ngB il)), (.slice Al nl cl), (.int .i64 (sl : Int))]) [(165, .agg #[(.bool (ngB iv)), (.slice Av nv cv), (.int .i64 (sv : Int))]), (3, .pointer (some ⟨w.heap.size, 0, none⟩)), (24, .pointer (some ⟨V.heap.size, 0, none⟩)), (25, .pointer (some ⟨V1.heap.size, 0, none⟩)), (1, .slice (some ⟨b, f0, none⟩) k c), (19, .int .i64 (l : Int)), (20, .int .i64 (hh : Int)), (155, .slice (some ⟨b, f0, none⟩) k c), (156, .int .i64 (k : Int)), (157, .int .i64 (j : Int))] rfl (by decide) (by decide) (by decide) ha (fun o ho hg => y_of (wanted_none hg) (fun wx hS => e_loadC ho (ha.ev (i := 168) (v := .pointer (some ⟨b, f0 + l * 3, none⟩)) (by simp)) hS.2.1)) (by simp) hSw ?_; intro a ha
        refine line_call pwBR 5 5 [] 170 (args := #[.agg #[(.bool (ngB iv)), (.slice Av nv cv), (.int .i64 (sv : Int))], .agg #[(.bool (ngB il)), (.slice Al nl cl), (.int .i64 (sl : Int))]]) [(3, .pointer (some ⟨w.heap.size, 0, none⟩)), (24, .pointer (some ⟨V.heap.size, 0, none⟩)), (25, .pointer (some ⟨V1.heap.size, 0, none⟩)), (1, .slice (some ⟨b, f0, none⟩) k c), (19, .int .i64 (l : Int)), (20, .int .i64 (hh : Int)), (155, .slice (some ⟨b, f0, none⟩) k c), (156, .int .i64 (k : Int)), (157, .int .i64 (j : Int))] rfl (by decide) (by decide) (by decide) ha (fun o ho hg => ⟨(wanted_none hg), e_call (by kernel_rfl) ho rfl (by have q0 := ha.ev (i := 165) (v := .agg #[(.bool (ngB iv)), (.slice Av nv cv), (.int .i64 (sv : Int))]) (by simp); have q1 := ha.ev (i := 169) (v := .agg #[(.bool (ngB il)), (.slice Al nl cl), (.int .i64 (sl : Int))]) (by simp); simp only [List.map_toArray, List.map_cons, List.map_nil, ev_const, q0, q1])⟩) (by simp) ?_
        refine (cmp5_is (i := iv) (s := sv) (j := il) (t := sl) (St.got E (A := Av) (n := nv) (c := cv) (a := (iv).natAbs) (by simp)) (St.got E (A := Al) (n := nl) (c := cl) (a := (il).natAbs) (by simp)) (by omega) (by omega) (by omega) (by omega) HZ1.out).mono ?_; rintro e w7 ⟨rfl, hb⟩
        replace E := Lib.hid (St.step E.out hb)
        clear hb
        have hSw := SBL.of E (HCl.out.on E.out.bel) (HCh.out.on E.out.bel); refine ⟨_, rfl, hSw, ?_⟩; intro a ha
        refine line_still pwBR 6 6 [] 171 (.bool false) [(3, .pointer (some ⟨w.heap.size, 0, none⟩)), (24, .pointer (some ⟨V.heap.size, 0, none⟩)), (25, .pointer (some ⟨V1.heap.size, 0, none⟩)), (1, .slice (some ⟨b, f0, none⟩) k c), (19, .int .i64 (l : Int)), (20, .int .i64 (hh : Int)), (155, .slice (some ⟨b, f0, none⟩) k c), (156, .int .i64 (k : Int)), (157, .int .i64 (j : Int))] rfl (by decide) (by decide) (by decide) ha (fun o ho hg => y_of (wanted_none hg) (fun wx hS => (e_lss ho (ha.ev (i := 170) (v := .int .i64 z1) (by simp)) rfl).trans (by rw [D1.out]))) (by simp) hSw ?_; intro a ha
        refine line_still pwBR 7 7 [] 172 (.bool false) [(3, .pointer (some ⟨w.heap.size, 0, none⟩)), (24, .pointer (some ⟨V.heap.size, 0, none⟩)), (25, .pointer (some ⟨V1.heap.size, 0, none⟩)), (1, .slice (some ⟨b, f0, none⟩) k c), (19, .int .i64 (l : Int)), (20, .int .i64 (hh : Int)), (155, .slice (some ⟨b, f0, none⟩) k c), (156, .int .i64 (k : Int)), (157, .int .i64 (j : Int))] rfl (by decide) (by decide) (by decide) ha (fun o ho hg => y_of (wanted_none hg) (fun wx hS => e_move (.inl ho) (ha.ev (i := 171) (v := .bool false) (by simp)))) (by simp) hSw ?_; intro a ha
        refine line_still pwBR 8 8 [] 173 (.agg #[(.bool (ngB iv)), (.slice Av nv cv), (.int .i64 (sv : Int))]) [(172, .bool false), (3, .pointer (some ⟨w.heap.size, 0, none⟩)), (24, .pointer (some ⟨V.heap.size, 0, none⟩)), (25, .pointer (some ⟨V1.heap.size, 0, none⟩)), (1, .slice (some ⟨b, f0, none⟩) k c), (19, .int .i64 (l : Int)), (20, .int .i64 (hh : Int)), (155, .slice (some ⟨b, f0, none⟩) k c), (156, .int .i64 (k : Int)), (157, .int .i64 (j : Int))] rfl (by decide) (by decide) (by decide) ha (fun o ho hg => y_of (pwBR.wanted hg rfl ha (d := 172) (by simp)) (fun wx hS => e_load ho (ha.ev (i := 24) (v := .pointer (some ⟨V.heap.size, 0, none⟩)) (by simp)) (hS.at_ (g := V.heap.size) (x0 := (.bool (ngB iv))) (x1 := (.slice Av nv cv)) (x2 := (.int .i64 (sv : Int))) (by simp)))) (by simp) hSw ?_; intro a ha
        refine line_still pwBR 9 9 [] 174 (.slice (some ⟨b, f0, none⟩) k c) [(173, .agg #[(.bool (ngB iv)), (.slice Av nv cv), (.int .i64 (sv : Int))]), (172, .bool false), (3, .pointer (some ⟨w.heap.size, 0, none⟩)), (24, .pointer (some ⟨V.heap.size, 0, none⟩)), (25, .pointer (some ⟨V1.heap.size, 0, none⟩)), (1, .slice (some ⟨b, f0, none⟩) k c), (19, .int .i64 (l : Int)), (20, .int .i64 (hh : Int)), (155, .slice (some ⟨b, f0, none⟩) k c), (156, .int .i64 (k : Int)), (157, .int .i64 (j : Int))] rfl (by decide) (by decide) (by decide) ha (fun o ho hg => y_of (pwBR.wanted hg rfl ha (d := 172) (by simp)) (fun wx hS => e_move (.inl ho) (ha.ev (i := 1) (v := .slice (some ⟨b, f0, none⟩) k c) (by simp)))) (by simp) hSw ?_; intro a ha
        refine line_still pwBR 10 10 [] 175 (.int .i64 (hh : Int)) [(174, .slice (some ⟨b, f0, none⟩) k c), (173, .agg #[(.bool (ngB iv)), (.slice Av nv cv), (.int .i64 (sv : Int))]), (172, .bool false), (3, .pointer (some ⟨w.heap.size, 0, none⟩)), (24, .pointer (some ⟨V.heap.size, 0, none⟩)), (25, .pointer (some ⟨V1.heap.size, 0, none⟩)), (1, .slice (some ⟨b, f0, none⟩) k c), (19, .int .i64 (l : Int)), (20, .int .i64 (hh : Int)), (155, .slice (some ⟨b, f0, none⟩) k c), (156, .int .i64 (k : Int)), (157, .int .i64 (j : Int))] rfl (by decide) (by decide) (by decide) ha (fun o ho hg => y_of (pwBR.wanted hg rfl ha (d := 172) (by simp)) (fun wx hS => e_move (.inl ho) (ha.ev (i := 20) (v := .int .i64 (hh : Int)) (by simp)))) (by simp) hSw ?_; intro a ha
        refine line_still pwBR 11 11 [] 176 (.pointer (some ⟨b, f0 + hh * 3, none⟩)) [(173, .agg #[(.bool (ngB iv)), (.slice Av nv cv), (.int .i64 (sv : Int))]), (172, .bool false), (3, .pointer (some ⟨w.heap.size, 0, none⟩)), (24, .pointer (some ⟨V.heap.size, 0, none⟩)), (25, .pointer (some ⟨V1.heap.size, 0, none⟩)), (1, .slice (some ⟨b, f0, none⟩) k c), (19, .int .i64 (l : Int)), (20, .int .i64 (hh : Int)), (155, .slice (some ⟨b, f0, none⟩) k c), (156, .int .i64 (k : Int)), (157, .int .i64 (j : Int))] rfl (by decide) (by decide) (by decide) ha (fun o ho hg => y_of (pwBR.wanted hg rfl ha (d := 172) (by simp)) (fun wx hS => e_idx hl2 HKC.out HCM.out ho (ha.ev (i := 174) (v := .slice (some ⟨b, f0, none⟩) k c) (by simp)) (ha.ev (i := 175) (v := .int .i64 (hh : Int)) (by simp)))) (by simp) hSw ?_; intro a ha
        refine line_still pwBR 12 12 [] 177 (.agg #[(.bool (ngB ih)), (.slice Ah nh ch), (.int .i64 (sh : Int))]) [(173, .agg #[(.bool (ngB iv)), (.slice Av nv cv), (.int .i64 (sv : Int))]), (172, .bool false), (3, .pointer (some ⟨w.heap.size, 0, none⟩)), (24, .pointer (some ⟨V.heap.size, 0, none⟩)), (25, .pointer (some ⟨V1.heap.size, 0, none⟩)), (1, .slice (some ⟨b, f0, none⟩) k c), (19, .int .i64 (l : Int)), (20, .int .i64 (hh : Int)), (155, .slice (some ⟨b, f0, none⟩) k c), (156, .int .i64 (k : Int)), (157, .int .i64 (j : Int))] rfl (by decide) (by decide) (by decide) ha (fun o ho hg => y_of (pwBR.wanted hg rfl ha (d := 172) (by simp)) (fun wx hS => e_loadC ho (ha.ev (i := 176) (v := .pointer (some ⟨b, f0 + hh * 3, none⟩)) (by simp)) hS.2.2)) (by simp) hSw ?_; intro a ha
        refine line_call pwBR 13 13 [] 178 (args := #[.agg #[(.bool (ngB iv)), (.slice Av nv cv), (.int .i64 (sv : Int))], .agg #[(.bool (ngB ih)), (.slice Ah nh ch), (.int .i64 (sh : Int))]]) [(172, .bool false), (3, .pointer (some ⟨w.heap.size, 0, none⟩)), (24, .pointer (some ⟨V.heap.size, 0, none⟩)), (25, .pointer (some ⟨V1.heap.size, 0, none⟩)), (1, .slice (some ⟨b, f0, none⟩) k c), (19, .int .i64 (l : Int)), (20, .int .i64 (hh : Int)), (155, .slice (some ⟨b, f0, none⟩) k c), (156, .int .i64 (k : Int)), (157, .int .i64 (j : Int))] rfl (by decide) (by decide) (by decide) ha (fun o ho hg => ⟨(pwBR.wanted hg rfl ha (d := 172) (by simp)), e_call (by kernel_rfl) ho rfl (by have q0 := ha.ev (i := 173) (v := .agg #[(.bool (ngB iv)), (.slice Av nv cv), (.int .i64 (sv : Int))]) (by simp); have q1 := ha.ev (i := 177) (v := .agg #[(.bool (ngB ih)), (.slice Ah nh ch), (.int .i64 (sh : Int))]) (by simp); simp only [List.map_toArray, List.map_cons, List.map_nil, ev_const, q0, q1])⟩) (by simp) ?_
        refine (cmp5_is (i := iv) (s := sv) (j := ih) (t := sh) (St.got E (A := Av) (n := nv) (c := cv) (a := (iv).natAbs) (by simp)) (St.got E (A := Ah) (n := nh) (c := ch) (a := (ih).natAbs) (by simp)) (by omega) (by omega) (by omega) (by omega) HZ2.out).mono ?_; rintro e w8 ⟨rfl, hb⟩
        replace E := Lib.hid (St.step E.out hb)
        clear hb
        have hSw := SBL.of E (HCl.out.on E.out.bel) (HCh.out.on E.out.bel); refine ⟨_, rfl, hSw, ?_⟩; intro a ha
        refine line_still pwBR 14 14 [] 179 (.bool false) [(172, .bool false), (3, .pointer (some ⟨w.heap.size, 0, none⟩)), (24, .pointer (some ⟨V.heap.size, 0, none⟩)), (25, .pointer (some ⟨V1.heap.size, 0, none⟩)), (1, .slice (some ⟨b, f0, none⟩) k c), (19, .int .i64 (l : Int)), (20, .int .i64 (hh : Int)), (155, .slice (some ⟨b, f0, none⟩) k c), (156, .int .i64 (k : Int)), (157, .int .i64 (j : Int))] rfl (by decide) (by decide) (by decide) ha (fun o ho hg => y_of (pwBR.wanted hg rfl ha (d := 172) (by simp)) (fun wx hS => (e_gtr ho (ha.ev (i := 178) (v := .int .i64 z2) (by simp)) rfl).trans (by rw [D2.out]))) (by simp) hSw ?_; intro a ha
        refine line_still pwBR 15 15 [] 180 (.bool false) [(3, .pointer (some ⟨w.heap.size, 0, none⟩)), (24, .pointer (some ⟨V.heap.size, 0, none⟩)), (25, .pointer (some ⟨V1.heap.size, 0, none⟩)), (1, .slice (some ⟨b, f0, none⟩) k c), (19, .int .i64 (l : Int)), (20, .int .i64 (hh : Int)), (155, .slice (some ⟨b, f0, none⟩) k c), (156, .int .i64 (k : Int)), (157, .int .i64 (j : Int))] rfl (by decide) (by decide) (by decide) ha (fun o ho hg => y_of (wanted_none hg) (fun wx hS => e_pick ho (ha.ev (i := 172) (v := .bool false) (by simp)) rfl (ha.ev (i := 179) (v := .bool false) (by simp)))) (by simp) hSw ?_; intro a ha
        refine line_still pwBR 16 16 [] 181 (.bool false) [(3, .pointer (some ⟨w.heap.size, 0, none⟩)), (24, .pointer (some ⟨V.heap.size, 0, none⟩)), (25, .pointer (some ⟨V1.heap.size, 0, none⟩)), (1, .slice (some ⟨b, f0, none⟩) k c), (19, .int .i64 (l : Int)), (20, .int .i64 (hh : Int)), (155, .slice (some ⟨b, f0, none⟩) k c), (156, .int .i64 (k : Int)), (157, .int .i64 (j : Int))] rfl (by decide) (by decide) (by decide) ha (fun o ho hg => y_of (wanted_none hg) (fun wx hS => e_move (.inl ho) (ha.ev (i := 180) (v := .bool false) (by simp)))) (by simp) hSw ?_; intro a ha
        refine line_still pwBR 17 17 [] 182 (.agg #[(.bool (ngB xw)), (.slice Aw nw cw), (.int .i64 (tw : Int))]) [(181, .bool false), (3, .pointer (some ⟨w.heap.size, 0, none⟩)), (24, .pointer (some ⟨V.heap.size, 0, none⟩)), (1, .slice (some ⟨b, f0, none⟩) k c), (19, .int .i64 (l : Int)), (20, .int .i64 (hh : Int)), (155, .slice (some ⟨b, f0, none⟩) k c), (156, .int .i64 (k : Int)), (157, .int .i64 (j : Int))] rfl (by decide) (by decide) (by decide) ha (fun o ho hg => y_of (pwBR.wanted hg rfl ha (d := 181) (by simp)) (fun wx hS => e_load ho (ha.ev (i := 25) (v := .pointer (some ⟨V1.heap.size, 0, none⟩)) (by simp)) (hS.at_ (g := V1.heap.size) (x0 := (.bool (ngB xw))) (x1 := (.slice Aw nw cw)) (x2 := (.int .i64 (tw : Int))) (by simp)))) (by simp) hSw ?_; intro a ha
        refine line_still pwBR 18 18 [] 183 (.agg #[(.bool (ngB i)), (.slice Aa na ca), (.int .i64 (s : Int))]) [(182, .agg #[(.bool (ngB xw)), (.slice Aw nw cw), (.int .i64 (tw : Int))]), (181, .bool false), (3, .pointer (some ⟨w.heap.size, 0, none⟩)), (24, .pointer (some ⟨V.heap.size, 0, none⟩)), (1, .slice (some ⟨b, f0, none⟩) k c), (19, .int .i64 (l : Int)), (20, .int .i64 (hh : Int)), (155, .slice (some ⟨b, f0, none⟩) k c), (156, .int .i64 (k : Int)), (157, .int .i64 (j : Int))] rfl (by decide) (by decide) (by decide) ha (fun o ho hg => y_of (pwBR.wanted hg rfl ha (d := 181) (by simp)) (fun wx hS => e_load ho (ha.ev (i := 3) (v := .pointer (some ⟨w.heap.size, 0, none⟩)) (by simp)) (hS.at_ (g := w.heap.size) (x0 := (.bool (ngB i))) (x1 := (.slice Aa na ca)) (x2 := (.int .i64 (s : Int))) (by simp)))) (by simp) hSw ?_; intro a ha
        refine line_call pwBR 19 19 [] 184 (args := #[.agg #[(.bool (ngB xw)), (.slice Aw nw cw), (.int .i64 (tw : Int))], .agg #[(.bool (ngB i)), (.slice Aa na ca), (.int .i64 (s : Int))]]) [(181, .bool false), (3, .pointer (some ⟨w.heap.size, 0, none⟩)), (24, .pointer (some ⟨V.heap.size, 0, none⟩)), (1, .slice (some ⟨b, f0, none⟩) k c), (19, .int .i64 (l : Int)), (20, .int .i64 (hh : Int)), (155, .slice (some ⟨b, f0, none⟩) k c), (156, .int .i64 (k : Int)), (157, .int .i64 (j : Int))] rfl (by decide) (by decide) (by decide) ha (fun o ho hg => ⟨(pwBR.wanted hg rfl ha (d := 181) (by simp)), e_call (by kernel_rfl) ho rfl (by have q0 := ha.ev (i := 182) (v := .agg #[(.bool (ngB xw)), (.slice Aw nw cw), (.int .i64 (tw : Int))]) (by simp); have q1 := ha.ev (i := 183) (v := .agg #[(.bool (ngB i)), (.slice Aa na ca), (.int .i64 (s : Int))]) (by simp); simp only [List.map_toArray, List.map_cons, List.map_nil, ev_const, q0, q1])⟩) (by simp) ?_
        refine (same_is5 (i := xw) (s := tw) (j := i) (t := s) (St.got E (A := Aw) (n := nw) (c := cw) (a := (xw).natAbs) (by simp)) (St.got E (A := Aa) (n := na) (c := ca) (a := (i).natAbs) (by simp)) (by omega) (by omega) (by omega) (by omega) HSW.out).mono ?_; rintro e w9 ⟨rfl, hb⟩
        replace E := Lib.hid (St.step E.out hb)
        clear hb
        have hSw := SBL.of E (HCl.out.on E.out.bel) (HCh.out.on E.out.bel); refine ⟨_, rfl, hSw, ?_⟩; intro a ha
        refine line_still pwBR 20 20 [] 185 (.bool false) [(181, .bool false), (3, .pointer (some ⟨w.heap.size, 0, none⟩)), (24, .pointer (some ⟨V.heap.size, 0, none⟩)), (1, .slice (some ⟨b, f0, none⟩) k c), (19, .int .i64 (l : Int)), (20, .int .i64 (hh : Int)), (155, .slice (some ⟨b, f0, none⟩) k c), (156, .int .i64 (k : Int)), (157, .int .i64 (j : Int))] rfl (by decide) (by decide) (by decide) ha (fun o ho hg => y_of (pwBR.wanted hg rfl ha (d := 181) (by simp)) (fun wx hS => e_not ho (ha.ev (i := 184) (v := .bool true) (by simp)))) (by simp) hSw ?_; intro a ha
        refine line_still pwBR 21 21 [] 186 (.bool false) [(3, .pointer (some ⟨w.heap.size, 0, none⟩)), (24, .pointer (some ⟨V.heap.size, 0, none⟩)), (1, .slice (some ⟨b, f0, none⟩) k c), (19, .int .i64 (l : Int)), (20, .int .i64 (hh : Int)), (155, .slice (some ⟨b, f0, none⟩) k c), (156, .int .i64 (k : Int)), (157, .int .i64 (j : Int))] rfl (by decide) (by decide) (by decide) ha (fun o ho hg => y_of (wanted_none hg) (fun wx hS => e_pick ho (ha.ev (i := 181) (v := .bool false) (by simp)) rfl (ha.ev (i := 185) (v := .bool false) (by simp)))) (by simp) hSw ?_; intro a ha
        refine line_still pwBR 22 22 [] 187 (.bool false) [(3, .pointer (some ⟨w.heap.size, 0, none⟩)), (24, .pointer (some ⟨V.heap.size, 0, none⟩)), (1, .slice (some ⟨b, f0, none⟩) k c), (19, .int .i64 (l : Int)), (20, .int .i64 (hh : Int)), (155, .slice (some ⟨b, f0, none⟩) k c), (156, .int .i64 (k : Int)), (157, .int .i64 (j : Int))] rfl (by decide) (by decide) (by decide) ha (fun o ho hg => y_of (wanted_none hg) (fun wx hS => e_move (.inl ho) (ha.ev (i := 186) (v := .bool false) (by simp)))) (by simp) hSw ?_; intro a ha
        refine line_still pwBR 23 23 [] 188 (.agg #[(.bool (ngB iv)), (.slice Av nv cv), (.int .i64 (sv : Int))]) [(187, .bool false), (3, .pointer (some ⟨w.heap.size, 0, none⟩)), (24, .pointer (some ⟨V.heap.size, 0, none⟩)), (1, .slice (some ⟨b, f0, none⟩) k c), (19, .int .i64 (l : Int)), (20, .int .i64 (hh : Int)), (155, .slice (some ⟨b, f0, none⟩) k c), (156, .int .i64 (k : Int)), (157, .int .i64 (j : Int))] rfl (by decide) (by decide) (by decide) ha (fun o ho hg => y_of (pwBR.wanted hg rfl ha (d := 187) (by simp)) (fun wx hS => e_load ho (ha.ev (i := 24) (v := .pointer (some ⟨V.heap.size, 0, none⟩)) (by simp)) (hS.at_ (g := V.heap.size) (x0 := (.bool (ngB iv))) (x1 := (.slice Av nv cv)) (x2 := (.int .i64 (sv : Int))) (by simp)))) (by simp) hSw ?_; intro a ha
        refine line_still pwBR 24 24 [] 189 (.slice (some ⟨b, f0, none⟩) k c) [(188, .agg #[(.bool (ngB iv)), (.slice Av nv cv), (.int .i64 (sv : Int))]), (187, .bool false), (3, .pointer (some ⟨w.heap.size, 0, none⟩)), (24, .pointer (some ⟨V.heap.size, 0, none⟩)), (1, .slice (some ⟨b, f0, none⟩) k c), (19, .int .i64 (l : Int)), (20, .int .i64 (hh : Int)), (155, .slice (some ⟨b, f0, none⟩) k c), (156, .int .i64 (k : Int)), (157, .int .i64 (j : Int))] rfl (by decide) (by decide) (by decide) ha (fun o ho hg => y_of (pwBR.wanted hg rfl ha (d := 187) (by simp)) (fun wx hS => e_move (.inl ho) (ha.ev (i := 1) (v := .slice (some ⟨b, f0, none⟩) k c) (by simp)))) (by simp) hSw ?_; intro a ha
        refine line_still pwBR 25 25 [] 190 (.int .i64 (l : Int)) [(189, .slice (some ⟨b, f0, none⟩) k c), (188, .agg #[(.bool (ngB iv)), (.slice Av nv cv), (.int .i64 (sv : Int))]), (187, .bool false), (3, .pointer (some ⟨w.heap.size, 0, none⟩)), (24, .pointer (some ⟨V.heap.size, 0, none⟩)), (1, .slice (some ⟨b, f0, none⟩) k c), (19, .int .i64 (l : Int)), (20, .int .i64 (hh : Int)), (155, .slice (some ⟨b, f0, none⟩) k c), (156, .int .i64 (k : Int)), (157, .int .i64 (j : Int))] rfl (by decide) (by decide) (by decide) ha (fun o ho hg => y_of (pwBR.wanted hg rfl ha (d := 187) (by simp)) (fun wx hS => e_move (.inl ho) (ha.ev (i := 19) (v := .int .i64 (l : Int)) (by simp)))) (by simp) hSw ?_; intro a ha
        refine line_still pwBR 26 26 [] 191 (.pointer (some ⟨b, f0 + l * 3, none⟩)) [(188, .agg #[(.bool (ngB iv)), (.slice Av nv cv), (.int .i64 (sv : Int))]), (187, .bool false), (3, .pointer (some ⟨w.heap.size, 0, none⟩)), (24, .pointer (some ⟨V.heap.size, 0, none⟩)), (1, .slice (some ⟨b, f0, none⟩) k c), (19, .int .i64 (l : Int)), (20, .int .i64 (hh : Int)), (155, .slice (some ⟨b, f0, none⟩) k c), (156, .int .i64 (k : Int)), (157, .int .i64 (j : Int))] rfl (by decide) (by decide) (by decide) ha (fun o ho hg => y_of (pwBR.wanted hg rfl ha (d := 187) (by simp)) (fun wx hS => e_idx hl1 HKC.out HCM.out ho (ha.ev (i := 189) (v := .slice (some ⟨b, f0, none⟩) k c) (by simp)) (ha.ev (i := 190) (v := .int .i64 (l : Int)) (by simp)))) (by simp) hSw ?_; intro a ha
        refine line_still pwBR 27 27 [] 192 (.agg #[(.bool (ngB il)), (.slice Al nl cl), (.int .i64 (sl : Int))]) [(188, .agg #[(.bool (ngB iv)), (.slice Av nv cv), (.int .i64 (sv : Int))]), (187, .bool false), (3, .pointer (some ⟨w.heap.size, 0, none⟩)), (24, .pointer (some ⟨V.heap.size, 0, none⟩)), (1, .slice (some ⟨b, f0, none⟩) k c), (19, .int .i64 (l : Int)), (20, .int .i64 (hh : Int)), (155, .slice (some ⟨b, f0, none⟩) k c), (156, .int .i64 (k : Int)), (157, .int .i64 (j : Int))] rfl (by decide) (by decide) (by decide) ha (fun o ho hg => y_of (pwBR.wanted hg rfl ha (d := 187) (by simp)) (fun wx hS => e_loadC ho (ha.ev (i := 191) (v := .pointer (some ⟨b, f0 + l * 3, none⟩)) (by simp)) hS.2.1)) (by simp) hSw ?_; intro a ha
        refine line_still pwBR 28 28 [] 193 (.agg #[(.bool (ngB i)), (.slice Aa na ca), (.int .i64 (s : Int))]) [(192, .agg #[(.bool (ngB il)), (.slice Al nl cl), (.int .i64 (sl : Int))]), (188, .agg #[(.bool (ngB iv)), (.slice Av nv cv), (.int .i64 (sv : Int))]), (187, .bool false), (3, .pointer (some ⟨w.heap.size, 0, none⟩)), (24, .pointer (some ⟨V.heap.size, 0, none⟩)), (1, .slice (some ⟨b, f0, none⟩) k c), (19, .int .i64 (l : Int)), (20, .int .i64 (hh : Int)), (155, .slice (some ⟨b, f0, none⟩) k c), (156, .int .i64 (k : Int)), (157, .int .i64 (j : Int))] rfl (by decide) (by decide) (by decide) ha (fun o ho hg => y_of (pwBR.wanted hg rfl ha (d := 187) (by simp)) (fun wx hS => e_load ho (ha.ev (i := 3) (v := .pointer (some ⟨w.heap.size, 0, none⟩)) (by simp)) (hS.at_ (g := w.heap.size) (x0 := (.bool (ngB i))) (x1 := (.slice Aa na ca)) (x2 := (.int .i64 (s : Int))) (by simp)))) (by simp) hSw ?_; intro a ha
        refine line_ahead pwBR 29 29 [] 30 195 (.agg #[(.bool (ngB iv)), (.slice Av nv cv), (.int .i64 (sv : Int))]) [(193, .agg #[(.bool (ngB i)), (.slice Aa na ca), (.int .i64 (s : Int))]), (192, .agg #[(.bool (ngB il)), (.slice Al nl cl), (.int .i64 (sl : Int))]), (188, .agg #[(.bool (ngB iv)), (.slice Av nv cv), (.int .i64 (sv : Int))]), (187, .bool false), (3, .pointer (some ⟨w.heap.size, 0, none⟩)), (1, .slice (some ⟨b, f0, none⟩) k c), (19, .int .i64 (l : Int)), (20, .int .i64 (hh : Int)), (155, .slice (some ⟨b, f0, none⟩) k c), (156, .int .i64 (k : Int)), (157, .int .i64 (j : Int))] rfl (by decide) (by decide) (by decide) ha (fun o ho hg => y_of (pwBR.wanted hg rfl ha (d := 187) (by simp)) (fun wx hS => e_load ho (ha.ev (i := 24) (v := .pointer (some ⟨V.heap.size, 0, none⟩)) (by simp)) (hS.at_ (g := V.heap.size) (x0 := (.bool (ngB iv))) (x1 := (.slice Av nv cv)) (x2 := (.int .i64 (sv : Int))) (by simp)))) (by simp) hSw ?_; intro a ha
        refine line_ahead pwBR 30 29 [30] 31 196 (.slice (some ⟨b, f0, none⟩) k c) [(195, .agg #[(.bool (ngB iv)), (.slice Av nv cv), (.int .i64 (sv : Int))]), (193, .agg #[(.bool (ngB i)), (.slice Aa na ca), (.int .i64 (s : Int))]), (192, .agg #[(.bool (ngB il)), (.slice Al nl cl), (.int .i64 (sl : Int))]), (188, .agg #[(.bool (ngB iv)), (.slice Av nv cv), (.int .i64 (sv : Int))]), (187, .bool false), (3, .pointer (some ⟨w.heap.size, 0, none⟩)), (1, .slice (some ⟨b, f0, none⟩) k c), (19, .int .i64 (l : Int)), (20, .int .i64 (hh : Int)), (155, .slice (some ⟨b, f0, none⟩) k c), (156, .int .i64 (k : Int)), (157, .int .i64 (j : Int))] rfl (by decide) (by decide) (by decide) ha (fun o ho hg => y_of (pwBR.wanted hg rfl ha (d := 187) (by simp)) (fun wx hS => e_move (.inl ho) (ha.ev (i := 1) (v := .slice (some ⟨b, f0, none⟩) k c) (by simp)))) (by simp) hSw ?_; intro a ha
        refine line_ahead pwBR 31 29 [31, 30] 32 197 (.int .i64 (l : Int)) [(196, .slice (some ⟨b, f0, none⟩) k c), (195, .agg #[(.bool (ngB iv)), (.slice Av nv cv), (.int .i64 (sv : Int))]), (193, .agg #[(.bool (ngB i)), (.slice Aa na ca), (.int .i64 (s : Int))]), (192, .agg #[(.bool (ngB il)), (.slice Al nl cl), (.int .i64 (sl : Int))]), (188, .agg #[(.bool (ngB iv)), (.slice Av nv cv), (.int .i64 (sv : Int))]), (187, .bool false), (3, .pointer (some ⟨w.heap.size, 0, none⟩)), (1, .slice (some ⟨b, f0, none⟩) k c), (19, .int .i64 (l : Int)), (20, .int .i64 (hh : Int)), (155, .slice (some ⟨b, f0, none⟩) k c), (156, .int .i64 (k : Int)), (157, .int .i64 (j : Int))] rfl (by decide) (by decide) (by decide) ha (fun o ho hg => y_of (pwBR.wanted hg rfl ha (d := 187) (by simp)) (fun wx hS => e_move (.inl ho) (ha.ev (i := 19) (v := .int .i64 (l : Int)) (by simp)))) (by simp) hSw ?_; intro a ha
        refine line_ahead pwBR 32 29 [32, 31, 30] 33 198 (.pointer (some ⟨b, f0 + l * 3, none⟩)) [(195, .agg #[(.bool (ngB iv)), (.slice Av nv cv), (.int .i64 (sv : Int))]), (193, .agg #[(.bool (ngB i)), (.slice Aa na ca), (.int .i64 (s : Int))]), (192, .agg #[(.bool (ngB il)), (.slice Al nl cl), (.int .i64 (sl : Int))]), (188, .agg #[(.bool (ngB iv)), (.slice Av nv cv), (.int .i64 (sv : Int))]), (187, .bool false), (3, .pointer (some ⟨w.heap.size, 0, none⟩)), (1, .slice (some ⟨b, f0, none⟩) k c), (19, .int .i64 (l : Int)), (20, .int .i64 (hh : Int)), (155, .slice (some ⟨b, f0, none⟩) k c), (156, .int .i64 (k : Int)), (157, .int .i64 (j : Int))] rfl (by decide) (by decide) (by decide) ha (fun o ho hg => y_of (pwBR.wanted hg rfl ha (d := 187) (by simp)) (fun wx hS => e_idx hl1 HKC.out HCM.out ho (ha.ev (i := 196) (v := .slice (some ⟨b, f0, none⟩) k c) (by simp)) (ha.ev (i := 197) (v := .int .i64 (l : Int)) (by simp)))) (by simp) hSw ?_; intro a ha
        refine line_ahead pwBR 33 29 [33, 32, 31, 30] 34 199 (.agg #[(.bool (ngB il)), (.slice Al nl cl), (.int .i64 (sl : Int))]) [(195, .agg #[(.bool (ngB iv)), (.slice Av nv cv), (.int .i64 (sv : Int))]), (193, .agg #[(.bool (ngB i)), (.slice Aa na ca), (.int .i64 (s : Int))]), (192, .agg #[(.bool (ngB il)), (.slice Al nl cl), (.int .i64 (sl : Int))]), (188, .agg #[(.bool (ngB iv)), (.slice Av nv cv), (.int .i64 (sv : Int))]), (187, .bool false), (3, .pointer (some ⟨w.heap.size, 0, none⟩)), (1, .slice (some ⟨b, f0, none⟩) k c), (19, .int .i64 (l : Int)), (20, .int .i64 (hh : Int)), (155, .slice (some ⟨b, f0, none⟩) k c), (156, .int .i64 (k : Int)), (157, .int .i64 (j : Int))] rfl (by decide) (by decide) (by decide) ha (fun o ho hg => y_of (pwBR.wanted hg rfl ha (d := 187) (by simp)) (fun wx hS => e_loadC ho (ha.ev (i := 198) (v := .pointer (some ⟨b, f0 + l * 3, none⟩)) (by simp)) hS.2.1)) (by simp) hSw ?_; intro a ha
        refine line_ahead pwBR 34 29 [34, 33, 32, 31, 30] 35 200 (.agg #[(.bool (ngB i)), (.slice Aa na ca), (.int .i64 (s : Int))]) [(199, .agg #[(.bool (ngB il)), (.slice Al nl cl), (.int .i64 (sl : Int))]), (195, .agg #[(.bool (ngB iv)), (.slice Av nv cv), (.int .i64 (sv : Int))]), (193, .agg #[(.bool (ngB i)), (.slice Aa na ca), (.int .i64 (s : Int))]), (192, .agg #[(.bool (ngB il)), (.slice Al nl cl), (.int .i64 (sl : Int))]), (188, .agg #[(.bool (ngB iv)), (.slice Av nv cv), (.int .i64 (sv : Int))]), (187, .bool false), (3, .pointer (some ⟨w.heap.size, 0, none⟩)), (1, .slice (some ⟨b, f0, none⟩) k c), (19, .int .i64 (l : Int)), (20, .int .i64 (hh : Int)), (155, .slice (some ⟨b, f0, none⟩) k c), (156, .int .i64 (k : Int)), (157, .int .i64 (j : Int))] rfl (by decide) (by decide) (by decide) ha (fun o ho hg => y_of (pwBR.wanted hg rfl ha (d := 187) (by simp)) (fun wx hS => e_load ho (ha.ev (i := 3) (v := .pointer (some ⟨w.heap.size, 0, none⟩)) (by simp)) (hS.at_ (g := w.heap.size) (x0 := (.bool (ngB i))) (x1 := (.slice Aa na ca)) (x2 := (.int .i64 (s : Int))) (by simp)))) (by simp) hSw ?_; intro a ha
        refine line_call pwBR 35 29 [35, 34, 33, 32, 31, 30] 194 (args := #[.agg #[(.bool (ngB iv)), (.slice Av nv cv), (.int .i64 (sv : Int))], .agg #[(.bool (ngB il)), (.slice Al nl cl), (.int .i64 (sl : Int))], .agg #[(.bool (ngB i)), (.slice Aa na ca), (.int .i64 (s : Int))]]) [(200, .agg #[(.bool (ngB i)), (.slice Aa na ca), (.int .i64 (s : Int))]), (199, .agg #[(.bool (ngB il)), (.slice Al nl cl), (.int .i64 (sl : Int))]), (195, .agg #[(.bool (ngB iv)), (.slice Av nv cv), (.int .i64 (sv : Int))]), (187, .bool false), (3, .pointer (some ⟨w.heap.size, 0, none⟩)), (1, .slice (some ⟨b, f0, none⟩) k c), (19, .int .i64 (l : Int)), (20, .int .i64 (hh : Int)), (155, .slice (some ⟨b, f0, none⟩) k c), (156, .int .i64 (k : Int)), (157, .int .i64 (j : Int))] rfl (by decide) (by decide) (by decide) ha (fun o ho hg => ⟨(pwBR.wanted hg rfl ha (d := 187) (by simp)), e_call (by kernel_rfl) ho rfl (by have q0 := ha.ev (i := 188) (v := .agg #[(.bool (ngB iv)), (.slice Av nv cv), (.int .i64 (sv : Int))]) (by simp); have q1 := ha.ev (i := 192) (v := .agg #[(.bool (ngB il)), (.slice Al nl cl), (.int .i64 (sl : Int))]) (by simp); have q2 := ha.ev (i := 193) (v := .agg #[(.bool (ngB i)), (.slice Aa na ca), (.int .i64 (s : Int))]) (by simp); simp only [List.map_toArray, List.map_cons, List.map_nil, ev_const, q0, q1, q2])⟩) (by simp) ?_
        refine (between_is (i := iv) (s := sv) (j := il) (t := sl) (k := i) (u := s) (St.got E (A := Av) (n := nv) (c := cv) (a := (iv).natAbs) (by simp)) (St.got E (A := Al) (n := nl) (c := cl) (a := (il).natAbs) (by simp)) (St.got E (A := Aa) (n := na) (c := ca) (a := (i).natAbs) (by simp)) (by omega) (by omega) (by omega) (by omega) (by omega) (by omega) HXB.out).mono ?_; rintro e w10 ⟨A10, n10, c10, rfl, h, hb⟩
        have b10 : n10 ≤ 12 := len_le h LB.out
        replace E := Lib.hid (St.push E.out hb h)
        clear h hb
        have hSw := SBL.of E (HCl.out.on E.out.bel) (HCh.out.on E.out.bel); refine ⟨_, rfl, hSw, ?_⟩; intro a ha
        refine line_skip [35, 34, 33, 32, 31] (by intro i; simp <;> omega) ?_
        refine line_skip [35, 34, 33, 32] (by intro i; simp <;> omega) ?_
        refine line_skip [35, 34, 33] (by intro i; simp <;> omega) ?_
        refine line_skip [35, 34] (by intro i; simp <;> omega) ?_
        refine line_skip [35] (by intro i; simp <;> omega) ?_
        refine line_skip [] (by intro i; simp <;> omega) ?_
        refine line_call pwBR 36 36 [] 201 (args := #[.agg #[(.bool (ngB iv)), (.slice Av nv cv), (.int .i64 (sv : Int))], .agg #[(.bool (ngB il)), (.slice Al nl cl), (.int .i64 (sl : Int))], .agg #[(.bool (ngB i)), (.slice Aa na ca), (.int .i64 (s : Int))]]) [(194, .agg #[.bool (ngB xb), .slice A10 n10 c10, .int .i64 (tb : Int)]), (187, .bool false), (3, .pointer (some ⟨w.heap.size, 0, none⟩)), (1, .slice (some ⟨b, f0, none⟩) k c), (19, .int .i64 (l : Int)), (20, .int .i64 (hh : Int)), (155, .slice (some ⟨b, f0, none⟩) k c), (156, .int .i64 (k : Int)), (157, .int .i64 (j : Int))] rfl (by decide) (by decide) (by decide) ha (fun o ho hg => ⟨(pwBR.wanted hg rfl ha (d := 187) (by simp)), e_call (by kernel_rfl) ho rfl (by have q0 := ha.ev (i := 195) (v := .agg #[(.bool (ngB iv)), (.slice Av nv cv), (.int .i64 (sv : Int))]) (by simp); have q1 := ha.ev (i := 199) (v := .agg #[(.bool (ngB il)), (.slice Al nl cl), (.int .i64 (sl : Int))]) (by simp); have q2 := ha.ev (i := 200) (v := .agg #[(.bool (ngB i)), (.slice Aa na ca), (.int .i64 (s : Int))]) (by simp); simp only [List.map_toArray, List.map_cons, List.map_nil, ev_const, q0, q1, q2])⟩) (by simp) ?_
        refine (refbetween_is (i := iv) (s := sv) (j := il) (t := sl) (k := i) (u := s) (St.got E (A := Av) (n := nv) (c := cv) (a := (iv).natAbs) (by simp)) (St.got E (A := Al) (n := nl) (c := cl) (a := (il).natAbs) (by simp)) (St.got E (A := Aa) (n := na) (c := ca) (a := (i).natAbs) (by simp)) (by omega) (by omega) (by omega) (by omega) (by omega) (by omega) HXB.out).mono ?_; rintro e w11 ⟨A11, n11, c11, rfl, h, hb⟩
        have b11 : n11 ≤ 12 := len_le h LB.out
        replace E := Lib.hid (St.push E.out hb h)
        clear h hb
        have hSw := SBL.of E (HCl.out.on E.out.bel) (HCh.out.on E.out.bel); refine ⟨_, rfl, hSw, ?_⟩; intro a ha
        refine line_call pwBR 37 37 [] 202 (args := #[.agg #[.bool (ngB xb), .slice A10 n10 c10, .int .i64 (tb : Int)], .agg #[.bool (ngB xb), .slice A11 n11 c11, .int .i64 (tb : Int)]]) [(187, .bool false), (3, .pointer (some ⟨w.heap.size, 0, none⟩)), (1, .slice (some ⟨b, f0, none⟩) k c), (19, .int .i64 (l : Int)), (20, .int .i64 (hh : Int)), (155, .slice (some ⟨b, f0, none⟩) k c), (156, .int .i64 (k : Int)), (157, .int .i64 (j : Int))] rfl (by decide) (by decide) (by decide) ha (fun o ho hg => ⟨(pwBR.wanted hg rfl ha (d := 187) (by simp)), e_call (by kernel_rfl) ho rfl (by have q0 := ha.ev (i := 194) (v := .agg #[.bool (ngB xb), .slice A10 n10 c10, .int .i64 (tb : Int)]) (by simp); have q1 := ha.ev (i := 201) (v := .agg #[.bool (ngB xb), .slice A11 n11 c11, .int .i64 (tb : Int)]) (by simp); simp only [List.map_toArray, List.map_cons, List.map_nil, ev_const, q0, q1])⟩) (by simp) ?_
        refine (refalike_is5 (i := xb) (j := xb) (s := tb) (t := tb) (St.got E (A := A10) (n := n10) (c := c10) (a := (xb).natAbs) (by simp)) (St.got E (A := A11) (n := n11) (c := c11) (a := (xb).natAbs) (by simp)) (alike_yes rfl rfl)).mono ?_; rintro e w12 ⟨rfl, hb⟩
        replace E := Lib.hid (St.step E.out hb)
        clear hb
        replace E : Hid (St w w12 [(Aw, nw, cw, (xw).natAbs), (Av, nv, cv, (iv).natAbs), (Al, nl, cl, (il).natAbs), (Ah, nh, ch, (ih).natAbs), (Aa, na, ca, (i).natAbs)] [(V1.heap.size, (.bool (ngB xw)), (.slice Aw nw cw), (.int .i64 (tw : Int))), (V.heap.size, (.bool (ngB iv)), (.slice Av nv cv), (.int .i64 (sv : Int))), (w.heap.size, (.bool (ngB i)), (.slice Aa na ca), (.int .i64 (s : Int)))]) := Lib.hid ((E.out).sub (by simp) (by simp))
        have hSw := SBL.of E (HCl.out.on E.out.bel) (HCh.out.on E.out.bel); refine ⟨_, rfl, hSw, ?_⟩; intro a ha
        refine line_still pwBR 38 38 [] 203 (.bool false) [(187, .bool false), (3, .pointer (some ⟨w.heap.size, 0, none⟩)), (1, .slice (some ⟨b, f0, none⟩) k c), (19, .int .i64 (l : Int)), (20, .int .i64 (hh : Int)), (155, .slice (some ⟨b, f0, none⟩) k c), (156, .int .i64 (k : Int)), (157, .int .i64 (j : Int))] rfl (by decide) (by decide) (by decide) ha (fun o ho hg => y_of (pwBR.wanted hg rfl ha (d := 187) (by simp)) (fun wx hS => e_not ho (ha.ev (i := 202) (v := .bool true) (by simp)))) (by simp) hSw ?_; intro a ha
        refine line_still pwBR 39 39 [] 204 (.bool false) [(3, .pointer (some ⟨w.heap.size, 0, none⟩)), (1, .slice (some ⟨b, f0, none⟩) k c), (19, .int .i64 (l : Int)), (20, .int .i64 (hh : Int)), (155, .slice (some ⟨b, f0, none⟩) k c), (156, .int .i64 (k : Int)), (157, .int .i64 (j : Int))] rfl (by decide) (by decide) (by decide) ha (fun o ho hg => y_of (wanted_none hg) (fun wx hS => e_pick ho (ha.ev (i := 187) (v := .bool false) (by simp)) rfl (ha.ev (i := 203) (v := .bool false) (by simp)))) (by simp) hSw ?_; intro a ha
        refine line_end pwBR rfl ?_
        simp only [Exit.then]
        refine hK _ _ ?_
        refine wp_cond_false (ha.ev (by simp)) ?_
        refine wp_skip ?_
        simp only [Exit.inBlock, Exit.then]
        replace E : Hid (St w w12 [(Aa, na, ca, (i).natAbs)] [(w.heap.size, (.bool (ngB i)), (.slice Aa na ca), (.int .i64 (s : Int)))]) := Lib.hid (E.out.sub (by simp) (by simp))
        refine hK0 _ _ ?_
        clear hK hK0 K K0
        obtain ⟨us, rfl, hu⟩ := ha.list
        have eu1 : us 1 = .slice (some ⟨b, f0, none⟩) k c := hu (1, .slice (some ⟨b, f0, none⟩) k c) (by simp)
        have eu3 : us 3 = .pointer (some ⟨w.heap.size, 0, none⟩) := hu (3, .pointer (some ⟨w.heap.size, 0, none⟩)) (by simp)
        have eu19 : us 19 = .int .i64 (l : Int) := hu (19, .int .i64 (l : Int)) (by simp)
        have eu20 : us 20 = .int .i64 (hh : Int) := hu (20, .int .i64 (hh : Int)) (by simp)
        have eu155 : us 155 = .slice (some ⟨b, f0, none⟩) k c := hu (155, .slice (some ⟨b, f0, none⟩) k c) (by simp)
        have eu156 : us 156 = .int .i64 (k : Int) := hu (156, .int .i64 (k : Int)) (by simp)
        have eu157 : us 157 = .int .i64 (j : Int) := hu (157, .int .i64 (j : Int)) (by simp)
        rw [show (List.range 216).map us = [us 0, us 1, us 2, us 3, us 4, us 5, us 6, us 7, us 8, us 9, us 10, us 11, us 12, us 13, us 14, us 15, us 16, us 17, us 18, us 19, us 20, us 21, us 22, us 23, us 24, us 25, us 26, us 27, us 28, us 29, us 30, us 31, us 32, us 33, us 34, us 35, us 36, us 37, us 38, us 39, us 40, us 41, us 42, us 43, us 44, us 45, us 46, us 47, us 48, us 49, us 50, us 51, us 52, us 53, us 54, us 55, us 56, us 57, us 58, us 59, us 60, us 61, us 62, us 63, us 64, us 65, us 66, us 67, us 68, us 69, us 70, us 71, us 72, us 73, us 74, us 75, us 76, us 77, us 78, us 79, us 80, us 81, us 82, us 83, us 84, us 85, us 86, us 87, us 88, us 89, us 90, us 91, us 92, us 93, us 94, us 95, us 96, us 97, us 98, us 99, us 100, us 101, us 102, us 103, us 104, us 105, us 106, us 107, us 108, us 109, us 110, us 111, us 112, us 113, us 114, us 115, us 116, us 117, us 118, us 119, us 120, us 121, us 122, us 123, us 124, us 125, us 126, us 127, us 128, us 129, us 130, us 131, us 132, us 133, us 134, us 135, us 136, us 137, us 138, us 139, us 140, us 141, us 142, us 143, us 144, us 145, us 146, us 147, us 148, us 149, us 150, us 151, us 152, us 153, us 154, us 155, us 156, us 157, us 158, us 159, us 160, us 161, us 162, us 163, us 164, us 165, us 166, us 167, us 168, us 169, us 170, us 171, us 172, us 173, us 174, us 175, us 176, us 177, us 178, us 179, us 180, us 181, us 182, us 183, us 184, us 185, us 186, us 187, us 188, us 189, us 190, us 191, us 192, us 193, us 194, us 195, us 196, us 197, us 198, us 199, us 200, us 201, us 202, us 203, us 204, us 205, us 206, us 207, us 208, us 209, us 210, us 211, us 212, us 213, us 214, us 215] from rfl, eu1, eu3, eu19, eu20, eu155, eu156, eu157]
        clear hu ha eu1 eu3 eu19 eu20 eu155 eu156 eu157
        go_wp2_with fail
        exact ⟨k - (j + 1), by omega, j + 1, by omega, rfl, ⟨rfl, rfl, by intro q hq; simp at hq; rcases hq with rfl | rfl | rfl | rfl | rfl | rfl | rfl <;> first | rfl | simp⟩, E⟩
      ·
        obtain rfl : j = k := by omega
        obtain ⟨p0a, p0b, p0c, p0d, p0e, p0f, p0g⟩ := St.at_ (x0 := (.bool (ngB i))) (x1 := (.slice Aa na ca)) (x2 := (.int .i64 (s : Int))) (g := w.heap.size) E (by simp)
        go_wp2_with fail
        clear p0a p0b p0c p0d p0e p0f p0g
        refine (power5_neg Aa na ca s i (-1) _ (by decide)).mono ?_; rintro e V1 ⟨rfl, hb⟩; replace E := Lib.hid (St.step E.out hb); clear hb
        go_wp2_with fail
        replace E := Lib.hid (St.alloc E.out (.cells #[.bool false, .slice none 0 0, .int .i64 0] 25))
        refine (awake5 _).mono ?_; rintro e V2 ⟨rfl, hb⟩; replace E := Lib.hid (St.step E.out hb); clear hb
        go_wp2_with fail
        go_ret
        exact ⟨rfl, E.out.bel⟩

theorem powers5_any (b1 : Bool) (A1 : Option Addr) (n1 c1 : Nat) (xs1 : List Nat) (k1 : Int) (A : Option Addr) (n c : Nat) (r : Nat → Rw) (y z : Int) (w : World) (h1 : Lim w w.heap.size A1 n1 c1 xs1) (h : Raws w w.heap.size A n c r) (gy : 0 ≤ y ∧ y ≤ 255) (gz : 0 ≤ z ∧ z ≤ 255) :
    Calls Try.prog 7 #[.agg #[.bool b1, .slice A1 n1 c1, .int .i64 k1], .slice A n c, .agg #[.int .u8 y, .int .u8 z]] w (RetVal w (.bool true)) := by
  obtain ⟨gy1, gy2⟩ := gy
  obtain ⟨gz1, gz2⟩ := gz
  rcases Nat.lt_or_ge 3 n1 with g1 | g1
  · exact powers_a b1 A1 n1 c1 xs1 k1 A n c r y z gy1 gy2 gz1 gz2 w h1 h g1
  · cases l1 : longB b1 n1 xs1 k1 with
    | true => exact powers_b b1 A1 n1 c1 xs1 k1 A n c r y z gy1 gy2 gz1 gz2 w h1 h g1 l1
    | false =>
      rcases Nat.lt_or_ge 20 n with hn | hn
      · exact powers_c b1 A1 n1 c1 xs1 k1 A n c r y z gy1 gy2 gz1 gz2 w h1 h g1 l1 hn
      · obtain ⟨i, s, rfl, rfl, rfl, m1, t1⟩ := of_long l1 h1
        exact powers_dec A1 n1 c1 s i A n c r y z gy1 gy2 gz1 gz2 w h1 g1 t1 h hn

end Go.Proofs.Ytafbkoejobkncaa
