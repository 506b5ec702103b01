/-
  The examples of layer 5 (awake) answer true, whatever the memory.
-/
import Derived.Test.YtafbkoejobkncaaDecS
import Derived.Test.YtafbkoejobkncaaLineD
namespace Go.Proofs.Ytafbkoejobkncaa
open Go.RowKit

/-- Three decimals laid one behind the other. -/
def tri (a b c : Int × Nat) (j : Nat) : Int × Nat := if j = 0 then a else if j = 1 then b else c
def trip (a b c : Option Addr × Nat × Nat) (j : Nat) : Option Addr × Nat × Nat := if j = 0 then a else if j = 1 then b else c
theorem decs_lit {w : World} {t : TypeId} {a b c : Int × Nat} {A B C : Option Addr} {n m l na nb nc : Nat} (ha : Num w w.heap.size A n na a.1.natAbs) (hb : Num w w.heap.size B m nb b.1.natAbs) (hc : Num w w.heap.size C l nc c.1.natAbs)
    (sa : a.2 ≤ 60) (sb : b.2 ≤ 60) (sc : c.2 ≤ 60) (ka : n ≤ 12) (kb : m ≤ 12) (kc : l ≤ 12) (g : Nat) (hg : g = w.heap.size) :
    Decs (w.alloc (.cells #[.bool (ngB a.1), .slice A n na, .int .i64 (a.2 : Int), .bool (ngB b.1), .slice B m nb, .int .i64 (b.2 : Int), .bool (ngB c.1), .slice C l nc, .int .i64 (c.2 : Int)] t)) (w.alloc (.cells #[.bool (ngB a.1), .slice A n na, .int .i64 (a.2 : Int), .bool (ngB b.1), .slice B m nb, .int .i64 (b.2 : Int), .bool (ngB c.1), .slice C l nc, .int .i64 (c.2 : Int)] t)).heap.size (some ⟨g, 0, none⟩) 3 3 (tri a b c) (trip (A, n, na) (B, m, nb) (C, l, nc)) := by
  subst hg
  have hB : Below w.heap.size w (w.alloc (.cells #[.bool (ngB a.1), .slice A n na, .int .i64 (a.2 : Int), .bool (ngB b.1), .slice B m nb, .int .i64 (b.2 : Int), .bool (ngB c.1), .slice C l nc, .int .i64 (c.2 : Int)] t)) := (Below.refl _ _).alloc (Nat.le_refl _) _
  refine ⟨Nat.le_refl _, by unfold maxLen; omega, .inr ⟨w.heap.size, 0, rfl, by simp, fun j hj => ?_⟩, fun j hj => ?_, fun j hj => ?_, fun h => by cases h⟩
  · rcases j with _ | _ | _ | j
    · exact ⟨by rw [cell_of_row _ w.heap.size _ _ t (0, 0) (heap_alloc_new w _)]; rfl, by rw [cell_of_row _ w.heap.size _ _ t (0, 0) (heap_alloc_new w _)]; rfl, by rw [cell_of_row _ w.heap.size _ _ t (0, 0) (heap_alloc_new w _)]; rfl⟩
    · exact ⟨by rw [cell_of_row _ w.heap.size _ _ t (0, 0) (heap_alloc_new w _)]; rfl, by rw [cell_of_row _ w.heap.size _ _ t (0, 0) (heap_alloc_new w _)]; rfl, by rw [cell_of_row _ w.heap.size _ _ t (0, 0) (heap_alloc_new w _)]; rfl⟩
    · exact ⟨by rw [cell_of_row _ w.heap.size _ _ t (0, 0) (heap_alloc_new w _)]; rfl, by rw [cell_of_row _ w.heap.size _ _ t (0, 0) (heap_alloc_new w _)]; rfl, by rw [cell_of_row _ w.heap.size _ _ t (0, 0) (heap_alloc_new w _)]; rfl⟩
    · omega
  · rcases j with _ | _ | _ | j
    · exact ha.on hB
    · exact hb.on hB
    · exact hc.on hB
    · omega
  · rcases j with _ | _ | _ | j
    · exact ⟨by have := ha.len; show (dg a.1.natAbs).length ≤ 12; omega, sa⟩
    · exact ⟨by have := hb.len; show (dg b.1.natAbs).length ≤ 12; omega, sb⟩
    · exact ⟨by have := hc.len; show (dg c.1.natAbs).length ≤ 12; omega, sc⟩
    · omega
theorem sum_lit {w : World} {t : TypeId} {a b c : Int} {s u v S : Nat} {x : Int} {A B C : Option Addr} {n m l na nb nc : Nat} (ha : Num w w.heap.size A n na a.natAbs) (hb : Num w w.heap.size B m nb b.natAbs) (hc : Num w w.heap.size C l nc c.natAbs)
    (sa : s ≤ 60) (sb : u ≤ 60) (sc : v ≤ 60) (ka : n ≤ 12) (kb : m ≤ 12) (kc : l ≤ 12) (g : Nat) (hg : g = w.heap.size) (hx : sumI (tri (a, s) (b, u) (c, v)) 3 = x) (hS : sumS (tri (a, s) (b, u) (c, v)) 3 = S) :
    Calls Try.prog 37 #[.slice (some ⟨g, 0, none⟩) 3 3] (w.alloc (.cells #[.bool (ngB a), .slice A n na, .int .i64 (s : Int), .bool (ngB b), .slice B m nb, .int .i64 (u : Int), .bool (ngB c), .slice C l nc, .int .i64 (v : Int)] t)) (RetDec (w.alloc (.cells #[.bool (ngB a), .slice A n na, .int .i64 (s : Int), .bool (ngB b), .slice B m nb, .int .i64 (u : Int), .bool (ngB c), .slice C l nc, .int .i64 (v : Int)] t)) x S) := by
  subst hx; subst hS
  exact sum5_any _ 3 3 (tri (a, s) (b, u) (c, v)) (trip (A, n, na) (B, m, nb) (C, l, nc)) _ (decs_lit (a := (a, s)) (b := (b, u)) (c := (c, v)) ha hb hc sa sb sc ka kb kc g hg) (by omega)
theorem tz_1500 : tz 1500 = 2 := by rw [tz_yes (by omega) (by omega), tz_yes (by omega) (by omega), tz_no (by omega)]
theorem stripK_0 : stripK 1500 3 0 = 2 := by unfold stripK; rw [if_neg (by decide), show (1500 : Int).natAbs = 1500 from rfl, tz_1500]; decide
theorem stripK_2 : stripK 1500 3 2 = 1 := by unfold stripK; rw [if_neg (by decide), show (1500 : Int).natAbs = 1500 from rfl, tz_1500]; decide
theorem rightD_no {w : World} {b : Bool} {k : Int} (h : rightD b 0 [] k = false) : Calls Try.prog 8 #[.agg #[.bool b, .slice none 0 0, .int .i64 k]] w (RetVal w (.bool false)) := by
  have := right5_any b none 0 0 [] k w Lim.nil
  rwa [h] at this

def awT : List Row3 := [(some 13, none, .load 25 (.tmp 1)), (some 14, none, .load 25 (.tmp 2)), (some 15, none, .call { callee := .value (.func 28), args := #[.tmp 13, .tmp 14], argTypes := #[25, 25] }), (some 16, none, .call { callee := .value (.func 11), args := #[.const (.int .i64 (-100)), .const (.int .i64 2)], argTypes := #[3, 3] }), (some 17, none, .call { callee := .value (.func 27), args := #[.tmp 15, .tmp 16], argTypes := #[25, 25] }), (some 18, none, .move (.tmp 17)), (some 19, some (5, true), .load 25 (.tmp 1)), (some 20, some (5, true), .load 25 (.tmp 2)), (some 21, some (5, true), .call { callee := .value (.func 30), args := #[.tmp 19, .tmp 20], argTypes := #[25, 25] }), (some 22, some (5, true), .call { callee := .value (.func 11), args := #[.const (.int .i64 400), .const (.int .i64 2)], argTypes := #[3, 3] }), (some 23, some (5, true), .call { callee := .value (.func 27), args := #[.tmp 21, .tmp 22], argTypes := #[25, 25] }), (some 24, none, .pick (.tmp 18) (.tmp 23) (.const (.bool false))), (some 25, none, .move (.tmp 24)), (some 26, some (12, true), .load 25 (.tmp 1)), (some 27, some (12, true), .load 25 (.tmp 2)), (some 28, some (12, true), .call { callee := .value (.func 32), args := #[.tmp 26, .tmp 27], argTypes := #[25, 25] }), (some 29, some (12, true), .call { callee := .value (.func 11), args := #[.const (.int .i64 (-3750)), .const (.int .i64 3)], argTypes := #[3, 3] }), (some 30, some (12, true), .call { callee := .value (.func 27), args := #[.tmp 28, .tmp 29], argTypes := #[25, 25] }), (some 31, none, .pick (.tmp 25) (.tmp 30) (.const (.bool false))), (some 32, none, .move (.tmp 31)), (some 33, some (19, true), .load 25 (.tmp 1)), (some 34, some (19, true), .load 25 (.tmp 2)), (some 35, some (19, true), .call { callee := .value (.func 23), args := #[.tmp 33, .tmp 34], argTypes := #[25, 25] }), (some 36, some (19, true), .binOp .eql 3 (.tmp 35) (.const (.int .i64 1)) 3), (some 37, none, .pick (.tmp 32) (.tmp 36) (.const (.bool false))), (some 38, none, .move (.tmp 37)), (some 39, some (25, true), .load 25 (.tmp 2)), (some 40, some (25, true), .load 25 (.tmp 1)), (some 41, some (25, true), .call { callee := .value (.func 23), args := #[.tmp 39, .tmp 40], argTypes := #[25, 25] }), (some 42, some (25, true), .binOp .eql 3 (.tmp 41) (.const (.int .i64 (-1))) 3), (some 43, none, .pick (.tmp 38) (.tmp 42) (.const (.bool false))), (some 44, none, .move (.tmp 43)), (some 45, some (31, true), .load 25 (.tmp 1)), (some 46, some (31, true), .call { callee := .value (.func 11), args := #[.const (.int .i64 15), .const (.int .i64 1)], argTypes := #[3, 3] }), (some 47, some (31, true), .call { callee := .value (.func 25), args := #[.tmp 45, .tmp 46], argTypes := #[25, 25] }), (some 48, none, .pick (.tmp 44) (.tmp 47) (.const (.bool false))), (some 49, none, .move (.tmp 48)), (some 50, some (36, true), .load 25 (.tmp 1)), (some 51, some (36, true), .call { callee := .value (.func 11), args := #[.const (.int .i64 15), .const (.int .i64 1)], argTypes := #[3, 3] }), (some 52, some (36, true), .call { callee := .value (.func 27), args := #[.tmp 50, .tmp 51], argTypes := #[25, 25] }), (some 53, some (36, true), .unOp .not 4 (.tmp 52)), (some 54, none, .pick (.tmp 49) (.tmp 53) (.const (.bool false))), (some 55, none, .move (.tmp 54)), (some 56, some (42, true), .load 25 (.tmp 2)), (some 57, some (42, true), .call { callee := .value (.func 21), args := #[.tmp 56], argTypes := #[25] }), (some 58, some (42, true), .binOp .eql 3 (.tmp 57) (.const (.int .i64 (-1))) 3), (some 59, none, .pick (.tmp 55) (.tmp 58) (.const (.bool false))), (some 60, none, .move (.tmp 59)), (some 61, some (47, true), .call { callee := .value (.func 11), args := #[.const (.int .i64 0), .const (.int .i64 3)], argTypes := #[3, 3] }), (some 62, some (47, true), .call { callee := .value (.func 21), args := #[.tmp 61], argTypes := #[25] }), (some 63, some (47, true), .binOp .eql 3 (.tmp 62) (.const (.int .i64 0)) 3), (some 64, none, .pick (.tmp 60) (.tmp 63) (.const (.bool false))), (some 65, none, .move (.tmp 64)), (some 66, some (52, true), .load 25 (.tmp 2)), (some 67, some (52, true), .call { callee := .value (.func 17), args := #[.tmp 66], argTypes := #[25] }), (some 68, some (52, true), .call { callee := .value (.func 11), args := #[.const (.int .i64 25), .const (.int .i64 1)], argTypes := #[3, 3] }), (some 69, some (52, true), .call { callee := .value (.func 27), args := #[.tmp 67, .tmp 68], argTypes := #[25, 25] }), (some 70, none, .pick (.tmp 65) (.tmp 69) (.const (.bool false))), (some 71, none, .move (.tmp 70)), (some 72, some (58, true), .load 25 (.tmp 2)), (some 73, some (58, true), .call { callee := .value (.func 19), args := #[.tmp 72], argTypes := #[25] }), (some 74, some (58, true), .call { callee := .value (.func 11), args := #[.const (.int .i64 25), .const (.int .i64 1)], argTypes := #[3, 3] }), (some 75, some (58, true), .call { callee := .value (.func 27), args := #[.tmp 73, .tmp 74], argTypes := #[25, 25] }), (some 76, none, .pick (.tmp 71) (.tmp 75) (.const (.bool false))), (some 77, none, .move (.tmp 76)), (some 78, some (64, true), .fieldAddr 25 (.tmp 3) 2), (some 79, some (64, true), .load 3 (.tmp 78)), (some 80, some (64, true), .binOp .eql 3 (.tmp 79) (.const (.int .i64 2)) 3), (some 81, none, .pick (.tmp 77) (.tmp 80) (.const (.bool false))), (some 82, none, .move (.tmp 81)), (some 83, some (69, true), .load 25 (.tmp 4)), (some 84, some (69, true), .call { callee := .value (.func 11), args := #[.const (.int .i64 (-250)), .const (.int .i64 2)], argTypes := #[3, 3] }), (some 85, some (69, true), .call { callee := .value (.func 27), args := #[.tmp 83, .tmp 84], argTypes := #[25, 25] }), (some 86, none, .pick (.tmp 82) (.tmp 85) (.const (.bool false))), (some 87, none, .move (.tmp 86)), (some 88, some (74, true), .call { callee := .value (.func 11), args := #[.const (.int .i64 1500), .const (.int .i64 3)], argTypes := #[3, 3] }), (some 89, some (74, true), .call { callee := .value (.func 34), args := #[.tmp 88, .const (.int .i64 0)], argTypes := #[25, 3] }), (some 90, some (74, true), .call { callee := .value (.func 11), args := #[.const (.int .i64 15), .const (.int .i64 1)], argTypes := #[3, 3] }), (some 91, some (74, true), .call { callee := .value (.func 27), args := #[.tmp 89, .tmp 90], argTypes := #[25, 25] }), (some 92, none, .pick (.tmp 87) (.tmp 91) (.const (.bool false))), (some 93, none, .move (.tmp 92)), (some 94, some (80, true), .call { callee := .value (.func 11), args := #[.const (.int .i64 1500), .const (.int .i64 3)], argTypes := #[3, 3] }), (some 95, some (80, true), .call { callee := .value (.func 34), args := #[.tmp 94, .const (.int .i64 2)], argTypes := #[25, 3] }), (some 96, some (80, true), .load 25 (.tmp 1)), (some 97, some (80, true), .call { callee := .value (.func 27), args := #[.tmp 95, .tmp 96], argTypes := #[25, 25] }), (some 98, none, .pick (.tmp 93) (.tmp 97) (.const (.bool false))), (some 99, none, .move (.tmp 98)), (some 100, some (86, true), .load 25 (.tmp 1)), (some 101, some (86, true), .load 25 (.tmp 1)), (some 102, some (86, true), .load 25 (.tmp 2)), (some 103, some (86, true), .buildSlice 40 3 #[(0, .tmp 100), (1, .tmp 101), (2, .tmp 102)]), (some 104, some (86, true), .call { callee := .value (.func 37), args := #[.tmp 103], argTypes := #[40] }), (some 105, some (86, true), .call { callee := .value (.func 11), args := #[.const (.int .i64 50), .const (.int .i64 2)], argTypes := #[3, 3] }), (some 106, some (86, true), .call { callee := .value (.func 27), args := #[.tmp 104, .tmp 105], argTypes := #[25, 25] }), (some 107, none, .pick (.tmp 99) (.tmp 106) (.const (.bool false))), (some 108, none, .move (.tmp 107)), (some 109, some (95, true), .load 25 (.tmp 1)), (some 110, some (95, true), .call { callee := .value (.func 8), args := #[.tmp 109], argTypes := #[25] }), (some 111, none, .pick (.tmp 108) (.tmp 110) (.const (.bool false))), (some 112, none, .move (.tmp 111)), (some 113, some (99, true), .build 25 #[(0, .const (.bool true))]), (some 114, some (99, true), .call { callee := .value (.func 8), args := #[.tmp 113], argTypes := #[25] }), (some 115, some (99, true), .unOp .not 4 (.tmp 114)), (some 116, none, .pick (.tmp 112) (.tmp 115) (.const (.bool false))), (some 117, none, .move (.tmp 116)), (some 118, some (104, true), .build 25 #[(2, .const (.int .i64 (-1)))]), (some 119, some (104, true), .call { callee := .value (.func 8), args := #[.tmp 118], argTypes := #[25] }), (some 120, some (104, true), .unOp .not 4 (.tmp 119)), (some 121, none, .pick (.tmp 117) (.tmp 120) (.const (.bool false))), (some 0, none, .assign (.tmp 121))]
set_option maxRecDepth 100000 in
theorem awRow : (opsAt Try.prog 14 3).toList.map row3 = awT := by kernel_rfl
theorem awSel : Region.noSelect (opsAt Try.prog 14 3) = true := by kernel_rfl
theorem awDone : Region.ready .any (opsAt Try.prog 14 3) (upto (opsAt Try.prog 14 3).size (opsAt Try.prog 14 3).size []) = [] := by kernel_rfl
theorem awstill0 : [(0, [], 0), (1, [], 1), (5, [], 5), (6, [], 6), (7, [], 7), (11, [], 11), (12, [], 12), (13, [], 13), (14, [], 14), (18, [], 18)].all (stillB (opsAt Try.prog 14 3)) = true := by kernel_rfl
theorem awstill1 : [(19, [], 19), (20, [], 20), (21, [], 21), (23, [], 23), (24, [], 24), (25, [], 25), (26, [], 26), (27, [], 27), (29, [], 29), (30, [], 30)].all (stillB (opsAt Try.prog 14 3)) = true := by kernel_rfl
theorem awstill2 : [(31, [], 31), (32, [], 32), (35, [], 35), (36, [], 36), (37, [], 37), (40, [], 40), (41, [], 41), (42, [], 42), (43, [], 43), (45, [], 45)].all (stillB (opsAt Try.prog 14 3)) = true := by kernel_rfl
theorem awstill3 : [(46, [], 46), (47, [], 47), (50, [], 50), (51, [], 51), (52, [], 52), (53, [], 53), (57, [], 57), (58, [], 58), (59, [], 59), (63, [], 63)].all (stillB (opsAt Try.prog 14 3)) = true := by kernel_rfl
theorem awstill4 : [(64, [], 64), (65, [], 65), (66, [], 66), (67, [], 67), (68, [], 68), (69, [], 69), (70, [], 70), (73, [], 73), (74, [], 74), (79, [], 79)].all (stillB (opsAt Try.prog 14 3)) = true := by kernel_rfl
theorem awstill5 : [(80, [], 80), (81, [], 83), (85, [], 85), (86, [], 86), (87, [], 87), (88, [], 88), (89, [], 89), (94, [], 94), (95, [], 95), (96, [], 96)].all (stillB (opsAt Try.prog 14 3)) = true := by kernel_rfl
theorem awstill6 : [(98, [], 98), (99, [], 99), (100, [], 100), (102, [], 102), (103, [], 103), (104, [], 104), (105, [], 105), (107, [], 107), (108, [], 108), (109, [], 109)].all (stillB (opsAt Try.prog 14 3)) = true := by kernel_rfl
theorem awsole0 : [(2, [], 2), (3, [], 3), (4, [], 4), (8, [], 8), (9, [], 9), (10, [], 10), (15, [], 15), (16, [], 16), (17, [], 17), (22, [], 22)].all (soleB (opsAt Try.prog 14 3)) = true := by kernel_rfl
theorem awsole1 : [(28, [], 28), (33, [], 33), (34, [], 34), (38, [], 38), (39, [], 39), (44, [], 44), (48, [], 48), (49, [], 49), (54, [], 54), (55, [], 55)].all (soleB (opsAt Try.prog 14 3)) = true := by kernel_rfl
theorem awsole2 : [(56, [], 56), (60, [], 60), (61, [], 61), (62, [], 62), (71, [], 71), (72, [], 72), (75, [], 75), (76, [], 76), (77, [], 77), (78, [], 78)].all (soleB (opsAt Try.prog 14 3)) = true := by kernel_rfl
theorem awsole3 : [(81, [83], 81), (82, [83], 82), (84, [], 84), (90, [], 90), (91, [], 91), (92, [], 92), (93, [], 93), (97, [], 97), (101, [], 101), (106, [], 106)].all (soleB (opsAt Try.prog 14 3)) = true := by kernel_rfl
theorem awR : Reg (opsAt Try.prog 14 3) awT [(0, [], 0), (1, [], 1), (5, [], 5), (6, [], 6), (7, [], 7), (11, [], 11), (12, [], 12), (13, [], 13), (14, [], 14), (18, [], 18), (19, [], 19), (20, [], 20), (21, [], 21), (23, [], 23), (24, [], 24), (25, [], 25), (26, [], 26), (27, [], 27), (29, [], 29), (30, [], 30), (31, [], 31), (32, [], 32), (35, [], 35), (36, [], 36), (37, [], 37), (40, [], 40), (41, [], 41), (42, [], 42), (43, [], 43), (45, [], 45), (46, [], 46), (47, [], 47), (50, [], 50), (51, [], 51), (52, [], 52), (53, [], 53), (57, [], 57), (58, [], 58), (59, [], 59), (63, [], 63), (64, [], 64), (65, [], 65), (66, [], 66), (67, [], 67), (68, [], 68), (69, [], 69), (70, [], 70), (73, [], 73), (74, [], 74), (79, [], 79), (80, [], 80), (81, [], 83), (85, [], 85), (86, [], 86), (87, [], 87), (88, [], 88), (89, [], 89), (94, [], 94), (95, [], 95), (96, [], 96), (98, [], 98), (99, [], 99), (100, [], 100), (102, [], 102), (103, [], 103), (104, [], 104), (105, [], 105), (107, [], 107), (108, [], 108), (109, [], 109)] [(2, [], 2), (3, [], 3), (4, [], 4), (8, [], 8), (9, [], 9), (10, [], 10), (15, [], 15), (16, [], 16), (17, [], 17), (22, [], 22), (28, [], 28), (33, [], 33), (34, [], 34), (38, [], 38), (39, [], 39), (44, [], 44), (48, [], 48), (49, [], 49), (54, [], 54), (55, [], 55), (56, [], 56), (60, [], 60), (61, [], 61), (62, [], 62), (71, [], 71), (72, [], 72), (75, [], 75), (76, [], 76), (77, [], 77), (78, [], 78), (81, [83], 81), (82, [83], 82), (84, [], 84), (90, [], 90), (91, [], 91), (92, [], 92), (93, [], 93), (97, [], 97), (101, [], 101), (106, [], 106)] := ⟨awRow, awSel, (all_parts awstill0 (all_parts awstill1 (all_parts awstill2 (all_parts awstill3 (all_parts awstill4 (all_parts awstill5 (all_parts awstill6 (fun k h => by cases h)))))))), (all_parts awsole0 (all_parts awsole1 (all_parts awsole2 (all_parts awsole3 (fun k h => by cases h))))), awDone⟩

theorem St.push2 {w0 w w' : World} {l : List (Option Addr × Nat × Nat × Nat)} {bs : List (Nat × Value × Value × Value)} (h : St w0 w l bs) (hb : Below w.heap.size w w') {A A' : Option Addr} {n c a n' c' a' : Nat} (hn : Num w' w'.heap.size A n c a) (hn' : Num w' w'.heap.size A' n' c' a') : St w0 w' ((A, n, c, a) :: (A', n', c', a') :: l) bs := by
  have h2 := h.push hb hn'
  refine ⟨h2.bel, fun q hq => ?_, h2.box⟩
  rcases List.mem_cons.1 hq with rfl | hq
  · exact hn
  · exact h2.num q hq

set_option maxHeartbeats 8000000 in
set_option maxRecDepth 100000 in
theorem awake5 (w : World) : Calls Try.prog 14 #[] w (RetVal w (.bool true)) := by
  obtain ⟨x1, hx1⟩ : ∃ x : Int, x = (150 : Int) := ⟨_, rfl⟩
  obtain ⟨s1, hs1⟩ : ∃ s : Nat, s = 2 := ⟨_, rfl⟩
  have z1 : s1 ≤ 10 := by omega
  have B1 : Hid ((dg x1.natAbs).length ≤ 1) := (by show _ ≤ _; rw [hx1]; exact dg_len_le (by decide))
  have F1 : Hid ((150 : Int) = x1) := (by show _ = _; subst hx1; subst hs1; decide)
  have F2 : Hid ((2 : Int) = (s1 : Int)) := (by show _ = _; subst hx1; subst hs1; decide)
  have M1 : Hid (x1.natAbs < 1000000000) := (by show _ < _; rw [hx1]; decide)
  obtain ⟨x2, hx2⟩ : ∃ x : Int, x = (-25 : Int) := ⟨_, rfl⟩
  obtain ⟨s2, hs2⟩ : ∃ s : Nat, s = 1 := ⟨_, rfl⟩
  have z2 : s2 ≤ 10 := by omega
  have B2 : Hid ((dg x2.natAbs).length ≤ 1) := (by show _ ≤ _; rw [hx2]; exact dg_len_le (by decide))
  have F3 : Hid ((-25 : Int) = x2) := (by show _ = _; subst hx2; subst hs2; decide)
  have F4 : Hid ((1 : Int) = (s2 : Int)) := (by show _ = _; subst hx2; subst hs2; decide)
  have M2 : Hid (x2.natAbs < 1000000000) := (by show _ < _; rw [hx2]; decide)
  obtain ⟨x3, hx3⟩ : ∃ x : Int, x = (150 : Int) := ⟨_, rfl⟩
  obtain ⟨s3, hs3⟩ : ∃ s : Nat, s = 2 := ⟨_, rfl⟩
  have z3 : s3 ≤ 10 := by omega
  have B3 : Hid ((dg x3.natAbs).length ≤ 1) := (by show _ ≤ _; rw [hx3]; exact dg_len_le (by decide))
  obtain ⟨x4, hx4⟩ : ∃ x : Int, x = (-250 : Int) := ⟨_, rfl⟩
  obtain ⟨s4, hs4⟩ : ∃ s : Nat, s = 2 := ⟨_, rfl⟩
  have z4 : s4 ≤ 10 := by omega
  have B4 : Hid ((dg x4.natAbs).length ≤ 1) := (by show _ ≤ _; rw [hx4]; exact dg_len_le (by decide))
  have F5 : Hid (max s1 s2 = s3) := (by show _ = _; subst hx1; subst hs1; subst hx2; subst hs2; subst hx3; subst hs3; decide)
  have F6 : Hid (up x1 s1 s3 = x3) := (by show _ = _; subst hx1; subst hs1; subst hx3; subst hs3; decide)
  have F7 : Hid (up x2 s2 s3 = x4) := (by show _ = _; subst hx2; subst hs2; subst hx3; subst hs3; subst hx4; subst hs4; decide)
  obtain ⟨x5, hx5⟩ : ∃ x : Int, x = (-100 : Int) := ⟨_, rfl⟩
  obtain ⟨s5, hs5⟩ : ∃ s : Nat, s = 2 := ⟨_, rfl⟩
  have z5 : s5 ≤ 10 := by omega
  have B5 : Hid ((dg x5.natAbs).length ≤ 1) := (by show _ ≤ _; rw [hx5]; exact dg_len_le (by decide))
  have F8 : Hid (max s1 s2 = s5) := (by show _ = _; subst hx1; subst hs1; subst hx2; subst hs2; subst hx5; subst hs5; decide)
  have F9 : Hid (addZ x1 s1 x2 s2 = x5) := (by show _ = _; subst hx1; subst hs1; subst hx2; subst hs2; subst hx5; subst hs5; decide)
  obtain ⟨x6, hx6⟩ : ∃ x : Int, x = (-100 : Int) := ⟨_, rfl⟩
  obtain ⟨s6, hs6⟩ : ∃ s : Nat, s = 2 := ⟨_, rfl⟩
  have z6 : s6 ≤ 10 := by omega
  have B6 : Hid ((dg x6.natAbs).length ≤ 1) := (by show _ ≤ _; rw [hx6]; exact dg_len_le (by decide))
  have F10 : Hid ((-100 : Int) = x6) := (by show _ = _; subst hx6; subst hs6; decide)
  have F11 : Hid ((2 : Int) = (s6 : Int)) := (by show _ = _; subst hx6; subst hs6; decide)
  have M6 : Hid (x6.natAbs < 1000000000) := (by show _ < _; rw [hx6]; decide)
  have F12 : Hid (alikeB x5 s5 x6 s6 = true) := (by show _ = _; subst hx5; subst hs5; subst hx6; subst hs6; decide)
  obtain ⟨x7, hx7⟩ : ∃ x : Int, x = (400 : Int) := ⟨_, rfl⟩
  obtain ⟨s7, hs7⟩ : ∃ s : Nat, s = 2 := ⟨_, rfl⟩
  have z7 : s7 ≤ 10 := by omega
  have B7 : Hid ((dg x7.natAbs).length ≤ 1) := (by show _ ≤ _; rw [hx7]; exact dg_len_le (by decide))
  have F13 : Hid (max s1 s2 = s7) := (by show _ = _; subst hx1; subst hs1; subst hx2; subst hs2; subst hx7; subst hs7; decide)
  have F14 : Hid (subZ x1 s1 x2 s2 = x7) := (by show _ = _; subst hx1; subst hs1; subst hx2; subst hs2; subst hx7; subst hs7; decide)
  obtain ⟨x8, hx8⟩ : ∃ x : Int, x = (400 : Int) := ⟨_, rfl⟩
  obtain ⟨s8, hs8⟩ : ∃ s : Nat, s = 2 := ⟨_, rfl⟩
  have z8 : s8 ≤ 10 := by omega
  have B8 : Hid ((dg x8.natAbs).length ≤ 1) := (by show _ ≤ _; rw [hx8]; exact dg_len_le (by decide))
  have F15 : Hid ((400 : Int) = x8) := (by show _ = _; subst hx8; subst hs8; decide)
  have F16 : Hid ((2 : Int) = (s8 : Int)) := (by show _ = _; subst hx8; subst hs8; decide)
  have M8 : Hid (x8.natAbs < 1000000000) := (by show _ < _; rw [hx8]; decide)
  have F17 : Hid (alikeB x7 s7 x8 s8 = true) := (by show _ = _; subst hx7; subst hs7; subst hx8; subst hs8; decide)
  obtain ⟨x9, hx9⟩ : ∃ x : Int, x = (-3750 : Int) := ⟨_, rfl⟩
  obtain ⟨s9, hs9⟩ : ∃ s : Nat, s = 3 := ⟨_, rfl⟩
  have z9 : s9 ≤ 10 := by omega
  have B9 : Hid ((dg x9.natAbs).length ≤ 1) := (by show _ ≤ _; rw [hx9]; exact dg_len_le (by decide))
  have F18 : Hid (s1 + s2 = s9) := (by show _ = _; subst hx1; subst hs1; subst hx2; subst hs2; subst hx9; subst hs9; decide)
  have F19 : Hid (x1 * x2 = x9) := (by show _ = _; subst hx1; subst hs1; subst hx2; subst hs2; subst hx9; subst hs9; decide)
  obtain ⟨x10, hx10⟩ : ∃ x : Int, x = (-3750 : Int) := ⟨_, rfl⟩
  obtain ⟨s10, hs10⟩ : ∃ s : Nat, s = 3 := ⟨_, rfl⟩
  have z10 : s10 ≤ 10 := by omega
  have B10 : Hid ((dg x10.natAbs).length ≤ 1) := (by show _ ≤ _; rw [hx10]; exact dg_len_le (by decide))
  have F20 : Hid ((-3750 : Int) = x10) := (by show _ = _; subst hx10; subst hs10; decide)
  have F21 : Hid ((3 : Int) = (s10 : Int)) := (by show _ = _; subst hx10; subst hs10; decide)
  have M10 : Hid (x10.natAbs < 1000000000) := (by show _ < _; rw [hx10]; decide)
  have F22 : Hid (alikeB x9 s9 x10 s10 = true) := (by show _ = _; subst hx9; subst hs9; subst hx10; subst hs10; decide)
  have F23 : Hid (cmpD x1 s1 x2 s2 = 1) := (by show _ = _; subst hx1; subst hs1; subst hx2; subst hs2; decide)
  have F24 : Hid (cmpD x2 s2 x1 s1 = -1) := (by show _ = _; subst hx2; subst hs2; subst hx1; subst hs1; decide)
  obtain ⟨x11, hx11⟩ : ∃ x : Int, x = (15 : Int) := ⟨_, rfl⟩
  obtain ⟨s11, hs11⟩ : ∃ s : Nat, s = 1 := ⟨_, rfl⟩
  have z11 : s11 ≤ 10 := by omega
  have B11 : Hid ((dg x11.natAbs).length ≤ 1) := (by show _ ≤ _; rw [hx11]; exact dg_len_le (by decide))
  have F25 : Hid ((15 : Int) = x11) := (by show _ = _; subst hx11; subst hs11; decide)
  have F26 : Hid ((1 : Int) = (s11 : Int)) := (by show _ = _; subst hx11; subst hs11; decide)
  have M11 : Hid (x11.natAbs < 1000000000) := (by show _ < _; rw [hx11]; decide)
  have F27 : Hid ((cmpD x1 s1 x11 s11 == 0) = true) := (by show _ = _; subst hx1; subst hs1; subst hx11; subst hs11; decide)
  obtain ⟨x12, hx12⟩ : ∃ x : Int, x = (15 : Int) := ⟨_, rfl⟩
  obtain ⟨s12, hs12⟩ : ∃ s : Nat, s = 1 := ⟨_, rfl⟩
  have z12 : s12 ≤ 10 := by omega
  have B12 : Hid ((dg x12.natAbs).length ≤ 1) := (by show _ ≤ _; rw [hx12]; exact dg_len_le (by decide))
  have F28 : Hid ((15 : Int) = x12) := (by show _ = _; subst hx12; subst hs12; decide)
  have F29 : Hid ((1 : Int) = (s12 : Int)) := (by show _ = _; subst hx12; subst hs12; decide)
  have M12 : Hid (x12.natAbs < 1000000000) := (by show _ < _; rw [hx12]; decide)
  have F30 : Hid (alikeB x1 s1 x12 s12 = false) := (by show _ = _; subst hx1; subst hs1; subst hx12; subst hs12; decide)
  have F31 : Hid (x2.sign = -1) := (by show _ = _; subst hx2; subst hs2; decide)
  obtain ⟨x13, hx13⟩ : ∃ x : Int, x = (0 : Int) := ⟨_, rfl⟩
  obtain ⟨s13, hs13⟩ : ∃ s : Nat, s = 3 := ⟨_, rfl⟩
  have z13 : s13 ≤ 10 := by omega
  have B13 : Hid ((dg x13.natAbs).length ≤ 1) := (by show _ ≤ _; rw [hx13]; exact dg_len_le (by decide))
  have F32 : Hid ((0 : Int) = x13) := (by show _ = _; subst hx13; subst hs13; decide)
  have F33 : Hid ((3 : Int) = (s13 : Int)) := (by show _ = _; subst hx13; subst hs13; decide)
  have M13 : Hid (x13.natAbs < 1000000000) := (by show _ < _; rw [hx13]; decide)
  have F34 : Hid (x13.sign = 0) := (by show _ = _; subst hx13; subst hs13; decide)
  obtain ⟨x14, hx14⟩ : ∃ x : Int, x = (25 : Int) := ⟨_, rfl⟩
  obtain ⟨s14, hs14⟩ : ∃ s : Nat, s = 1 := ⟨_, rfl⟩
  have z14 : s14 ≤ 10 := by omega
  have B14 : Hid ((dg x14.natAbs).length ≤ 1) := (by show _ ≤ _; rw [hx14]; exact dg_len_le (by decide))
  have F35 : Hid (-x2 = x14) := (by show _ = _; subst hx2; subst hs2; subst hx14; subst hs14; decide)
  obtain ⟨x15, hx15⟩ : ∃ x : Int, x = (25 : Int) := ⟨_, rfl⟩
  obtain ⟨s15, hs15⟩ : ∃ s : Nat, s = 1 := ⟨_, rfl⟩
  have z15 : s15 ≤ 10 := by omega
  have B15 : Hid ((dg x15.natAbs).length ≤ 1) := (by show _ ≤ _; rw [hx15]; exact dg_len_le (by decide))
  have F36 : Hid ((25 : Int) = x15) := (by show _ = _; subst hx15; subst hs15; decide)
  have F37 : Hid ((1 : Int) = (s15 : Int)) := (by show _ = _; subst hx15; subst hs15; decide)
  have M15 : Hid (x15.natAbs < 1000000000) := (by show _ < _; rw [hx15]; decide)
  have F38 : Hid (alikeB x14 s2 x15 s15 = true) := (by show _ = _; subst hx14; subst hs14; subst hx2; subst hs2; subst hx15; subst hs15; decide)
  obtain ⟨x16, hx16⟩ : ∃ x : Int, x = (25 : Int) := ⟨_, rfl⟩
  obtain ⟨s16, hs16⟩ : ∃ s : Nat, s = 1 := ⟨_, rfl⟩
  have z16 : s16 ≤ 10 := by omega
  have B16 : Hid ((dg x16.natAbs).length ≤ 1) := (by show _ ≤ _; rw [hx16]; exact dg_len_le (by decide))
  have F39 : Hid ((x2.natAbs : Int) = x16) := (by show _ = _; subst hx2; subst hs2; subst hx16; subst hs16; decide)
  obtain ⟨x17, hx17⟩ : ∃ x : Int, x = (25 : Int) := ⟨_, rfl⟩
  obtain ⟨s17, hs17⟩ : ∃ s : Nat, s = 1 := ⟨_, rfl⟩
  have z17 : s17 ≤ 10 := by omega
  have B17 : Hid ((dg x17.natAbs).length ≤ 1) := (by show _ ≤ _; rw [hx17]; exact dg_len_le (by decide))
  have F40 : Hid ((25 : Int) = x17) := (by show _ = _; subst hx17; subst hs17; decide)
  have F41 : Hid ((1 : Int) = (s17 : Int)) := (by show _ = _; subst hx17; subst hs17; decide)
  have M17 : Hid (x17.natAbs < 1000000000) := (by show _ < _; rw [hx17]; decide)
  have F42 : Hid (alikeB x16 s2 x17 s17 = true) := (by show _ = _; subst hx16; subst hs16; subst hx2; subst hs2; subst hx17; subst hs17; decide)
  have HSC : Hid (((s3 : Int) == 2) = true) := (by show _ = _; subst hs3; decide)
  obtain ⟨x18, hx18⟩ : ∃ x : Int, x = (-250 : Int) := ⟨_, rfl⟩
  obtain ⟨s18, hs18⟩ : ∃ s : Nat, s = 2 := ⟨_, rfl⟩
  have z18 : s18 ≤ 10 := by omega
  have B18 : Hid ((dg x18.natAbs).length ≤ 1) := (by show _ ≤ _; rw [hx18]; exact dg_len_le (by decide))
  have F43 : Hid ((-250 : Int) = x18) := (by show _ = _; subst hx18; subst hs18; decide)
  have F44 : Hid ((2 : Int) = (s18 : Int)) := (by show _ = _; subst hx18; subst hs18; decide)
  have M18 : Hid (x18.natAbs < 1000000000) := (by show _ < _; rw [hx18]; decide)
  have F45 : Hid (alikeB x4 s3 x18 s18 = true) := (by show _ = _; subst hx4; subst hs4; subst hx3; subst hs3; subst hx18; subst hs18; decide)
  obtain ⟨x19, hx19⟩ : ∃ x : Int, x = (1500 : Int) := ⟨_, rfl⟩
  obtain ⟨s19, hs19⟩ : ∃ s : Nat, s = 3 := ⟨_, rfl⟩
  have z19 : s19 ≤ 10 := by omega
  have B19 : Hid ((dg x19.natAbs).length ≤ 1) := (by show _ ≤ _; rw [hx19]; exact dg_len_le (by decide))
  have F46 : Hid ((1500 : Int) = x19) := (by show _ = _; subst hx19; subst hs19; decide)
  have F47 : Hid ((3 : Int) = (s19 : Int)) := (by show _ = _; subst hx19; subst hs19; decide)
  have M19 : Hid (x19.natAbs < 1000000000) := (by show _ < _; rw [hx19]; decide)
  obtain ⟨x20, hx20⟩ : ∃ x : Int, x = (15 : Int) := ⟨_, rfl⟩
  obtain ⟨s20, hs20⟩ : ∃ s : Nat, s = 1 := ⟨_, rfl⟩
  have z20 : s20 ≤ 10 := by omega
  have B20 : Hid ((dg x20.natAbs).length ≤ 1) := (by show _ ≤ _; rw [hx20]; exact dg_len_le (by decide))
  have F48 : Hid (max (0 : Int) 0 = ((0 : Nat) : Int)) := (by show _ = _;  decide)
  have F49 : Hid (s19 - stripK x19 s19 0 = s20) := (by show _ = _; subst hx19; subst hs19; subst hx20; subst hs20; rw [stripK_0])
  have F50 : Hid (stripI x19 s19 0 = x20) := (by show _ = _; subst hx19; subst hs19; subst hx20; subst hs20; unfold stripI; rw [stripK_0]; decide)
  obtain ⟨x21, hx21⟩ : ∃ x : Int, x = (15 : Int) := ⟨_, rfl⟩
  obtain ⟨s21, hs21⟩ : ∃ s : Nat, s = 1 := ⟨_, rfl⟩
  have z21 : s21 ≤ 10 := by omega
  have B21 : Hid ((dg x21.natAbs).length ≤ 1) := (by show _ ≤ _; rw [hx21]; exact dg_len_le (by decide))
  have F51 : Hid ((15 : Int) = x21) := (by show _ = _; subst hx21; subst hs21; decide)
  have F52 : Hid ((1 : Int) = (s21 : Int)) := (by show _ = _; subst hx21; subst hs21; decide)
  have M21 : Hid (x21.natAbs < 1000000000) := (by show _ < _; rw [hx21]; decide)
  have F53 : Hid (alikeB x20 s20 x21 s21 = true) := (by show _ = _; subst hx20; subst hs20; subst hx21; subst hs21; decide)
  obtain ⟨x22, hx22⟩ : ∃ x : Int, x = (1500 : Int) := ⟨_, rfl⟩
  obtain ⟨s22, hs22⟩ : ∃ s : Nat, s = 3 := ⟨_, rfl⟩
  have z22 : s22 ≤ 10 := by omega
  have B22 : Hid ((dg x22.natAbs).length ≤ 1) := (by show _ ≤ _; rw [hx22]; exact dg_len_le (by decide))
  have F54 : Hid ((1500 : Int) = x22) := (by show _ = _; subst hx22; subst hs22; decide)
  have F55 : Hid ((3 : Int) = (s22 : Int)) := (by show _ = _; subst hx22; subst hs22; decide)
  have M22 : Hid (x22.natAbs < 1000000000) := (by show _ < _; rw [hx22]; decide)
  obtain ⟨x23, hx23⟩ : ∃ x : Int, x = (150 : Int) := ⟨_, rfl⟩
  obtain ⟨s23, hs23⟩ : ∃ s : Nat, s = 2 := ⟨_, rfl⟩
  have z23 : s23 ≤ 10 := by omega
  have B23 : Hid ((dg x23.natAbs).length ≤ 1) := (by show _ ≤ _; rw [hx23]; exact dg_len_le (by decide))
  have F56 : Hid (max (2 : Int) 0 = ((2 : Nat) : Int)) := (by show _ = _;  decide)
  have F57 : Hid (s22 - stripK x22 s22 2 = s23) := (by show _ = _; subst hx22; subst hs22; subst hx23; subst hs23; rw [stripK_2])
  have F58 : Hid (stripI x22 s22 2 = x23) := (by show _ = _; subst hx22; subst hs22; subst hx23; subst hs23; unfold stripI; rw [stripK_2]; decide)
  have F59 : Hid (alikeB x23 s23 x1 s1 = true) := (by show _ = _; subst hx23; subst hs23; subst hx1; subst hs1; decide)
  obtain ⟨x24, hx24⟩ : ∃ x : Int, x = (50 : Int) := ⟨_, rfl⟩
  obtain ⟨s24, hs24⟩ : ∃ s : Nat, s = 2 := ⟨_, rfl⟩
  have z24 : s24 ≤ 10 := by omega
  have B24 : Hid ((dg x24.natAbs).length ≤ 1) := (by show _ ≤ _; rw [hx24]; exact dg_len_le (by decide))
  have F60 : Hid (sumI (tri (x1, s1) (x1, s1) (x2, s2)) 3 = x24) := (by show _ = _; subst hx1; subst hs1; subst hx2; subst hs2; subst hx24; subst hs24; decide)
  have F61 : Hid (sumS (tri (x1, s1) (x1, s1) (x2, s2)) 3 = s24) := (by show _ = _; subst hx1; subst hs1; subst hx2; subst hs2; subst hx24; subst hs24; decide)
  obtain ⟨x25, hx25⟩ : ∃ x : Int, x = (50 : Int) := ⟨_, rfl⟩
  obtain ⟨s25, hs25⟩ : ∃ s : Nat, s = 2 := ⟨_, rfl⟩
  have z25 : s25 ≤ 10 := by omega
  have B25 : Hid ((dg x25.natAbs).length ≤ 1) := (by show _ ≤ _; rw [hx25]; exact dg_len_le (by decide))
  have F62 : Hid ((50 : Int) = x25) := (by show _ = _; subst hx25; subst hs25; decide)
  have F63 : Hid ((2 : Int) = (s25 : Int)) := (by show _ = _; subst hx25; subst hs25; decide)
  have M25 : Hid (x25.natAbs < 1000000000) := (by show _ < _; rw [hx25]; decide)
  have F64 : Hid (alikeB x24 s24 x25 s25 = true) := (by show _ = _; subst hx24; subst hs24; subst hx25; subst hs25; decide)
  clear hx1 hs1 hx2 hs2 hx3 hs3 hx4 hs4 hx5 hs5 hx6 hs6 hx7 hs7 hx8 hs8 hx9 hs9 hx10 hs10 hx11 hs11 hx12 hs12 hx13 hs13 hx14 hs14 hx15 hs15 hx16 hs16 hx17 hs17 hx18 hs18 hx19 hs19 hx20 hs20 hx21 hs21 hx22 hs22 hx23 hs23 hx24 hs24 hx25 hs25
  have E : Hid (St w w [] []) := St.start w (fun q hq => by cases hq)
  go_enter Try.func14, Try.ntmps14
  go_wp2_with fail
  refine (mk_is5 (i := x1) (s := s1) _ F1.out F2.out M1.out (by omega)).mono ?_; rintro e w1 ⟨A1, n1, c1, rfl, h, hb⟩
  have b1 : n1 ≤ 1 := len_le h B1.out
  replace E := Lib.hid (St.push E.out hb h)
  clear h hb
  go_wp2_with fail
  refine (mk_is5 (i := x2) (s := s2) _ F3.out F4.out M2.out (by omega)).mono ?_; rintro e w2 ⟨A2, n2, c2, rfl, h, hb⟩
  have b2 : n2 ≤ 1 := len_le h B2.out
  replace E := Lib.hid (St.push E.out hb h)
  clear h hb
  replace E := Lib.hid ((St.lay (t := 25) (x0 := (.bool (ngB x2))) (x1 := (.slice A2 n2 c2)) (x2 := (.int .i64 (s2 : Int))) (g := w2.heap.size + 1) (St.lay (t := 25) (x0 := (.bool (ngB x1))) (x1 := (.slice A1 n1 c1)) (x2 := (.int .i64 (s1 : Int))) (g := w2.heap.size) E.out rfl) (by simp)))
  go_wp2_with fail
  refine (align_is5 (i := x1) (s := s1) (j := x2) (t := s2) (St.got E (A := A1) (n := n1) (c := c1) (a := (x1).natAbs) (by simp)) (St.got E (A := A2) (n := n2) (c := c2) (a := (x2).natAbs) (by simp)) (by omega) (by omega) (by omega) (by omega) F5.out F6.out F7.out).mono ?_; rintro e w3 ⟨A3, n3, c3, A3', n3', c3', rfl, h, h', hb⟩
  have b3 : n3 ≤ 1 := len_le h B3.out
  have b3' : n3' ≤ 1 := len_le h' B4.out
  replace E := Lib.hid (St.push2 E.out hb h h')
  clear h h' hb
  obtain ⟨p0a, p0b, p0c, p0d, p0e, p0f, p0g⟩ := St.at_ (x0 := (.bool (ngB x2))) (x1 := (.slice A2 n2 c2)) (x2 := (.int .i64 (s2 : Int))) (g := (w2.heap.size + 1)) E (by simp)
  obtain ⟨p1a, p1b, p1c, p1d, p1e, p1f, p1g⟩ := St.at_ (x0 := (.bool (ngB x1))) (x1 := (.slice A1 n1 c1)) (x2 := (.int .i64 (s1 : Int))) (g := w2.heap.size) E (by simp)
  replace E := Lib.hid ((St.lay (t := 25) (x0 := (.bool (ngB x4))) (x1 := (.slice A3' n3' c3')) (x2 := (.int .i64 (s3 : Int))) (g := w3.heap.size + 1) (St.lay (t := 25) (x0 := (.bool (ngB x3))) (x1 := (.slice A3 n3 c3)) (x2 := (.int .i64 (s3 : Int))) (g := w3.heap.size) E.out rfl) (by simp)))
  go_wp2_with fail
  clear p0a p0b p0c p0d p0e p0f p0g p1a p1b p1c p1d p1e p1f p1g
  generalize hW2 : World.alloc (World.alloc w3 _) _ = W1 at E ⊢
  clear hW2
  replace E := Lib.hid (St.drew E.out)
  rename_i K hK
  refine line_start (ops := opsAt Try.prog 14 3) (S := SB [((w3.heap.size + 1), (.bool (ngB x4)), (.slice A3' n3' c3'), (.int .i64 (s3 : Int))), (w3.heap.size, (.bool (ngB x3)), (.slice A3 n3 c3), (.int .i64 (s3 : Int))), ((w2.heap.size + 1), (.bool (ngB x2)), (.slice A2 n2 c2), (.int .i64 (s2 : Int))), (w2.heap.size, (.bool (ngB x1)), (.slice A1 n1 c1), (.int .i64 (s1 : Int)))]) (by kernel_rfl) (by kernel_rfl) (St.sb E) ?_
  have hSw := St.sb E
  generalize hA : Act.mk _ _ = a
  have ha : Fr 122 a [(1, .pointer (some ⟨w2.heap.size, 0, none⟩)), (2, .pointer (some ⟨(w2.heap.size + 1), 0, none⟩)), (3, .pointer (some ⟨w3.heap.size, 0, none⟩)), (4, .pointer (some ⟨(w3.heap.size + 1), 0, none⟩))] := by rw [← hA]; exact ⟨rfl, rfl, by intro q hq; simp at hq; rcases hq with rfl | rfl | rfl | rfl <;> rfl⟩
  clear hA
  refine line_still awR 0 0 [] 13 (.agg #[(.bool (ngB x1)), (.slice A1 n1 c1), (.int .i64 (s1 : Int))]) [(1, .pointer (some ⟨w2.heap.size, 0, none⟩)), (2, .pointer (some ⟨(w2.heap.size + 1), 0, none⟩)), (3, .pointer (some ⟨w3.heap.size, 0, none⟩)), (4, .pointer (some ⟨(w3.heap.size + 1), 0, none⟩))] rfl (by decide) (by decide) (by decide) ha (fun o ho hg => y_of (wanted_none hg) (fun w hS => e_load ho (ha.ev (i := 1) (v := .pointer (some ⟨w2.heap.size, 0, none⟩)) (by simp)) (hS.at_ (g := w2.heap.size) (x0 := (.bool (ngB x1))) (x1 := (.slice A1 n1 c1)) (x2 := (.int .i64 (s1 : Int))) (by simp)))) (by simp) hSw ?_; intro a ha
  refine line_still awR 1 1 [] 14 (.agg #[(.bool (ngB x2)), (.slice A2 n2 c2), (.int .i64 (s2 : Int))]) [(13, .agg #[(.bool (ngB x1)), (.slice A1 n1 c1), (.int .i64 (s1 : Int))]), (1, .pointer (some ⟨w2.heap.size, 0, none⟩)), (2, .pointer (some ⟨(w2.heap.size + 1), 0, none⟩)), (3, .pointer (some ⟨w3.heap.size, 0, none⟩)), (4, .pointer (some ⟨(w3.heap.size + 1), 0, none⟩))] rfl (by decide) (by decide) (by decide) ha (fun o ho hg => y_of (wanted_none hg) (fun w hS => e_load ho (ha.ev (i := 2) (v := .pointer (some ⟨(w2.heap.size + 1), 0, none⟩)) (by simp)) (hS.at_ (g := (w2.heap.size + 1)) (x0 := (.bool (ngB x2))) (x1 := (.slice A2 n2 c2)) (x2 := (.int .i64 (s2 : Int))) (by simp)))) (by simp) hSw ?_; intro a ha
  refine line_call awR 2 2 [] 15 (args := #[.agg #[(.bool (ngB x1)), (.slice A1 n1 c1), (.int .i64 (s1 : Int))], .agg #[(.bool (ngB x2)), (.slice A2 n2 c2), (.int .i64 (s2 : Int))]]) [(1, .pointer (some ⟨w2.heap.size, 0, none⟩)), (2, .pointer (some ⟨(w2.heap.size + 1), 0, none⟩)), (3, .pointer (some ⟨w3.heap.size, 0, none⟩)), (4, .pointer (some ⟨(w3.heap.size + 1), 0, none⟩))] rfl (by decide) (by decide) (by decide) ha (fun o ho hg => ⟨(wanted_none hg), e_call (by kernel_rfl) ho rfl (by have q0 := ha.ev (i := 13) (v := .agg #[(.bool (ngB x1)), (.slice A1 n1 c1), (.int .i64 (s1 : Int))]) (by simp); have q1 := ha.ev (i := 14) (v := .agg #[(.bool (ngB x2)), (.slice A2 n2 c2), (.int .i64 (s2 : Int))]) (by simp); simp only [List.map_toArray, List.map_cons, List.map_nil, ev_const, q0, q1])⟩) (by simp) ?_
  refine (add_is5 (i := x1) (s := s1) (j := x2) (t := s2) (St.got E (A := A1) (n := n1) (c := c1) (a := (x1).natAbs) (by simp)) (St.got E (A := A2) (n := n2) (c := c2) (a := (x2).natAbs) (by simp)) (by omega) (by omega) (by omega) (by omega) F8.out F9.out).mono ?_; rintro e w4 ⟨A4, n4, c4, rfl, h, hb⟩
  have b4 : n4 ≤ 1 := len_le h B5.out
  replace E := Lib.hid (St.push E.out hb h)
  clear h hb
  have hSw := St.sb E; refine ⟨_, rfl, hSw, ?_⟩; intro a ha
  refine line_call awR 3 3 [] 16 (args := #[.int .i64 (-100), .int .i64 2]) [(15, .agg #[.bool (ngB x5), .slice A4 n4 c4, .int .i64 (s5 : Int)]), (1, .pointer (some ⟨w2.heap.size, 0, none⟩)), (2, .pointer (some ⟨(w2.heap.size + 1), 0, none⟩)), (3, .pointer (some ⟨w3.heap.size, 0, none⟩)), (4, .pointer (some ⟨(w3.heap.size + 1), 0, none⟩))] rfl (by decide) (by decide) (by decide) ha (fun o ho hg => ⟨(wanted_none hg), e_call (by kernel_rfl) ho rfl (by simp only [List.map_toArray, List.map_cons, List.map_nil, ev_const])⟩) (by simp) ?_
  refine (mk_is5 (i := x6) (s := s6) _ F10.out F11.out M6.out (by omega)).mono ?_; rintro e w5 ⟨A5, n5, c5, rfl, h, hb⟩
  have b5 : n5 ≤ 1 := len_le h B6.out
  replace E := Lib.hid (St.push E.out hb h)
  clear h hb
  have hSw := St.sb E; refine ⟨_, rfl, hSw, ?_⟩; intro a ha
  refine line_call awR 4 4 [] 17 (args := #[.agg #[.bool (ngB x5), .slice A4 n4 c4, .int .i64 (s5 : Int)], .agg #[.bool (ngB x6), .slice A5 n5 c5, .int .i64 (s6 : Int)]]) [(1, .pointer (some ⟨w2.heap.size, 0, none⟩)), (2, .pointer (some ⟨(w2.heap.size + 1), 0, none⟩)), (3, .pointer (some ⟨w3.heap.size, 0, none⟩)), (4, .pointer (some ⟨(w3.heap.size + 1), 0, none⟩))] rfl (by decide) (by decide) (by decide) ha (fun o ho hg => ⟨(wanted_none hg), e_call (by kernel_rfl) ho rfl (by have q0 := ha.ev (i := 15) (v := .agg #[.bool (ngB x5), .slice A4 n4 c4, .int .i64 (s5 : Int)]) (by simp); have q1 := ha.ev (i := 16) (v := .agg #[.bool (ngB x6), .slice A5 n5 c5, .int .i64 (s6 : Int)]) (by simp); simp only [List.map_toArray, List.map_cons, List.map_nil, ev_const, q0, q1])⟩) (by simp) ?_
  refine (alike_is5 (i := x5) (j := x6) (s := s5) (t := s6) (St.got E (A := A4) (n := n4) (c := c4) (a := (x5).natAbs) (by simp)) (St.got E (A := A5) (n := n5) (c := c5) (a := (x6).natAbs) (by simp)) F12.out).mono ?_; rintro e w6 ⟨rfl, hb⟩
  replace E := Lib.hid (St.step E.out hb)
  clear hb
  replace E : Hid (St w w6 [(A3, n3, c3, (x3).natAbs), (A3', n3', c3', (x4).natAbs), (A2, n2, c2, (x2).natAbs), (A1, n1, c1, (x1).natAbs)] [((w3.heap.size + 1), (.bool (ngB x4)), (.slice A3' n3' c3'), (.int .i64 (s3 : Int))), (w3.heap.size, (.bool (ngB x3)), (.slice A3 n3 c3), (.int .i64 (s3 : Int))), ((w2.heap.size + 1), (.bool (ngB x2)), (.slice A2 n2 c2), (.int .i64 (s2 : Int))), (w2.heap.size, (.bool (ngB x1)), (.slice A1 n1 c1), (.int .i64 (s1 : Int)))]) := Lib.hid ((E.out).sub (by simp) (by simp))
  have hSw := St.sb E; refine ⟨_, rfl, hSw, ?_⟩; intro a ha
  refine line_still awR 5 5 [] 18 (.bool true) [(1, .pointer (some ⟨w2.heap.size, 0, none⟩)), (2, .pointer (some ⟨(w2.heap.size + 1), 0, none⟩)), (3, .pointer (some ⟨w3.heap.size, 0, none⟩)), (4, .pointer (some ⟨(w3.heap.size + 1), 0, none⟩))] rfl (by decide) (by decide) (by decide) ha (fun o ho hg => y_of (wanted_none hg) (fun w hS => e_move (.inl ho) (ha.ev (i := 17) (v := .bool true) (by simp)))) (by simp) hSw ?_; intro a ha
  refine line_still awR 6 6 [] 19 (.agg #[(.bool (ngB x1)), (.slice A1 n1 c1), (.int .i64 (s1 : Int))]) [(18, .bool true), (1, .pointer (some ⟨w2.heap.size, 0, none⟩)), (2, .pointer (some ⟨(w2.heap.size + 1), 0, none⟩)), (3, .pointer (some ⟨w3.heap.size, 0, none⟩)), (4, .pointer (some ⟨(w3.heap.size + 1), 0, none⟩))] rfl (by decide) (by decide) (by decide) ha (fun o ho hg => y_of (awR.wanted hg rfl ha (d := 18) (by simp)) (fun w hS => e_load ho (ha.ev (i := 1) (v := .pointer (some ⟨w2.heap.size, 0, none⟩)) (by simp)) (hS.at_ (g := w2.heap.size) (x0 := (.bool (ngB x1))) (x1 := (.slice A1 n1 c1)) (x2 := (.int .i64 (s1 : Int))) (by simp)))) (by simp) hSw ?_; intro a ha
  refine line_still awR 7 7 [] 20 (.agg #[(.bool (ngB x2)), (.slice A2 n2 c2), (.int .i64 (s2 : Int))]) [(19, .agg #[(.bool (ngB x1)), (.slice A1 n1 c1), (.int .i64 (s1 : Int))]), (18, .bool true), (1, .pointer (some ⟨w2.heap.size, 0, none⟩)), (2, .pointer (some ⟨(w2.heap.size + 1), 0, none⟩)), (3, .pointer (some ⟨w3.heap.size, 0, none⟩)), (4, .pointer (some ⟨(w3.heap.size + 1), 0, none⟩))] rfl (by decide) (by decide) (by decide) ha (fun o ho hg => y_of (awR.wanted hg rfl ha (d := 18) (by simp)) (fun w hS => e_load ho (ha.ev (i := 2) (v := .pointer (some ⟨(w2.heap.size + 1), 0, none⟩)) (by simp)) (hS.at_ (g := (w2.heap.size + 1)) (x0 := (.bool (ngB x2))) (x1 := (.slice A2 n2 c2)) (x2 := (.int .i64 (s2 : Int))) (by simp)))) (by simp) hSw ?_; intro a ha
  refine line_call awR 8 8 [] 21 (args := #[.agg #[(.bool (ngB x1)), (.slice A1 n1 c1), (.int .i64 (s1 : Int))], .agg #[(.bool (ngB x2)), (.slice A2 n2 c2), (.int .i64 (s2 : Int))]]) [(18, .bool true), (1, .pointer (some ⟨w2.heap.size, 0, none⟩)), (2, .pointer (some ⟨(w2.heap.size + 1), 0, none⟩)), (3, .pointer (some ⟨w3.heap.size, 0, none⟩)), (4, .pointer (some ⟨(w3.heap.size + 1), 0, none⟩))] rfl (by decide) (by decide) (by decide) ha (fun o ho hg => ⟨(awR.wanted hg rfl ha (d := 18) (by simp)), e_call (by kernel_rfl) ho rfl (by have q0 := ha.ev (i := 19) (v := .agg #[(.bool (ngB x1)), (.slice A1 n1 c1), (.int .i64 (s1 : Int))]) (by simp); have q1 := ha.ev (i := 20) (v := .agg #[(.bool (ngB x2)), (.slice A2 n2 c2), (.int .i64 (s2 : Int))]) (by simp); simp only [List.map_toArray, List.map_cons, List.map_nil, ev_const, q0, q1])⟩) (by simp) ?_
  refine (sub_is5 (i := x1) (s := s1) (j := x2) (t := s2) (St.got E (A := A1) (n := n1) (c := c1) (a := (x1).natAbs) (by simp)) (St.got E (A := A2) (n := n2) (c := c2) (a := (x2).natAbs) (by simp)) (by omega) (by omega) (by omega) (by omega) F13.out F14.out).mono ?_; rintro e w7 ⟨A7, n7, c7, rfl, h, hb⟩
  have b7 : n7 ≤ 1 := len_le h B7.out
  replace E := Lib.hid (St.push E.out hb h)
  clear h hb
  have hSw := St.sb E; refine ⟨_, rfl, hSw, ?_⟩; intro a ha
  refine line_call awR 9 9 [] 22 (args := #[.int .i64 400, .int .i64 2]) [(21, .agg #[.bool (ngB x7), .slice A7 n7 c7, .int .i64 (s7 : Int)]), (18, .bool true), (1, .pointer (some ⟨w2.heap.size, 0, none⟩)), (2, .pointer (some ⟨(w2.heap.size + 1), 0, none⟩)), (3, .pointer (some ⟨w3.heap.size, 0, none⟩)), (4, .pointer (some ⟨(w3.heap.size + 1), 0, none⟩))] rfl (by decide) (by decide) (by decide) ha (fun o ho hg => ⟨(awR.wanted hg rfl ha (d := 18) (by simp)), e_call (by kernel_rfl) ho rfl (by simp only [List.map_toArray, List.map_cons, List.map_nil, ev_const])⟩) (by simp) ?_
  refine (mk_is5 (i := x8) (s := s8) _ F15.out F16.out M8.out (by omega)).mono ?_; rintro e w8 ⟨A8, n8, c8, rfl, h, hb⟩
  have b8 : n8 ≤ 1 := len_le h B8.out
  replace E := Lib.hid (St.push E.out hb h)
  clear h hb
  have hSw := St.sb E; refine ⟨_, rfl, hSw, ?_⟩; intro a ha
  refine line_call awR 10 10 [] 23 (args := #[.agg #[.bool (ngB x7), .slice A7 n7 c7, .int .i64 (s7 : Int)], .agg #[.bool (ngB x8), .slice A8 n8 c8, .int .i64 (s8 : Int)]]) [(18, .bool true), (1, .pointer (some ⟨w2.heap.size, 0, none⟩)), (2, .pointer (some ⟨(w2.heap.size + 1), 0, none⟩)), (3, .pointer (some ⟨w3.heap.size, 0, none⟩)), (4, .pointer (some ⟨(w3.heap.size + 1), 0, none⟩))] rfl (by decide) (by decide) (by decide) ha (fun o ho hg => ⟨(awR.wanted hg rfl ha (d := 18) (by simp)), e_call (by kernel_rfl) ho rfl (by have q0 := ha.ev (i := 21) (v := .agg #[.bool (ngB x7), .slice A7 n7 c7, .int .i64 (s7 : Int)]) (by simp); have q1 := ha.ev (i := 22) (v := .agg #[.bool (ngB x8), .slice A8 n8 c8, .int .i64 (s8 : Int)]) (by simp); simp only [List.map_toArray, List.map_cons, List.map_nil, ev_const, q0, q1])⟩) (by simp) ?_
  refine (alike_is5 (i := x7) (j := x8) (s := s7) (t := s8) (St.got E (A := A7) (n := n7) (c := c7) (a := (x7).natAbs) (by simp)) (St.got E (A := A8) (n := n8) (c := c8) (a := (x8).natAbs) (by simp)) F17.out).mono ?_; rintro e w9 ⟨rfl, hb⟩
  replace E := Lib.hid (St.step E.out hb)
  clear hb
  replace E : Hid (St w w9 [(A3, n3, c3, (x3).natAbs), (A3', n3', c3', (x4).natAbs), (A2, n2, c2, (x2).natAbs), (A1, n1, c1, (x1).natAbs)] [((w3.heap.size + 1), (.bool (ngB x4)), (.slice A3' n3' c3'), (.int .i64 (s3 : Int))), (w3.heap.size, (.bool (ngB x3)), (.slice A3 n3 c3), (.int .i64 (s3 : Int))), ((w2.heap.size + 1), (.bool (ngB x2)), (.slice A2 n2 c2), (.int .i64 (s2 : Int))), (w2.heap.size, (.bool (ngB x1)), (.slice A1 n1 c1), (.int .i64 (s1 : Int)))]) := Lib.hid ((E.out).sub (by simp) (by simp))
  have hSw := St.sb E; refine ⟨_, rfl, hSw, ?_⟩; intro a ha
  refine line_still awR 11 11 [] 24 (.bool true) [(1, .pointer (some ⟨w2.heap.size, 0, none⟩)), (2, .pointer (some ⟨(w2.heap.size + 1), 0, none⟩)), (3, .pointer (some ⟨w3.heap.size, 0, none⟩)), (4, .pointer (some ⟨(w3.heap.size + 1), 0, none⟩))] rfl (by decide) (by decide) (by decide) ha (fun o ho hg => y_of (wanted_none hg) (fun w hS => e_pick ho (ha.ev (i := 18) (v := .bool true) (by simp)) (ha.ev (i := 23) (v := .bool true) (by simp)) rfl)) (by simp) hSw ?_; intro a ha
  refine line_still awR 12 12 [] 25 (.bool true) [(1, .pointer (some ⟨w2.heap.size, 0, none⟩)), (2, .pointer (some ⟨(w2.heap.size + 1), 0, none⟩)), (3, .pointer (some ⟨w3.heap.size, 0, none⟩)), (4, .pointer (some ⟨(w3.heap.size + 1), 0, none⟩))] rfl (by decide) (by decide) (by decide) ha (fun o ho hg => y_of (wanted_none hg) (fun w hS => e_move (.inl ho) (ha.ev (i := 24) (v := .bool true) (by simp)))) (by simp) hSw ?_; intro a ha
  refine line_still awR 13 13 [] 26 (.agg #[(.bool (ngB x1)), (.slice A1 n1 c1), (.int .i64 (s1 : Int))]) [(25, .bool true), (1, .pointer (some ⟨w2.heap.size, 0, none⟩)), (2, .pointer (some ⟨(w2.heap.size + 1), 0, none⟩)), (3, .pointer (some ⟨w3.heap.size, 0, none⟩)), (4, .pointer (some ⟨(w3.heap.size + 1), 0, none⟩))] rfl (by decide) (by decide) (by decide) ha (fun o ho hg => y_of (awR.wanted hg rfl ha (d := 25) (by simp)) (fun w hS => e_load ho (ha.ev (i := 1) (v := .pointer (some ⟨w2.heap.size, 0, none⟩)) (by simp)) (hS.at_ (g := w2.heap.size) (x0 := (.bool (ngB x1))) (x1 := (.slice A1 n1 c1)) (x2 := (.int .i64 (s1 : Int))) (by simp)))) (by simp) hSw ?_; intro a ha
  refine line_still awR 14 14 [] 27 (.agg #[(.bool (ngB x2)), (.slice A2 n2 c2), (.int .i64 (s2 : Int))]) [(26, .agg #[(.bool (ngB x1)), (.slice A1 n1 c1), (.int .i64 (s1 : Int))]), (25, .bool true), (1, .pointer (some ⟨w2.heap.size, 0, none⟩)), (2, .pointer (some ⟨(w2.heap.size + 1), 0, none⟩)), (3, .pointer (some ⟨w3.heap.size, 0, none⟩)), (4, .pointer (some ⟨(w3.heap.size + 1), 0, none⟩))] rfl (by decide) (by decide) (by decide) ha (fun o ho hg => y_of (awR.wanted hg rfl ha (d := 25) (by simp)) (fun w hS => e_load ho (ha.ev (i := 2) (v := .pointer (some ⟨(w2.heap.size + 1), 0, none⟩)) (by simp)) (hS.at_ (g := (w2.heap.size + 1)) (x0 := (.bool (ngB x2))) (x1 := (.slice A2 n2 c2)) (x2 := (.int .i64 (s2 : Int))) (by simp)))) (by simp) hSw ?_; intro a ha
  refine line_call awR 15 15 [] 28 (args := #[.agg #[(.bool (ngB x1)), (.slice A1 n1 c1), (.int .i64 (s1 : Int))], .agg #[(.bool (ngB x2)), (.slice A2 n2 c2), (.int .i64 (s2 : Int))]]) [(25, .bool true), (1, .pointer (some ⟨w2.heap.size, 0, none⟩)), (2, .pointer (some ⟨(w2.heap.size + 1), 0, none⟩)), (3, .pointer (some ⟨w3.heap.size, 0, none⟩)), (4, .pointer (some ⟨(w3.heap.size + 1), 0, none⟩))] rfl (by decide) (by decide) (by decide) ha (fun o ho hg => ⟨(awR.wanted hg rfl ha (d := 25) (by simp)), e_call (by kernel_rfl) ho rfl (by have q0 := ha.ev (i := 26) (v := .agg #[(.bool (ngB x1)), (.slice A1 n1 c1), (.int .i64 (s1 : Int))]) (by simp); have q1 := ha.ev (i := 27) (v := .agg #[(.bool (ngB x2)), (.slice A2 n2 c2), (.int .i64 (s2 : Int))]) (by simp); simp only [List.map_toArray, List.map_cons, List.map_nil, ev_const, q0, q1])⟩) (by simp) ?_
  refine (mul_is5 (i := x1) (s := s1) (j := x2) (t := s2) (St.got E (A := A1) (n := n1) (c := c1) (a := (x1).natAbs) (by simp)) (St.got E (A := A2) (n := n2) (c := c2) (a := (x2).natAbs) (by simp)) (by omega) (by omega) (by omega) (by omega) F18.out F19.out).mono ?_; rintro e w10 ⟨A10, n10, c10, rfl, h, hb⟩
  have b10 : n10 ≤ 1 := len_le h B9.out
  replace E := Lib.hid (St.push E.out hb h)
  clear h hb
  have hSw := St.sb E; refine ⟨_, rfl, hSw, ?_⟩; intro a ha
  refine line_call awR 16 16 [] 29 (args := #[.int .i64 (-3750), .int .i64 3]) [(28, .agg #[.bool (ngB x9), .slice A10 n10 c10, .int .i64 (s9 : Int)]), (25, .bool true), (1, .pointer (some ⟨w2.heap.size, 0, none⟩)), (2, .pointer (some ⟨(w2.heap.size + 1), 0, none⟩)), (3, .pointer (some ⟨w3.heap.size, 0, none⟩)), (4, .pointer (some ⟨(w3.heap.size + 1), 0, none⟩))] rfl (by decide) (by decide) (by decide) ha (fun o ho hg => ⟨(awR.wanted hg rfl ha (d := 25) (by simp)), e_call (by kernel_rfl) ho rfl (by simp only [List.map_toArray, List.map_cons, List.map_nil, ev_const])⟩) (by simp) ?_
  refine (mk_is5 (i := x10) (s := s10) _ F20.out F21.out M10.out (by omega)).mono ?_; rintro e w11 ⟨A11, n11, c11, rfl, h, hb⟩
  have b11 : n11 ≤ 1 := len_le h B10.out
  replace E := Lib.hid (St.push E.out hb h)
  clear h hb
  have hSw := St.sb E; refine ⟨_, rfl, hSw, ?_⟩; intro a ha
  refine line_call awR 17 17 [] 30 (args := #[.agg #[.bool (ngB x9), .slice A10 n10 c10, .int .i64 (s9 : Int)], .agg #[.bool (ngB x10), .slice A11 n11 c11, .int .i64 (s10 : Int)]]) [(25, .bool true), (1, .pointer (some ⟨w2.heap.size, 0, none⟩)), (2, .pointer (some ⟨(w2.heap.size + 1), 0, none⟩)), (3, .pointer (some ⟨w3.heap.size, 0, none⟩)), (4, .pointer (some ⟨(w3.heap.size + 1), 0, none⟩))] rfl (by decide) (by decide) (by decide) ha (fun o ho hg => ⟨(awR.wanted hg rfl ha (d := 25) (by simp)), e_call (by kernel_rfl) ho rfl (by have q0 := ha.ev (i := 28) (v := .agg #[.bool (ngB x9), .slice A10 n10 c10, .int .i64 (s9 : Int)]) (by simp); have q1 := ha.ev (i := 29) (v := .agg #[.bool (ngB x10), .slice A11 n11 c11, .int .i64 (s10 : Int)]) (by simp); simp only [List.map_toArray, List.map_cons, List.map_nil, ev_const, q0, q1])⟩) (by simp) ?_
  refine (alike_is5 (i := x9) (j := x10) (s := s9) (t := s10) (St.got E (A := A10) (n := n10) (c := c10) (a := (x9).natAbs) (by simp)) (St.got E (A := A11) (n := n11) (c := c11) (a := (x10).natAbs) (by simp)) F22.out).mono ?_; rintro e w12 ⟨rfl, hb⟩
  replace E := Lib.hid (St.step E.out hb)
  clear hb
  replace E : Hid (St w w12 [(A3, n3, c3, (x3).natAbs), (A3', n3', c3', (x4).natAbs), (A2, n2, c2, (x2).natAbs), (A1, n1, c1, (x1).natAbs)] [((w3.heap.size + 1), (.bool (ngB x4)), (.slice A3' n3' c3'), (.int .i64 (s3 : Int))), (w3.heap.size, (.bool (ngB x3)), (.slice A3 n3 c3), (.int .i64 (s3 : Int))), ((w2.heap.size + 1), (.bool (ngB x2)), (.slice A2 n2 c2), (.int .i64 (s2 : Int))), (w2.heap.size, (.bool (ngB x1)), (.slice A1 n1 c1), (.int .i64 (s1 : Int)))]) := Lib.hid ((E.out).sub (by simp) (by simp))
  have hSw := St.sb E; refine ⟨_, rfl, hSw, ?_⟩; intro a ha
  refine line_still awR 18 18 [] 31 (.bool true) [(1, .pointer (some ⟨w2.heap.size, 0, none⟩)), (2, .pointer (some ⟨(w2.heap.size + 1), 0, none⟩)), (3, .pointer (some ⟨w3.heap.size, 0, none⟩)), (4, .pointer (some ⟨(w3.heap.size + 1), 0, none⟩))] rfl (by decide) (by decide) (by decide) ha (fun o ho hg => y_of (wanted_none hg) (fun w hS => e_pick ho (ha.ev (i := 25) (v := .bool true) (by simp)) (ha.ev (i := 30) (v := .bool true) (by simp)) rfl)) (by simp) hSw ?_; intro a ha
  refine line_still awR 19 19 [] 32 (.bool true) [(1, .pointer (some ⟨w2.heap.size, 0, none⟩)), (2, .pointer (some ⟨(w2.heap.size + 1), 0, none⟩)), (3, .pointer (some ⟨w3.heap.size, 0, none⟩)), (4, .pointer (some ⟨(w3.heap.size + 1), 0, none⟩))] rfl (by decide) (by decide) (by decide) ha (fun o ho hg => y_of (wanted_none hg) (fun w hS => e_move (.inl ho) (ha.ev (i := 31) (v := .bool true) (by simp)))) (by simp) hSw ?_; intro a ha
  refine line_still awR 20 20 [] 33 (.agg #[(.bool (ngB x1)), (.slice A1 n1 c1), (.int .i64 (s1 : Int))]) [(32, .bool true), (1, .pointer (some ⟨w2.heap.size, 0, none⟩)), (2, .pointer (some ⟨(w2.heap.size + 1), 0, none⟩)), (3, .pointer (some ⟨w3.heap.size, 0, none⟩)), (4, .pointer (some ⟨(w3.heap.size + 1), 0, none⟩))] rfl (by decide) (by decide) (by decide) ha (fun o ho hg => y_of (awR.wanted hg rfl ha (d := 32) (by simp)) (fun w hS => e_load ho (ha.ev (i := 1) (v := .pointer (some ⟨w2.heap.size, 0, none⟩)) (by simp)) (hS.at_ (g := w2.heap.size) (x0 := (.bool (ngB x1))) (x1 := (.slice A1 n1 c1)) (x2 := (.int .i64 (s1 : Int))) (by simp)))) (by simp) hSw ?_; intro a ha
  refine line_still awR 21 21 [] 34 (.agg #[(.bool (ngB x2)), (.slice A2 n2 c2), (.int .i64 (s2 : Int))]) [(33, .agg #[(.bool (ngB x1)), (.slice A1 n1 c1), (.int .i64 (s1 : Int))]), (32, .bool true), (1, .pointer (some ⟨w2.heap.size, 0, none⟩)), (2, .pointer (some ⟨(w2.heap.size + 1), 0, none⟩)), (3, .pointer (some ⟨w3.heap.size, 0, none⟩)), (4, .pointer (some ⟨(w3.heap.size + 1), 0, none⟩))] rfl (by decide) (by decide) (by decide) ha (fun o ho hg => y_of (awR.wanted hg rfl ha (d := 32) (by simp)) (fun w hS => e_load ho (ha.ev (i := 2) (v := .pointer (some ⟨(w2.heap.size + 1), 0, none⟩)) (by simp)) (hS.at_ (g := (w2.heap.size + 1)) (x0 := (.bool (ngB x2))) (x1 := (.slice A2 n2 c2)) (x2 := (.int .i64 (s2 : Int))) (by simp)))) (by simp) hSw ?_; intro a ha
  refine line_call awR 22 22 [] 35 (args := #[.agg #[(.bool (ngB x1)), (.slice A1 n1 c1), (.int .i64 (s1 : Int))], .agg #[(.bool (ngB x2)), (.slice A2 n2 c2), (.int .i64 (s2 : Int))]]) [(32, .bool true), (1, .pointer (some ⟨w2.heap.size, 0, none⟩)), (2, .pointer (some ⟨(w2.heap.size + 1), 0, none⟩)), (3, .pointer (some ⟨w3.heap.size, 0, none⟩)), (4, .pointer (some ⟨(w3.heap.size + 1), 0, none⟩))] rfl (by decide) (by decide) (by decide) ha (fun o ho hg => ⟨(awR.wanted hg rfl ha (d := 32) (by simp)), e_call (by kernel_rfl) ho rfl (by have q0 := ha.ev (i := 33) (v := .agg #[(.bool (ngB x1)), (.slice A1 n1 c1), (.int .i64 (s1 : Int))]) (by simp); have q1 := ha.ev (i := 34) (v := .agg #[(.bool (ngB x2)), (.slice A2 n2 c2), (.int .i64 (s2 : Int))]) (by simp); simp only [List.map_toArray, List.map_cons, List.map_nil, ev_const, q0, q1])⟩) (by simp) ?_
  refine (cmp5_is (i := x1) (s := s1) (j := x2) (t := s2) (St.got E (A := A1) (n := n1) (c := c1) (a := (x1).natAbs) (by simp)) (St.got E (A := A2) (n := n2) (c := c2) (a := (x2).natAbs) (by simp)) (by omega) (by omega) (by omega) (by omega) F23.out).mono ?_; rintro e w13 ⟨rfl, hb⟩
  replace E := Lib.hid (St.step E.out hb)
  clear hb
  have hSw := St.sb E; refine ⟨_, rfl, hSw, ?_⟩; intro a ha
  refine line_still awR 23 23 [] 36 (.bool true) [(32, .bool true), (1, .pointer (some ⟨w2.heap.size, 0, none⟩)), (2, .pointer (some ⟨(w2.heap.size + 1), 0, none⟩)), (3, .pointer (some ⟨w3.heap.size, 0, none⟩)), (4, .pointer (some ⟨(w3.heap.size + 1), 0, none⟩))] rfl (by decide) (by decide) (by decide) ha (fun o ho hg => y_of (awR.wanted hg rfl ha (d := 32) (by simp)) (fun w hS => e_eql ho (ha.ev (i := 35) (v := .int .i64 (1)) (by simp)) rfl)) (by simp) hSw ?_; intro a ha
  refine line_still awR 24 24 [] 37 (.bool true) [(1, .pointer (some ⟨w2.heap.size, 0, none⟩)), (2, .pointer (some ⟨(w2.heap.size + 1), 0, none⟩)), (3, .pointer (some ⟨w3.heap.size, 0, none⟩)), (4, .pointer (some ⟨(w3.heap.size + 1), 0, none⟩))] rfl (by decide) (by decide) (by decide) ha (fun o ho hg => y_of (wanted_none hg) (fun w hS => e_pick ho (ha.ev (i := 32) (v := .bool true) (by simp)) (ha.ev (i := 36) (v := .bool true) (by simp)) rfl)) (by simp) hSw ?_; intro a ha
  refine line_still awR 25 25 [] 38 (.bool true) [(1, .pointer (some ⟨w2.heap.size, 0, none⟩)), (2, .pointer (some ⟨(w2.heap.size + 1), 0, none⟩)), (3, .pointer (some ⟨w3.heap.size, 0, none⟩)), (4, .pointer (some ⟨(w3.heap.size + 1), 0, none⟩))] rfl (by decide) (by decide) (by decide) ha (fun o ho hg => y_of (wanted_none hg) (fun w hS => e_move (.inl ho) (ha.ev (i := 37) (v := .bool true) (by simp)))) (by simp) hSw ?_; intro a ha
  refine line_still awR 26 26 [] 39 (.agg #[(.bool (ngB x2)), (.slice A2 n2 c2), (.int .i64 (s2 : Int))]) [(38, .bool true), (1, .pointer (some ⟨w2.heap.size, 0, none⟩)), (2, .pointer (some ⟨(w2.heap.size + 1), 0, none⟩)), (3, .pointer (some ⟨w3.heap.size, 0, none⟩)), (4, .pointer (some ⟨(w3.heap.size + 1), 0, none⟩))] rfl (by decide) (by decide) (by decide) ha (fun o ho hg => y_of (awR.wanted hg rfl ha (d := 38) (by simp)) (fun w hS => e_load ho (ha.ev (i := 2) (v := .pointer (some ⟨(w2.heap.size + 1), 0, none⟩)) (by simp)) (hS.at_ (g := (w2.heap.size + 1)) (x0 := (.bool (ngB x2))) (x1 := (.slice A2 n2 c2)) (x2 := (.int .i64 (s2 : Int))) (by simp)))) (by simp) hSw ?_; intro a ha
  refine line_still awR 27 27 [] 40 (.agg #[(.bool (ngB x1)), (.slice A1 n1 c1), (.int .i64 (s1 : Int))]) [(39, .agg #[(.bool (ngB x2)), (.slice A2 n2 c2), (.int .i64 (s2 : Int))]), (38, .bool true), (1, .pointer (some ⟨w2.heap.size, 0, none⟩)), (2, .pointer (some ⟨(w2.heap.size + 1), 0, none⟩)), (3, .pointer (some ⟨w3.heap.size, 0, none⟩)), (4, .pointer (some ⟨(w3.heap.size + 1), 0, none⟩))] rfl (by decide) (by decide) (by decide) ha (fun o ho hg => y_of (awR.wanted hg rfl ha (d := 38) (by simp)) (fun w hS => e_load ho (ha.ev (i := 1) (v := .pointer (some ⟨w2.heap.size, 0, none⟩)) (by simp)) (hS.at_ (g := w2.heap.size) (x0 := (.bool (ngB x1))) (x1 := (.slice A1 n1 c1)) (x2 := (.int .i64 (s1 : Int))) (by simp)))) (by simp) hSw ?_; intro a ha
  refine line_call awR 28 28 [] 41 (args := #[.agg #[(.bool (ngB x2)), (.slice A2 n2 c2), (.int .i64 (s2 : Int))], .agg #[(.bool (ngB x1)), (.slice A1 n1 c1), (.int .i64 (s1 : Int))]]) [(38, .bool true), (1, .pointer (some ⟨w2.heap.size, 0, none⟩)), (2, .pointer (some ⟨(w2.heap.size + 1), 0, none⟩)), (3, .pointer (some ⟨w3.heap.size, 0, none⟩)), (4, .pointer (some ⟨(w3.heap.size + 1), 0, none⟩))] rfl (by decide) (by decide) (by decide) ha (fun o ho hg => ⟨(awR.wanted hg rfl ha (d := 38) (by simp)), e_call (by kernel_rfl) ho rfl (by have q0 := ha.ev (i := 39) (v := .agg #[(.bool (ngB x2)), (.slice A2 n2 c2), (.int .i64 (s2 : Int))]) (by simp); have q1 := ha.ev (i := 40) (v := .agg #[(.bool (ngB x1)), (.slice A1 n1 c1), (.int .i64 (s1 : Int))]) (by simp); simp only [List.map_toArray, List.map_cons, List.map_nil, ev_const, q0, q1])⟩) (by simp) ?_
  refine (cmp5_is (i := x2) (s := s2) (j := x1) (t := s1) (St.got E (A := A2) (n := n2) (c := c2) (a := (x2).natAbs) (by simp)) (St.got E (A := A1) (n := n1) (c := c1) (a := (x1).natAbs) (by simp)) (by omega) (by omega) (by omega) (by omega) F24.out).mono ?_; rintro e w14 ⟨rfl, hb⟩
  replace E := Lib.hid (St.step E.out hb)
  clear hb
  have hSw := St.sb E; refine ⟨_, rfl, hSw, ?_⟩; intro a ha
  refine line_still awR 29 29 [] 42 (.bool true) [(38, .bool true), (1, .pointer (some ⟨w2.heap.size, 0, none⟩)), (2, .pointer (some ⟨(w2.heap.size + 1), 0, none⟩)), (3, .pointer (some ⟨w3.heap.size, 0, none⟩)), (4, .pointer (some ⟨(w3.heap.size + 1), 0, none⟩))] rfl (by decide) (by decide) (by decide) ha (fun o ho hg => y_of (awR.wanted hg rfl ha (d := 38) (by simp)) (fun w hS => e_eql ho (ha.ev (i := 41) (v := .int .i64 (-1)) (by simp)) rfl)) (by simp) hSw ?_; intro a ha
  refine line_still awR 30 30 [] 43 (.bool true) [(1, .pointer (some ⟨w2.heap.size, 0, none⟩)), (2, .pointer (some ⟨(w2.heap.size + 1), 0, none⟩)), (3, .pointer (some ⟨w3.heap.size, 0, none⟩)), (4, .pointer (some ⟨(w3.heap.size + 1), 0, none⟩))] rfl (by decide) (by decide) (by decide) ha (fun o ho hg => y_of (wanted_none hg) (fun w hS => e_pick ho (ha.ev (i := 38) (v := .bool true) (by simp)) (ha.ev (i := 42) (v := .bool true) (by simp)) rfl)) (by simp) hSw ?_; intro a ha
  refine line_still awR 31 31 [] 44 (.bool true) [(1, .pointer (some ⟨w2.heap.size, 0, none⟩)), (2, .pointer (some ⟨(w2.heap.size + 1), 0, none⟩)), (3, .pointer (some ⟨w3.heap.size, 0, none⟩)), (4, .pointer (some ⟨(w3.heap.size + 1), 0, none⟩))] rfl (by decide) (by decide) (by decide) ha (fun o ho hg => y_of (wanted_none hg) (fun w hS => e_move (.inl ho) (ha.ev (i := 43) (v := .bool true) (by simp)))) (by simp) hSw ?_; intro a ha
  refine line_still awR 32 32 [] 45 (.agg #[(.bool (ngB x1)), (.slice A1 n1 c1), (.int .i64 (s1 : Int))]) [(44, .bool true), (1, .pointer (some ⟨w2.heap.size, 0, none⟩)), (2, .pointer (some ⟨(w2.heap.size + 1), 0, none⟩)), (3, .pointer (some ⟨w3.heap.size, 0, none⟩)), (4, .pointer (some ⟨(w3.heap.size + 1), 0, none⟩))] rfl (by decide) (by decide) (by decide) ha (fun o ho hg => y_of (awR.wanted hg rfl ha (d := 44) (by simp)) (fun w hS => e_load ho (ha.ev (i := 1) (v := .pointer (some ⟨w2.heap.size, 0, none⟩)) (by simp)) (hS.at_ (g := w2.heap.size) (x0 := (.bool (ngB x1))) (x1 := (.slice A1 n1 c1)) (x2 := (.int .i64 (s1 : Int))) (by simp)))) (by simp) hSw ?_; intro a ha
  refine line_call awR 33 33 [] 46 (args := #[.int .i64 15, .int .i64 1]) [(45, .agg #[(.bool (ngB x1)), (.slice A1 n1 c1), (.int .i64 (s1 : Int))]), (44, .bool true), (1, .pointer (some ⟨w2.heap.size, 0, none⟩)), (2, .pointer (some ⟨(w2.heap.size + 1), 0, none⟩)), (3, .pointer (some ⟨w3.heap.size, 0, none⟩)), (4, .pointer (some ⟨(w3.heap.size + 1), 0, none⟩))] rfl (by decide) (by decide) (by decide) ha (fun o ho hg => ⟨(awR.wanted hg rfl ha (d := 44) (by simp)), e_call (by kernel_rfl) ho rfl (by simp only [List.map_toArray, List.map_cons, List.map_nil, ev_const])⟩) (by simp) ?_
  refine (mk_is5 (i := x11) (s := s11) _ F25.out F26.out M11.out (by omega)).mono ?_; rintro e w15 ⟨A15, n15, c15, rfl, h, hb⟩
  have b15 : n15 ≤ 1 := len_le h B11.out
  replace E := Lib.hid (St.push E.out hb h)
  clear h hb
  have hSw := St.sb E; refine ⟨_, rfl, hSw, ?_⟩; intro a ha
  refine line_call awR 34 34 [] 47 (args := #[.agg #[(.bool (ngB x1)), (.slice A1 n1 c1), (.int .i64 (s1 : Int))], .agg #[.bool (ngB x11), .slice A15 n15 c15, .int .i64 (s11 : Int)]]) [(44, .bool true), (1, .pointer (some ⟨w2.heap.size, 0, none⟩)), (2, .pointer (some ⟨(w2.heap.size + 1), 0, none⟩)), (3, .pointer (some ⟨w3.heap.size, 0, none⟩)), (4, .pointer (some ⟨(w3.heap.size + 1), 0, none⟩))] rfl (by decide) (by decide) (by decide) ha (fun o ho hg => ⟨(awR.wanted hg rfl ha (d := 44) (by simp)), e_call (by kernel_rfl) ho rfl (by have q0 := ha.ev (i := 45) (v := .agg #[(.bool (ngB x1)), (.slice A1 n1 c1), (.int .i64 (s1 : Int))]) (by simp); have q1 := ha.ev (i := 46) (v := .agg #[.bool (ngB x11), .slice A15 n15 c15, .int .i64 (s11 : Int)]) (by simp); simp only [List.map_toArray, List.map_cons, List.map_nil, ev_const, q0, q1])⟩) (by simp) ?_
  refine (same_is5 (i := x1) (s := s1) (j := x11) (t := s11) (St.got E (A := A1) (n := n1) (c := c1) (a := (x1).natAbs) (by simp)) (St.got E (A := A15) (n := n15) (c := c15) (a := (x11).natAbs) (by simp)) (by omega) (by omega) (by omega) (by omega) F27.out).mono ?_; rintro e w16 ⟨rfl, hb⟩
  replace E := Lib.hid (St.step E.out hb)
  clear hb
  replace E : Hid (St w w16 [(A3, n3, c3, (x3).natAbs), (A3', n3', c3', (x4).natAbs), (A2, n2, c2, (x2).natAbs), (A1, n1, c1, (x1).natAbs)] [((w3.heap.size + 1), (.bool (ngB x4)), (.slice A3' n3' c3'), (.int .i64 (s3 : Int))), (w3.heap.size, (.bool (ngB x3)), (.slice A3 n3 c3), (.int .i64 (s3 : Int))), ((w2.heap.size + 1), (.bool (ngB x2)), (.slice A2 n2 c2), (.int .i64 (s2 : Int))), (w2.heap.size, (.bool (ngB x1)), (.slice A1 n1 c1), (.int .i64 (s1 : Int)))]) := Lib.hid ((E.out).sub (by simp) (by simp))
  have hSw := St.sb E; refine ⟨_, rfl, hSw, ?_⟩; intro a ha
  refine line_still awR 35 35 [] 48 (.bool true) [(1, .pointer (some ⟨w2.heap.size, 0, none⟩)), (2, .pointer (some ⟨(w2.heap.size + 1), 0, none⟩)), (3, .pointer (some ⟨w3.heap.size, 0, none⟩)), (4, .pointer (some ⟨(w3.heap.size + 1), 0, none⟩))] rfl (by decide) (by decide) (by decide) ha (fun o ho hg => y_of (wanted_none hg) (fun w hS => e_pick ho (ha.ev (i := 44) (v := .bool true) (by simp)) (ha.ev (i := 47) (v := .bool true) (by simp)) rfl)) (by simp) hSw ?_; intro a ha
  refine line_still awR 36 36 [] 49 (.bool true) [(1, .pointer (some ⟨w2.heap.size, 0, none⟩)), (2, .pointer (some ⟨(w2.heap.size + 1), 0, none⟩)), (3, .pointer (some ⟨w3.heap.size, 0, none⟩)), (4, .pointer (some ⟨(w3.heap.size + 1), 0, none⟩))] rfl (by decide) (by decide) (by decide) ha (fun o ho hg => y_of (wanted_none hg) (fun w hS => e_move (.inl ho) (ha.ev (i := 48) (v := .bool true) (by simp)))) (by simp) hSw ?_; intro a ha
  refine line_still awR 37 37 [] 50 (.agg #[(.bool (ngB x1)), (.slice A1 n1 c1), (.int .i64 (s1 : Int))]) [(49, .bool true), (1, .pointer (some ⟨w2.heap.size, 0, none⟩)), (2, .pointer (some ⟨(w2.heap.size + 1), 0, none⟩)), (3, .pointer (some ⟨w3.heap.size, 0, none⟩)), (4, .pointer (some ⟨(w3.heap.size + 1), 0, none⟩))] rfl (by decide) (by decide) (by decide) ha (fun o ho hg => y_of (awR.wanted hg rfl ha (d := 49) (by simp)) (fun w hS => e_load ho (ha.ev (i := 1) (v := .pointer (some ⟨w2.heap.size, 0, none⟩)) (by simp)) (hS.at_ (g := w2.heap.size) (x0 := (.bool (ngB x1))) (x1 := (.slice A1 n1 c1)) (x2 := (.int .i64 (s1 : Int))) (by simp)))) (by simp) hSw ?_; intro a ha
  refine line_call awR 38 38 [] 51 (args := #[.int .i64 15, .int .i64 1]) [(50, .agg #[(.bool (ngB x1)), (.slice A1 n1 c1), (.int .i64 (s1 : Int))]), (49, .bool true), (1, .pointer (some ⟨w2.heap.size, 0, none⟩)), (2, .pointer (some ⟨(w2.heap.size + 1), 0, none⟩)), (3, .pointer (some ⟨w3.heap.size, 0, none⟩)), (4, .pointer (some ⟨(w3.heap.size + 1), 0, none⟩))] rfl (by decide) (by decide) (by decide) ha (fun o ho hg => ⟨(awR.wanted hg rfl ha (d := 49) (by simp)), e_call (by kernel_rfl) ho rfl (by simp only [List.map_toArray, List.map_cons, List.map_nil, ev_const])⟩) (by simp) ?_
  refine (mk_is5 (i := x12) (s := s12) _ F28.out F29.out M12.out (by omega)).mono ?_; rintro e w17 ⟨A17, n17, c17, rfl, h, hb⟩
  have b17 : n17 ≤ 1 := len_le h B12.out
  replace E := Lib.hid (St.push E.out hb h)
  clear h hb
  have hSw := St.sb E; refine ⟨_, rfl, hSw, ?_⟩; intro a ha
  refine line_call awR 39 39 [] 52 (args := #[.agg #[(.bool (ngB x1)), (.slice A1 n1 c1), (.int .i64 (s1 : Int))], .agg #[.bool (ngB x12), .slice A17 n17 c17, .int .i64 (s12 : Int)]]) [(49, .bool true), (1, .pointer (some ⟨w2.heap.size, 0, none⟩)), (2, .pointer (some ⟨(w2.heap.size + 1), 0, none⟩)), (3, .pointer (some ⟨w3.heap.size, 0, none⟩)), (4, .pointer (some ⟨(w3.heap.size + 1), 0, none⟩))] rfl (by decide) (by decide) (by decide) ha (fun o ho hg => ⟨(awR.wanted hg rfl ha (d := 49) (by simp)), e_call (by kernel_rfl) ho rfl (by have q0 := ha.ev (i := 50) (v := .agg #[(.bool (ngB x1)), (.slice A1 n1 c1), (.int .i64 (s1 : Int))]) (by simp); have q1 := ha.ev (i := 51) (v := .agg #[.bool (ngB x12), .slice A17 n17 c17, .int .i64 (s12 : Int)]) (by simp); simp only [List.map_toArray, List.map_cons, List.map_nil, ev_const, q0, q1])⟩) (by simp) ?_
  refine (alike_is5 (i := x1) (j := x12) (s := s1) (t := s12) (St.got E (A := A1) (n := n1) (c := c1) (a := (x1).natAbs) (by simp)) (St.got E (A := A17) (n := n17) (c := c17) (a := (x12).natAbs) (by simp)) F30.out).mono ?_; rintro e w18 ⟨rfl, hb⟩
  replace E := Lib.hid (St.step E.out hb)
  clear hb
  replace E : Hid (St w w18 [(A3, n3, c3, (x3).natAbs), (A3', n3', c3', (x4).natAbs), (A2, n2, c2, (x2).natAbs), (A1, n1, c1, (x1).natAbs)] [((w3.heap.size + 1), (.bool (ngB x4)), (.slice A3' n3' c3'), (.int .i64 (s3 : Int))), (w3.heap.size, (.bool (ngB x3)), (.slice A3 n3 c3), (.int .i64 (s3 : Int))), ((w2.heap.size + 1), (.bool (ngB x2)), (.slice A2 n2 c2), (.int .i64 (s2 : Int))), (w2.heap.size, (.bool (ngB x1)), (.slice A1 n1 c1), (.int .i64 (s1 : Int)))]) := Lib.hid ((E.out).sub (by simp) (by simp))
  have hSw := St.sb E; refine ⟨_, rfl, hSw, ?_⟩; intro a ha
  refine line_still awR 40 40 [] 53 (.bool true) [(49, .bool true), (1, .pointer (some ⟨w2.heap.size, 0, none⟩)), (2, .pointer (some ⟨(w2.heap.size + 1), 0, none⟩)), (3, .pointer (some ⟨w3.heap.size, 0, none⟩)), (4, .pointer (some ⟨(w3.heap.size + 1), 0, none⟩))] rfl (by decide) (by decide) (by decide) ha (fun o ho hg => y_of (awR.wanted hg rfl ha (d := 49) (by simp)) (fun w hS => e_not ho (ha.ev (i := 52) (v := .bool false) (by simp)))) (by simp) hSw ?_; intro a ha
  refine line_still awR 41 41 [] 54 (.bool true) [(1, .pointer (some ⟨w2.heap.size, 0, none⟩)), (2, .pointer (some ⟨(w2.heap.size + 1), 0, none⟩)), (3, .pointer (some ⟨w3.heap.size, 0, none⟩)), (4, .pointer (some ⟨(w3.heap.size + 1), 0, none⟩))] rfl (by decide) (by decide) (by decide) ha (fun o ho hg => y_of (wanted_none hg) (fun w hS => e_pick ho (ha.ev (i := 49) (v := .bool true) (by simp)) (ha.ev (i := 53) (v := .bool true) (by simp)) rfl)) (by simp) hSw ?_; intro a ha
  refine line_still awR 42 42 [] 55 (.bool true) [(1, .pointer (some ⟨w2.heap.size, 0, none⟩)), (2, .pointer (some ⟨(w2.heap.size + 1), 0, none⟩)), (3, .pointer (some ⟨w3.heap.size, 0, none⟩)), (4, .pointer (some ⟨(w3.heap.size + 1), 0, none⟩))] rfl (by decide) (by decide) (by decide) ha (fun o ho hg => y_of (wanted_none hg) (fun w hS => e_move (.inl ho) (ha.ev (i := 54) (v := .bool true) (by simp)))) (by simp) hSw ?_; intro a ha
  refine line_still awR 43 43 [] 56 (.agg #[(.bool (ngB x2)), (.slice A2 n2 c2), (.int .i64 (s2 : Int))]) [(55, .bool true), (1, .pointer (some ⟨w2.heap.size, 0, none⟩)), (2, .pointer (some ⟨(w2.heap.size + 1), 0, none⟩)), (3, .pointer (some ⟨w3.heap.size, 0, none⟩)), (4, .pointer (some ⟨(w3.heap.size + 1), 0, none⟩))] rfl (by decide) (by decide) (by decide) ha (fun o ho hg => y_of (awR.wanted hg rfl ha (d := 55) (by simp)) (fun w hS => e_load ho (ha.ev (i := 2) (v := .pointer (some ⟨(w2.heap.size + 1), 0, none⟩)) (by simp)) (hS.at_ (g := (w2.heap.size + 1)) (x0 := (.bool (ngB x2))) (x1 := (.slice A2 n2 c2)) (x2 := (.int .i64 (s2 : Int))) (by simp)))) (by simp) hSw ?_; intro a ha
  refine line_call awR 44 44 [] 57 (args := #[.agg #[(.bool (ngB x2)), (.slice A2 n2 c2), (.int .i64 (s2 : Int))]]) [(55, .bool true), (1, .pointer (some ⟨w2.heap.size, 0, none⟩)), (2, .pointer (some ⟨(w2.heap.size + 1), 0, none⟩)), (3, .pointer (some ⟨w3.heap.size, 0, none⟩)), (4, .pointer (some ⟨(w3.heap.size + 1), 0, none⟩))] rfl (by decide) (by decide) (by decide) ha (fun o ho hg => ⟨(awR.wanted hg rfl ha (d := 55) (by simp)), e_call (by kernel_rfl) ho rfl (by have q0 := ha.ev (i := 56) (v := .agg #[(.bool (ngB x2)), (.slice A2 n2 c2), (.int .i64 (s2 : Int))]) (by simp); simp only [List.map_toArray, List.map_cons, List.map_nil, ev_const, q0])⟩) (by simp) ?_
  refine (sign_is (i := x2) (s := s2) (St.got E (A := A2) (n := n2) (c := c2) (a := (x2).natAbs) (by simp)) F31.out).mono ?_; rintro e w19 ⟨rfl, hb⟩
  replace E := Lib.hid (St.step E.out hb)
  clear hb
  have hSw := St.sb E; refine ⟨_, rfl, hSw, ?_⟩; intro a ha
  refine line_still awR 45 45 [] 58 (.bool true) [(55, .bool true), (1, .pointer (some ⟨w2.heap.size, 0, none⟩)), (2, .pointer (some ⟨(w2.heap.size + 1), 0, none⟩)), (3, .pointer (some ⟨w3.heap.size, 0, none⟩)), (4, .pointer (some ⟨(w3.heap.size + 1), 0, none⟩))] rfl (by decide) (by decide) (by decide) ha (fun o ho hg => y_of (awR.wanted hg rfl ha (d := 55) (by simp)) (fun w hS => e_eql ho (ha.ev (i := 57) (v := .int .i64 (-1)) (by simp)) rfl)) (by simp) hSw ?_; intro a ha
  refine line_still awR 46 46 [] 59 (.bool true) [(1, .pointer (some ⟨w2.heap.size, 0, none⟩)), (2, .pointer (some ⟨(w2.heap.size + 1), 0, none⟩)), (3, .pointer (some ⟨w3.heap.size, 0, none⟩)), (4, .pointer (some ⟨(w3.heap.size + 1), 0, none⟩))] rfl (by decide) (by decide) (by decide) ha (fun o ho hg => y_of (wanted_none hg) (fun w hS => e_pick ho (ha.ev (i := 55) (v := .bool true) (by simp)) (ha.ev (i := 58) (v := .bool true) (by simp)) rfl)) (by simp) hSw ?_; intro a ha
  refine line_still awR 47 47 [] 60 (.bool true) [(1, .pointer (some ⟨w2.heap.size, 0, none⟩)), (2, .pointer (some ⟨(w2.heap.size + 1), 0, none⟩)), (3, .pointer (some ⟨w3.heap.size, 0, none⟩)), (4, .pointer (some ⟨(w3.heap.size + 1), 0, none⟩))] rfl (by decide) (by decide) (by decide) ha (fun o ho hg => y_of (wanted_none hg) (fun w hS => e_move (.inl ho) (ha.ev (i := 59) (v := .bool true) (by simp)))) (by simp) hSw ?_; intro a ha
  refine line_call awR 48 48 [] 61 (args := #[.int .i64 0, .int .i64 3]) [(60, .bool true), (1, .pointer (some ⟨w2.heap.size, 0, none⟩)), (2, .pointer (some ⟨(w2.heap.size + 1), 0, none⟩)), (3, .pointer (some ⟨w3.heap.size, 0, none⟩)), (4, .pointer (some ⟨(w3.heap.size + 1), 0, none⟩))] rfl (by decide) (by decide) (by decide) ha (fun o ho hg => ⟨(awR.wanted hg rfl ha (d := 60) (by simp)), e_call (by kernel_rfl) ho rfl (by simp only [List.map_toArray, List.map_cons, List.map_nil, ev_const])⟩) (by simp) ?_
  refine (mk_is5 (i := x13) (s := s13) _ F32.out F33.out M13.out (by omega)).mono ?_; rintro e w20 ⟨A20, n20, c20, rfl, h, hb⟩
  have b20 : n20 ≤ 1 := len_le h B13.out
  replace E := Lib.hid (St.push E.out hb h)
  clear h hb
  have hSw := St.sb E; refine ⟨_, rfl, hSw, ?_⟩; intro a ha
  refine line_call awR 49 49 [] 62 (args := #[.agg #[.bool (ngB x13), .slice A20 n20 c20, .int .i64 (s13 : Int)]]) [(60, .bool true), (1, .pointer (some ⟨w2.heap.size, 0, none⟩)), (2, .pointer (some ⟨(w2.heap.size + 1), 0, none⟩)), (3, .pointer (some ⟨w3.heap.size, 0, none⟩)), (4, .pointer (some ⟨(w3.heap.size + 1), 0, none⟩))] rfl (by decide) (by decide) (by decide) ha (fun o ho hg => ⟨(awR.wanted hg rfl ha (d := 60) (by simp)), e_call (by kernel_rfl) ho rfl (by have q0 := ha.ev (i := 61) (v := .agg #[.bool (ngB x13), .slice A20 n20 c20, .int .i64 (s13 : Int)]) (by simp); simp only [List.map_toArray, List.map_cons, List.map_nil, ev_const, q0])⟩) (by simp) ?_
  refine (sign_is (i := x13) (s := s13) (St.got E (A := A20) (n := n20) (c := c20) (a := (x13).natAbs) (by simp)) F34.out).mono ?_; rintro e w21 ⟨rfl, hb⟩
  replace E := Lib.hid (St.step E.out hb)
  clear hb
  replace E : Hid (St w w21 [(A3, n3, c3, (x3).natAbs), (A3', n3', c3', (x4).natAbs), (A2, n2, c2, (x2).natAbs), (A1, n1, c1, (x1).natAbs)] [((w3.heap.size + 1), (.bool (ngB x4)), (.slice A3' n3' c3'), (.int .i64 (s3 : Int))), (w3.heap.size, (.bool (ngB x3)), (.slice A3 n3 c3), (.int .i64 (s3 : Int))), ((w2.heap.size + 1), (.bool (ngB x2)), (.slice A2 n2 c2), (.int .i64 (s2 : Int))), (w2.heap.size, (.bool (ngB x1)), (.slice A1 n1 c1), (.int .i64 (s1 : Int)))]) := Lib.hid ((E.out).sub (by simp) (by simp))
  have hSw := St.sb E; refine ⟨_, rfl, hSw, ?_⟩; intro a ha
  refine line_still awR 50 50 [] 63 (.bool true) [(60, .bool true), (1, .pointer (some ⟨w2.heap.size, 0, none⟩)), (2, .pointer (some ⟨(w2.heap.size + 1), 0, none⟩)), (3, .pointer (some ⟨w3.heap.size, 0, none⟩)), (4, .pointer (some ⟨(w3.heap.size + 1), 0, none⟩))] rfl (by decide) (by decide) (by decide) ha (fun o ho hg => y_of (awR.wanted hg rfl ha (d := 60) (by simp)) (fun w hS => e_eql ho (ha.ev (i := 62) (v := .int .i64 0) (by simp)) rfl)) (by simp) hSw ?_; intro a ha
  refine line_still awR 51 51 [] 64 (.bool true) [(1, .pointer (some ⟨w2.heap.size, 0, none⟩)), (2, .pointer (some ⟨(w2.heap.size + 1), 0, none⟩)), (3, .pointer (some ⟨w3.heap.size, 0, none⟩)), (4, .pointer (some ⟨(w3.heap.size + 1), 0, none⟩))] rfl (by decide) (by decide) (by decide) ha (fun o ho hg => y_of (wanted_none hg) (fun w hS => e_pick ho (ha.ev (i := 60) (v := .bool true) (by simp)) (ha.ev (i := 63) (v := .bool true) (by simp)) rfl)) (by simp) hSw ?_; intro a ha
  refine line_still awR 52 52 [] 65 (.bool true) [(1, .pointer (some ⟨w2.heap.size, 0, none⟩)), (2, .pointer (some ⟨(w2.heap.size + 1), 0, none⟩)), (3, .pointer (some ⟨w3.heap.size, 0, none⟩)), (4, .pointer (some ⟨(w3.heap.size + 1), 0, none⟩))] rfl (by decide) (by decide) (by decide) ha (fun o ho hg => y_of (wanted_none hg) (fun w hS => e_move (.inl ho) (ha.ev (i := 64) (v := .bool true) (by simp)))) (by simp) hSw ?_; intro a ha
  refine line_still awR 53 53 [] 66 (.agg #[(.bool (ngB x2)), (.slice A2 n2 c2), (.int .i64 (s2 : Int))]) [(65, .bool true), (1, .pointer (some ⟨w2.heap.size, 0, none⟩)), (2, .pointer (some ⟨(w2.heap.size + 1), 0, none⟩)), (3, .pointer (some ⟨w3.heap.size, 0, none⟩)), (4, .pointer (some ⟨(w3.heap.size + 1), 0, none⟩))] rfl (by decide) (by decide) (by decide) ha (fun o ho hg => y_of (awR.wanted hg rfl ha (d := 65) (by simp)) (fun w hS => e_load ho (ha.ev (i := 2) (v := .pointer (some ⟨(w2.heap.size + 1), 0, none⟩)) (by simp)) (hS.at_ (g := (w2.heap.size + 1)) (x0 := (.bool (ngB x2))) (x1 := (.slice A2 n2 c2)) (x2 := (.int .i64 (s2 : Int))) (by simp)))) (by simp) hSw ?_; intro a ha
  refine line_call awR 54 54 [] 67 (args := #[.agg #[(.bool (ngB x2)), (.slice A2 n2 c2), (.int .i64 (s2 : Int))]]) [(65, .bool true), (1, .pointer (some ⟨w2.heap.size, 0, none⟩)), (2, .pointer (some ⟨(w2.heap.size + 1), 0, none⟩)), (3, .pointer (some ⟨w3.heap.size, 0, none⟩)), (4, .pointer (some ⟨(w3.heap.size + 1), 0, none⟩))] rfl (by decide) (by decide) (by decide) ha (fun o ho hg => ⟨(awR.wanted hg rfl ha (d := 65) (by simp)), e_call (by kernel_rfl) ho rfl (by have q0 := ha.ev (i := 66) (v := .agg #[(.bool (ngB x2)), (.slice A2 n2 c2), (.int .i64 (s2 : Int))]) (by simp); simp only [List.map_toArray, List.map_cons, List.map_nil, ev_const, q0])⟩) (by simp) ?_
  refine (neg_is5 (i := x2) (s := s2) (St.got E (A := A2) (n := n2) (c := c2) (a := (x2).natAbs) (by simp)) (by omega) (by omega) F35.out).mono ?_; rintro e w22 ⟨A22, n22, c22, rfl, h, hb⟩
  have b22 : n22 ≤ 1 := len_le h B14.out
  replace E := Lib.hid (St.push E.out hb h)
  clear h hb
  have hSw := St.sb E; refine ⟨_, rfl, hSw, ?_⟩; intro a ha
  refine line_call awR 55 55 [] 68 (args := #[.int .i64 25, .int .i64 1]) [(67, .agg #[.bool (ngB x14), .slice A22 n22 c22, .int .i64 (s2 : Int)]), (65, .bool true), (1, .pointer (some ⟨w2.heap.size, 0, none⟩)), (2, .pointer (some ⟨(w2.heap.size + 1), 0, none⟩)), (3, .pointer (some ⟨w3.heap.size, 0, none⟩)), (4, .pointer (some ⟨(w3.heap.size + 1), 0, none⟩))] rfl (by decide) (by decide) (by decide) ha (fun o ho hg => ⟨(awR.wanted hg rfl ha (d := 65) (by simp)), e_call (by kernel_rfl) ho rfl (by simp only [List.map_toArray, List.map_cons, List.map_nil, ev_const])⟩) (by simp) ?_
  refine (mk_is5 (i := x15) (s := s15) _ F36.out F37.out M15.out (by omega)).mono ?_; rintro e w23 ⟨A23, n23, c23, rfl, h, hb⟩
  have b23 : n23 ≤ 1 := len_le h B15.out
  replace E := Lib.hid (St.push E.out hb h)
  clear h hb
  have hSw := St.sb E; refine ⟨_, rfl, hSw, ?_⟩; intro a ha
  refine line_call awR 56 56 [] 69 (args := #[.agg #[.bool (ngB x14), .slice A22 n22 c22, .int .i64 (s2 : Int)], .agg #[.bool (ngB x15), .slice A23 n23 c23, .int .i64 (s15 : Int)]]) [(65, .bool true), (1, .pointer (some ⟨w2.heap.size, 0, none⟩)), (2, .pointer (some ⟨(w2.heap.size + 1), 0, none⟩)), (3, .pointer (some ⟨w3.heap.size, 0, none⟩)), (4, .pointer (some ⟨(w3.heap.size + 1), 0, none⟩))] rfl (by decide) (by decide) (by decide) ha (fun o ho hg => ⟨(awR.wanted hg rfl ha (d := 65) (by simp)), e_call (by kernel_rfl) ho rfl (by have q0 := ha.ev (i := 67) (v := .agg #[.bool (ngB x14), .slice A22 n22 c22, .int .i64 (s2 : Int)]) (by simp); have q1 := ha.ev (i := 68) (v := .agg #[.bool (ngB x15), .slice A23 n23 c23, .int .i64 (s15 : Int)]) (by simp); simp only [List.map_toArray, List.map_cons, List.map_nil, ev_const, q0, q1])⟩) (by simp) ?_
  refine (alike_is5 (i := x14) (j := x15) (s := s2) (t := s15) (St.got E (A := A22) (n := n22) (c := c22) (a := (x14).natAbs) (by simp)) (St.got E (A := A23) (n := n23) (c := c23) (a := (x15).natAbs) (by simp)) F38.out).mono ?_; rintro e w24 ⟨rfl, hb⟩
  replace E := Lib.hid (St.step E.out hb)
  clear hb
  replace E : Hid (St w w24 [(A3, n3, c3, (x3).natAbs), (A3', n3', c3', (x4).natAbs), (A2, n2, c2, (x2).natAbs), (A1, n1, c1, (x1).natAbs)] [((w3.heap.size + 1), (.bool (ngB x4)), (.slice A3' n3' c3'), (.int .i64 (s3 : Int))), (w3.heap.size, (.bool (ngB x3)), (.slice A3 n3 c3), (.int .i64 (s3 : Int))), ((w2.heap.size + 1), (.bool (ngB x2)), (.slice A2 n2 c2), (.int .i64 (s2 : Int))), (w2.heap.size, (.bool (ngB x1)), (.slice A1 n1 c1), (.int .i64 (s1 : Int)))]) := Lib.hid ((E.out).sub (by simp) (by simp))
  have hSw := St.sb E; refine ⟨_, rfl, hSw, ?_⟩; intro a ha
  refine line_still awR 57 57 [] 70 (.bool true) [(1, .pointer (some ⟨w2.heap.size, 0, none⟩)), (2, .pointer (some ⟨(w2.heap.size + 1), 0, none⟩)), (3, .pointer (some ⟨w3.heap.size, 0, none⟩)), (4, .pointer (some ⟨(w3.heap.size + 1), 0, none⟩))] rfl (by decide) (by decide) (by decide) ha (fun o ho hg => y_of (wanted_none hg) (fun w hS => e_pick ho (ha.ev (i := 65) (v := .bool true) (by simp)) (ha.ev (i := 69) (v := .bool true) (by simp)) rfl)) (by simp) hSw ?_; intro a ha
  refine line_still awR 58 58 [] 71 (.bool true) [(1, .pointer (some ⟨w2.heap.size, 0, none⟩)), (2, .pointer (some ⟨(w2.heap.size + 1), 0, none⟩)), (3, .pointer (some ⟨w3.heap.size, 0, none⟩)), (4, .pointer (some ⟨(w3.heap.size + 1), 0, none⟩))] rfl (by decide) (by decide) (by decide) ha (fun o ho hg => y_of (wanted_none hg) (fun w hS => e_move (.inl ho) (ha.ev (i := 70) (v := .bool true) (by simp)))) (by simp) hSw ?_; intro a ha
  refine line_still awR 59 59 [] 72 (.agg #[(.bool (ngB x2)), (.slice A2 n2 c2), (.int .i64 (s2 : Int))]) [(71, .bool true), (1, .pointer (some ⟨w2.heap.size, 0, none⟩)), (2, .pointer (some ⟨(w2.heap.size + 1), 0, none⟩)), (3, .pointer (some ⟨w3.heap.size, 0, none⟩)), (4, .pointer (some ⟨(w3.heap.size + 1), 0, none⟩))] rfl (by decide) (by decide) (by decide) ha (fun o ho hg => y_of (awR.wanted hg rfl ha (d := 71) (by simp)) (fun w hS => e_load ho (ha.ev (i := 2) (v := .pointer (some ⟨(w2.heap.size + 1), 0, none⟩)) (by simp)) (hS.at_ (g := (w2.heap.size + 1)) (x0 := (.bool (ngB x2))) (x1 := (.slice A2 n2 c2)) (x2 := (.int .i64 (s2 : Int))) (by simp)))) (by simp) hSw ?_; intro a ha
  refine line_call awR 60 60 [] 73 (args := #[.agg #[(.bool (ngB x2)), (.slice A2 n2 c2), (.int .i64 (s2 : Int))]]) [(71, .bool true), (1, .pointer (some ⟨w2.heap.size, 0, none⟩)), (2, .pointer (some ⟨(w2.heap.size + 1), 0, none⟩)), (3, .pointer (some ⟨w3.heap.size, 0, none⟩)), (4, .pointer (some ⟨(w3.heap.size + 1), 0, none⟩))] rfl (by decide) (by decide) (by decide) ha (fun o ho hg => ⟨(awR.wanted hg rfl ha (d := 71) (by simp)), e_call (by kernel_rfl) ho rfl (by have q0 := ha.ev (i := 72) (v := .agg #[(.bool (ngB x2)), (.slice A2 n2 c2), (.int .i64 (s2 : Int))]) (by simp); simp only [List.map_toArray, List.map_cons, List.map_nil, ev_const, q0])⟩) (by simp) ?_
  refine (abs_is5 (i := x2) (s := s2) (St.got E (A := A2) (n := n2) (c := c2) (a := (x2).natAbs) (by simp)) (by omega) (by omega) F39.out).mono ?_; rintro e w25 ⟨A25, n25, c25, rfl, h, hb⟩
  have b25 : n25 ≤ 1 := len_le h B16.out
  replace E := Lib.hid (St.push E.out hb h)
  clear h hb
  have hSw := St.sb E; refine ⟨_, rfl, hSw, ?_⟩; intro a ha
  refine line_call awR 61 61 [] 74 (args := #[.int .i64 25, .int .i64 1]) [(73, .agg #[.bool (ngB x16), .slice A25 n25 c25, .int .i64 (s2 : Int)]), (71, .bool true), (1, .pointer (some ⟨w2.heap.size, 0, none⟩)), (2, .pointer (some ⟨(w2.heap.size + 1), 0, none⟩)), (3, .pointer (some ⟨w3.heap.size, 0, none⟩)), (4, .pointer (some ⟨(w3.heap.size + 1), 0, none⟩))] rfl (by decide) (by decide) (by decide) ha (fun o ho hg => ⟨(awR.wanted hg rfl ha (d := 71) (by simp)), e_call (by kernel_rfl) ho rfl (by simp only [List.map_toArray, List.map_cons, List.map_nil, ev_const])⟩) (by simp) ?_
  refine (mk_is5 (i := x17) (s := s17) _ F40.out F41.out M17.out (by omega)).mono ?_; rintro e w26 ⟨A26, n26, c26, rfl, h, hb⟩
  have b26 : n26 ≤ 1 := len_le h B17.out
  replace E := Lib.hid (St.push E.out hb h)
  clear h hb
  have hSw := St.sb E; refine ⟨_, rfl, hSw, ?_⟩; intro a ha
  refine line_call awR 62 62 [] 75 (args := #[.agg #[.bool (ngB x16), .slice A25 n25 c25, .int .i64 (s2 : Int)], .agg #[.bool (ngB x17), .slice A26 n26 c26, .int .i64 (s17 : Int)]]) [(71, .bool true), (1, .pointer (some ⟨w2.heap.size, 0, none⟩)), (2, .pointer (some ⟨(w2.heap.size + 1), 0, none⟩)), (3, .pointer (some ⟨w3.heap.size, 0, none⟩)), (4, .pointer (some ⟨(w3.heap.size + 1), 0, none⟩))] rfl (by decide) (by decide) (by decide) ha (fun o ho hg => ⟨(awR.wanted hg rfl ha (d := 71) (by simp)), e_call (by kernel_rfl) ho rfl (by have q0 := ha.ev (i := 73) (v := .agg #[.bool (ngB x16), .slice A25 n25 c25, .int .i64 (s2 : Int)]) (by simp); have q1 := ha.ev (i := 74) (v := .agg #[.bool (ngB x17), .slice A26 n26 c26, .int .i64 (s17 : Int)]) (by simp); simp only [List.map_toArray, List.map_cons, List.map_nil, ev_const, q0, q1])⟩) (by simp) ?_
  refine (alike_is5 (i := x16) (j := x17) (s := s2) (t := s17) (St.got E (A := A25) (n := n25) (c := c25) (a := (x16).natAbs) (by simp)) (St.got E (A := A26) (n := n26) (c := c26) (a := (x17).natAbs) (by simp)) F42.out).mono ?_; rintro e w27 ⟨rfl, hb⟩
  replace E := Lib.hid (St.step E.out hb)
  clear hb
  replace E : Hid (St w w27 [(A3, n3, c3, (x3).natAbs), (A3', n3', c3', (x4).natAbs), (A2, n2, c2, (x2).natAbs), (A1, n1, c1, (x1).natAbs)] [((w3.heap.size + 1), (.bool (ngB x4)), (.slice A3' n3' c3'), (.int .i64 (s3 : Int))), (w3.heap.size, (.bool (ngB x3)), (.slice A3 n3 c3), (.int .i64 (s3 : Int))), ((w2.heap.size + 1), (.bool (ngB x2)), (.slice A2 n2 c2), (.int .i64 (s2 : Int))), (w2.heap.size, (.bool (ngB x1)), (.slice A1 n1 c1), (.int .i64 (s1 : Int)))]) := Lib.hid ((E.out).sub (by simp) (by simp))
  have hSw := St.sb E; refine ⟨_, rfl, hSw, ?_⟩; intro a ha
  refine line_still awR 63 63 [] 76 (.bool true) [(1, .pointer (some ⟨w2.heap.size, 0, none⟩)), (2, .pointer (some ⟨(w2.heap.size + 1), 0, none⟩)), (3, .pointer (some ⟨w3.heap.size, 0, none⟩)), (4, .pointer (some ⟨(w3.heap.size + 1), 0, none⟩))] rfl (by decide) (by decide) (by decide) ha (fun o ho hg => y_of (wanted_none hg) (fun w hS => e_pick ho (ha.ev (i := 71) (v := .bool true) (by simp)) (ha.ev (i := 75) (v := .bool true) (by simp)) rfl)) (by simp) hSw ?_; intro a ha
  refine line_still awR 64 64 [] 77 (.bool true) [(1, .pointer (some ⟨w2.heap.size, 0, none⟩)), (2, .pointer (some ⟨(w2.heap.size + 1), 0, none⟩)), (3, .pointer (some ⟨w3.heap.size, 0, none⟩)), (4, .pointer (some ⟨(w3.heap.size + 1), 0, none⟩))] rfl (by decide) (by decide) (by decide) ha (fun o ho hg => y_of (wanted_none hg) (fun w hS => e_move (.inl ho) (ha.ev (i := 76) (v := .bool true) (by simp)))) (by simp) hSw ?_; intro a ha
  refine line_still awR 65 65 [] 78 (.pointer (some ⟨w3.heap.size, 2, none⟩)) [(77, .bool true), (1, .pointer (some ⟨w2.heap.size, 0, none⟩)), (2, .pointer (some ⟨(w2.heap.size + 1), 0, none⟩)), (4, .pointer (some ⟨(w3.heap.size + 1), 0, none⟩))] rfl (by decide) (by decide) (by decide) ha (fun o ho hg => y_of (awR.wanted hg rfl ha (d := 77) (by simp)) (fun w hS => e_field 2 (by simp) ho (ha.ev (i := 3) (v := .pointer (some ⟨w3.heap.size, 0, none⟩)) (by simp)))) (by simp) hSw ?_; intro a ha
  refine line_still awR 66 66 [] 79 ((.int .i64 (s3 : Int))) [(77, .bool true), (1, .pointer (some ⟨w2.heap.size, 0, none⟩)), (2, .pointer (some ⟨(w2.heap.size + 1), 0, none⟩)), (4, .pointer (some ⟨(w3.heap.size + 1), 0, none⟩))] rfl (by decide) (by decide) (by decide) ha (fun o ho hg => y_of (awR.wanted hg rfl ha (d := 77) (by simp)) (fun w hS => e_cell (by simp) ho (ha.ev (i := 78) (v := .pointer (some ⟨w3.heap.size, 2, none⟩)) (by simp)) (hS.at_ (g := w3.heap.size) (x0 := (.bool (ngB x3))) (x1 := (.slice A3 n3 c3)) (x2 := (.int .i64 (s3 : Int))) (by simp)).c2)) (by simp) hSw ?_; intro a ha
  refine line_still awR 67 67 [] 80 (.bool true) [(77, .bool true), (1, .pointer (some ⟨w2.heap.size, 0, none⟩)), (2, .pointer (some ⟨(w2.heap.size + 1), 0, none⟩)), (4, .pointer (some ⟨(w3.heap.size + 1), 0, none⟩))] rfl (by decide) (by decide) (by decide) ha (fun o ho hg => y_of (awR.wanted hg rfl ha (d := 77) (by simp)) (fun w hS => (e_eql ho (ha.ev (i := 79) (v := (.int .i64 (s3 : Int))) (by simp)) rfl).trans (by rw [HSC.out]))) (by simp) hSw ?_; intro a ha
  refine line_still awR 68 68 [] 81 (.bool true) [(1, .pointer (some ⟨w2.heap.size, 0, none⟩)), (2, .pointer (some ⟨(w2.heap.size + 1), 0, none⟩)), (4, .pointer (some ⟨(w3.heap.size + 1), 0, none⟩))] rfl (by decide) (by decide) (by decide) ha (fun o ho hg => y_of (wanted_none hg) (fun w hS => e_pick ho (ha.ev (i := 77) (v := .bool true) (by simp)) (ha.ev (i := 80) (v := .bool true) (by simp)) rfl)) (by simp) hSw ?_; intro a ha
  refine line_still awR 69 69 [] 82 (.bool true) [(1, .pointer (some ⟨w2.heap.size, 0, none⟩)), (2, .pointer (some ⟨(w2.heap.size + 1), 0, none⟩)), (4, .pointer (some ⟨(w3.heap.size + 1), 0, none⟩))] rfl (by decide) (by decide) (by decide) ha (fun o ho hg => y_of (wanted_none hg) (fun w hS => e_move (.inl ho) (ha.ev (i := 81) (v := .bool true) (by simp)))) (by simp) hSw ?_; intro a ha
  refine line_still awR 70 70 [] 83 (.agg #[(.bool (ngB x4)), (.slice A3' n3' c3'), (.int .i64 (s3 : Int))]) [(82, .bool true), (1, .pointer (some ⟨w2.heap.size, 0, none⟩)), (2, .pointer (some ⟨(w2.heap.size + 1), 0, none⟩))] rfl (by decide) (by decide) (by decide) ha (fun o ho hg => y_of (awR.wanted hg rfl ha (d := 82) (by simp)) (fun w hS => e_load ho (ha.ev (i := 4) (v := .pointer (some ⟨(w3.heap.size + 1), 0, none⟩)) (by simp)) (hS.at_ (g := (w3.heap.size + 1)) (x0 := (.bool (ngB x4))) (x1 := (.slice A3' n3' c3')) (x2 := (.int .i64 (s3 : Int))) (by simp)))) (by simp) hSw ?_; intro a ha
  refine line_call awR 71 71 [] 84 (args := #[.int .i64 (-250), .int .i64 2]) [(83, .agg #[(.bool (ngB x4)), (.slice A3' n3' c3'), (.int .i64 (s3 : Int))]), (82, .bool true), (1, .pointer (some ⟨w2.heap.size, 0, none⟩)), (2, .pointer (some ⟨(w2.heap.size + 1), 0, none⟩))] rfl (by decide) (by decide) (by decide) ha (fun o ho hg => ⟨(awR.wanted hg rfl ha (d := 82) (by simp)), e_call (by kernel_rfl) ho rfl (by simp only [List.map_toArray, List.map_cons, List.map_nil, ev_const])⟩) (by simp) ?_
  refine (mk_is5 (i := x18) (s := s18) _ F43.out F44.out M18.out (by omega)).mono ?_; rintro e w28 ⟨A28, n28, c28, rfl, h, hb⟩
  have b28 : n28 ≤ 1 := len_le h B18.out
  replace E := Lib.hid (St.push E.out hb h)
  clear h hb
  have hSw := St.sb E; refine ⟨_, rfl, hSw, ?_⟩; intro a ha
  refine line_call awR 72 72 [] 85 (args := #[.agg #[(.bool (ngB x4)), (.slice A3' n3' c3'), (.int .i64 (s3 : Int))], .agg #[.bool (ngB x18), .slice A28 n28 c28, .int .i64 (s18 : Int)]]) [(82, .bool true), (1, .pointer (some ⟨w2.heap.size, 0, none⟩)), (2, .pointer (some ⟨(w2.heap.size + 1), 0, none⟩))] rfl (by decide) (by decide) (by decide) ha (fun o ho hg => ⟨(awR.wanted hg rfl ha (d := 82) (by simp)), e_call (by kernel_rfl) ho rfl (by have q0 := ha.ev (i := 83) (v := .agg #[(.bool (ngB x4)), (.slice A3' n3' c3'), (.int .i64 (s3 : Int))]) (by simp); have q1 := ha.ev (i := 84) (v := .agg #[.bool (ngB x18), .slice A28 n28 c28, .int .i64 (s18 : Int)]) (by simp); simp only [List.map_toArray, List.map_cons, List.map_nil, ev_const, q0, q1])⟩) (by simp) ?_
  refine (alike_is5 (i := x4) (j := x18) (s := s3) (t := s18) (St.got E (A := A3') (n := n3') (c := c3') (a := (x4).natAbs) (by simp)) (St.got E (A := A28) (n := n28) (c := c28) (a := (x18).natAbs) (by simp)) F45.out).mono ?_; rintro e w29 ⟨rfl, hb⟩
  replace E := Lib.hid (St.step E.out hb)
  clear hb
  replace E : Hid (St w w29 [(A3, n3, c3, (x3).natAbs), (A3', n3', c3', (x4).natAbs), (A2, n2, c2, (x2).natAbs), (A1, n1, c1, (x1).natAbs)] [((w3.heap.size + 1), (.bool (ngB x4)), (.slice A3' n3' c3'), (.int .i64 (s3 : Int))), (w3.heap.size, (.bool (ngB x3)), (.slice A3 n3 c3), (.int .i64 (s3 : Int))), ((w2.heap.size + 1), (.bool (ngB x2)), (.slice A2 n2 c2), (.int .i64 (s2 : Int))), (w2.heap.size, (.bool (ngB x1)), (.slice A1 n1 c1), (.int .i64 (s1 : Int)))]) := Lib.hid ((E.out).sub (by simp) (by simp))
  have hSw := St.sb E; refine ⟨_, rfl, hSw, ?_⟩; intro a ha
  refine line_still awR 73 73 [] 86 (.bool true) [(1, .pointer (some ⟨w2.heap.size, 0, none⟩)), (2, .pointer (some ⟨(w2.heap.size + 1), 0, none⟩))] rfl (by decide) (by decide) (by decide) ha (fun o ho hg => y_of (wanted_none hg) (fun w hS => e_pick ho (ha.ev (i := 82) (v := .bool true) (by simp)) (ha.ev (i := 85) (v := .bool true) (by simp)) rfl)) (by simp) hSw ?_; intro a ha
  refine line_still awR 74 74 [] 87 (.bool true) [(1, .pointer (some ⟨w2.heap.size, 0, none⟩)), (2, .pointer (some ⟨(w2.heap.size + 1), 0, none⟩))] rfl (by decide) (by decide) (by decide) ha (fun o ho hg => y_of (wanted_none hg) (fun w hS => e_move (.inl ho) (ha.ev (i := 86) (v := .bool true) (by simp)))) (by simp) hSw ?_; intro a ha
  refine line_call awR 75 75 [] 88 (args := #[.int .i64 1500, .int .i64 3]) [(87, .bool true), (1, .pointer (some ⟨w2.heap.size, 0, none⟩)), (2, .pointer (some ⟨(w2.heap.size + 1), 0, none⟩))] rfl (by decide) (by decide) (by decide) ha (fun o ho hg => ⟨(awR.wanted hg rfl ha (d := 87) (by simp)), e_call (by kernel_rfl) ho rfl (by simp only [List.map_toArray, List.map_cons, List.map_nil, ev_const])⟩) (by simp) ?_
  refine (mk_is5 (i := x19) (s := s19) _ F46.out F47.out M19.out (by omega)).mono ?_; rintro e w30 ⟨A30, n30, c30, rfl, h, hb⟩
  have b30 : n30 ≤ 1 := len_le h B19.out
  replace E := Lib.hid (St.push E.out hb h)
  clear h hb
  have hSw := St.sb E; refine ⟨_, rfl, hSw, ?_⟩; intro a ha
  refine line_call awR 76 76 [] 89 (args := #[.agg #[.bool (ngB x19), .slice A30 n30 c30, .int .i64 (s19 : Int)], .int .i64 0]) [(87, .bool true), (1, .pointer (some ⟨w2.heap.size, 0, none⟩)), (2, .pointer (some ⟨(w2.heap.size + 1), 0, none⟩))] rfl (by decide) (by decide) (by decide) ha (fun o ho hg => ⟨(awR.wanted hg rfl ha (d := 87) (by simp)), e_call (by kernel_rfl) ho rfl (by have q0 := ha.ev (i := 88) (v := .agg #[.bool (ngB x19), .slice A30 n30 c30, .int .i64 (s19 : Int)]) (by simp); simp only [List.map_toArray, List.map_cons, List.map_nil, ev_const, q0])⟩) (by simp) ?_
  refine (strip_is5 (i := x19) (s := s19) (L := 0) (v := 0) (St.got E (A := A30) (n := n30) (c := c30) (a := (x19).natAbs) (by simp)) (by omega) (by omega) F48.out (by omega) F49.out F50.out).mono ?_; rintro e w31 ⟨A31, n31, c31, rfl, h, hb⟩
  have b31 : n31 ≤ 1 := len_le h B20.out
  replace E := Lib.hid (St.push E.out hb h)
  clear h hb
  have hSw := St.sb E; refine ⟨_, rfl, hSw, ?_⟩; intro a ha
  refine line_call awR 77 77 [] 90 (args := #[.int .i64 15, .int .i64 1]) [(89, .agg #[.bool (ngB x20), .slice A31 n31 c31, .int .i64 (s20 : Int)]), (87, .bool true), (1, .pointer (some ⟨w2.heap.size, 0, none⟩)), (2, .pointer (some ⟨(w2.heap.size + 1), 0, none⟩))] rfl (by decide) (by decide) (by decide) ha (fun o ho hg => ⟨(awR.wanted hg rfl ha (d := 87) (by simp)), e_call (by kernel_rfl) ho rfl (by simp only [List.map_toArray, List.map_cons, List.map_nil, ev_const])⟩) (by simp) ?_
  refine (mk_is5 (i := x21) (s := s21) _ F51.out F52.out M21.out (by omega)).mono ?_; rintro e w32 ⟨A32, n32, c32, rfl, h, hb⟩
  have b32 : n32 ≤ 1 := len_le h B21.out
  replace E := Lib.hid (St.push E.out hb h)
  clear h hb
  have hSw := St.sb E; refine ⟨_, rfl, hSw, ?_⟩; intro a ha
  refine line_call awR 78 78 [] 91 (args := #[.agg #[.bool (ngB x20), .slice A31 n31 c31, .int .i64 (s20 : Int)], .agg #[.bool (ngB x21), .slice A32 n32 c32, .int .i64 (s21 : Int)]]) [(87, .bool true), (1, .pointer (some ⟨w2.heap.size, 0, none⟩)), (2, .pointer (some ⟨(w2.heap.size + 1), 0, none⟩))] rfl (by decide) (by decide) (by decide) ha (fun o ho hg => ⟨(awR.wanted hg rfl ha (d := 87) (by simp)), e_call (by kernel_rfl) ho rfl (by have q0 := ha.ev (i := 89) (v := .agg #[.bool (ngB x20), .slice A31 n31 c31, .int .i64 (s20 : Int)]) (by simp); have q1 := ha.ev (i := 90) (v := .agg #[.bool (ngB x21), .slice A32 n32 c32, .int .i64 (s21 : Int)]) (by simp); simp only [List.map_toArray, List.map_cons, List.map_nil, ev_const, q0, q1])⟩) (by simp) ?_
  refine (alike_is5 (i := x20) (j := x21) (s := s20) (t := s21) (St.got E (A := A31) (n := n31) (c := c31) (a := (x20).natAbs) (by simp)) (St.got E (A := A32) (n := n32) (c := c32) (a := (x21).natAbs) (by simp)) F53.out).mono ?_; rintro e w33 ⟨rfl, hb⟩
  replace E := Lib.hid (St.step E.out hb)
  clear hb
  replace E : Hid (St w w33 [(A3, n3, c3, (x3).natAbs), (A3', n3', c3', (x4).natAbs), (A2, n2, c2, (x2).natAbs), (A1, n1, c1, (x1).natAbs)] [((w3.heap.size + 1), (.bool (ngB x4)), (.slice A3' n3' c3'), (.int .i64 (s3 : Int))), (w3.heap.size, (.bool (ngB x3)), (.slice A3 n3 c3), (.int .i64 (s3 : Int))), ((w2.heap.size + 1), (.bool (ngB x2)), (.slice A2 n2 c2), (.int .i64 (s2 : Int))), (w2.heap.size, (.bool (ngB x1)), (.slice A1 n1 c1), (.int .i64 (s1 : Int)))]) := Lib.hid ((E.out).sub (by simp) (by simp))
  have hSw := St.sb E; refine ⟨_, rfl, hSw, ?_⟩; intro a ha
  refine line_still awR 79 79 [] 92 (.bool true) [(1, .pointer (some ⟨w2.heap.size, 0, none⟩)), (2, .pointer (some ⟨(w2.heap.size + 1), 0, none⟩))] rfl (by decide) (by decide) (by decide) ha (fun o ho hg => y_of (wanted_none hg) (fun w hS => e_pick ho (ha.ev (i := 87) (v := .bool true) (by simp)) (ha.ev (i := 91) (v := .bool true) (by simp)) rfl)) (by simp) hSw ?_; intro a ha
  refine line_still awR 80 80 [] 93 (.bool true) [(1, .pointer (some ⟨w2.heap.size, 0, none⟩)), (2, .pointer (some ⟨(w2.heap.size + 1), 0, none⟩))] rfl (by decide) (by decide) (by decide) ha (fun o ho hg => y_of (wanted_none hg) (fun w hS => e_move (.inl ho) (ha.ev (i := 92) (v := .bool true) (by simp)))) (by simp) hSw ?_; intro a ha
  refine line_ahead awR 81 81 [] 83 96 (.agg #[(.bool (ngB x1)), (.slice A1 n1 c1), (.int .i64 (s1 : Int))]) [(93, .bool true), (1, .pointer (some ⟨w2.heap.size, 0, none⟩)), (2, .pointer (some ⟨(w2.heap.size + 1), 0, none⟩))] rfl (by decide) (by decide) (by decide) ha (fun o ho hg => y_of (awR.wanted hg rfl ha (d := 93) (by simp)) (fun w hS => e_load ho (ha.ev (i := 1) (v := .pointer (some ⟨w2.heap.size, 0, none⟩)) (by simp)) (hS.at_ (g := w2.heap.size) (x0 := (.bool (ngB x1))) (x1 := (.slice A1 n1 c1)) (x2 := (.int .i64 (s1 : Int))) (by simp)))) (by simp) hSw ?_; intro a ha
  refine line_call awR 82 81 [83] 94 (args := #[.int .i64 1500, .int .i64 3]) [(96, .agg #[(.bool (ngB x1)), (.slice A1 n1 c1), (.int .i64 (s1 : Int))]), (93, .bool true), (1, .pointer (some ⟨w2.heap.size, 0, none⟩)), (2, .pointer (some ⟨(w2.heap.size + 1), 0, none⟩))] rfl (by decide) (by decide) (by decide) ha (fun o ho hg => ⟨(awR.wanted hg rfl ha (d := 93) (by simp)), e_call (by kernel_rfl) ho rfl (by simp only [List.map_toArray, List.map_cons, List.map_nil, ev_const])⟩) (by simp) ?_
  refine (mk_is5 (i := x22) (s := s22) _ F54.out F55.out M22.out (by omega)).mono ?_; rintro e w34 ⟨A34, n34, c34, rfl, h, hb⟩
  have b34 : n34 ≤ 1 := len_le h B22.out
  replace E := Lib.hid (St.push E.out hb h)
  clear h hb
  have hSw := St.sb E; refine ⟨_, rfl, hSw, ?_⟩; intro a ha
  refine line_call awR 83 82 [83] 95 (args := #[.agg #[.bool (ngB x22), .slice A34 n34 c34, .int .i64 (s22 : Int)], .int .i64 2]) [(96, .agg #[(.bool (ngB x1)), (.slice A1 n1 c1), (.int .i64 (s1 : Int))]), (93, .bool true), (1, .pointer (some ⟨w2.heap.size, 0, none⟩)), (2, .pointer (some ⟨(w2.heap.size + 1), 0, none⟩))] rfl (by decide) (by decide) (by decide) ha (fun o ho hg => ⟨(awR.wanted hg rfl ha (d := 93) (by simp)), e_call (by kernel_rfl) ho rfl (by have q0 := ha.ev (i := 94) (v := .agg #[.bool (ngB x22), .slice A34 n34 c34, .int .i64 (s22 : Int)]) (by simp); simp only [List.map_toArray, List.map_cons, List.map_nil, ev_const, q0])⟩) (by simp) ?_
  refine (strip_is5 (i := x22) (s := s22) (L := 2) (v := 2) (St.got E (A := A34) (n := n34) (c := c34) (a := (x22).natAbs) (by simp)) (by omega) (by omega) F56.out (by omega) F57.out F58.out).mono ?_; rintro e w35 ⟨A35, n35, c35, rfl, h, hb⟩
  have b35 : n35 ≤ 1 := len_le h B23.out
  replace E := Lib.hid (St.push E.out hb h)
  clear h hb
  have hSw := St.sb E; refine ⟨_, rfl, hSw, ?_⟩; intro a ha
  refine line_skip [] (by simp) ?_
  refine line_call awR 84 84 [] 97 (args := #[.agg #[.bool (ngB x23), .slice A35 n35 c35, .int .i64 (s23 : Int)], .agg #[(.bool (ngB x1)), (.slice A1 n1 c1), (.int .i64 (s1 : Int))]]) [(93, .bool true), (1, .pointer (some ⟨w2.heap.size, 0, none⟩)), (2, .pointer (some ⟨(w2.heap.size + 1), 0, none⟩))] rfl (by decide) (by decide) (by decide) ha (fun o ho hg => ⟨(awR.wanted hg rfl ha (d := 93) (by simp)), e_call (by kernel_rfl) ho rfl (by have q0 := ha.ev (i := 95) (v := .agg #[.bool (ngB x23), .slice A35 n35 c35, .int .i64 (s23 : Int)]) (by simp); have q1 := ha.ev (i := 96) (v := .agg #[(.bool (ngB x1)), (.slice A1 n1 c1), (.int .i64 (s1 : Int))]) (by simp); simp only [List.map_toArray, List.map_cons, List.map_nil, ev_const, q0, q1])⟩) (by simp) ?_
  refine (alike_is5 (i := x23) (j := x1) (s := s23) (t := s1) (St.got E (A := A35) (n := n35) (c := c35) (a := (x23).natAbs) (by simp)) (St.got E (A := A1) (n := n1) (c := c1) (a := (x1).natAbs) (by simp)) F59.out).mono ?_; rintro e w36 ⟨rfl, hb⟩
  replace E := Lib.hid (St.step E.out hb)
  clear hb
  replace E : Hid (St w w36 [(A3, n3, c3, (x3).natAbs), (A3', n3', c3', (x4).natAbs), (A2, n2, c2, (x2).natAbs), (A1, n1, c1, (x1).natAbs)] [((w3.heap.size + 1), (.bool (ngB x4)), (.slice A3' n3' c3'), (.int .i64 (s3 : Int))), (w3.heap.size, (.bool (ngB x3)), (.slice A3 n3 c3), (.int .i64 (s3 : Int))), ((w2.heap.size + 1), (.bool (ngB x2)), (.slice A2 n2 c2), (.int .i64 (s2 : Int))), (w2.heap.size, (.bool (ngB x1)), (.slice A1 n1 c1), (.int .i64 (s1 : Int)))]) := Lib.hid ((E.out).sub (by simp) (by simp))
  have hSw := St.sb E; refine ⟨_, rfl, hSw, ?_⟩; intro a ha
  refine line_still awR 85 85 [] 98 (.bool true) [(1, .pointer (some ⟨w2.heap.size, 0, none⟩)), (2, .pointer (some ⟨(w2.heap.size + 1), 0, none⟩))] rfl (by decide) (by decide) (by decide) ha (fun o ho hg => y_of (wanted_none hg) (fun w hS => e_pick ho (ha.ev (i := 93) (v := .bool true) (by simp)) (ha.ev (i := 97) (v := .bool true) (by simp)) rfl)) (by simp) hSw ?_; intro a ha
  refine line_still awR 86 86 [] 99 (.bool true) [(1, .pointer (some ⟨w2.heap.size, 0, none⟩)), (2, .pointer (some ⟨(w2.heap.size + 1), 0, none⟩))] rfl (by decide) (by decide) (by decide) ha (fun o ho hg => y_of (wanted_none hg) (fun w hS => e_move (.inl ho) (ha.ev (i := 98) (v := .bool true) (by simp)))) (by simp) hSw ?_; intro a ha
  refine line_still awR 87 87 [] 100 (.agg #[(.bool (ngB x1)), (.slice A1 n1 c1), (.int .i64 (s1 : Int))]) [(99, .bool true), (1, .pointer (some ⟨w2.heap.size, 0, none⟩)), (2, .pointer (some ⟨(w2.heap.size + 1), 0, none⟩))] rfl (by decide) (by decide) (by decide) ha (fun o ho hg => y_of (awR.wanted hg rfl ha (d := 99) (by simp)) (fun w hS => e_load ho (ha.ev (i := 1) (v := .pointer (some ⟨w2.heap.size, 0, none⟩)) (by simp)) (hS.at_ (g := w2.heap.size) (x0 := (.bool (ngB x1))) (x1 := (.slice A1 n1 c1)) (x2 := (.int .i64 (s1 : Int))) (by simp)))) (by simp) hSw ?_; intro a ha
  refine line_still awR 88 88 [] 101 (.agg #[(.bool (ngB x1)), (.slice A1 n1 c1), (.int .i64 (s1 : Int))]) [(100, .agg #[(.bool (ngB x1)), (.slice A1 n1 c1), (.int .i64 (s1 : Int))]), (99, .bool true), (1, .pointer (some ⟨w2.heap.size, 0, none⟩)), (2, .pointer (some ⟨(w2.heap.size + 1), 0, none⟩))] rfl (by decide) (by decide) (by decide) ha (fun o ho hg => y_of (awR.wanted hg rfl ha (d := 99) (by simp)) (fun w hS => e_load ho (ha.ev (i := 1) (v := .pointer (some ⟨w2.heap.size, 0, none⟩)) (by simp)) (hS.at_ (g := w2.heap.size) (x0 := (.bool (ngB x1))) (x1 := (.slice A1 n1 c1)) (x2 := (.int .i64 (s1 : Int))) (by simp)))) (by simp) hSw ?_; intro a ha
  refine line_still awR 89 89 [] 102 (.agg #[(.bool (ngB x2)), (.slice A2 n2 c2), (.int .i64 (s2 : Int))]) [(101, .agg #[(.bool (ngB x1)), (.slice A1 n1 c1), (.int .i64 (s1 : Int))]), (100, .agg #[(.bool (ngB x1)), (.slice A1 n1 c1), (.int .i64 (s1 : Int))]), (99, .bool true), (1, .pointer (some ⟨w2.heap.size, 0, none⟩))] rfl (by decide) (by decide) (by decide) ha (fun o ho hg => y_of (awR.wanted hg rfl ha (d := 99) (by simp)) (fun w hS => e_load ho (ha.ev (i := 2) (v := .pointer (some ⟨(w2.heap.size + 1), 0, none⟩)) (by simp)) (hS.at_ (g := (w2.heap.size + 1)) (x0 := (.bool (ngB x2))) (x1 := (.slice A2 n2 c2)) (x2 := (.int .i64 (s2 : Int))) (by simp)))) (by simp) hSw ?_; intro a ha
  have E0 := E
  refine line_op awR 90 90 [] 103 (v := .slice (some ⟨w36.heap.size, 0, none⟩) 3 3) (w' := w36.alloc (.cells #[(.bool (ngB x1)), (.slice A1 n1 c1), (.int .i64 (s1 : Int)), (.bool (ngB x1)), (.slice A1 n1 c1), (.int .i64 (s1 : Int)), (.bool (ngB x2)), (.slice A2 n2 c2), (.int .i64 (s2 : Int))] 25)) [(99, .bool true), (1, .pointer (some ⟨w2.heap.size, 0, none⟩))] rfl (by decide) (by decide) (by decide) ha (fun o ho hg => ⟨(awR.wanted hg rfl ha (d := 99) (by simp)), by unfold execOp; rw [ho]; have q1 := (ha.ev (i := 100) (v := .agg #[(.bool (ngB x1)), (.slice A1 n1 c1), (.int .i64 (s1 : Int))]) (by simp)); have q2 := (ha.ev (i := 101) (v := .agg #[(.bool (ngB x1)), (.slice A1 n1 c1), (.int .i64 (s1 : Int))]) (by simp)); have q3 := (ha.ev (i := 102) (v := .agg #[(.bool (ngB x2)), (.slice A2 n2 c2), (.int .i64 (s2 : Int))]) (by simp)); simp only [List.map_toArray, List.map_cons, List.map_nil, q1, q2, q3]; go_simp⟩) (by simp) (St.sb (Lib.hid (St.alloc E.out _))) ?_; intro a ha
  replace E := Lib.hid (St.alloc E.out (.cells #[(.bool (ngB x1)), (.slice A1 n1 c1), (.int .i64 (s1 : Int)), (.bool (ngB x1)), (.slice A1 n1 c1), (.int .i64 (s1 : Int)), (.bool (ngB x2)), (.slice A2 n2 c2), (.int .i64 (s2 : Int))] 25))
  have hSw := St.sb E
  refine line_call awR 91 91 [] 104 (args := #[.slice (some ⟨w36.heap.size, 0, none⟩) 3 3]) [(99, .bool true), (1, .pointer (some ⟨w2.heap.size, 0, none⟩))] rfl (by decide) (by decide) (by decide) ha (fun o ho hg => ⟨(awR.wanted hg rfl ha (d := 99) (by simp)), e_call (by kernel_rfl) ho rfl (by have q0 := ha.ev (i := 103) (v := .slice (some ⟨w36.heap.size, 0, none⟩) 3 3) (by simp); simp only [List.map_toArray, List.map_cons, List.map_nil, ev_const, q0])⟩) (by simp) ?_
  refine (sum_lit (t := 25) (a := x1) (s := s1) (b := x1) (u := s1) (c := x2) (v := s2) (w := w36) (St.got E0 (A := A1) (n := n1) (c := c1) (a := (x1).natAbs) (by simp)) (St.got E0 (A := A1) (n := n1) (c := c1) (a := (x1).natAbs) (by simp)) (St.got E0 (A := A2) (n := n2) (c := c2) (a := (x2).natAbs) (by simp)) (by omega) (by omega) (by omega) (by omega) (by omega) (by omega) _ rfl F60.out F61.out).mono ?_; rintro e w37 ⟨A37, n37, c37, rfl, h, hb⟩
  have b37 : n37 ≤ 1 := len_le h B24.out
  replace E := Lib.hid (St.push E.out hb h)
  clear h hb
  have hSw := St.sb E; refine ⟨_, rfl, hSw, ?_⟩; intro a ha
  refine line_call awR 92 92 [] 105 (args := #[.int .i64 50, .int .i64 2]) [(104, .agg #[.bool (ngB x24), .slice A37 n37 c37, .int .i64 (s24 : Int)]), (99, .bool true), (1, .pointer (some ⟨w2.heap.size, 0, none⟩))] rfl (by decide) (by decide) (by decide) ha (fun o ho hg => ⟨(awR.wanted hg rfl ha (d := 99) (by simp)), e_call (by kernel_rfl) ho rfl (by simp only [List.map_toArray, List.map_cons, List.map_nil, ev_const])⟩) (by simp) ?_
  refine (mk_is5 (i := x25) (s := s25) _ F62.out F63.out M25.out (by omega)).mono ?_; rintro e w38 ⟨A38, n38, c38, rfl, h, hb⟩
  have b38 : n38 ≤ 1 := len_le h B25.out
  replace E := Lib.hid (St.push E.out hb h)
  clear h hb
  have hSw := St.sb E; refine ⟨_, rfl, hSw, ?_⟩; intro a ha
  refine line_call awR 93 93 [] 106 (args := #[.agg #[.bool (ngB x24), .slice A37 n37 c37, .int .i64 (s24 : Int)], .agg #[.bool (ngB x25), .slice A38 n38 c38, .int .i64 (s25 : Int)]]) [(99, .bool true), (1, .pointer (some ⟨w2.heap.size, 0, none⟩))] rfl (by decide) (by decide) (by decide) ha (fun o ho hg => ⟨(awR.wanted hg rfl ha (d := 99) (by simp)), e_call (by kernel_rfl) ho rfl (by have q0 := ha.ev (i := 104) (v := .agg #[.bool (ngB x24), .slice A37 n37 c37, .int .i64 (s24 : Int)]) (by simp); have q1 := ha.ev (i := 105) (v := .agg #[.bool (ngB x25), .slice A38 n38 c38, .int .i64 (s25 : Int)]) (by simp); simp only [List.map_toArray, List.map_cons, List.map_nil, ev_const, q0, q1])⟩) (by simp) ?_
  refine (alike_is5 (i := x24) (j := x25) (s := s24) (t := s25) (St.got E (A := A37) (n := n37) (c := c37) (a := (x24).natAbs) (by simp)) (St.got E (A := A38) (n := n38) (c := c38) (a := (x25).natAbs) (by simp)) F64.out).mono ?_; rintro e w39 ⟨rfl, hb⟩
  replace E := Lib.hid (St.step E.out hb)
  clear hb
  replace E : Hid (St w w39 [(A3, n3, c3, (x3).natAbs), (A3', n3', c3', (x4).natAbs), (A2, n2, c2, (x2).natAbs), (A1, n1, c1, (x1).natAbs)] [((w3.heap.size + 1), (.bool (ngB x4)), (.slice A3' n3' c3'), (.int .i64 (s3 : Int))), (w3.heap.size, (.bool (ngB x3)), (.slice A3 n3 c3), (.int .i64 (s3 : Int))), ((w2.heap.size + 1), (.bool (ngB x2)), (.slice A2 n2 c2), (.int .i64 (s2 : Int))), (w2.heap.size, (.bool (ngB x1)), (.slice A1 n1 c1), (.int .i64 (s1 : Int)))]) := Lib.hid ((E.out).sub (by simp) (by simp))
  have hSw := St.sb E; refine ⟨_, rfl, hSw, ?_⟩; intro a ha
  refine line_still awR 94 94 [] 107 (.bool true) [(1, .pointer (some ⟨w2.heap.size, 0, none⟩))] rfl (by decide) (by decide) (by decide) ha (fun o ho hg => y_of (wanted_none hg) (fun w hS => e_pick ho (ha.ev (i := 99) (v := .bool true) (by simp)) (ha.ev (i := 106) (v := .bool true) (by simp)) rfl)) (by simp) hSw ?_; intro a ha
  refine line_still awR 95 95 [] 108 (.bool true) [(1, .pointer (some ⟨w2.heap.size, 0, none⟩))] rfl (by decide) (by decide) (by decide) ha (fun o ho hg => y_of (wanted_none hg) (fun w hS => e_move (.inl ho) (ha.ev (i := 107) (v := .bool true) (by simp)))) (by simp) hSw ?_; intro a ha
  refine line_still awR 96 96 [] 109 (.agg #[(.bool (ngB x1)), (.slice A1 n1 c1), (.int .i64 (s1 : Int))]) [(108, .bool true)] rfl (by decide) (by decide) (by decide) ha (fun o ho hg => y_of (awR.wanted hg rfl ha (d := 108) (by simp)) (fun w hS => e_load ho (ha.ev (i := 1) (v := .pointer (some ⟨w2.heap.size, 0, none⟩)) (by simp)) (hS.at_ (g := w2.heap.size) (x0 := (.bool (ngB x1))) (x1 := (.slice A1 n1 c1)) (x2 := (.int .i64 (s1 : Int))) (by simp)))) (by simp) hSw ?_; intro a ha
  refine line_call awR 97 97 [] 110 (args := #[.agg #[(.bool (ngB x1)), (.slice A1 n1 c1), (.int .i64 (s1 : Int))]]) [(108, .bool true)] rfl (by decide) (by decide) (by decide) ha (fun o ho hg => ⟨(awR.wanted hg rfl ha (d := 108) (by simp)), e_call (by kernel_rfl) ho rfl (by have q0 := ha.ev (i := 109) (v := .agg #[(.bool (ngB x1)), (.slice A1 n1 c1), (.int .i64 (s1 : Int))]) (by simp); simp only [List.map_toArray, List.map_cons, List.map_nil, ev_const, q0])⟩) (by simp) ?_
  refine (right_is5 (i := x1) (s := s1) (St.got E (A := A1) (n := n1) (c := c1) (a := (x1).natAbs) (by simp))).mono ?_; rintro e w40 ⟨rfl, hb⟩
  replace E := Lib.hid (St.step E.out hb)
  clear hb
  have hSw := St.sb E; refine ⟨_, rfl, hSw, ?_⟩; intro a ha
  refine line_still awR 98 98 [] 111 (.bool true) [] rfl (by decide) (by decide) (by decide) ha (fun o ho hg => y_of (wanted_none hg) (fun w hS => e_pick ho (ha.ev (i := 108) (v := .bool true) (by simp)) (ha.ev (i := 110) (v := .bool true) (by simp)) rfl)) (by simp) hSw ?_; intro a ha
  refine line_still awR 99 99 [] 112 (.bool true) [] rfl (by decide) (by decide) (by decide) ha (fun o ho hg => y_of (wanted_none hg) (fun w hS => e_move (.inl ho) (ha.ev (i := 111) (v := .bool true) (by simp)))) (by simp) hSw ?_; intro a ha
  refine line_still awR 100 100 [] 113 (.agg #[.bool true, .slice none 0 0, .int .i64 0]) [(112, .bool true)] rfl (by decide) (by decide) (by decide) ha (fun o ho hg => y_of (awR.wanted hg rfl ha (d := 112) (by simp)) (fun w hS => by unfold execOp; rw [ho]; simp only [true_and]; go_simp)) (by simp) hSw ?_; intro a ha
  refine line_call awR 101 101 [] 114 (args := #[.agg #[.bool true, .slice none 0 0, .int .i64 0]]) [(112, .bool true)] rfl (by decide) (by decide) (by decide) ha (fun o ho hg => ⟨(awR.wanted hg rfl ha (d := 112) (by simp)), e_call (by kernel_rfl) ho rfl (by have q0 := ha.ev (i := 113) (v := .agg #[.bool true, .slice none 0 0, .int .i64 0]) (by simp); simp only [List.map_toArray, List.map_cons, List.map_nil, ev_const, q0])⟩) (by simp) ?_
  refine (rightD_no (b := true) (k := 0) rfl).mono ?_; rintro e w41 ⟨rfl, hb⟩
  replace E := Lib.hid (St.step E.out hb)
  clear hb
  have hSw := St.sb E; refine ⟨_, rfl, hSw, ?_⟩; intro a ha
  refine line_still awR 102 102 [] 115 (.bool true) [(112, .bool true)] rfl (by decide) (by decide) (by decide) ha (fun o ho hg => y_of (awR.wanted hg rfl ha (d := 112) (by simp)) (fun w hS => e_not ho (ha.ev (i := 114) (v := .bool false) (by simp)))) (by simp) hSw ?_; intro a ha
  refine line_still awR 103 103 [] 116 (.bool true) [] rfl (by decide) (by decide) (by decide) ha (fun o ho hg => y_of (wanted_none hg) (fun w hS => e_pick ho (ha.ev (i := 112) (v := .bool true) (by simp)) (ha.ev (i := 115) (v := .bool true) (by simp)) rfl)) (by simp) hSw ?_; intro a ha
  refine line_still awR 104 104 [] 117 (.bool true) [] rfl (by decide) (by decide) (by decide) ha (fun o ho hg => y_of (wanted_none hg) (fun w hS => e_move (.inl ho) (ha.ev (i := 116) (v := .bool true) (by simp)))) (by simp) hSw ?_; intro a ha
  refine line_still awR 105 105 [] 118 (.agg #[.bool false, .slice none 0 0, .int .i64 (-1)]) [(117, .bool true)] rfl (by decide) (by decide) (by decide) ha (fun o ho hg => y_of (awR.wanted hg rfl ha (d := 117) (by simp)) (fun w hS => by unfold execOp; rw [ho]; simp only [true_and]; go_simp)) (by simp) hSw ?_; intro a ha
  refine line_call awR 106 106 [] 119 (args := #[.agg #[.bool false, .slice none 0 0, .int .i64 (-1)]]) [(117, .bool true)] rfl (by decide) (by decide) (by decide) ha (fun o ho hg => ⟨(awR.wanted hg rfl ha (d := 117) (by simp)), e_call (by kernel_rfl) ho rfl (by have q0 := ha.ev (i := 118) (v := .agg #[.bool false, .slice none 0 0, .int .i64 (-1)]) (by simp); simp only [List.map_toArray, List.map_cons, List.map_nil, ev_const, q0])⟩) (by simp) ?_
  refine (rightD_no (b := false) (k := -1) rfl).mono ?_; rintro e w42 ⟨rfl, hb⟩
  replace E := Lib.hid (St.step E.out hb)
  clear hb
  have hSw := St.sb E; refine ⟨_, rfl, hSw, ?_⟩; intro a ha
  refine line_still awR 107 107 [] 120 (.bool true) [(117, .bool true)] rfl (by decide) (by decide) (by decide) ha (fun o ho hg => y_of (awR.wanted hg rfl ha (d := 117) (by simp)) (fun w hS => e_not ho (ha.ev (i := 119) (v := .bool false) (by simp)))) (by simp) hSw ?_; intro a ha
  refine line_still awR 108 108 [] 121 (.bool true) [] rfl (by decide) (by decide) (by decide) ha (fun o ho hg => y_of (wanted_none hg) (fun w hS => e_pick ho (ha.ev (i := 117) (v := .bool true) (by simp)) (ha.ev (i := 120) (v := .bool true) (by simp)) rfl)) (by simp) hSw ?_; intro a ha
  refine line_still awR 109 109 [] 0 (.bool true) [] rfl (by decide) (by decide) (by decide) ha (fun o ho hg => y_of (wanted_none hg) (fun w hS => e_move (.inr ho) (ha.ev (i := 121) (v := .bool true) (by simp)))) (by simp) hSw ?_; intro a ha
  refine line_end awR rfl ?_
  simp only [Exit.then]
  refine hK _ _ ?_
  go_wp2
  exact bodyPost_ret (v := .bool true) (by have := ha.2.2 (0, .bool true) (by simp); simp [results, Try.results14, go_sem, Array.getD_eq_getD_getElem?, this]) ha.2.1 ⟨rfl, E.out.bel⟩

end Go.Proofs.Ytafbkoejobkncaa
