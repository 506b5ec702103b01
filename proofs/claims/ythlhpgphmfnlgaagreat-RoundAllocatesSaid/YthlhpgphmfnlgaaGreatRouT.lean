/-
 The examples of layer 6 (awake) answer true, whatever the memory.
-/
import Derived.Test.YthlhpgphmfnlgaaGreatAllRouMathA
import Derived.Test.YthlhpgphmfnlgaaGreatLineD
set_option maxRecDepth 100000
set_option maxHeartbeats 32000000
set_option linter.unusedVariables false
set_option linter.unusedSimpArgs false
namespace Go.Proofs.YthlhpgphmfnlgaaGreat
open Go.RowKit
theorem tz_150 : tz 150 = 1 := by rw [tz_yes (by omega) (by omega), tz_no (by omega)]
theorem tz_155 : tz 155 = 0 := by rw [tz_no (by omega)]
theorem exact_150 : exactB 150 2 1 = true := by
 unfold exactB stripK; rw [if_neg (by decide), show (150 : Int).natAbs = 150 from rfl, tz_150]; decide
theorem exact_155 : exactB 155 2 1 = false := by
 unfold exactB stripK; rw [if_neg (by decide), show (155 : Int).natAbs = 155 from rfl, tz_155]; decide
theorem half_at {S M : Nat} {v : Int} (w : World) (hv : max v 0 = (S : Int)) (hS : S ≤ 10000) (hM : S + 1 = M) : Calls Tryz.prog 18 #[.int .i64 v] w (RetDec w 5 M) := by
 subst hM; exact half_is w hv hS
def awxT : List Row3 := [(some 17, none, .call { callee := .value (.func 15), args := #[.const (.int .i64 25), .const (.int .i64 1)], argTypes := #[3, 3] }), (some 18, none, .call { callee := .value (.func 17), args := #[.tmp 17, .const (.int .i64 0)], argTypes := #[25, 3] }), (some 19, none, .call { callee := .value (.func 15), args := #[.const (.int .i64 2), .const (.int .i64 0)], argTypes := #[3, 3] }), (some 20, none, .call { callee := .value (.func 16), args := #[.tmp 18, .tmp 19], argTypes := #[25, 25] }), (some 21, none, .move (.tmp 20)), (some 22, some (4, true), .call { callee := .value (.func 15), args := #[.const (.int .i64 (-35)), .const (.int .i64 1)], argTypes := #[3, 3] }), (some 23, some (4, true), .call { callee := .value (.func 17), args := #[.tmp 22, .const (.int .i64 0)], argTypes := #[25, 3] }), (some 24, some (4, true), .call { callee := .value (.func 15), args := #[.const (.int .i64 (-4)), .const (.int .i64 0)], argTypes := #[3, 3] }), (some 25, some (4, true), .call { callee := .value (.func 16), args := #[.tmp 23, .tmp 24], argTypes := #[25, 25] }), (some 26, none, .pick (.tmp 21) (.tmp 25) (.const (.bool false))), (some 27, none, .move (.tmp 26)), (some 28, some (10, true), .call { callee := .value (.func 15), args := #[.const (.int .i64 3), .const (.int .i64 0)], argTypes := #[3, 3] }), (some 29, some (10, true), .call { callee := .value (.func 17), args := #[.tmp 28, .const (.int .i64 2)], argTypes := #[25, 3] }), (some 30, some (10, true), .call { callee := .value (.func 15), args := #[.const (.int .i64 300), .const (.int .i64 2)], argTypes := #[3, 3] }), (some 31, some (10, true), .call { callee := .value (.func 16), args := #[.tmp 29, .tmp 30], argTypes := #[25, 25] }), (some 32, none, .pick (.tmp 27) (.tmp 31) (.const (.bool false))), (some 33, none, .move (.tmp 32)), (some 34, some (16, true), .move (.tmp 2)), (some 35, some (16, true), .binOp .eql 29 (.tmp 34) (.const (.int .i64 0)) 29), (some 36, none, .pick (.tmp 33) (.tmp 35) (.const (.bool false))), (some 37, none, .move (.tmp 36)), (some 38, some (20, true), .load 25 (.tmp 1)), (some 39, some (20, true), .call { callee := .value (.func 15), args := #[.const (.int .i64 3333), .const (.int .i64 4)], argTypes := #[3, 3] }), (some 40, some (20, true), .call { callee := .value (.func 16), args := #[.tmp 38, .tmp 39], argTypes := #[25, 25] }), (some 41, none, .pick (.tmp 37) (.tmp 40) (.const (.bool false))), (some 42, none, .move (.tmp 41)), (some 43, some (25, true), .move (.tmp 4)), (some 44, some (25, true), .binOp .eql 29 (.tmp 43) (.const (.int .i64 4)) 29), (some 45, none, .pick (.tmp 42) (.tmp 44) (.const (.bool false))), (some 46, none, .move (.tmp 45)), (some 47, some (29, true), .call { callee := .value (.func 18), args := #[.const (.int .i64 2)], argTypes := #[3] }), (some 48, some (29, true), .call { callee := .value (.func 15), args := #[.const (.int .i64 5), .const (.int .i64 3)], argTypes := #[3, 3] }), (some 49, some (29, true), .call { callee := .value (.func 16), args := #[.tmp 47, .tmp 48], argTypes := #[25, 25] }), (some 50, none, .pick (.tmp 46) (.tmp 49) (.const (.bool false))), (some 51, none, .move (.tmp 50)), (some 52, some (34, true), .call { callee := .value (.func 19), args := #[.const (.int .i64 2)], argTypes := #[3] }), (some 53, some (34, true), .call { callee := .value (.func 15), args := #[.const (.int .i64 1), .const (.int .i64 2)], argTypes := #[3, 3] }), (some 54, some (34, true), .call { callee := .value (.func 16), args := #[.tmp 52, .tmp 53], argTypes := #[25, 25] }), (some 55, none, .pick (.tmp 51) (.tmp 54) (.const (.bool false))), (some 56, none, .move (.tmp 55)), (some 57, some (39, true), .call { callee := .value (.func 15), args := #[.const (.int .i64 150), .const (.int .i64 2)], argTypes := #[3, 3] }), (some 58, some (39, true), .call { callee := .value (.func 20), args := #[.tmp 57, .const (.int .i64 1)], argTypes := #[25, 3] }), (some 59, none, .pick (.tmp 56) (.tmp 58) (.const (.bool false))), (some 60, none, .move (.tmp 59)), (some 61, some (43, true), .call { callee := .value (.func 15), args := #[.const (.int .i64 155), .const (.int .i64 2)], argTypes := #[3, 3] }), (some 62, some (43, true), .call { callee := .value (.func 20), args := #[.tmp 61, .const (.int .i64 1)], argTypes := #[25, 3] }), (some 63, some (43, true), .unOp .not 4 (.tmp 62)), (some 64, none, .pick (.tmp 60) (.tmp 63) (.const (.bool false))), (some 65, none, .move (.tmp 64)), (some 66, some (48, true), .call { callee := .value (.func 15), args := #[.const (.int .i64 (-4)), .const (.int .i64 1)], argTypes := #[3, 3] }), (some 67, some (48, true), .call { callee := .value (.func 17), args := #[.tmp 66, .const (.int .i64 0)], argTypes := #[25, 3] }), (some 68, some (48, true), .call { callee := .value (.func 15), args := #[.const (.int .i64 0), .const (.int .i64 0)], argTypes := #[3, 3] }), (some 69, some (48, true), .call { callee := .value (.func 16), args := #[.tmp 67, .tmp 68], argTypes := #[25, 25] }), (some 70, none, .pick (.tmp 65) (.tmp 69) (.const (.bool false))), (some 0, none, .assign (.tmp 70))]
theorem awxRow : (opsAt Tryz.prog 5 3).toList.map row3 = awxT := by kernel_rfl
theorem awxSel : Region.noSelect (opsAt Tryz.prog 5 3) = true := by kernel_rfl
theorem awxDone : Region.ready .any (opsAt Tryz.prog 5 3) (upto (opsAt Tryz.prog 5 3).size (opsAt Tryz.prog 5 3).size []) = [] := by kernel_rfl
theorem awxstill0 : [(4, [], 4), (9, [], 9), (10, [], 10), (15, [], 15), (16, [], 16), (17, [], 17), (18, [], 18), (19, [], 19), (20, [], 20), (21, [], 21)].all (stillB (opsAt Tryz.prog 5 3)) = true := by kernel_rfl
theorem awxstill1 : [(24, [], 24), (25, [], 25), (26, [], 26), (27, [], 27), (28, [], 28), (29, [], 29), (33, [], 33), (34, [], 34), (38, [], 38), (39, [], 39)].all (stillB (opsAt Tryz.prog 5 3)) = true := by kernel_rfl
theorem awxstill2 : [(42, [], 42), (43, [], 43), (46, [], 46), (47, [], 47), (48, [], 48), (53, [], 53), (54, [], 54)].all (stillB (opsAt Tryz.prog 5 3)) = true := by kernel_rfl
theorem awxsole0 : [(0, [], 0), (1, [], 1), (2, [], 2), (3, [], 3), (5, [], 5), (6, [], 6), (7, [], 7), (8, [], 8), (11, [], 11), (12, [], 12)].all (soleB (opsAt Tryz.prog 5 3)) = true := by kernel_rfl
theorem awxsole1 : [(13, [], 13), (14, [], 14), (22, [], 22), (23, [], 23), (30, [], 30), (31, [], 31), (32, [], 32), (35, [], 35), (36, [], 36), (37, [], 37)].all (soleB (opsAt Tryz.prog 5 3)) = true := by kernel_rfl
theorem awxsole2 : [(40, [], 40), (41, [], 41), (44, [], 44), (45, [], 45), (49, [], 49), (50, [], 50), (51, [], 51), (52, [], 52)].all (soleB (opsAt Tryz.prog 5 3)) = true := by kernel_rfl
theorem awxR : Reg (opsAt Tryz.prog 5 3) awxT [(4, [], 4), (9, [], 9), (10, [], 10), (15, [], 15), (16, [], 16), (17, [], 17), (18, [], 18), (19, [], 19), (20, [], 20), (21, [], 21), (24, [], 24), (25, [], 25), (26, [], 26), (27, [], 27), (28, [], 28), (29, [], 29), (33, [], 33), (34, [], 34), (38, [], 38), (39, [], 39), (42, [], 42), (43, [], 43), (46, [], 46), (47, [], 47), (48, [], 48), (53, [], 53), (54, [], 54)] [(0, [], 0), (1, [], 1), (2, [], 2), (3, [], 3), (5, [], 5), (6, [], 6), (7, [], 7), (8, [], 8), (11, [], 11), (12, [], 12), (13, [], 13), (14, [], 14), (22, [], 22), (23, [], 23), (30, [], 30), (31, [], 31), (32, [], 32), (35, [], 35), (36, [], 36), (37, [], 37), (40, [], 40), (41, [], 41), (44, [], 44), (45, [], 45), (49, [], 49), (50, [], 50), (51, [], 51), (52, [], 52)] := ⟨awxRow, awxSel, (all_parts awxstill0 (all_parts awxstill1 (all_parts awxstill2 (fun k h => by cases h)))), (all_parts awxsole0 (all_parts awxsole1 (all_parts awxsole2 (fun k h => by cases h)))), awxDone⟩
theorem awake6 (w : World) : Calls Tryz.prog 5 #[] w (RetVal w (.bool true)) := by
 have O1 : Hid ((dg (1 : Int).natAbs).length ≤ 1) := (by show _ ≤ _; exact dg_len_le (by decide))
 have O5 : Hid ((dg (5 : Int).natAbs).length ≤ 1) := (by show _ ≤ _; exact dg_len_le (by decide))
 obtain ⟨x1, hx1⟩ : ∃ x : Int, x = (1 : Int) := ⟨_, rfl⟩
 obtain ⟨s1, hs1⟩ : ∃ s : Nat, s = 0 := ⟨_, rfl⟩
 have z1 : s1 ≤ 10 := by omega
 have B1 : Hid ((dg x1.natAbs).length ≤ 1) := (by show _ ≤ _; rw [hx1]; exact dg_len_le (by decide))
 have M1 : Hid (x1.natAbs < 1000000000) := (by show _ < _; rw [hx1]; decide)
 have F1 : Hid ((1 : Int) = x1) := (by show _ = _; subst hx1; subst hs1; decide)
 have F2 : Hid ((0 : Int) = (s1 : Int)) := (by show _ = _; subst hx1; subst hs1; decide)
 obtain ⟨x2, hx2⟩ : ∃ x : Int, x = (3 : Int) := ⟨_, rfl⟩
 obtain ⟨s2, hs2⟩ : ∃ s : Nat, s = 0 := ⟨_, rfl⟩
 have z2 : s2 ≤ 10 := by omega
 have B2 : Hid ((dg x2.natAbs).length ≤ 1) := (by show _ ≤ _; rw [hx2]; exact dg_len_le (by decide))
 have M2 : Hid (x2.natAbs < 1000000000) := (by show _ < _; rw [hx2]; decide)
 have F3 : Hid ((3 : Int) = x2) := (by show _ = _; subst hx2; subst hs2; decide)
 have F4 : Hid ((0 : Int) = (s2 : Int)) := (by show _ = _; subst hx2; subst hs2; decide)
 obtain ⟨x3, hx3⟩ : ∃ x : Int, x = (3333 : Int) := ⟨_, rfl⟩
 obtain ⟨s3, hs3⟩ : ∃ s : Nat, s = 4 := ⟨_, rfl⟩
 have z3 : s3 ≤ 10 := by omega
 have B3 : Hid ((dg x3.natAbs).length ≤ 1) := (by show _ ≤ _; rw [hx3]; exact dg_len_le (by decide))
 have M3 : Hid (x3.natAbs < 1000000000) := (by show _ < _; rw [hx3]; decide)
 have F5 : Hid (max (4 : Int) 0 = (s3 : Int)) := (by show _ = _; subst hx3; subst hs3; decide)
 have F6 : Hid (x2 ≠ 0) := (by show _ ≠ _; subst hx2; subst hs2; decide)
 have F7 : Hid (divZ x1 s1 x2 s2 s3 = x3) := (by show _ = _; subst hx1; subst hs1; subst hx2; subst hs2; subst hx3; subst hs3; decide)
 obtain ⟨x4, hx4⟩ : ∃ x : Int, x = (1 : Int) := ⟨_, rfl⟩
 obtain ⟨s4, hs4⟩ : ∃ s : Nat, s = 0 := ⟨_, rfl⟩
 have z4 : s4 ≤ 10 := by omega
 have B4 : Hid ((dg x4.natAbs).length ≤ 1) := (by show _ ≤ _; rw [hx4]; exact dg_len_le (by decide))
 have M4 : Hid (x4.natAbs < 1000000000) := (by show _ < _; rw [hx4]; decide)
 have F8 : Hid ((1 : Int) = x4) := (by show _ = _; subst hx4; subst hs4; decide)
 have F9 : Hid ((0 : Int) = (s4 : Int)) := (by show _ = _; subst hx4; subst hs4; decide)
 obtain ⟨x5, hx5⟩ : ∃ x : Int, x = (0 : Int) := ⟨_, rfl⟩
 obtain ⟨s5, hs5⟩ : ∃ s : Nat, s = 2 := ⟨_, rfl⟩
 have z5 : s5 ≤ 10 := by omega
 have B5 : Hid ((dg x5.natAbs).length ≤ 1) := (by show _ ≤ _; rw [hx5]; exact dg_len_le (by decide))
 have M5 : Hid (x5.natAbs < 1000000000) := (by show _ < _; rw [hx5]; decide)
 have F10 : Hid ((0 : Int) = x5) := (by show _ = _; subst hx5; subst hs5; decide)
 have F11 : Hid ((2 : Int) = (s5 : Int)) := (by show _ = _; subst hx5; subst hs5; decide)
 have F12 : Hid (max (4 : Int) 0 = (s3 : Int)) := (by show _ = _; subst hx3; subst hs3; decide)
 have F13 : Hid (x5 = 0) := (by show _ = _; subst hx5; subst hs5; decide)
 obtain ⟨x6, hx6⟩ : ∃ x : Int, x = (25 : Int) := ⟨_, rfl⟩
 obtain ⟨s6, hs6⟩ : ∃ s : Nat, s = 1 := ⟨_, rfl⟩
 have z6 : s6 ≤ 10 := by omega
 have B6 : Hid ((dg x6.natAbs).length ≤ 1) := (by show _ ≤ _; rw [hx6]; exact dg_len_le (by decide))
 have M6 : Hid (x6.natAbs < 1000000000) := (by show _ < _; rw [hx6]; decide)
 have F14 : Hid ((25 : Int) = x6) := (by show _ = _; subst hx6; subst hs6; decide)
 have F15 : Hid ((1 : Int) = (s6 : Int)) := (by show _ = _; subst hx6; subst hs6; decide)
 obtain ⟨x7, hx7⟩ : ∃ x : Int, x = (2 : Int) := ⟨_, rfl⟩
 obtain ⟨s7, hs7⟩ : ∃ s : Nat, s = 0 := ⟨_, rfl⟩
 have z7 : s7 ≤ 10 := by omega
 have B7 : Hid ((dg x7.natAbs).length ≤ 1) := (by show _ ≤ _; rw [hx7]; exact dg_len_le (by decide))
 have M7 : Hid (x7.natAbs < 1000000000) := (by show _ < _; rw [hx7]; decide)
 have F16 : Hid (max (0 : Int) 0 = (s7 : Int)) := (by show _ = _; subst hx7; subst hs7; decide)
 have F17 : Hid (quantZ x6 s6 s7 = x7) := (by show _ = _; subst hx6; subst hs6; subst hx7; subst hs7; decide)
 obtain ⟨x8, hx8⟩ : ∃ x : Int, x = (2 : Int) := ⟨_, rfl⟩
 obtain ⟨s8, hs8⟩ : ∃ s : Nat, s = 0 := ⟨_, rfl⟩
 have z8 : s8 ≤ 10 := by omega
 have B8 : Hid ((dg x8.natAbs).length ≤ 1) := (by show _ ≤ _; rw [hx8]; exact dg_len_le (by decide))
 have M8 : Hid (x8.natAbs < 1000000000) := (by show _ < _; rw [hx8]; decide)
 have F18 : Hid ((2 : Int) = x8) := (by show _ = _; subst hx8; subst hs8; decide)
 have F19 : Hid ((0 : Int) = (s8 : Int)) := (by show _ = _; subst hx8; subst hs8; decide)
 have F20 : Hid (alikeB x7 s7 x8 s8 = true) := (by show _ = _; subst hx7; subst hs7; subst hx8; subst hs8; decide)
 obtain ⟨x9, hx9⟩ : ∃ x : Int, x = (-35 : Int) := ⟨_, rfl⟩
 obtain ⟨s9, hs9⟩ : ∃ s : Nat, s = 1 := ⟨_, rfl⟩
 have z9 : s9 ≤ 10 := by omega
 have B9 : Hid ((dg x9.natAbs).length ≤ 1) := (by show _ ≤ _; rw [hx9]; exact dg_len_le (by decide))
 have M9 : Hid (x9.natAbs < 1000000000) := (by show _ < _; rw [hx9]; decide)
 have F21 : Hid ((-35 : Int) = x9) := (by show _ = _; subst hx9; subst hs9; decide)
 have F22 : Hid ((1 : Int) = (s9 : Int)) := (by show _ = _; subst hx9; subst hs9; decide)
 obtain ⟨x10, hx10⟩ : ∃ x : Int, x = (-4 : Int) := ⟨_, rfl⟩
 obtain ⟨s10, hs10⟩ : ∃ s : Nat, s = 0 := ⟨_, rfl⟩
 have z10 : s10 ≤ 10 := by omega
 have B10 : Hid ((dg x10.natAbs).length ≤ 1) := (by show _ ≤ _; rw [hx10]; exact dg_len_le (by decide))
 have M10 : Hid (x10.natAbs < 1000000000) := (by show _ < _; rw [hx10]; decide)
 have F23 : Hid (max (0 : Int) 0 = (s10 : Int)) := (by show _ = _; subst hx10; subst hs10; decide)
 have F24 : Hid (quantZ x9 s9 s10 = x10) := (by show _ = _; subst hx9; subst hs9; subst hx10; subst hs10; decide)
 obtain ⟨x11, hx11⟩ : ∃ x : Int, x = (-4 : Int) := ⟨_, rfl⟩
 obtain ⟨s11, hs11⟩ : ∃ s : Nat, s = 0 := ⟨_, rfl⟩
 have z11 : s11 ≤ 10 := by omega
 have B11 : Hid ((dg x11.natAbs).length ≤ 1) := (by show _ ≤ _; rw [hx11]; exact dg_len_le (by decide))
 have M11 : Hid (x11.natAbs < 1000000000) := (by show _ < _; rw [hx11]; decide)
 have F25 : Hid ((-4 : Int) = x11) := (by show _ = _; subst hx11; subst hs11; decide)
 have F26 : Hid ((0 : Int) = (s11 : Int)) := (by show _ = _; subst hx11; subst hs11; decide)
 have F27 : Hid (alikeB x10 s10 x11 s11 = true) := (by show _ = _; subst hx10; subst hs10; subst hx11; subst hs11; decide)
 obtain ⟨x12, hx12⟩ : ∃ x : Int, x = (3 : Int) := ⟨_, rfl⟩
 obtain ⟨s12, hs12⟩ : ∃ s : Nat, s = 0 := ⟨_, rfl⟩
 have z12 : s12 ≤ 10 := by omega
 have B12 : Hid ((dg x12.natAbs).length ≤ 1) := (by show _ ≤ _; rw [hx12]; exact dg_len_le (by decide))
 have M12 : Hid (x12.natAbs < 1000000000) := (by show _ < _; rw [hx12]; decide)
 have F28 : Hid ((3 : Int) = x12) := (by show _ = _; subst hx12; subst hs12; decide)
 have F29 : Hid ((0 : Int) = (s12 : Int)) := (by show _ = _; subst hx12; subst hs12; decide)
 obtain ⟨x13, hx13⟩ : ∃ x : Int, x = (300 : Int) := ⟨_, rfl⟩
 obtain ⟨s13, hs13⟩ : ∃ s : Nat, s = 2 := ⟨_, rfl⟩
 have z13 : s13 ≤ 10 := by omega
 have B13 : Hid ((dg x13.natAbs).length ≤ 1) := (by show _ ≤ _; rw [hx13]; exact dg_len_le (by decide))
 have M13 : Hid (x13.natAbs < 1000000000) := (by show _ < _; rw [hx13]; decide)
 have F30 : Hid (max (2 : Int) 0 = (s13 : Int)) := (by show _ = _; subst hx13; subst hs13; decide)
 have F31 : Hid (quantZ x12 s12 s13 = x13) := (by show _ = _; subst hx12; subst hs12; subst hx13; subst hs13; decide)
 obtain ⟨x14, hx14⟩ : ∃ x : Int, x = (300 : Int) := ⟨_, rfl⟩
 obtain ⟨s14, hs14⟩ : ∃ s : Nat, s = 2 := ⟨_, rfl⟩
 have z14 : s14 ≤ 10 := by omega
 have B14 : Hid ((dg x14.natAbs).length ≤ 1) := (by show _ ≤ _; rw [hx14]; exact dg_len_le (by decide))
 have M14 : Hid (x14.natAbs < 1000000000) := (by show _ < _; rw [hx14]; decide)
 have F32 : Hid ((300 : Int) = x14) := (by show _ = _; subst hx14; subst hs14; decide)
 have F33 : Hid ((2 : Int) = (s14 : Int)) := (by show _ = _; subst hx14; subst hs14; decide)
 have F34 : Hid (alikeB x13 s13 x14 s14 = true) := (by show _ = _; subst hx13; subst hs13; subst hx14; subst hs14; decide)
 obtain ⟨x15, hx15⟩ : ∃ x : Int, x = (3333 : Int) := ⟨_, rfl⟩
 obtain ⟨s15, hs15⟩ : ∃ s : Nat, s = 4 := ⟨_, rfl⟩
 have z15 : s15 ≤ 10 := by omega
 have B15 : Hid ((dg x15.natAbs).length ≤ 1) := (by show _ ≤ _; rw [hx15]; exact dg_len_le (by decide))
 have M15 : Hid (x15.natAbs < 1000000000) := (by show _ < _; rw [hx15]; decide)
 have F35 : Hid ((3333 : Int) = x15) := (by show _ = _; subst hx15; subst hs15; decide)
 have F36 : Hid ((4 : Int) = (s15 : Int)) := (by show _ = _; subst hx15; subst hs15; decide)
 have F37 : Hid (alikeB x3 s3 x15 s15 = true) := (by show _ = _; subst hx3; subst hs3; subst hx15; subst hs15; decide)
 obtain ⟨x16, hx16⟩ : ∃ x : Int, x = (5 : Int) := ⟨_, rfl⟩
 obtain ⟨s16, hs16⟩ : ∃ s : Nat, s = 2 := ⟨_, rfl⟩
 have z16 : s16 ≤ 10 := by omega
 have B16 : Hid ((dg x16.natAbs).length ≤ 1) := (by show _ ≤ _; rw [hx16]; exact dg_len_le (by decide))
 have M16 : Hid (x16.natAbs < 1000000000) := (by show _ < _; rw [hx16]; decide)
 obtain ⟨x17, hx17⟩ : ∃ x : Int, x = (5 : Int) := ⟨_, rfl⟩
 obtain ⟨s17, hs17⟩ : ∃ s : Nat, s = 3 := ⟨_, rfl⟩
 have z17 : s17 ≤ 10 := by omega
 have B17 : Hid ((dg x17.natAbs).length ≤ 1) := (by show _ ≤ _; rw [hx17]; exact dg_len_le (by decide))
 have M17 : Hid (x17.natAbs < 1000000000) := (by show _ < _; rw [hx17]; decide)
 have F38 : Hid (max (2 : Int) 0 = (s16 : Int)) := (by show _ = _; subst hx16; subst hs16; decide)
 have F39 : Hid (s16 + 1 = s17) := (by show _ = _; subst hx16; subst hs16; subst hx17; subst hs17; decide)
 obtain ⟨x18, hx18⟩ : ∃ x : Int, x = (5 : Int) := ⟨_, rfl⟩
 obtain ⟨s18, hs18⟩ : ∃ s : Nat, s = 3 := ⟨_, rfl⟩
 have z18 : s18 ≤ 10 := by omega
 have B18 : Hid ((dg x18.natAbs).length ≤ 1) := (by show _ ≤ _; rw [hx18]; exact dg_len_le (by decide))
 have M18 : Hid (x18.natAbs < 1000000000) := (by show _ < _; rw [hx18]; decide)
 have F40 : Hid ((5 : Int) = x18) := (by show _ = _; subst hx18; subst hs18; decide)
 have F41 : Hid ((3 : Int) = (s18 : Int)) := (by show _ = _; subst hx18; subst hs18; decide)
 have F42 : Hid (alikeB (5 : Int) s17 x18 s18 = true) := (by show _ = _; subst hx17; subst hs17; subst hx18; subst hs18; decide)
 obtain ⟨x19, hx19⟩ : ∃ x : Int, x = (1 : Int) := ⟨_, rfl⟩
 obtain ⟨s19, hs19⟩ : ∃ s : Nat, s = 2 := ⟨_, rfl⟩
 have z19 : s19 ≤ 10 := by omega
 have B19 : Hid ((dg x19.natAbs).length ≤ 1) := (by show _ ≤ _; rw [hx19]; exact dg_len_le (by decide))
 have M19 : Hid (x19.natAbs < 1000000000) := (by show _ < _; rw [hx19]; decide)
 have F43 : Hid (max (2 : Int) 0 = (s19 : Int)) := (by show _ = _; subst hx19; subst hs19; decide)
 obtain ⟨x20, hx20⟩ : ∃ x : Int, x = (1 : Int) := ⟨_, rfl⟩
 obtain ⟨s20, hs20⟩ : ∃ s : Nat, s = 2 := ⟨_, rfl⟩
 have z20 : s20 ≤ 10 := by omega
 have B20 : Hid ((dg x20.natAbs).length ≤ 1) := (by show _ ≤ _; rw [hx20]; exact dg_len_le (by decide))
 have M20 : Hid (x20.natAbs < 1000000000) := (by show _ < _; rw [hx20]; decide)
 have F44 : Hid ((1 : Int) = x20) := (by show _ = _; subst hx20; subst hs20; decide)
 have F45 : Hid ((2 : Int) = (s20 : Int)) := (by show _ = _; subst hx20; subst hs20; decide)
 have F46 : Hid (alikeB (1 : Int) s19 x20 s20 = true) := (by show _ = _; subst hx19; subst hs19; subst hx20; subst hs20; decide)
 obtain ⟨x21, hx21⟩ : ∃ x : Int, x = (150 : Int) := ⟨_, rfl⟩
 obtain ⟨s21, hs21⟩ : ∃ s : Nat, s = 2 := ⟨_, rfl⟩
 have z21 : s21 ≤ 10 := by omega
 have B21 : Hid ((dg x21.natAbs).length ≤ 1) := (by show _ ≤ _; rw [hx21]; exact dg_len_le (by decide))
 have M21 : Hid (x21.natAbs < 1000000000) := (by show _ < _; rw [hx21]; decide)
 have F47 : Hid ((150 : Int) = x21) := (by show _ = _; subst hx21; subst hs21; decide)
 have F48 : Hid ((2 : Int) = (s21 : Int)) := (by show _ = _; subst hx21; subst hs21; decide)
 obtain ⟨x22, hx22⟩ : ∃ x : Int, x = (1 : Int) := ⟨_, rfl⟩
 obtain ⟨s22, hs22⟩ : ∃ s : Nat, s = 1 := ⟨_, rfl⟩
 have z22 : s22 ≤ 10 := by omega
 have B22 : Hid ((dg x22.natAbs).length ≤ 1) := (by show _ ≤ _; rw [hx22]; exact dg_len_le (by decide))
 have M22 : Hid (x22.natAbs < 1000000000) := (by show _ < _; rw [hx22]; decide)
 have F49 : Hid (max (1 : Int) 0 = (s22 : Int)) := (by show _ = _; subst hx22; subst hs22; decide)
 have F50 : Hid (exactB x21 s21 s22 = true) := (by show _ = _; subst hx21; subst hs21; subst hx22; subst hs22; exact exact_150)
 obtain ⟨x23, hx23⟩ : ∃ x : Int, x = (155 : Int) := ⟨_, rfl⟩
 obtain ⟨s23, hs23⟩ : ∃ s : Nat, s = 2 := ⟨_, rfl⟩
 have z23 : s23 ≤ 10 := by omega
 have B23 : Hid ((dg x23.natAbs).length ≤ 1) := (by show _ ≤ _; rw [hx23]; exact dg_len_le (by decide))
 have M23 : Hid (x23.natAbs < 1000000000) := (by show _ < _; rw [hx23]; decide)
 have F51 : Hid ((155 : Int) = x23) := (by show _ = _; subst hx23; subst hs23; decide)
 have F52 : Hid ((2 : Int) = (s23 : Int)) := (by show _ = _; subst hx23; subst hs23; decide)
 obtain ⟨x24, hx24⟩ : ∃ x : Int, x = (1 : Int) := ⟨_, rfl⟩
 obtain ⟨s24, hs24⟩ : ∃ s : Nat, s = 1 := ⟨_, rfl⟩
 have z24 : s24 ≤ 10 := by omega
 have B24 : Hid ((dg x24.natAbs).length ≤ 1) := (by show _ ≤ _; rw [hx24]; exact dg_len_le (by decide))
 have M24 : Hid (x24.natAbs < 1000000000) := (by show _ < _; rw [hx24]; decide)
 have F53 : Hid (max (1 : Int) 0 = (s24 : Int)) := (by show _ = _; subst hx24; subst hs24; decide)
 have F54 : Hid (exactB x23 s23 s24 = false) := (by show _ = _; subst hx23; subst hs23; subst hx24; subst hs24; exact exact_155)
 obtain ⟨x25, hx25⟩ : ∃ x : Int, x = (-4 : Int) := ⟨_, rfl⟩
 obtain ⟨s25, hs25⟩ : ∃ s : Nat, s = 1 := ⟨_, rfl⟩
 have z25 : s25 ≤ 10 := by omega
 have B25 : Hid ((dg x25.natAbs).length ≤ 1) := (by show _ ≤ _; rw [hx25]; exact dg_len_le (by decide))
 have M25 : Hid (x25.natAbs < 1000000000) := (by show _ < _; rw [hx25]; decide)
 have F55 : Hid ((-4 : Int) = x25) := (by show _ = _; subst hx25; subst hs25; decide)
 have F56 : Hid ((1 : Int) = (s25 : Int)) := (by show _ = _; subst hx25; subst hs25; decide)
 obtain ⟨x26, hx26⟩ : ∃ x : Int, x = (0 : Int) := ⟨_, rfl⟩
 obtain ⟨s26, hs26⟩ : ∃ s : Nat, s = 0 := ⟨_, rfl⟩
 have z26 : s26 ≤ 10 := by omega
 have B26 : Hid ((dg x26.natAbs).length ≤ 1) := (by show _ ≤ _; rw [hx26]; exact dg_len_le (by decide))
 have M26 : Hid (x26.natAbs < 1000000000) := (by show _ < _; rw [hx26]; decide)
 have F57 : Hid (max (0 : Int) 0 = (s26 : Int)) := (by show _ = _; subst hx26; subst hs26; decide)
 have F58 : Hid (quantZ x25 s25 s26 = x26) := (by show _ = _; subst hx25; subst hs25; subst hx26; subst hs26; decide)
 obtain ⟨x27, hx27⟩ : ∃ x : Int, x = (0 : Int) := ⟨_, rfl⟩
 obtain ⟨s27, hs27⟩ : ∃ s : Nat, s = 0 := ⟨_, rfl⟩
 have z27 : s27 ≤ 10 := by omega
 have B27 : Hid ((dg x27.natAbs).length ≤ 1) := (by show _ ≤ _; rw [hx27]; exact dg_len_le (by decide))
 have M27 : Hid (x27.natAbs < 1000000000) := (by show _ < _; rw [hx27]; decide)
 have F59 : Hid ((0 : Int) = x27) := (by show _ = _; subst hx27; subst hs27; decide)
 have F60 : Hid ((0 : Int) = (s27 : Int)) := (by show _ = _; subst hx27; subst hs27; decide)
 have F61 : Hid (alikeB x26 s26 x27 s27 = true) := (by show _ = _; subst hx26; subst hs26; subst hx27; subst hs27; decide)
 clear hx1 hs1 hx2 hs2 hx3 hs3 hx4 hs4 hx5 hs5 hx6 hs6 hx7 hs7 hx8 hs8 hx9 hs9 hx10 hs10 hx11 hs11 hx12 hs12 hx13 hs13 hx14 hs14 hx15 hs15 hx16 hs16 hx17 hs17 hx18 hs18 hx19 hs19 hx20 hs20 hx21 hs21 hx22 hs22 hx23 hs23 hx24 hs24 hx25 hs25 hx26 hs26 hx27 hs27
 have E : Hid (St w w [] []) := St.start w (fun q hq => by cases hq)
 go_enter Tryz.func5, Tryz.ntmps5
 go_wp2_with fail
 refine (mk_is5 (i := x1) (s := s1) _ F1.out F2.out M1.out (by omega)).mono ?_; rintro e w1 ⟨A1, n1, c1, rfl, h, hb⟩
 have b1 : n1 ≤ 1 := len_le h B1.out
 replace E := Lib.hid (St.push E.out hb h)
 clear h hb
 go_wp2_with fail
 refine (mk_is5 (i := x2) (s := s2) _ F3.out F4.out M2.out (by omega)).mono ?_; rintro e w2 ⟨A2, n2, c2, rfl, h, hb⟩
 have b2 : n2 ≤ 1 := len_le h B2.out
 replace E := Lib.hid (St.push E.out hb h)
 clear h hb
 go_wp2_with fail
 refine (rdiv_is (i := x1) (s := s1) (j := x2) (t := s2) (S := s3) (St.got E (A := A1) (n := n1) (c := c1) (a := (x1).natAbs) (by simp)) (St.got E (A := A2) (n := n2) (c := c2) (a := (x2).natAbs) (by simp)) (by omega) (by omega) (by omega) (by omega) F5.out (by omega) F6.out F7.out).mono ?_; rintro e w3 ⟨A3, n3, c3, rfl, h, hb⟩
 have b3 : n3 ≤ 1 := len_le h B3.out
 replace E := Lib.hid (St.push E.out hb h)
 clear h hb
 replace E := Lib.hid (St.lay (t := 25) (x0 := (.bool (ngB x3))) (x1 := (.slice A3 n3 c3)) (x2 := (.int .i64 (s3 : Int))) (g := w3.heap.size) E.out rfl)
 go_wp2_with fail
 refine (mk_is5 (i := x4) (s := s4) _ F8.out F9.out M4.out (by omega)).mono ?_; rintro e w4 ⟨A4, n4, c4, rfl, h, hb⟩
 have b4 : n4 ≤ 1 := len_le h B4.out
 replace E := Lib.hid (St.push E.out hb h)
 clear h hb
 go_wp2_with fail
 refine (mk_is5 (i := x5) (s := s5) _ F10.out F11.out M5.out (by omega)).mono ?_; rintro e w5 ⟨A5, n5, c5, rfl, h, hb⟩
 have b5 : n5 ≤ 1 := len_le h B5.out
 replace E := Lib.hid (St.push E.out hb h)
 clear h hb
 go_wp2_with fail
 refine (rdiv_zero (i := x4) (s := s4) (j := x5) (t := s5) (S := s3) (St.got E (A := A4) (n := n4) (c := c4) (a := (x4).natAbs) (by simp)) (St.got E (A := A5) (n := n5) (c := c5) (a := (x5).natAbs) (by simp)) (by omega) (by omega) (by omega) (by omega) F12.out (by omega) F13.out).mono ?_; rintro e w6 ⟨rfl, hb⟩
 replace E := Lib.hid (St.step E.out hb)
 clear hb
 replace E := Lib.hid (St.alloc E.out (.cells #[.bool false, .slice none 0 0, .int .i64 0] 25))
 go_wp2_with fail
 generalize hW2 : World.alloc w6 _ = W1 at E ⊢
 clear hW2
 replace E := Lib.hid (St.drew E.out)
 rename_i K hK
 refine line_start (ops := opsAt Tryz.prog 5 3) (S := SB [(w3.heap.size, (.bool (ngB x3)), (.slice A3 n3 c3), (.int .i64 (s3 : Int)))]) (by kernel_rfl) (by kernel_rfl) (St.sb E) ?_
 have hSw := St.sb E
 generalize hA : Act.mk _ _ = a
 have ha : Fr 71 a [(1, .pointer (some ⟨w3.heap.size, 0, none⟩)), (2, .int .i64 0), (4, .int .i64 4)] := by rw [← hA]; exact ⟨rfl, rfl, by intro q hq; simp at hq; rcases hq with rfl | rfl | rfl <;> rfl⟩
 clear hA
 refine line_call awxR 0 0 [] 17 (args := #[.int .i64 25, .int .i64 1]) [(1, .pointer (some ⟨w3.heap.size, 0, none⟩)), (2, .int .i64 0), (4, .int .i64 4)] rfl (by decide) (by decide) (by decide) ha (fun o ho hg => ⟨(wanted_none hg), e_call (by kernel_rfl) ho rfl (by simp only [List.map_toArray, List.map_cons, List.map_nil, ev_const])⟩) (by simp) ?_
 refine (mk_is5 (i := x6) (s := s6) _ F14.out F15.out M6.out (by omega)).mono ?_; rintro e w7 ⟨A7, n7, c7, rfl, h, hb⟩
 have b7 : n7 ≤ 1 := len_le h B6.out
 replace E := Lib.hid (St.push E.out hb h)
 clear h hb
 have hSw := St.sb E; refine ⟨_, rfl, hSw, ?_⟩; intro a ha
 refine line_call awxR 1 1 [] 18 (args := #[.agg #[.bool (ngB x6), .slice A7 n7 c7, .int .i64 (s6 : Int)], .int .i64 0]) [(1, .pointer (some ⟨w3.heap.size, 0, none⟩)), (2, .int .i64 0), (4, .int .i64 4)] rfl (by decide) (by decide) (by decide) ha (fun o ho hg => ⟨(wanted_none hg), e_call (by kernel_rfl) ho rfl (by have q0 := ha.ev (i := 17) (v := .agg #[.bool (ngB x6), .slice A7 n7 c7, .int .i64 (s6 : Int)]) (by simp); simp only [List.map_toArray, List.map_cons, List.map_nil, ev_const, q0])⟩) (by simp) ?_
 refine (quant_is (i := x6) (s := s6) (S := s7) (St.got E (A := A7) (n := n7) (c := c7) (a := (x6).natAbs) (by simp)) (by omega) (by omega) F16.out (by omega) F17.out).mono ?_; rintro e w8 ⟨A8, n8, c8, rfl, h, hb⟩
 have b8 : n8 ≤ 1 := len_le h B7.out
 replace E := Lib.hid (St.push E.out hb h)
 clear h hb
 have hSw := St.sb E; refine ⟨_, rfl, hSw, ?_⟩; intro a ha
 refine line_call awxR 2 2 [] 19 (args := #[.int .i64 2, .int .i64 0]) [(18, .agg #[.bool (ngB x7), .slice A8 n8 c8, .int .i64 (s7 : Int)]), (1, .pointer (some ⟨w3.heap.size, 0, none⟩)), (2, .int .i64 0), (4, .int .i64 4)] rfl (by decide) (by decide) (by decide) ha (fun o ho hg => ⟨(wanted_none hg), e_call (by kernel_rfl) ho rfl (by simp only [List.map_toArray, List.map_cons, List.map_nil, ev_const])⟩) (by simp) ?_
 refine (mk_is5 (i := x8) (s := s8) _ F18.out F19.out M8.out (by omega)).mono ?_; rintro e w9 ⟨A9, n9, c9, rfl, h, hb⟩
 have b9 : n9 ≤ 1 := len_le h B8.out
 replace E := Lib.hid (St.push E.out hb h)
 clear h hb
 have hSw := St.sb E; refine ⟨_, rfl, hSw, ?_⟩; intro a ha
 refine line_call awxR 3 3 [] 20 (args := #[.agg #[.bool (ngB x7), .slice A8 n8 c8, .int .i64 (s7 : Int)], .agg #[.bool (ngB x8), .slice A9 n9 c9, .int .i64 (s8 : Int)]]) [(1, .pointer (some ⟨w3.heap.size, 0, none⟩)), (2, .int .i64 0), (4, .int .i64 4)] rfl (by decide) (by decide) (by decide) ha (fun o ho hg => ⟨(wanted_none hg), e_call (by kernel_rfl) ho rfl (by have q0 := ha.ev (i := 18) (v := .agg #[.bool (ngB x7), .slice A8 n8 c8, .int .i64 (s7 : Int)]) (by simp); have q1 := ha.ev (i := 19) (v := .agg #[.bool (ngB x8), .slice A9 n9 c9, .int .i64 (s8 : Int)]) (by simp); simp only [List.map_toArray, List.map_cons, List.map_nil, ev_const, q0, q1])⟩) (by simp) ?_
 refine (alike_is5 (i := x7) (j := x8) (s := s7) (t := s8) (St.got E (A := A8) (n := n8) (c := c8) (a := (x7).natAbs) (by simp)) (St.got E (A := A9) (n := n9) (c := c9) (a := (x8).natAbs) (by simp)) F20.out).mono ?_; rintro e w10 ⟨rfl, hb⟩
 replace E := Lib.hid (St.step E.out hb)
 clear hb
 replace E : Hid (St w w10 [(A5, n5, c5, (x5).natAbs), (A4, n4, c4, (x4).natAbs), (A3, n3, c3, (x3).natAbs), (A2, n2, c2, (x2).natAbs), (A1, n1, c1, (x1).natAbs)] [(w3.heap.size, (.bool (ngB x3)), (.slice A3 n3 c3), (.int .i64 (s3 : Int)))]) := Lib.hid ((E.out).sub (by simp) (by simp))
 have hSw := St.sb E; refine ⟨_, rfl, hSw, ?_⟩; intro a ha
 refine line_still awxR 4 4 [] 21 (.bool true) [(1, .pointer (some ⟨w3.heap.size, 0, none⟩)), (2, .int .i64 0), (4, .int .i64 4)] rfl (by decide) (by decide) (by decide) ha (fun o ho hg => y_of (wanted_none hg) (fun wx hS => e_move (.inl ho) (ha.ev (i := 20) (v := .bool true) (by simp)))) (by simp) hSw ?_; intro a ha
 refine line_call awxR 5 5 [] 22 (args := #[.int .i64 (-35), .int .i64 1]) [(21, .bool true), (1, .pointer (some ⟨w3.heap.size, 0, none⟩)), (2, .int .i64 0), (4, .int .i64 4)] rfl (by decide) (by decide) (by decide) ha (fun o ho hg => ⟨(awxR.wanted hg rfl ha (d := 21) (by simp)), e_call (by kernel_rfl) ho rfl (by simp only [List.map_toArray, List.map_cons, List.map_nil, ev_const])⟩) (by simp) ?_
 refine (mk_is5 (i := x9) (s := s9) _ F21.out F22.out M9.out (by omega)).mono ?_; rintro e w11 ⟨A11, n11, c11, rfl, h, hb⟩
 have b11 : n11 ≤ 1 := len_le h B9.out
 replace E := Lib.hid (St.push E.out hb h)
 clear h hb
 have hSw := St.sb E; refine ⟨_, rfl, hSw, ?_⟩; intro a ha
 refine line_call awxR 6 6 [] 23 (args := #[.agg #[.bool (ngB x9), .slice A11 n11 c11, .int .i64 (s9 : Int)], .int .i64 0]) [(21, .bool true), (1, .pointer (some ⟨w3.heap.size, 0, none⟩)), (2, .int .i64 0), (4, .int .i64 4)] rfl (by decide) (by decide) (by decide) ha (fun o ho hg => ⟨(awxR.wanted hg rfl ha (d := 21) (by simp)), e_call (by kernel_rfl) ho rfl (by have q0 := ha.ev (i := 22) (v := .agg #[.bool (ngB x9), .slice A11 n11 c11, .int .i64 (s9 : Int)]) (by simp); simp only [List.map_toArray, List.map_cons, List.map_nil, ev_const, q0])⟩) (by simp) ?_
 refine (quant_is (i := x9) (s := s9) (S := s10) (St.got E (A := A11) (n := n11) (c := c11) (a := (x9).natAbs) (by simp)) (by omega) (by omega) F23.out (by omega) F24.out).mono ?_; rintro e w12 ⟨A12, n12, c12, rfl, h, hb⟩
 have b12 : n12 ≤ 1 := len_le h B10.out
 replace E := Lib.hid (St.push E.out hb h)
 clear h hb
 have hSw := St.sb E; refine ⟨_, rfl, hSw, ?_⟩; intro a ha
 refine line_call awxR 7 7 [] 24 (args := #[.int .i64 (-4), .int .i64 0]) [(23, .agg #[.bool (ngB x10), .slice A12 n12 c12, .int .i64 (s10 : Int)]), (21, .bool true), (1, .pointer (some ⟨w3.heap.size, 0, none⟩)), (2, .int .i64 0), (4, .int .i64 4)] rfl (by decide) (by decide) (by decide) ha (fun o ho hg => ⟨(awxR.wanted hg rfl ha (d := 21) (by simp)), e_call (by kernel_rfl) ho rfl (by simp only [List.map_toArray, List.map_cons, List.map_nil, ev_const])⟩) (by simp) ?_
 refine (mk_is5 (i := x11) (s := s11) _ F25.out F26.out M11.out (by omega)).mono ?_; rintro e w13 ⟨A13, n13, c13, rfl, h, hb⟩
 have b13 : n13 ≤ 1 := len_le h B11.out
 replace E := Lib.hid (St.push E.out hb h)
 clear h hb
 have hSw := St.sb E; refine ⟨_, rfl, hSw, ?_⟩; intro a ha
 refine line_call awxR 8 8 [] 25 (args := #[.agg #[.bool (ngB x10), .slice A12 n12 c12, .int .i64 (s10 : Int)], .agg #[.bool (ngB x11), .slice A13 n13 c13, .int .i64 (s11 : Int)]]) [(21, .bool true), (1, .pointer (some ⟨w3.heap.size, 0, none⟩)), (2, .int .i64 0), (4, .int .i64 4)] rfl (by decide) (by decide) (by decide) ha (fun o ho hg => ⟨(awxR.wanted hg rfl ha (d := 21) (by simp)), e_call (by kernel_rfl) ho rfl (by have q0 := ha.ev (i := 23) (v := .agg #[.bool (ngB x10), .slice A12 n12 c12, .int .i64 (s10 : Int)]) (by simp); have q1 := ha.ev (i := 24) (v := .agg #[.bool (ngB x11), .slice A13 n13 c13, .int .i64 (s11 : Int)]) (by simp); simp only [List.map_toArray, List.map_cons, List.map_nil, ev_const, q0, q1])⟩) (by simp) ?_
 refine (alike_is5 (i := x10) (j := x11) (s := s10) (t := s11) (St.got E (A := A12) (n := n12) (c := c12) (a := (x10).natAbs) (by simp)) (St.got E (A := A13) (n := n13) (c := c13) (a := (x11).natAbs) (by simp)) F27.out).mono ?_; rintro e w14 ⟨rfl, hb⟩
 replace E := Lib.hid (St.step E.out hb)
 clear hb
 replace E : Hid (St w w14 [(A5, n5, c5, (x5).natAbs), (A4, n4, c4, (x4).natAbs), (A3, n3, c3, (x3).natAbs), (A2, n2, c2, (x2).natAbs), (A1, n1, c1, (x1).natAbs)] [(w3.heap.size, (.bool (ngB x3)), (.slice A3 n3 c3), (.int .i64 (s3 : Int)))]) := Lib.hid ((E.out).sub (by simp) (by simp))
 have hSw := St.sb E; refine ⟨_, rfl, hSw, ?_⟩; intro a ha
 refine line_still awxR 9 9 [] 26 (.bool true) [(1, .pointer (some ⟨w3.heap.size, 0, none⟩)), (2, .int .i64 0), (4, .int .i64 4)] rfl (by decide) (by decide) (by decide) ha (fun o ho hg => y_of (wanted_none hg) (fun wx hS => e_pick ho (ha.ev (i := 21) (v := .bool true) (by simp)) (ha.ev (i := 25) (v := .bool true) (by simp)) rfl)) (by simp) hSw ?_; intro a ha
 refine line_still awxR 10 10 [] 27 (.bool true) [(1, .pointer (some ⟨w3.heap.size, 0, none⟩)), (2, .int .i64 0), (4, .int .i64 4)] rfl (by decide) (by decide) (by decide) ha (fun o ho hg => y_of (wanted_none hg) (fun wx hS => e_move (.inl ho) (ha.ev (i := 26) (v := .bool true) (by simp)))) (by simp) hSw ?_; intro a ha
 refine line_call awxR 11 11 [] 28 (args := #[.int .i64 3, .int .i64 0]) [(27, .bool true), (1, .pointer (some ⟨w3.heap.size, 0, none⟩)), (2, .int .i64 0), (4, .int .i64 4)] rfl (by decide) (by decide) (by decide) ha (fun o ho hg => ⟨(awxR.wanted hg rfl ha (d := 27) (by simp)), e_call (by kernel_rfl) ho rfl (by simp only [List.map_toArray, List.map_cons, List.map_nil, ev_const])⟩) (by simp) ?_
 refine (mk_is5 (i := x12) (s := s12) _ F28.out F29.out M12.out (by omega)).mono ?_; rintro e w15 ⟨A15, n15, c15, rfl, h, hb⟩
 have b15 : n15 ≤ 1 := len_le h B12.out
 replace E := Lib.hid (St.push E.out hb h)
 clear h hb
 have hSw := St.sb E; refine ⟨_, rfl, hSw, ?_⟩; intro a ha
 refine line_call awxR 12 12 [] 29 (args := #[.agg #[.bool (ngB x12), .slice A15 n15 c15, .int .i64 (s12 : Int)], .int .i64 2]) [(27, .bool true), (1, .pointer (some ⟨w3.heap.size, 0, none⟩)), (2, .int .i64 0), (4, .int .i64 4)] rfl (by decide) (by decide) (by decide) ha (fun o ho hg => ⟨(awxR.wanted hg rfl ha (d := 27) (by simp)), e_call (by kernel_rfl) ho rfl (by have q0 := ha.ev (i := 28) (v := .agg #[.bool (ngB x12), .slice A15 n15 c15, .int .i64 (s12 : Int)]) (by simp); simp only [List.map_toArray, List.map_cons, List.map_nil, ev_const, q0])⟩) (by simp) ?_
 refine (quant_is (i := x12) (s := s12) (S := s13) (St.got E (A := A15) (n := n15) (c := c15) (a := (x12).natAbs) (by simp)) (by omega) (by omega) F30.out (by omega) F31.out).mono ?_; rintro e w16 ⟨A16, n16, c16, rfl, h, hb⟩
 have b16 : n16 ≤ 1 := len_le h B13.out
 replace E := Lib.hid (St.push E.out hb h)
 clear h hb
 have hSw := St.sb E; refine ⟨_, rfl, hSw, ?_⟩; intro a ha
 refine line_call awxR 13 13 [] 30 (args := #[.int .i64 300, .int .i64 2]) [(29, .agg #[.bool (ngB x13), .slice A16 n16 c16, .int .i64 (s13 : Int)]), (27, .bool true), (1, .pointer (some ⟨w3.heap.size, 0, none⟩)), (2, .int .i64 0), (4, .int .i64 4)] rfl (by decide) (by decide) (by decide) ha (fun o ho hg => ⟨(awxR.wanted hg rfl ha (d := 27) (by simp)), e_call (by kernel_rfl) ho rfl (by simp only [List.map_toArray, List.map_cons, List.map_nil, ev_const])⟩) (by simp) ?_
 refine (mk_is5 (i := x14) (s := s14) _ F32.out F33.out M14.out (by omega)).mono ?_; rintro e w17 ⟨A17, n17, c17, rfl, h, hb⟩
 have b17 : n17 ≤ 1 := len_le h B14.out
 replace E := Lib.hid (St.push E.out hb h)
 clear h hb
 have hSw := St.sb E; refine ⟨_, rfl, hSw, ?_⟩; intro a ha
 refine line_call awxR 14 14 [] 31 (args := #[.agg #[.bool (ngB x13), .slice A16 n16 c16, .int .i64 (s13 : Int)], .agg #[.bool (ngB x14), .slice A17 n17 c17, .int .i64 (s14 : Int)]]) [(27, .bool true), (1, .pointer (some ⟨w3.heap.size, 0, none⟩)), (2, .int .i64 0), (4, .int .i64 4)] rfl (by decide) (by decide) (by decide) ha (fun o ho hg => ⟨(awxR.wanted hg rfl ha (d := 27) (by simp)), e_call (by kernel_rfl) ho rfl (by have q0 := ha.ev (i := 29) (v := .agg #[.bool (ngB x13), .slice A16 n16 c16, .int .i64 (s13 : Int)]) (by simp); have q1 := ha.ev (i := 30) (v := .agg #[.bool (ngB x14), .slice A17 n17 c17, .int .i64 (s14 : Int)]) (by simp); simp only [List.map_toArray, List.map_cons, List.map_nil, ev_const, q0, q1])⟩) (by simp) ?_
 refine (alike_is5 (i := x13) (j := x14) (s := s13) (t := s14) (St.got E (A := A16) (n := n16) (c := c16) (a := (x13).natAbs) (by simp)) (St.got E (A := A17) (n := n17) (c := c17) (a := (x14).natAbs) (by simp)) F34.out).mono ?_; rintro e w18 ⟨rfl, hb⟩
 replace E := Lib.hid (St.step E.out hb)
 clear hb
 replace E : Hid (St w w18 [(A5, n5, c5, (x5).natAbs), (A4, n4, c4, (x4).natAbs), (A3, n3, c3, (x3).natAbs), (A2, n2, c2, (x2).natAbs), (A1, n1, c1, (x1).natAbs)] [(w3.heap.size, (.bool (ngB x3)), (.slice A3 n3 c3), (.int .i64 (s3 : Int)))]) := Lib.hid ((E.out).sub (by simp) (by simp))
 have hSw := St.sb E; refine ⟨_, rfl, hSw, ?_⟩; intro a ha
 refine line_still awxR 15 15 [] 32 (.bool true) [(1, .pointer (some ⟨w3.heap.size, 0, none⟩)), (2, .int .i64 0), (4, .int .i64 4)] rfl (by decide) (by decide) (by decide) ha (fun o ho hg => y_of (wanted_none hg) (fun wx hS => e_pick ho (ha.ev (i := 27) (v := .bool true) (by simp)) (ha.ev (i := 31) (v := .bool true) (by simp)) rfl)) (by simp) hSw ?_; intro a ha
 refine line_still awxR 16 16 [] 33 (.bool true) [(1, .pointer (some ⟨w3.heap.size, 0, none⟩)), (2, .int .i64 0), (4, .int .i64 4)] rfl (by decide) (by decide) (by decide) ha (fun o ho hg => y_of (wanted_none hg) (fun wx hS => e_move (.inl ho) (ha.ev (i := 32) (v := .bool true) (by simp)))) (by simp) hSw ?_; intro a ha
 refine line_still awxR 17 17 [] 34 (.int .i64 0) [(33, .bool true), (1, .pointer (some ⟨w3.heap.size, 0, none⟩)), (4, .int .i64 4)] rfl (by decide) (by decide) (by decide) ha (fun o ho hg => y_of (awxR.wanted hg rfl ha (d := 33) (by simp)) (fun wx hS => e_move (.inl ho) (ha.ev (i := 2) (v := .int .i64 0) (by simp)))) (by simp) hSw ?_; intro a ha
 refine line_still awxR 18 18 [] 35 (.bool true) [(33, .bool true), (1, .pointer (some ⟨w3.heap.size, 0, none⟩)), (4, .int .i64 4)] rfl (by decide) (by decide) (by decide) ha (fun o ho hg => y_of (awxR.wanted hg rfl ha (d := 33) (by simp)) (fun wx hS => e_eql ho (ha.ev (i := 34) (v := .int .i64 0) (by simp)) rfl)) (by simp) hSw ?_; intro a ha
 refine line_still awxR 19 19 [] 36 (.bool true) [(1, .pointer (some ⟨w3.heap.size, 0, none⟩)), (4, .int .i64 4)] rfl (by decide) (by decide) (by decide) ha (fun o ho hg => y_of (wanted_none hg) (fun wx hS => e_pick ho (ha.ev (i := 33) (v := .bool true) (by simp)) (ha.ev (i := 35) (v := .bool true) (by simp)) rfl)) (by simp) hSw ?_; intro a ha
 refine line_still awxR 20 20 [] 37 (.bool true) [(1, .pointer (some ⟨w3.heap.size, 0, none⟩)), (4, .int .i64 4)] rfl (by decide) (by decide) (by decide) ha (fun o ho hg => y_of (wanted_none hg) (fun wx hS => e_move (.inl ho) (ha.ev (i := 36) (v := .bool true) (by simp)))) (by simp) hSw ?_; intro a ha
 refine line_still awxR 21 21 [] 38 (.agg #[(.bool (ngB x3)), (.slice A3 n3 c3), (.int .i64 (s3 : Int))]) [(37, .bool true), (4, .int .i64 4)] rfl (by decide) (by decide) (by decide) ha (fun o ho hg => y_of (awxR.wanted hg rfl ha (d := 37) (by simp)) (fun wx hS => e_load ho (ha.ev (i := 1) (v := .pointer (some ⟨w3.heap.size, 0, none⟩)) (by simp)) (hS.at_ (g := w3.heap.size) (x0 := (.bool (ngB x3))) (x1 := (.slice A3 n3 c3)) (x2 := (.int .i64 (s3 : Int))) (by simp)))) (by simp) hSw ?_; intro a ha
 refine line_call awxR 22 22 [] 39 (args := #[.int .i64 3333, .int .i64 4]) [(38, .agg #[(.bool (ngB x3)), (.slice A3 n3 c3), (.int .i64 (s3 : Int))]), (37, .bool true), (4, .int .i64 4)] rfl (by decide) (by decide) (by decide) ha (fun o ho hg => ⟨(awxR.wanted hg rfl ha (d := 37) (by simp)), e_call (by kernel_rfl) ho rfl (by simp only [List.map_toArray, List.map_cons, List.map_nil, ev_const])⟩) (by simp) ?_
 refine (mk_is5 (i := x15) (s := s15) _ F35.out F36.out M15.out (by omega)).mono ?_; rintro e w19 ⟨A19, n19, c19, rfl, h, hb⟩
 have b19 : n19 ≤ 1 := len_le h B15.out
 replace E := Lib.hid (St.push E.out hb h)
 clear h hb
 have hSw := St.sb E; refine ⟨_, rfl, hSw, ?_⟩; intro a ha
 refine line_call awxR 23 23 [] 40 (args := #[.agg #[(.bool (ngB x3)), (.slice A3 n3 c3), (.int .i64 (s3 : Int))], .agg #[.bool (ngB x15), .slice A19 n19 c19, .int .i64 (s15 : Int)]]) [(37, .bool true), (4, .int .i64 4)] rfl (by decide) (by decide) (by decide) ha (fun o ho hg => ⟨(awxR.wanted hg rfl ha (d := 37) (by simp)), e_call (by kernel_rfl) ho rfl (by have q0 := ha.ev (i := 38) (v := .agg #[(.bool (ngB x3)), (.slice A3 n3 c3), (.int .i64 (s3 : Int))]) (by simp); have q1 := ha.ev (i := 39) (v := .agg #[.bool (ngB x15), .slice A19 n19 c19, .int .i64 (s15 : Int)]) (by simp); simp only [List.map_toArray, List.map_cons, List.map_nil, ev_const, q0, q1])⟩) (by simp) ?_
 refine (alike_is5 (i := x3) (j := x15) (s := s3) (t := s15) (St.got E (A := A3) (n := n3) (c := c3) (a := (x3).natAbs) (by simp)) (St.got E (A := A19) (n := n19) (c := c19) (a := (x15).natAbs) (by simp)) F37.out).mono ?_; rintro e w20 ⟨rfl, hb⟩
 replace E := Lib.hid (St.step E.out hb)
 clear hb
 replace E : Hid (St w w20 [(A5, n5, c5, (x5).natAbs), (A4, n4, c4, (x4).natAbs), (A3, n3, c3, (x3).natAbs), (A2, n2, c2, (x2).natAbs), (A1, n1, c1, (x1).natAbs)] [(w3.heap.size, (.bool (ngB x3)), (.slice A3 n3 c3), (.int .i64 (s3 : Int)))]) := Lib.hid ((E.out).sub (by simp) (by simp))
 have hSw := St.sb E; refine ⟨_, rfl, hSw, ?_⟩; intro a ha
 refine line_still awxR 24 24 [] 41 (.bool true) [(4, .int .i64 4)] rfl (by decide) (by decide) (by decide) ha (fun o ho hg => y_of (wanted_none hg) (fun wx hS => e_pick ho (ha.ev (i := 37) (v := .bool true) (by simp)) (ha.ev (i := 40) (v := .bool true) (by simp)) rfl)) (by simp) hSw ?_; intro a ha
 refine line_still awxR 25 25 [] 42 (.bool true) [(4, .int .i64 4)] rfl (by decide) (by decide) (by decide) ha (fun o ho hg => y_of (wanted_none hg) (fun wx hS => e_move (.inl ho) (ha.ev (i := 41) (v := .bool true) (by simp)))) (by simp) hSw ?_; intro a ha
 refine line_still awxR 26 26 [] 43 (.int .i64 4) [(42, .bool true)] rfl (by decide) (by decide) (by decide) ha (fun o ho hg => y_of (awxR.wanted hg rfl ha (d := 42) (by simp)) (fun wx hS => e_move (.inl ho) (ha.ev (i := 4) (v := .int .i64 4) (by simp)))) (by simp) hSw ?_; intro a ha
 refine line_still awxR 27 27 [] 44 (.bool true) [(42, .bool true)] rfl (by decide) (by decide) (by decide) ha (fun o ho hg => y_of (awxR.wanted hg rfl ha (d := 42) (by simp)) (fun wx hS => e_eql ho (ha.ev (i := 43) (v := .int .i64 4) (by simp)) rfl)) (by simp) hSw ?_; intro a ha
 refine line_still awxR 28 28 [] 45 (.bool true) [] rfl (by decide) (by decide) (by decide) ha (fun o ho hg => y_of (wanted_none hg) (fun wx hS => e_pick ho (ha.ev (i := 42) (v := .bool true) (by simp)) (ha.ev (i := 44) (v := .bool true) (by simp)) rfl)) (by simp) hSw ?_; intro a ha
 refine line_still awxR 29 29 [] 46 (.bool true) [] rfl (by decide) (by decide) (by decide) ha (fun o ho hg => y_of (wanted_none hg) (fun wx hS => e_move (.inl ho) (ha.ev (i := 45) (v := .bool true) (by simp)))) (by simp) hSw ?_; intro a ha
 refine line_call awxR 30 30 [] 47 (args := #[.int .i64 2]) [(46, .bool true)] rfl (by decide) (by decide) (by decide) ha (fun o ho hg => ⟨(awxR.wanted hg rfl ha (d := 46) (by simp)), e_call (by kernel_rfl) ho rfl (by simp only [List.map_toArray, List.map_cons, List.map_nil, ev_const])⟩) (by simp) ?_
 refine (half_at (S := s16) (M := s17) _ F38.out (by omega) F39.out).mono ?_; rintro e w21 ⟨A21, n21, c21, rfl, h, hb⟩
 have b21 : n21 ≤ 1 := len_le h O5.out
 replace E := Lib.hid (St.push E.out hb h)
 clear h hb
 have hSw := St.sb E; refine ⟨_, rfl, hSw, ?_⟩; intro a ha
 refine line_call awxR 31 31 [] 48 (args := #[.int .i64 5, .int .i64 3]) [(47, .agg #[.bool (ngB (5 : Int)), .slice A21 n21 c21, .int .i64 (s17 : Int)]), (46, .bool true)] rfl (by decide) (by decide) (by decide) ha (fun o ho hg => ⟨(awxR.wanted hg rfl ha (d := 46) (by simp)), e_call (by kernel_rfl) ho rfl (by simp only [List.map_toArray, List.map_cons, List.map_nil, ev_const])⟩) (by simp) ?_
 refine (mk_is5 (i := x18) (s := s18) _ F40.out F41.out M18.out (by omega)).mono ?_; rintro e w22 ⟨A22, n22, c22, rfl, h, hb⟩
 have b22 : n22 ≤ 1 := len_le h B18.out
 replace E := Lib.hid (St.push E.out hb h)
 clear h hb
 have hSw := St.sb E; refine ⟨_, rfl, hSw, ?_⟩; intro a ha
 refine line_call awxR 32 32 [] 49 (args := #[.agg #[.bool (ngB (5 : Int)), .slice A21 n21 c21, .int .i64 (s17 : Int)], .agg #[.bool (ngB x18), .slice A22 n22 c22, .int .i64 (s18 : Int)]]) [(46, .bool true)] rfl (by decide) (by decide) (by decide) ha (fun o ho hg => ⟨(awxR.wanted hg rfl ha (d := 46) (by simp)), e_call (by kernel_rfl) ho rfl (by have q0 := ha.ev (i := 47) (v := .agg #[.bool (ngB (5 : Int)), .slice A21 n21 c21, .int .i64 (s17 : Int)]) (by simp); have q1 := ha.ev (i := 48) (v := .agg #[.bool (ngB x18), .slice A22 n22 c22, .int .i64 (s18 : Int)]) (by simp); simp only [List.map_toArray, List.map_cons, List.map_nil, ev_const, q0, q1])⟩) (by simp) ?_
 refine (alike_is5 (i := (5 : Int)) (j := x18) (s := s17) (t := s18) (St.got E (A := A21) (n := n21) (c := c21) (a := ((5 : Int)).natAbs) (by simp)) (St.got E (A := A22) (n := n22) (c := c22) (a := (x18).natAbs) (by simp)) F42.out).mono ?_; rintro e w23 ⟨rfl, hb⟩
 replace E := Lib.hid (St.step E.out hb)
 clear hb
 replace E : Hid (St w w23 [(A5, n5, c5, (x5).natAbs), (A4, n4, c4, (x4).natAbs), (A3, n3, c3, (x3).natAbs), (A2, n2, c2, (x2).natAbs), (A1, n1, c1, (x1).natAbs)] [(w3.heap.size, (.bool (ngB x3)), (.slice A3 n3 c3), (.int .i64 (s3 : Int)))]) := Lib.hid ((E.out).sub (by simp) (by simp))
 have hSw := St.sb E; refine ⟨_, rfl, hSw, ?_⟩; intro a ha
 refine line_still awxR 33 33 [] 50 (.bool true) [] rfl (by decide) (by decide) (by decide) ha (fun o ho hg => y_of (wanted_none hg) (fun wx hS => e_pick ho (ha.ev (i := 46) (v := .bool true) (by simp)) (ha.ev (i := 49) (v := .bool true) (by simp)) rfl)) (by simp) hSw ?_; intro a ha
 refine line_still awxR 34 34 [] 51 (.bool true) [] rfl (by decide) (by decide) (by decide) ha (fun o ho hg => y_of (wanted_none hg) (fun wx hS => e_move (.inl ho) (ha.ev (i := 50) (v := .bool true) (by simp)))) (by simp) hSw ?_; intro a ha
 refine line_call awxR 35 35 [] 52 (args := #[.int .i64 2]) [(51, .bool true)] rfl (by decide) (by decide) (by decide) ha (fun o ho hg => ⟨(awxR.wanted hg rfl ha (d := 51) (by simp)), e_call (by kernel_rfl) ho rfl (by simp only [List.map_toArray, List.map_cons, List.map_nil, ev_const])⟩) (by simp) ?_
 refine (unit_is (S := s19) _ F43.out (by omega)).mono ?_; rintro e w24 ⟨A24, n24, c24, rfl, h, hb⟩
 have b24 : n24 ≤ 1 := len_le h O1.out
 replace E := Lib.hid (St.push E.out hb h)
 clear h hb
 have hSw := St.sb E; refine ⟨_, rfl, hSw, ?_⟩; intro a ha
 refine line_call awxR 36 36 [] 53 (args := #[.int .i64 1, .int .i64 2]) [(52, .agg #[.bool (ngB (1 : Int)), .slice A24 n24 c24, .int .i64 (s19 : Int)]), (51, .bool true)] rfl (by decide) (by decide) (by decide) ha (fun o ho hg => ⟨(awxR.wanted hg rfl ha (d := 51) (by simp)), e_call (by kernel_rfl) ho rfl (by simp only [List.map_toArray, List.map_cons, List.map_nil, ev_const])⟩) (by simp) ?_
 refine (mk_is5 (i := x20) (s := s20) _ F44.out F45.out M20.out (by omega)).mono ?_; rintro e w25 ⟨A25, n25, c25, rfl, h, hb⟩
 have b25 : n25 ≤ 1 := len_le h B20.out
 replace E := Lib.hid (St.push E.out hb h)
 clear h hb
 have hSw := St.sb E; refine ⟨_, rfl, hSw, ?_⟩; intro a ha
 refine line_call awxR 37 37 [] 54 (args := #[.agg #[.bool (ngB (1 : Int)), .slice A24 n24 c24, .int .i64 (s19 : Int)], .agg #[.bool (ngB x20), .slice A25 n25 c25, .int .i64 (s20 : Int)]]) [(51, .bool true)] rfl (by decide) (by decide) (by decide) ha (fun o ho hg => ⟨(awxR.wanted hg rfl ha (d := 51) (by simp)), e_call (by kernel_rfl) ho rfl (by have q0 := ha.ev (i := 52) (v := .agg #[.bool (ngB (1 : Int)), .slice A24 n24 c24, .int .i64 (s19 : Int)]) (by simp); have q1 := ha.ev (i := 53) (v := .agg #[.bool (ngB x20), .slice A25 n25 c25, .int .i64 (s20 : Int)]) (by simp); simp only [List.map_toArray, List.map_cons, List.map_nil, ev_const, q0, q1])⟩) (by simp) ?_
 refine (alike_is5 (i := (1 : Int)) (j := x20) (s := s19) (t := s20) (St.got E (A := A24) (n := n24) (c := c24) (a := ((1 : Int)).natAbs) (by simp)) (St.got E (A := A25) (n := n25) (c := c25) (a := (x20).natAbs) (by simp)) F46.out).mono ?_; rintro e w26 ⟨rfl, hb⟩
 replace E := Lib.hid (St.step E.out hb)
 clear hb
 replace E : Hid (St w w26 [(A5, n5, c5, (x5).natAbs), (A4, n4, c4, (x4).natAbs), (A3, n3, c3, (x3).natAbs), (A2, n2, c2, (x2).natAbs), (A1, n1, c1, (x1).natAbs)] [(w3.heap.size, (.bool (ngB x3)), (.slice A3 n3 c3), (.int .i64 (s3 : Int)))]) := Lib.hid ((E.out).sub (by simp) (by simp))
 have hSw := St.sb E; refine ⟨_, rfl, hSw, ?_⟩; intro a ha
 refine line_still awxR 38 38 [] 55 (.bool true) [] rfl (by decide) (by decide) (by decide) ha (fun o ho hg => y_of (wanted_none hg) (fun wx hS => e_pick ho (ha.ev (i := 51) (v := .bool true) (by simp)) (ha.ev (i := 54) (v := .bool true) (by simp)) rfl)) (by simp) hSw ?_; intro a ha
 refine line_still awxR 39 39 [] 56 (.bool true) [] rfl (by decide) (by decide) (by decide) ha (fun o ho hg => y_of (wanted_none hg) (fun wx hS => e_move (.inl ho) (ha.ev (i := 55) (v := .bool true) (by simp)))) (by simp) hSw ?_; intro a ha
 refine line_call awxR 40 40 [] 57 (args := #[.int .i64 150, .int .i64 2]) [(56, .bool true)] rfl (by decide) (by decide) (by decide) ha (fun o ho hg => ⟨(awxR.wanted hg rfl ha (d := 56) (by simp)), e_call (by kernel_rfl) ho rfl (by simp only [List.map_toArray, List.map_cons, List.map_nil, ev_const])⟩) (by simp) ?_
 refine (mk_is5 (i := x21) (s := s21) _ F47.out F48.out M21.out (by omega)).mono ?_; rintro e w27 ⟨A27, n27, c27, rfl, h, hb⟩
 have b27 : n27 ≤ 1 := len_le h B21.out
 replace E := Lib.hid (St.push E.out hb h)
 clear h hb
 have hSw := St.sb E; refine ⟨_, rfl, hSw, ?_⟩; intro a ha
 refine line_call awxR 41 41 [] 58 (args := #[.agg #[.bool (ngB x21), .slice A27 n27 c27, .int .i64 (s21 : Int)], .int .i64 1]) [(56, .bool true)] rfl (by decide) (by decide) (by decide) ha (fun o ho hg => ⟨(awxR.wanted hg rfl ha (d := 56) (by simp)), e_call (by kernel_rfl) ho rfl (by have q0 := ha.ev (i := 57) (v := .agg #[.bool (ngB x21), .slice A27 n27 c27, .int .i64 (s21 : Int)]) (by simp); simp only [List.map_toArray, List.map_cons, List.map_nil, ev_const, q0])⟩) (by simp) ?_
 refine (exact_is (i := x21) (s := s21) (S := s22) (St.got E (A := A27) (n := n27) (c := c27) (a := (x21).natAbs) (by simp)) (by omega) (by omega) F49.out (by omega) F50.out).mono ?_; rintro e w28 ⟨rfl, hb⟩
 replace E := Lib.hid (St.step E.out hb)
 clear hb
 replace E : Hid (St w w28 [(A5, n5, c5, (x5).natAbs), (A4, n4, c4, (x4).natAbs), (A3, n3, c3, (x3).natAbs), (A2, n2, c2, (x2).natAbs), (A1, n1, c1, (x1).natAbs)] [(w3.heap.size, (.bool (ngB x3)), (.slice A3 n3 c3), (.int .i64 (s3 : Int)))]) := Lib.hid ((E.out).sub (by simp) (by simp))
 have hSw := St.sb E; refine ⟨_, rfl, hSw, ?_⟩; intro a ha
 refine line_still awxR 42 42 [] 59 (.bool true) [] rfl (by decide) (by decide) (by decide) ha (fun o ho hg => y_of (wanted_none hg) (fun wx hS => e_pick ho (ha.ev (i := 56) (v := .bool true) (by simp)) (ha.ev (i := 58) (v := .bool true) (by simp)) rfl)) (by simp) hSw ?_; intro a ha
 refine line_still awxR 43 43 [] 60 (.bool true) [] rfl (by decide) (by decide) (by decide) ha (fun o ho hg => y_of (wanted_none hg) (fun wx hS => e_move (.inl ho) (ha.ev (i := 59) (v := .bool true) (by simp)))) (by simp) hSw ?_; intro a ha
 refine line_call awxR 44 44 [] 61 (args := #[.int .i64 155, .int .i64 2]) [(60, .bool true)] rfl (by decide) (by decide) (by decide) ha (fun o ho hg => ⟨(awxR.wanted hg rfl ha (d := 60) (by simp)), e_call (by kernel_rfl) ho rfl (by simp only [List.map_toArray, List.map_cons, List.map_nil, ev_const])⟩) (by simp) ?_
 refine (mk_is5 (i := x23) (s := s23) _ F51.out F52.out M23.out (by omega)).mono ?_; rintro e w29 ⟨A29, n29, c29, rfl, h, hb⟩
 have b29 : n29 ≤ 1 := len_le h B23.out
 replace E := Lib.hid (St.push E.out hb h)
 clear h hb
 have hSw := St.sb E; refine ⟨_, rfl, hSw, ?_⟩; intro a ha
 refine line_call awxR 45 45 [] 62 (args := #[.agg #[.bool (ngB x23), .slice A29 n29 c29, .int .i64 (s23 : Int)], .int .i64 1]) [(60, .bool true)] rfl (by decide) (by decide) (by decide) ha (fun o ho hg => ⟨(awxR.wanted hg rfl ha (d := 60) (by simp)), e_call (by kernel_rfl) ho rfl (by have q0 := ha.ev (i := 61) (v := .agg #[.bool (ngB x23), .slice A29 n29 c29, .int .i64 (s23 : Int)]) (by simp); simp only [List.map_toArray, List.map_cons, List.map_nil, ev_const, q0])⟩) (by simp) ?_
 refine (exact_is (i := x23) (s := s23) (S := s24) (St.got E (A := A29) (n := n29) (c := c29) (a := (x23).natAbs) (by simp)) (by omega) (by omega) F53.out (by omega) F54.out).mono ?_; rintro e w30 ⟨rfl, hb⟩
 replace E := Lib.hid (St.step E.out hb)
 clear hb
 replace E : Hid (St w w30 [(A5, n5, c5, (x5).natAbs), (A4, n4, c4, (x4).natAbs), (A3, n3, c3, (x3).natAbs), (A2, n2, c2, (x2).natAbs), (A1, n1, c1, (x1).natAbs)] [(w3.heap.size, (.bool (ngB x3)), (.slice A3 n3 c3), (.int .i64 (s3 : Int)))]) := Lib.hid ((E.out).sub (by simp) (by simp))
 have hSw := St.sb E; refine ⟨_, rfl, hSw, ?_⟩; intro a ha
 refine line_still awxR 46 46 [] 63 (.bool true) [(60, .bool true)] rfl (by decide) (by decide) (by decide) ha (fun o ho hg => y_of (awxR.wanted hg rfl ha (d := 60) (by simp)) (fun wx hS => e_not ho (ha.ev (i := 62) (v := .bool false) (by simp)))) (by simp) hSw ?_; intro a ha
 refine line_still awxR 47 47 [] 64 (.bool true) [] rfl (by decide) (by decide) (by decide) ha (fun o ho hg => y_of (wanted_none hg) (fun wx hS => e_pick ho (ha.ev (i := 60) (v := .bool true) (by simp)) (ha.ev (i := 63) (v := .bool true) (by simp)) rfl)) (by simp) hSw ?_; intro a ha
 refine line_still awxR 48 48 [] 65 (.bool true) [] rfl (by decide) (by decide) (by decide) ha (fun o ho hg => y_of (wanted_none hg) (fun wx hS => e_move (.inl ho) (ha.ev (i := 64) (v := .bool true) (by simp)))) (by simp) hSw ?_; intro a ha
 refine line_call awxR 49 49 [] 66 (args := #[.int .i64 (-4), .int .i64 1]) [(65, .bool true)] rfl (by decide) (by decide) (by decide) ha (fun o ho hg => ⟨(awxR.wanted hg rfl ha (d := 65) (by simp)), e_call (by kernel_rfl) ho rfl (by simp only [List.map_toArray, List.map_cons, List.map_nil, ev_const])⟩) (by simp) ?_
 refine (mk_is5 (i := x25) (s := s25) _ F55.out F56.out M25.out (by omega)).mono ?_; rintro e w31 ⟨A31, n31, c31, rfl, h, hb⟩
 have b31 : n31 ≤ 1 := len_le h B25.out
 replace E := Lib.hid (St.push E.out hb h)
 clear h hb
 have hSw := St.sb E; refine ⟨_, rfl, hSw, ?_⟩; intro a ha
 refine line_call awxR 50 50 [] 67 (args := #[.agg #[.bool (ngB x25), .slice A31 n31 c31, .int .i64 (s25 : Int)], .int .i64 0]) [(65, .bool true)] rfl (by decide) (by decide) (by decide) ha (fun o ho hg => ⟨(awxR.wanted hg rfl ha (d := 65) (by simp)), e_call (by kernel_rfl) ho rfl (by have q0 := ha.ev (i := 66) (v := .agg #[.bool (ngB x25), .slice A31 n31 c31, .int .i64 (s25 : Int)]) (by simp); simp only [List.map_toArray, List.map_cons, List.map_nil, ev_const, q0])⟩) (by simp) ?_
 refine (quant_is (i := x25) (s := s25) (S := s26) (St.got E (A := A31) (n := n31) (c := c31) (a := (x25).natAbs) (by simp)) (by omega) (by omega) F57.out (by omega) F58.out).mono ?_; rintro e w32 ⟨A32, n32, c32, rfl, h, hb⟩
 have b32 : n32 ≤ 1 := len_le h B26.out
 replace E := Lib.hid (St.push E.out hb h)
 clear h hb
 have hSw := St.sb E; refine ⟨_, rfl, hSw, ?_⟩; intro a ha
 refine line_call awxR 51 51 [] 68 (args := #[.int .i64 0, .int .i64 0]) [(67, .agg #[.bool (ngB x26), .slice A32 n32 c32, .int .i64 (s26 : Int)]), (65, .bool true)] rfl (by decide) (by decide) (by decide) ha (fun o ho hg => ⟨(awxR.wanted hg rfl ha (d := 65) (by simp)), e_call (by kernel_rfl) ho rfl (by simp only [List.map_toArray, List.map_cons, List.map_nil, ev_const])⟩) (by simp) ?_
 refine (mk_is5 (i := x27) (s := s27) _ F59.out F60.out M27.out (by omega)).mono ?_; rintro e w33 ⟨A33, n33, c33, rfl, h, hb⟩
 have b33 : n33 ≤ 1 := len_le h B27.out
 replace E := Lib.hid (St.push E.out hb h)
 clear h hb
 have hSw := St.sb E; refine ⟨_, rfl, hSw, ?_⟩; intro a ha
 refine line_call awxR 52 52 [] 69 (args := #[.agg #[.bool (ngB x26), .slice A32 n32 c32, .int .i64 (s26 : Int)], .agg #[.bool (ngB x27), .slice A33 n33 c33, .int .i64 (s27 : Int)]]) [(65, .bool true)] rfl (by decide) (by decide) (by decide) ha (fun o ho hg => ⟨(awxR.wanted hg rfl ha (d := 65) (by simp)), e_call (by kernel_rfl) ho rfl (by have q0 := ha.ev (i := 67) (v := .agg #[.bool (ngB x26), .slice A32 n32 c32, .int .i64 (s26 : Int)]) (by simp); have q1 := ha.ev (i := 68) (v := .agg #[.bool (ngB x27), .slice A33 n33 c33, .int .i64 (s27 : Int)]) (by simp); simp only [List.map_toArray, List.map_cons, List.map_nil, ev_const, q0, q1])⟩) (by simp) ?_
 refine (alike_is5 (i := x26) (j := x27) (s := s26) (t := s27) (St.got E (A := A32) (n := n32) (c := c32) (a := (x26).natAbs) (by simp)) (St.got E (A := A33) (n := n33) (c := c33) (a := (x27).natAbs) (by simp)) F61.out).mono ?_; rintro e w34 ⟨rfl, hb⟩
 replace E := Lib.hid (St.step E.out hb)
 clear hb
 replace E : Hid (St w w34 [(A5, n5, c5, (x5).natAbs), (A4, n4, c4, (x4).natAbs), (A3, n3, c3, (x3).natAbs), (A2, n2, c2, (x2).natAbs), (A1, n1, c1, (x1).natAbs)] [(w3.heap.size, (.bool (ngB x3)), (.slice A3 n3 c3), (.int .i64 (s3 : Int)))]) := Lib.hid ((E.out).sub (by simp) (by simp))
 have hSw := St.sb E; refine ⟨_, rfl, hSw, ?_⟩; intro a ha
 refine line_still awxR 53 53 [] 70 (.bool true) [] rfl (by decide) (by decide) (by decide) ha (fun o ho hg => y_of (wanted_none hg) (fun wx hS => e_pick ho (ha.ev (i := 65) (v := .bool true) (by simp)) (ha.ev (i := 69) (v := .bool true) (by simp)) rfl)) (by simp) hSw ?_; intro a ha
 refine line_still awxR 54 54 [] 0 (.bool true) [] rfl (by decide) (by decide) (by decide) ha (fun o ho hg => y_of (wanted_none hg) (fun wx hS => e_move (.inr ho) (ha.ev (i := 70) (v := .bool true) (by simp)))) (by simp) hSw ?_; intro a ha
 refine line_end awxR rfl ?_
 simp only [Exit.then]
 refine hK _ _ ?_
 go_wp2
 exact bodyPost_ret (v := .bool true) (by have := ha.2.2 (0, .bool true) (by simp); simp [results, Tryz.results5, go_sem, Array.getD_eq_getD_getElem?, this]) ha.2.1 ⟨rfl, E.out.bel⟩
end Go.Proofs.YthlhpgphmfnlgaaGreat
