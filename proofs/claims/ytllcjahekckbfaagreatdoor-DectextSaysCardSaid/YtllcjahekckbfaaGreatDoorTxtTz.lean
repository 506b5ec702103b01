/-
  The examples of layer 7 (awake) answer true, whatever the memory.
-/
import Derived.Test.YtllcjahekckbfaaGreatDoorTxtG
import Derived.Test.YtllcjahekckbfaaGreatDoorAllDecF
set_option linter.unusedVariables false
set_option linter.unusedSimpArgs false
namespace Go.Proofs.YtllcjahekckbfaaGreatDoor
open Go.RowKit


def awx7T : List Row3 := [(some 37, none, .move (.tmp 2)), (some 38, none, .binOp .eql 28 (.tmp 37) (.const (.int .i64 0)) 28), (some 39, none, .move (.tmp 38)), (some 40, some (2, true), .load 25 (.tmp 1)), (some 41, some (2, true), .call { callee := .value (.func 19), args := #[.const (.int .i64 (-123450)), .const (.int .i64 2)], argTypes := #[3, 3] }), (some 42, some (2, true), .call { callee := .value (.func 18), args := #[.tmp 40, .tmp 41], argTypes := #[25, 25] }), (some 43, none, .pick (.tmp 39) (.tmp 42) (.const (.bool false))), (some 44, none, .move (.tmp 43)), (some 45, some (7, true), .load 25 (.tmp 1)), (some 46, some (7, true), .call { callee := .value (.func 8), args := #[.tmp 45], argTypes := #[25] }), (some 47, some (7, true), .binOp .eql 9 (.tmp 46) (.const (.string ⟨#[45, 49, 50, 51, 52, 46, 53, 48]⟩)) 9), (some 48, none, .pick (.tmp 44) (.tmp 47) (.const (.bool false))), (some 49, none, .move (.tmp 48)), (some 50, some (12, true), .load 25 (.tmp 1)), (some 51, some (12, true), .call { callee := .value (.func 12), args := #[.tmp 50], argTypes := #[25] }), (some 52, some (12, true), .binOp .eql 9 (.tmp 51) (.const (.string ⟨#[45, 49, 44, 50, 51, 52, 46, 53, 48]⟩)) 9), (some 53, none, .pick (.tmp 49) (.tmp 52) (.const (.bool false))), (some 54, none, .move (.tmp 53)), (some 55, some (17, true), .load 25 (.tmp 1)), (some 56, some (17, true), .call { callee := .value (.func 10), args := #[.tmp 55], argTypes := #[25] }), (some 57, some (17, true), .binOp .eql 9 (.tmp 56) (.const (.string ⟨#[45, 49, 50, 51, 52, 46, 53]⟩)) 9), (some 58, none, .pick (.tmp 54) (.tmp 57) (.const (.bool false))), (some 59, none, .move (.tmp 58)), (some 60, some (22, true), .move (.tmp 4)), (some 61, some (22, true), .binOp .eql 28 (.tmp 60) (.const (.int .i64 0)) 28), (some 62, none, .pick (.tmp 59) (.tmp 61) (.const (.bool false))), (some 63, none, .move (.tmp 62)), (some 64, some (26, true), .load 25 (.tmp 3)), (some 65, some (26, true), .call { callee := .value (.func 8), args := #[.tmp 64], argTypes := #[25] }), (some 66, some (26, true), .binOp .eql 9 (.tmp 65) (.const (.string ⟨#[48, 46, 48, 48]⟩)) 9), (some 67, none, .pick (.tmp 63) (.tmp 66) (.const (.bool false))), (some 68, none, .move (.tmp 67)), (some 69, some (31, true), .move (.tmp 6)), (some 70, some (31, true), .binOp .eql 28 (.tmp 69) (.const (.int .i64 3)) 28), (some 71, none, .pick (.tmp 68) (.tmp 70) (.const (.bool false))), (some 72, none, .move (.tmp 71)), (some 73, some (35, true), .move (.tmp 8)), (some 74, some (35, true), .binOp .eql 28 (.tmp 73) (.const (.int .i64 3)) 28), (some 75, none, .pick (.tmp 72) (.tmp 74) (.const (.bool false))), (some 76, none, .move (.tmp 75)), (some 77, some (39, true), .move (.tmp 10)), (some 78, some (39, true), .binOp .eql 28 (.tmp 77) (.const (.int .i64 2)) 28), (some 79, none, .pick (.tmp 76) (.tmp 78) (.const (.bool false))), (some 80, none, .move (.tmp 79)), (some 81, some (43, true), .move (.tmp 12)), (some 82, some (43, true), .binOp .eql 28 (.tmp 81) (.const (.int .i64 3)) 28), (some 83, none, .pick (.tmp 80) (.tmp 82) (.const (.bool false))), (some 84, none, .move (.tmp 83)), (some 85, some (47, true), .call { callee := .value (.func 19), args := #[.const (.int .i64 5), .const (.int .i64 3)], argTypes := #[3, 3] }), (some 86, some (47, true), .call { callee := .value (.func 8), args := #[.tmp 85], argTypes := #[25] }), (some 87, some (47, true), .binOp .eql 9 (.tmp 86) (.const (.string ⟨#[48, 46, 48, 48, 53]⟩)) 9), (some 88, none, .pick (.tmp 84) (.tmp 87) (.const (.bool false))), (some 89, none, .move (.tmp 88)), (some 90, some (52, true), .call { callee := .value (.func 15), args := #[.const (.string ⟨#[49, 46, 50, 53, 48]⟩)], argTypes := #[9] }), (some 91, some (52, true), .binOp .eql 3 (.tmp 90) (.const (.int .i64 3)) 3), (some 92, none, .pick (.tmp 89) (.tmp 91) (.const (.bool false))), (some 93, none, .move (.tmp 92)), (some 94, some (56, true), .call { callee := .value (.func 15), args := #[.const (.string ⟨#[55]⟩)], argTypes := #[9] }), (some 95, some (56, true), .binOp .eql 3 (.tmp 94) (.const (.int .i64 0)) 3), (some 96, none, .pick (.tmp 93) (.tmp 95) (.const (.bool false))), (some 0, none, .assign (.tmp 96))]
set_option maxRecDepth 100000 in
theorem awx7Row : (opsAt Tryz.prog 5 7).toList.map row3 = awx7T := by kernel_rfl
theorem awx7Sel : Region.noSelect (opsAt Tryz.prog 5 7) = true := by kernel_rfl
theorem awx7Done : Region.ready .any (opsAt Tryz.prog 5 7) (upto (opsAt Tryz.prog 5 7).size (opsAt Tryz.prog 5 7).size []) = [] := by kernel_rfl
theorem awx7still0 : [(0, [], 0), (1, [], 1), (2, [], 2), (3, [], 3), (6, [], 6), (7, [], 7), (8, [], 8), (10, [], 10), (11, [], 11), (12, [], 12)].all (stillB (opsAt Tryz.prog 5 7)) = true := by kernel_rfl
theorem awx7still1 : [(13, [], 13), (15, [], 15), (16, [], 16), (17, [], 17), (18, [], 18), (20, [], 20), (21, [], 21), (22, [], 22), (23, [], 23), (24, [], 24)].all (stillB (opsAt Tryz.prog 5 7)) = true := by kernel_rfl
theorem awx7still2 : [(25, [], 25), (26, [], 26), (27, [], 27), (29, [], 29), (30, [], 30), (31, [], 31), (32, [], 32), (33, [], 33), (34, [], 34), (35, [], 35)].all (stillB (opsAt Tryz.prog 5 7)) = true := by kernel_rfl
theorem awx7still3 : [(36, [], 36), (37, [], 37), (38, [], 38), (39, [], 39), (40, [], 40), (41, [], 41), (42, [], 42), (43, [], 43), (44, [], 44), (45, [], 45)].all (stillB (opsAt Tryz.prog 5 7)) = true := by kernel_rfl
theorem awx7still4 : [(46, [], 46), (47, [], 47), (50, [], 50), (51, [], 51), (52, [], 52), (54, [], 54), (55, [], 55), (56, [], 56), (58, [], 58), (59, [], 59)].all (stillB (opsAt Tryz.prog 5 7)) = true := by kernel_rfl
theorem awx7still5 : [(60, [], 60)].all (stillB (opsAt Tryz.prog 5 7)) = true := by kernel_rfl
theorem awx7sole0 : [(4, [], 4), (5, [], 5), (9, [], 9), (14, [], 14), (19, [], 19), (28, [], 28), (48, [], 48), (49, [], 49), (53, [], 53), (57, [], 57)].all (soleB (opsAt Tryz.prog 5 7)) = true := by kernel_rfl
theorem awx7R : Reg (opsAt Tryz.prog 5 7) awx7T [(0, [], 0), (1, [], 1), (2, [], 2), (3, [], 3), (6, [], 6), (7, [], 7), (8, [], 8), (10, [], 10), (11, [], 11), (12, [], 12), (13, [], 13), (15, [], 15), (16, [], 16), (17, [], 17), (18, [], 18), (20, [], 20), (21, [], 21), (22, [], 22), (23, [], 23), (24, [], 24), (25, [], 25), (26, [], 26), (27, [], 27), (29, [], 29), (30, [], 30), (31, [], 31), (32, [], 32), (33, [], 33), (34, [], 34), (35, [], 35), (36, [], 36), (37, [], 37), (38, [], 38), (39, [], 39), (40, [], 40), (41, [], 41), (42, [], 42), (43, [], 43), (44, [], 44), (45, [], 45), (46, [], 46), (47, [], 47), (50, [], 50), (51, [], 51), (52, [], 52), (54, [], 54), (55, [], 55), (56, [], 56), (58, [], 58), (59, [], 59), (60, [], 60)] [(4, [], 4), (5, [], 5), (9, [], 9), (14, [], 14), (19, [], 19), (28, [], 28), (48, [], 48), (49, [], 49), (53, [], 53), (57, [], 57)] := ⟨awx7Row, awx7Sel, (all_parts awx7still0 (all_parts awx7still1 (all_parts awx7still2 (all_parts awx7still3 (all_parts awx7still4 (all_parts awx7still5 (fun k h => by cases h))))))), (all_parts awx7sole0 (fun k h => by cases h)), awx7Done⟩

set_option maxHeartbeats 8000000 in
set_option maxRecDepth 100000 in
theorem awake7 (w : World) (hm : MaxLen w) : Calls Tryz.prog 5 #[] w (RetVal w (.bool true)) := by
  have HM := Lib.hid hm
  clear hm
  obtain ⟨x1, hx1⟩ : ∃ x : Int, x = (-123450 : Int) := ⟨_, rfl⟩
  obtain ⟨s1, hs1⟩ : ∃ s : Nat, s = 2 := ⟨_, rfl⟩
  have z1 : s1 ≤ 10 := by omega
  have B1 : Hid ((dg x1.natAbs).length ≤ 1) := (by show _ ≤ _; rw [hx1]; exact dg_len_le (by decide))
  have M1 : Hid (x1.natAbs < 1000000000) := (by show _ < _; rw [hx1]; decide)
  have F1 : Hid (numD (codes ⟨#[45, 49, 44, 50, 51, 52, 46, 53, 48]⟩) = x1) := (by show _ = _; subst hx1; subst hs1; exact g1.2.2.1)
  have F2 : Hid ((bhd (rst (codes ⟨#[45, 49, 44, 50, 51, 52, 46, 53, 48]⟩))).length = s1) := (by show _ = _; subst hx1; subst hs1; exact g1.2.2.2)
  obtain ⟨x2, hx2⟩ : ∃ x : Int, x = (0 : Int) := ⟨_, rfl⟩
  obtain ⟨s2, hs2⟩ : ∃ s : Nat, s = 2 := ⟨_, rfl⟩
  have z2 : s2 ≤ 10 := by omega
  have B2 : Hid ((dg x2.natAbs).length ≤ 1) := (by show _ ≤ _; rw [hx2]; exact dg_len_le (by decide))
  have M2 : Hid (x2.natAbs < 1000000000) := (by show _ < _; rw [hx2]; decide)
  have F3 : Hid (numD (codes ⟨#[45, 48, 46, 48, 48]⟩) = x2) := (by show _ = _; subst hx2; subst hs2; exact g2.2.2.1)
  have F4 : Hid ((bhd (rst (codes ⟨#[45, 48, 46, 48, 48]⟩))).length = s2) := (by show _ = _; subst hx2; subst hs2; exact g2.2.2.2)
  obtain ⟨x3, hx3⟩ : ∃ x : Int, x = (-123450 : Int) := ⟨_, rfl⟩
  obtain ⟨s3, hs3⟩ : ∃ s : Nat, s = 2 := ⟨_, rfl⟩
  have z3 : s3 ≤ 10 := by omega
  have B3 : Hid ((dg x3.natAbs).length ≤ 1) := (by show _ ≤ _; rw [hx3]; exact dg_len_le (by decide))
  have M3 : Hid (x3.natAbs < 1000000000) := (by show _ < _; rw [hx3]; decide)
  have F5 : Hid ((-123450 : Int) = x3) := (by show _ = _; subst hx3; subst hs3; decide)
  have F6 : Hid ((2 : Int) = (s3 : Int)) := (by show _ = _; subst hx3; subst hs3; decide)
  have F7 : Hid (alikeB x1 s1 x3 s3 = true) := (by show _ = _; subst hx1; subst hs1; subst hx3; subst hs3; decide)
  have F8 : Hid (str (txtD x1 s1) = ⟨#[45, 49, 50, 51, 52, 46, 53, 48]⟩) := (by show _ = _; subst hx1; subst hs1; exact g7)
  have F9 : Hid (str (comD x1 s1) = ⟨#[45, 49, 44, 50, 51, 52, 46, 53, 48]⟩) := (by show _ = _; subst hx1; subst hs1; exact g8)
  have F10 : Hid (str (txtD (stripI x1 s1 0) (s1 - stripK x1 s1 0)) = ⟨#[45, 49, 50, 51, 52, 46, 53]⟩) := (by show _ = _; subst hx1; subst hs1; exact g9)
  have F11 : Hid (str (txtD x2 s2) = ⟨#[48, 46, 48, 48]⟩) := (by show _ = _; subst hx2; subst hs2; exact g10)
  obtain ⟨x4, hx4⟩ : ∃ x : Int, x = (5 : Int) := ⟨_, rfl⟩
  obtain ⟨s4, hs4⟩ : ∃ s : Nat, s = 3 := ⟨_, rfl⟩
  have z4 : s4 ≤ 10 := by omega
  have B4 : Hid ((dg x4.natAbs).length ≤ 1) := (by show _ ≤ _; rw [hx4]; exact dg_len_le (by decide))
  have M4 : Hid (x4.natAbs < 1000000000) := (by show _ < _; rw [hx4]; decide)
  have F12 : Hid ((5 : Int) = x4) := (by show _ = _; subst hx4; subst hs4; decide)
  have F13 : Hid ((3 : Int) = (s4 : Int)) := (by show _ = _; subst hx4; subst hs4; decide)
  have F14 : Hid (str (txtD x4 s4) = ⟨#[48, 46, 48, 48, 53]⟩) := (by show _ = _; subst hx4; subst hs4; exact g11)
  clear hx1 hs1 hx2 hs2 hx3 hs3 hx4 hs4
  have E : Hid (St w w [] []) := St.start w (fun q hq => by cases hq)
  go_enter Tryz.func5, Tryz.ntmps5
  go_wp2_with fail
  refine (read_good (s := ⟨#[45, 49, 44, 50, 51, 52, 46, 53, 48]⟩) (i := x1) (k := s1) (by decide) (HM.out.on E.out.bel) g1.1 g1.2.1 F1.out F2.out).mono ?_; rintro e w1 ⟨A1, n1, c1, rfl, h, hb⟩
  have b1 : n1 ≤ 1 := len_le h B1.out
  replace E := Lib.hid (St.push E.out hb h)
  clear h hb
  replace E := Lib.hid (St.lay (t := 25) (x0 := (.bool (ngB x1))) (x1 := (.slice A1 n1 c1)) (x2 := (.int .i64 (s1 : Int))) (g := w1.heap.size) E.out rfl)
  go_wp2_with fail
  refine (read_good (s := ⟨#[45, 48, 46, 48, 48]⟩) (i := x2) (k := s2) (by decide) (HM.out.on E.out.bel) g2.1 g2.2.1 F3.out F4.out).mono ?_; rintro e w2 ⟨A2, n2, c2, rfl, h, hb⟩
  have b2 : n2 ≤ 1 := len_le h B2.out
  replace E := Lib.hid (St.push E.out hb h)
  clear h hb
  replace E := Lib.hid (St.lay (t := 25) (x0 := (.bool (ngB x2))) (x1 := (.slice A2 n2 c2)) (x2 := (.int .i64 (s2 : Int))) (g := w2.heap.size) E.out rfl)
  go_wp2_with fail
  refine (read_bad (s := ⟨#[49, 50, 44, 51, 52]⟩) (by decide) (HM.out.on E.out.bel) g3.1 g3.2).mono ?_; rintro e w3 ⟨rfl, hb⟩
  replace E := Lib.hid (St.step E.out hb)
  clear hb
  replace E := Lib.hid (St.alloc E.out (.cells #[.bool false, .slice none 0 0, .int .i64 0] 25))
  go_wp2_with fail
  refine (read_bad (s := ⟨#[49, 46]⟩) (by decide) (HM.out.on E.out.bel) g4.1 g4.2).mono ?_; rintro e w4 ⟨rfl, hb⟩
  replace E := Lib.hid (St.step E.out hb)
  clear hb
  replace E := Lib.hid (St.alloc E.out (.cells #[.bool false, .slice none 0 0, .int .i64 0] 25))
  go_wp2_with fail
  refine (read_none (s := ⟨#[43]⟩) (by decide) (HM.out.on E.out.bel) g5).mono ?_; rintro e w5 ⟨rfl, hb⟩
  replace E := Lib.hid (St.step E.out hb)
  clear hb
  replace E := Lib.hid (St.alloc E.out (.cells #[.bool false, .slice none 0 0, .int .i64 0] 25))
  go_wp2_with fail
  refine (read_bad (s := ⟨#[49, 50, 51, 52, 44, 53, 54, 55]⟩) (by decide) (HM.out.on E.out.bel) g6.1 g6.2).mono ?_; rintro e w6 ⟨rfl, hb⟩
  replace E := Lib.hid (St.step E.out hb)
  clear hb
  replace E := Lib.hid (St.alloc E.out (.cells #[.bool false, .slice none 0 0, .int .i64 0] 25))
  go_wp2_with fail
  generalize hW2 : World.alloc w6 _ = W1 at E ⊢
  clear hW2
  replace E := Lib.hid (St.drew E.out)
  rename_i K hK
  refine line_start (ops := opsAt Tryz.prog 5 7) (S := SB [(w2.heap.size, (.bool (ngB x2)), (.slice A2 n2 c2), (.int .i64 (s2 : Int))), (w1.heap.size, (.bool (ngB x1)), (.slice A1 n1 c1), (.int .i64 (s1 : Int)))]) (by kernel_rfl) (by kernel_rfl) (St.sb E) ?_
  have hSw := St.sb E
  generalize hA : Act.mk _ _ = a
  have ha : Fr 97 a [(1, .pointer (some ⟨w1.heap.size, 0, none⟩)), (3, .pointer (some ⟨w2.heap.size, 0, none⟩)), (2, .int .i64 0), (4, .int .i64 0), (6, .int .i64 3), (8, .int .i64 3), (10, .int .i64 2), (12, .int .i64 3)] := by rw [← hA]; exact ⟨rfl, rfl, by intro q hq; simp at hq; rcases hq with rfl | rfl | rfl | rfl | rfl | rfl | rfl | rfl <;> rfl⟩
  clear hA
  refine line_still awx7R 0 0 [] 37 (.int .i64 0) [(1, .pointer (some ⟨w1.heap.size, 0, none⟩)), (3, .pointer (some ⟨w2.heap.size, 0, none⟩)), (4, .int .i64 0), (6, .int .i64 3), (8, .int .i64 3), (10, .int .i64 2), (12, .int .i64 3)] rfl (by decide) (by decide) (by decide) ha (fun o ho hg => y_of (wanted_none hg) (fun wx hS => e_move (.inl ho) (ha.ev (i := 2) (v := .int .i64 0) (by simp)))) (by simp) hSw ?_; intro a ha
  refine line_still awx7R 1 1 [] 38 (.bool true) [(1, .pointer (some ⟨w1.heap.size, 0, none⟩)), (3, .pointer (some ⟨w2.heap.size, 0, none⟩)), (4, .int .i64 0), (6, .int .i64 3), (8, .int .i64 3), (10, .int .i64 2), (12, .int .i64 3)] rfl (by decide) (by decide) (by decide) ha (fun o ho hg => y_of (wanted_none hg) (fun wx hS => e_eql ho (ha.ev (i := 37) (v := .int .i64 0) (by simp)) rfl)) (by simp) hSw ?_; intro a ha
  refine line_still awx7R 2 2 [] 39 (.bool true) [(1, .pointer (some ⟨w1.heap.size, 0, none⟩)), (3, .pointer (some ⟨w2.heap.size, 0, none⟩)), (4, .int .i64 0), (6, .int .i64 3), (8, .int .i64 3), (10, .int .i64 2), (12, .int .i64 3)] rfl (by decide) (by decide) (by decide) ha (fun o ho hg => y_of (wanted_none hg) (fun wx hS => e_move (.inl ho) (ha.ev (i := 38) (v := .bool true) (by simp)))) (by simp) hSw ?_; intro a ha
  refine line_still awx7R 3 3 [] 40 (.agg #[(.bool (ngB x1)), (.slice A1 n1 c1), (.int .i64 (s1 : Int))]) [(39, .bool true), (1, .pointer (some ⟨w1.heap.size, 0, none⟩)), (3, .pointer (some ⟨w2.heap.size, 0, none⟩)), (4, .int .i64 0), (6, .int .i64 3), (8, .int .i64 3), (10, .int .i64 2), (12, .int .i64 3)] rfl (by decide) (by decide) (by decide) ha (fun o ho hg => y_of (awx7R.wanted hg rfl ha (d := 39) (by simp)) (fun wx hS => e_load ho (ha.ev (i := 1) (v := .pointer (some ⟨w1.heap.size, 0, none⟩)) (by simp)) (hS.at_ (g := w1.heap.size) (x0 := (.bool (ngB x1))) (x1 := (.slice A1 n1 c1)) (x2 := (.int .i64 (s1 : Int))) (by simp)))) (by simp) hSw ?_; intro a ha
  refine line_call awx7R 4 4 [] 41 (args := #[.int .i64 (-123450), .int .i64 2]) [(40, .agg #[(.bool (ngB x1)), (.slice A1 n1 c1), (.int .i64 (s1 : Int))]), (39, .bool true), (1, .pointer (some ⟨w1.heap.size, 0, none⟩)), (3, .pointer (some ⟨w2.heap.size, 0, none⟩)), (4, .int .i64 0), (6, .int .i64 3), (8, .int .i64 3), (10, .int .i64 2), (12, .int .i64 3)] rfl (by decide) (by decide) (by decide) ha (fun o ho hg => ⟨(awx7R.wanted hg rfl ha (d := 39) (by simp)), e_call (by kernel_rfl) ho rfl (by simp only [List.map_toArray, List.map_cons, List.map_nil, ev_const])⟩) (by simp) ?_
  refine (mk_is5 (i := x3) (s := s3) _ F5.out F6.out M3.out (by omega)).mono ?_; rintro e w7 ⟨A7, n7, c7, rfl, h, hb⟩
  have b7 : n7 ≤ 1 := len_le h B3.out
  replace E := Lib.hid (St.push E.out hb h)
  clear h hb
  have hSw := St.sb E; refine ⟨_, rfl, hSw, ?_⟩; intro a ha
  refine line_call awx7R 5 5 [] 42 (args := #[.agg #[(.bool (ngB x1)), (.slice A1 n1 c1), (.int .i64 (s1 : Int))], .agg #[.bool (ngB x3), .slice A7 n7 c7, .int .i64 (s3 : Int)]]) [(39, .bool true), (1, .pointer (some ⟨w1.heap.size, 0, none⟩)), (3, .pointer (some ⟨w2.heap.size, 0, none⟩)), (4, .int .i64 0), (6, .int .i64 3), (8, .int .i64 3), (10, .int .i64 2), (12, .int .i64 3)] rfl (by decide) (by decide) (by decide) ha (fun o ho hg => ⟨(awx7R.wanted hg rfl ha (d := 39) (by simp)), e_call (by kernel_rfl) ho rfl (by have q0 := ha.ev (i := 40) (v := .agg #[(.bool (ngB x1)), (.slice A1 n1 c1), (.int .i64 (s1 : Int))]) (by simp); have q1 := ha.ev (i := 41) (v := .agg #[.bool (ngB x3), .slice A7 n7 c7, .int .i64 (s3 : Int)]) (by simp); simp only [List.map_toArray, List.map_cons, List.map_nil, ev_const, q0, q1])⟩) (by simp) ?_
  refine (alike_is5 (i := x1) (j := x3) (s := s1) (t := s3) (St.got E (A := A1) (n := n1) (c := c1) (a := (x1).natAbs) (by simp)) (St.got E (A := A7) (n := n7) (c := c7) (a := (x3).natAbs) (by simp)) F7.out).mono ?_; rintro e w8 ⟨rfl, hb⟩
  replace E := Lib.hid (St.step E.out hb)
  clear hb
  replace E : Hid (St w w8 [(A2, n2, c2, (x2).natAbs), (A1, n1, c1, (x1).natAbs)] [(w2.heap.size, (.bool (ngB x2)), (.slice A2 n2 c2), (.int .i64 (s2 : Int))), (w1.heap.size, (.bool (ngB x1)), (.slice A1 n1 c1), (.int .i64 (s1 : Int)))]) := Lib.hid ((E.out).sub (by simp) (by simp))
  have hSw := St.sb E; refine ⟨_, rfl, hSw, ?_⟩; intro a ha
  refine line_still awx7R 6 6 [] 43 (.bool true) [(1, .pointer (some ⟨w1.heap.size, 0, none⟩)), (3, .pointer (some ⟨w2.heap.size, 0, none⟩)), (4, .int .i64 0), (6, .int .i64 3), (8, .int .i64 3), (10, .int .i64 2), (12, .int .i64 3)] rfl (by decide) (by decide) (by decide) ha (fun o ho hg => y_of (wanted_none hg) (fun wx hS => e_pick ho (ha.ev (i := 39) (v := .bool true) (by simp)) (ha.ev (i := 42) (v := .bool true) (by simp)) rfl)) (by simp) hSw ?_; intro a ha
  refine line_still awx7R 7 7 [] 44 (.bool true) [(1, .pointer (some ⟨w1.heap.size, 0, none⟩)), (3, .pointer (some ⟨w2.heap.size, 0, none⟩)), (4, .int .i64 0), (6, .int .i64 3), (8, .int .i64 3), (10, .int .i64 2), (12, .int .i64 3)] rfl (by decide) (by decide) (by decide) ha (fun o ho hg => y_of (wanted_none hg) (fun wx hS => e_move (.inl ho) (ha.ev (i := 43) (v := .bool true) (by simp)))) (by simp) hSw ?_; intro a ha
  refine line_still awx7R 8 8 [] 45 (.agg #[(.bool (ngB x1)), (.slice A1 n1 c1), (.int .i64 (s1 : Int))]) [(44, .bool true), (1, .pointer (some ⟨w1.heap.size, 0, none⟩)), (3, .pointer (some ⟨w2.heap.size, 0, none⟩)), (4, .int .i64 0), (6, .int .i64 3), (8, .int .i64 3), (10, .int .i64 2), (12, .int .i64 3)] rfl (by decide) (by decide) (by decide) ha (fun o ho hg => y_of (awx7R.wanted hg rfl ha (d := 44) (by simp)) (fun wx hS => e_load ho (ha.ev (i := 1) (v := .pointer (some ⟨w1.heap.size, 0, none⟩)) (by simp)) (hS.at_ (g := w1.heap.size) (x0 := (.bool (ngB x1))) (x1 := (.slice A1 n1 c1)) (x2 := (.int .i64 (s1 : Int))) (by simp)))) (by simp) hSw ?_; intro a ha
  refine line_call awx7R 9 9 [] 46 (args := #[.agg #[(.bool (ngB x1)), (.slice A1 n1 c1), (.int .i64 (s1 : Int))]]) [(44, .bool true), (1, .pointer (some ⟨w1.heap.size, 0, none⟩)), (3, .pointer (some ⟨w2.heap.size, 0, none⟩)), (4, .int .i64 0), (6, .int .i64 3), (8, .int .i64 3), (10, .int .i64 2), (12, .int .i64 3)] rfl (by decide) (by decide) (by decide) ha (fun o ho hg => ⟨(awx7R.wanted hg rfl ha (d := 44) (by simp)), e_call (by kernel_rfl) ho rfl (by have q0 := ha.ev (i := 45) (v := .agg #[(.bool (ngB x1)), (.slice A1 n1 c1), (.int .i64 (s1 : Int))]) (by simp); simp only [List.map_toArray, List.map_cons, List.map_nil, ev_const, q0])⟩) (by simp) ?_
  refine (dtext_is (i := x1) (t := s1) (St.got E (A := A1) (n := n1) (c := c1) (a := (x1).natAbs) (by simp)) (by omega) (by omega) F8.out).mono ?_; rintro e w9 ⟨rfl, hb⟩
  replace E := Lib.hid (St.step E.out hb)
  clear hb
  have hSw := St.sb E; refine ⟨_, rfl, hSw, ?_⟩; intro a ha
  refine line_still awx7R 10 10 [] 47 (.bool true) [(44, .bool true), (1, .pointer (some ⟨w1.heap.size, 0, none⟩)), (3, .pointer (some ⟨w2.heap.size, 0, none⟩)), (4, .int .i64 0), (6, .int .i64 3), (8, .int .i64 3), (10, .int .i64 2), (12, .int .i64 3)] rfl (by decide) (by decide) (by decide) ha (fun o ho hg => y_of (awx7R.wanted hg rfl ha (d := 44) (by simp)) (fun wx hS => (e_seql ho (ha.ev (i := 46) (v := .string ⟨#[45, 49, 50, 51, 52, 46, 53, 48]⟩) (by simp)) rfl) (beq_self_eq_true _))) (by simp) hSw ?_; intro a ha
  refine line_still awx7R 11 11 [] 48 (.bool true) [(1, .pointer (some ⟨w1.heap.size, 0, none⟩)), (3, .pointer (some ⟨w2.heap.size, 0, none⟩)), (4, .int .i64 0), (6, .int .i64 3), (8, .int .i64 3), (10, .int .i64 2), (12, .int .i64 3)] rfl (by decide) (by decide) (by decide) ha (fun o ho hg => y_of (wanted_none hg) (fun wx hS => e_pick ho (ha.ev (i := 44) (v := .bool true) (by simp)) (ha.ev (i := 47) (v := .bool true) (by simp)) rfl)) (by simp) hSw ?_; intro a ha
  refine line_still awx7R 12 12 [] 49 (.bool true) [(1, .pointer (some ⟨w1.heap.size, 0, none⟩)), (3, .pointer (some ⟨w2.heap.size, 0, none⟩)), (4, .int .i64 0), (6, .int .i64 3), (8, .int .i64 3), (10, .int .i64 2), (12, .int .i64 3)] rfl (by decide) (by decide) (by decide) ha (fun o ho hg => y_of (wanted_none hg) (fun wx hS => e_move (.inl ho) (ha.ev (i := 48) (v := .bool true) (by simp)))) (by simp) hSw ?_; intro a ha
  refine line_still awx7R 13 13 [] 50 (.agg #[(.bool (ngB x1)), (.slice A1 n1 c1), (.int .i64 (s1 : Int))]) [(49, .bool true), (1, .pointer (some ⟨w1.heap.size, 0, none⟩)), (3, .pointer (some ⟨w2.heap.size, 0, none⟩)), (4, .int .i64 0), (6, .int .i64 3), (8, .int .i64 3), (10, .int .i64 2), (12, .int .i64 3)] rfl (by decide) (by decide) (by decide) ha (fun o ho hg => y_of (awx7R.wanted hg rfl ha (d := 49) (by simp)) (fun wx hS => e_load ho (ha.ev (i := 1) (v := .pointer (some ⟨w1.heap.size, 0, none⟩)) (by simp)) (hS.at_ (g := w1.heap.size) (x0 := (.bool (ngB x1))) (x1 := (.slice A1 n1 c1)) (x2 := (.int .i64 (s1 : Int))) (by simp)))) (by simp) hSw ?_; intro a ha
  refine line_call awx7R 14 14 [] 51 (args := #[.agg #[(.bool (ngB x1)), (.slice A1 n1 c1), (.int .i64 (s1 : Int))]]) [(49, .bool true), (1, .pointer (some ⟨w1.heap.size, 0, none⟩)), (3, .pointer (some ⟨w2.heap.size, 0, none⟩)), (4, .int .i64 0), (6, .int .i64 3), (8, .int .i64 3), (10, .int .i64 2), (12, .int .i64 3)] rfl (by decide) (by decide) (by decide) ha (fun o ho hg => ⟨(awx7R.wanted hg rfl ha (d := 49) (by simp)), e_call (by kernel_rfl) ho rfl (by have q0 := ha.ev (i := 50) (v := .agg #[(.bool (ngB x1)), (.slice A1 n1 c1), (.int .i64 (s1 : Int))]) (by simp); simp only [List.map_toArray, List.map_cons, List.map_nil, ev_const, q0])⟩) (by simp) ?_
  refine (commas_is (i := x1) (t := s1) (St.got E (A := A1) (n := n1) (c := c1) (a := (x1).natAbs) (by simp)) (by omega) (by omega) F9.out).mono ?_; rintro e w10 ⟨rfl, hb⟩
  replace E := Lib.hid (St.step E.out hb)
  clear hb
  have hSw := St.sb E; refine ⟨_, rfl, hSw, ?_⟩; intro a ha
  refine line_still awx7R 15 15 [] 52 (.bool true) [(49, .bool true), (1, .pointer (some ⟨w1.heap.size, 0, none⟩)), (3, .pointer (some ⟨w2.heap.size, 0, none⟩)), (4, .int .i64 0), (6, .int .i64 3), (8, .int .i64 3), (10, .int .i64 2), (12, .int .i64 3)] rfl (by decide) (by decide) (by decide) ha (fun o ho hg => y_of (awx7R.wanted hg rfl ha (d := 49) (by simp)) (fun wx hS => (e_seql ho (ha.ev (i := 51) (v := .string ⟨#[45, 49, 44, 50, 51, 52, 46, 53, 48]⟩) (by simp)) rfl) (beq_self_eq_true _))) (by simp) hSw ?_; intro a ha
  refine line_still awx7R 16 16 [] 53 (.bool true) [(1, .pointer (some ⟨w1.heap.size, 0, none⟩)), (3, .pointer (some ⟨w2.heap.size, 0, none⟩)), (4, .int .i64 0), (6, .int .i64 3), (8, .int .i64 3), (10, .int .i64 2), (12, .int .i64 3)] rfl (by decide) (by decide) (by decide) ha (fun o ho hg => y_of (wanted_none hg) (fun wx hS => e_pick ho (ha.ev (i := 49) (v := .bool true) (by simp)) (ha.ev (i := 52) (v := .bool true) (by simp)) rfl)) (by simp) hSw ?_; intro a ha
  refine line_still awx7R 17 17 [] 54 (.bool true) [(1, .pointer (some ⟨w1.heap.size, 0, none⟩)), (3, .pointer (some ⟨w2.heap.size, 0, none⟩)), (4, .int .i64 0), (6, .int .i64 3), (8, .int .i64 3), (10, .int .i64 2), (12, .int .i64 3)] rfl (by decide) (by decide) (by decide) ha (fun o ho hg => y_of (wanted_none hg) (fun wx hS => e_move (.inl ho) (ha.ev (i := 53) (v := .bool true) (by simp)))) (by simp) hSw ?_; intro a ha
  refine line_still awx7R 18 18 [] 55 (.agg #[(.bool (ngB x1)), (.slice A1 n1 c1), (.int .i64 (s1 : Int))]) [(54, .bool true), (3, .pointer (some ⟨w2.heap.size, 0, none⟩)), (4, .int .i64 0), (6, .int .i64 3), (8, .int .i64 3), (10, .int .i64 2), (12, .int .i64 3)] rfl (by decide) (by decide) (by decide) ha (fun o ho hg => y_of (awx7R.wanted hg rfl ha (d := 54) (by simp)) (fun wx hS => e_load ho (ha.ev (i := 1) (v := .pointer (some ⟨w1.heap.size, 0, none⟩)) (by simp)) (hS.at_ (g := w1.heap.size) (x0 := (.bool (ngB x1))) (x1 := (.slice A1 n1 c1)) (x2 := (.int .i64 (s1 : Int))) (by simp)))) (by simp) hSw ?_; intro a ha
  refine line_call awx7R 19 19 [] 56 (args := #[.agg #[(.bool (ngB x1)), (.slice A1 n1 c1), (.int .i64 (s1 : Int))]]) [(54, .bool true), (3, .pointer (some ⟨w2.heap.size, 0, none⟩)), (4, .int .i64 0), (6, .int .i64 3), (8, .int .i64 3), (10, .int .i64 2), (12, .int .i64 3)] rfl (by decide) (by decide) (by decide) ha (fun o ho hg => ⟨(awx7R.wanted hg rfl ha (d := 54) (by simp)), e_call (by kernel_rfl) ho rfl (by have q0 := ha.ev (i := 55) (v := .agg #[(.bool (ngB x1)), (.slice A1 n1 c1), (.int .i64 (s1 : Int))]) (by simp); simp only [List.map_toArray, List.map_cons, List.map_nil, ev_const, q0])⟩) (by simp) ?_
  refine (plain_is (i := x1) (t := s1) (St.got E (A := A1) (n := n1) (c := c1) (a := (x1).natAbs) (by simp)) (by omega) (by omega) F10.out).mono ?_; rintro e w11 ⟨rfl, hb⟩
  replace E := Lib.hid (St.step E.out hb)
  clear hb
  have hSw := St.sb E; refine ⟨_, rfl, hSw, ?_⟩; intro a ha
  refine line_still awx7R 20 20 [] 57 (.bool true) [(54, .bool true), (3, .pointer (some ⟨w2.heap.size, 0, none⟩)), (4, .int .i64 0), (6, .int .i64 3), (8, .int .i64 3), (10, .int .i64 2), (12, .int .i64 3)] rfl (by decide) (by decide) (by decide) ha (fun o ho hg => y_of (awx7R.wanted hg rfl ha (d := 54) (by simp)) (fun wx hS => (e_seql ho (ha.ev (i := 56) (v := .string ⟨#[45, 49, 50, 51, 52, 46, 53]⟩) (by simp)) rfl) (beq_self_eq_true _))) (by simp) hSw ?_; intro a ha
  refine line_still awx7R 21 21 [] 58 (.bool true) [(3, .pointer (some ⟨w2.heap.size, 0, none⟩)), (4, .int .i64 0), (6, .int .i64 3), (8, .int .i64 3), (10, .int .i64 2), (12, .int .i64 3)] rfl (by decide) (by decide) (by decide) ha (fun o ho hg => y_of (wanted_none hg) (fun wx hS => e_pick ho (ha.ev (i := 54) (v := .bool true) (by simp)) (ha.ev (i := 57) (v := .bool true) (by simp)) rfl)) (by simp) hSw ?_; intro a ha
  refine line_still awx7R 22 22 [] 59 (.bool true) [(3, .pointer (some ⟨w2.heap.size, 0, none⟩)), (4, .int .i64 0), (6, .int .i64 3), (8, .int .i64 3), (10, .int .i64 2), (12, .int .i64 3)] rfl (by decide) (by decide) (by decide) ha (fun o ho hg => y_of (wanted_none hg) (fun wx hS => e_move (.inl ho) (ha.ev (i := 58) (v := .bool true) (by simp)))) (by simp) hSw ?_; intro a ha
  refine line_still awx7R 23 23 [] 60 (.int .i64 0) [(59, .bool true), (3, .pointer (some ⟨w2.heap.size, 0, none⟩)), (6, .int .i64 3), (8, .int .i64 3), (10, .int .i64 2), (12, .int .i64 3)] rfl (by decide) (by decide) (by decide) ha (fun o ho hg => y_of (awx7R.wanted hg rfl ha (d := 59) (by simp)) (fun wx hS => e_move (.inl ho) (ha.ev (i := 4) (v := .int .i64 0) (by simp)))) (by simp) hSw ?_; intro a ha
  refine line_still awx7R 24 24 [] 61 (.bool true) [(59, .bool true), (3, .pointer (some ⟨w2.heap.size, 0, none⟩)), (6, .int .i64 3), (8, .int .i64 3), (10, .int .i64 2), (12, .int .i64 3)] rfl (by decide) (by decide) (by decide) ha (fun o ho hg => y_of (awx7R.wanted hg rfl ha (d := 59) (by simp)) (fun wx hS => e_eql ho (ha.ev (i := 60) (v := .int .i64 0) (by simp)) rfl)) (by simp) hSw ?_; intro a ha
  refine line_still awx7R 25 25 [] 62 (.bool true) [(3, .pointer (some ⟨w2.heap.size, 0, none⟩)), (6, .int .i64 3), (8, .int .i64 3), (10, .int .i64 2), (12, .int .i64 3)] rfl (by decide) (by decide) (by decide) ha (fun o ho hg => y_of (wanted_none hg) (fun wx hS => e_pick ho (ha.ev (i := 59) (v := .bool true) (by simp)) (ha.ev (i := 61) (v := .bool true) (by simp)) rfl)) (by simp) hSw ?_; intro a ha
  refine line_still awx7R 26 26 [] 63 (.bool true) [(3, .pointer (some ⟨w2.heap.size, 0, none⟩)), (6, .int .i64 3), (8, .int .i64 3), (10, .int .i64 2), (12, .int .i64 3)] rfl (by decide) (by decide) (by decide) ha (fun o ho hg => y_of (wanted_none hg) (fun wx hS => e_move (.inl ho) (ha.ev (i := 62) (v := .bool true) (by simp)))) (by simp) hSw ?_; intro a ha
  refine line_still awx7R 27 27 [] 64 (.agg #[(.bool (ngB x2)), (.slice A2 n2 c2), (.int .i64 (s2 : Int))]) [(63, .bool true), (6, .int .i64 3), (8, .int .i64 3), (10, .int .i64 2), (12, .int .i64 3)] rfl (by decide) (by decide) (by decide) ha (fun o ho hg => y_of (awx7R.wanted hg rfl ha (d := 63) (by simp)) (fun wx hS => e_load ho (ha.ev (i := 3) (v := .pointer (some ⟨w2.heap.size, 0, none⟩)) (by simp)) (hS.at_ (g := w2.heap.size) (x0 := (.bool (ngB x2))) (x1 := (.slice A2 n2 c2)) (x2 := (.int .i64 (s2 : Int))) (by simp)))) (by simp) hSw ?_; intro a ha
  refine line_call awx7R 28 28 [] 65 (args := #[.agg #[(.bool (ngB x2)), (.slice A2 n2 c2), (.int .i64 (s2 : Int))]]) [(63, .bool true), (6, .int .i64 3), (8, .int .i64 3), (10, .int .i64 2), (12, .int .i64 3)] rfl (by decide) (by decide) (by decide) ha (fun o ho hg => ⟨(awx7R.wanted hg rfl ha (d := 63) (by simp)), e_call (by kernel_rfl) ho rfl (by have q0 := ha.ev (i := 64) (v := .agg #[(.bool (ngB x2)), (.slice A2 n2 c2), (.int .i64 (s2 : Int))]) (by simp); simp only [List.map_toArray, List.map_cons, List.map_nil, ev_const, q0])⟩) (by simp) ?_
  refine (dtext_is (i := x2) (t := s2) (St.got E (A := A2) (n := n2) (c := c2) (a := (x2).natAbs) (by simp)) (by omega) (by omega) F11.out).mono ?_; rintro e w12 ⟨rfl, hb⟩
  replace E := Lib.hid (St.step E.out hb)
  clear hb
  have hSw := St.sb E; refine ⟨_, rfl, hSw, ?_⟩; intro a ha
  refine line_still awx7R 29 29 [] 66 (.bool true) [(63, .bool true), (6, .int .i64 3), (8, .int .i64 3), (10, .int .i64 2), (12, .int .i64 3)] rfl (by decide) (by decide) (by decide) ha (fun o ho hg => y_of (awx7R.wanted hg rfl ha (d := 63) (by simp)) (fun wx hS => (e_seql ho (ha.ev (i := 65) (v := .string ⟨#[48, 46, 48, 48]⟩) (by simp)) rfl) (beq_self_eq_true _))) (by simp) hSw ?_; intro a ha
  refine line_still awx7R 30 30 [] 67 (.bool true) [(6, .int .i64 3), (8, .int .i64 3), (10, .int .i64 2), (12, .int .i64 3)] rfl (by decide) (by decide) (by decide) ha (fun o ho hg => y_of (wanted_none hg) (fun wx hS => e_pick ho (ha.ev (i := 63) (v := .bool true) (by simp)) (ha.ev (i := 66) (v := .bool true) (by simp)) rfl)) (by simp) hSw ?_; intro a ha
  refine line_still awx7R 31 31 [] 68 (.bool true) [(6, .int .i64 3), (8, .int .i64 3), (10, .int .i64 2), (12, .int .i64 3)] rfl (by decide) (by decide) (by decide) ha (fun o ho hg => y_of (wanted_none hg) (fun wx hS => e_move (.inl ho) (ha.ev (i := 67) (v := .bool true) (by simp)))) (by simp) hSw ?_; intro a ha
  refine line_still awx7R 32 32 [] 69 (.int .i64 3) [(68, .bool true), (8, .int .i64 3), (10, .int .i64 2), (12, .int .i64 3)] rfl (by decide) (by decide) (by decide) ha (fun o ho hg => y_of (awx7R.wanted hg rfl ha (d := 68) (by simp)) (fun wx hS => e_move (.inl ho) (ha.ev (i := 6) (v := .int .i64 3) (by simp)))) (by simp) hSw ?_; intro a ha
  refine line_still awx7R 33 33 [] 70 (.bool true) [(68, .bool true), (8, .int .i64 3), (10, .int .i64 2), (12, .int .i64 3)] rfl (by decide) (by decide) (by decide) ha (fun o ho hg => y_of (awx7R.wanted hg rfl ha (d := 68) (by simp)) (fun wx hS => e_eql ho (ha.ev (i := 69) (v := .int .i64 3) (by simp)) rfl)) (by simp) hSw ?_; intro a ha
  refine line_still awx7R 34 34 [] 71 (.bool true) [(8, .int .i64 3), (10, .int .i64 2), (12, .int .i64 3)] rfl (by decide) (by decide) (by decide) ha (fun o ho hg => y_of (wanted_none hg) (fun wx hS => e_pick ho (ha.ev (i := 68) (v := .bool true) (by simp)) (ha.ev (i := 70) (v := .bool true) (by simp)) rfl)) (by simp) hSw ?_; intro a ha
  refine line_still awx7R 35 35 [] 72 (.bool true) [(8, .int .i64 3), (10, .int .i64 2), (12, .int .i64 3)] rfl (by decide) (by decide) (by decide) ha (fun o ho hg => y_of (wanted_none hg) (fun wx hS => e_move (.inl ho) (ha.ev (i := 71) (v := .bool true) (by simp)))) (by simp) hSw ?_; intro a ha
  refine line_still awx7R 36 36 [] 73 (.int .i64 3) [(72, .bool true), (10, .int .i64 2), (12, .int .i64 3)] rfl (by decide) (by decide) (by decide) ha (fun o ho hg => y_of (awx7R.wanted hg rfl ha (d := 72) (by simp)) (fun wx hS => e_move (.inl ho) (ha.ev (i := 8) (v := .int .i64 3) (by simp)))) (by simp) hSw ?_; intro a ha
  refine line_still awx7R 37 37 [] 74 (.bool true) [(72, .bool true), (10, .int .i64 2), (12, .int .i64 3)] rfl (by decide) (by decide) (by decide) ha (fun o ho hg => y_of (awx7R.wanted hg rfl ha (d := 72) (by simp)) (fun wx hS => e_eql ho (ha.ev (i := 73) (v := .int .i64 3) (by simp)) rfl)) (by simp) hSw ?_; intro a ha
  refine line_still awx7R 38 38 [] 75 (.bool true) [(10, .int .i64 2), (12, .int .i64 3)] rfl (by decide) (by decide) (by decide) ha (fun o ho hg => y_of (wanted_none hg) (fun wx hS => e_pick ho (ha.ev (i := 72) (v := .bool true) (by simp)) (ha.ev (i := 74) (v := .bool true) (by simp)) rfl)) (by simp) hSw ?_; intro a ha
  refine line_still awx7R 39 39 [] 76 (.bool true) [(10, .int .i64 2), (12, .int .i64 3)] rfl (by decide) (by decide) (by decide) ha (fun o ho hg => y_of (wanted_none hg) (fun wx hS => e_move (.inl ho) (ha.ev (i := 75) (v := .bool true) (by simp)))) (by simp) hSw ?_; intro a ha
  refine line_still awx7R 40 40 [] 77 (.int .i64 2) [(76, .bool true), (12, .int .i64 3)] rfl (by decide) (by decide) (by decide) ha (fun o ho hg => y_of (awx7R.wanted hg rfl ha (d := 76) (by simp)) (fun wx hS => e_move (.inl ho) (ha.ev (i := 10) (v := .int .i64 2) (by simp)))) (by simp) hSw ?_; intro a ha
  refine line_still awx7R 41 41 [] 78 (.bool true) [(76, .bool true), (12, .int .i64 3)] rfl (by decide) (by decide) (by decide) ha (fun o ho hg => y_of (awx7R.wanted hg rfl ha (d := 76) (by simp)) (fun wx hS => e_eql ho (ha.ev (i := 77) (v := .int .i64 2) (by simp)) rfl)) (by simp) hSw ?_; intro a ha
  refine line_still awx7R 42 42 [] 79 (.bool true) [(12, .int .i64 3)] rfl (by decide) (by decide) (by decide) ha (fun o ho hg => y_of (wanted_none hg) (fun wx hS => e_pick ho (ha.ev (i := 76) (v := .bool true) (by simp)) (ha.ev (i := 78) (v := .bool true) (by simp)) rfl)) (by simp) hSw ?_; intro a ha
  refine line_still awx7R 43 43 [] 80 (.bool true) [(12, .int .i64 3)] rfl (by decide) (by decide) (by decide) ha (fun o ho hg => y_of (wanted_none hg) (fun wx hS => e_move (.inl ho) (ha.ev (i := 79) (v := .bool true) (by simp)))) (by simp) hSw ?_; intro a ha
  refine line_still awx7R 44 44 [] 81 (.int .i64 3) [(80, .bool true)] rfl (by decide) (by decide) (by decide) ha (fun o ho hg => y_of (awx7R.wanted hg rfl ha (d := 80) (by simp)) (fun wx hS => e_move (.inl ho) (ha.ev (i := 12) (v := .int .i64 3) (by simp)))) (by simp) hSw ?_; intro a ha
  refine line_still awx7R 45 45 [] 82 (.bool true) [(80, .bool true)] rfl (by decide) (by decide) (by decide) ha (fun o ho hg => y_of (awx7R.wanted hg rfl ha (d := 80) (by simp)) (fun wx hS => e_eql ho (ha.ev (i := 81) (v := .int .i64 3) (by simp)) rfl)) (by simp) hSw ?_; intro a ha
  refine line_still awx7R 46 46 [] 83 (.bool true) [] rfl (by decide) (by decide) (by decide) ha (fun o ho hg => y_of (wanted_none hg) (fun wx hS => e_pick ho (ha.ev (i := 80) (v := .bool true) (by simp)) (ha.ev (i := 82) (v := .bool true) (by simp)) rfl)) (by simp) hSw ?_; intro a ha
  refine line_still awx7R 47 47 [] 84 (.bool true) [] rfl (by decide) (by decide) (by decide) ha (fun o ho hg => y_of (wanted_none hg) (fun wx hS => e_move (.inl ho) (ha.ev (i := 83) (v := .bool true) (by simp)))) (by simp) hSw ?_; intro a ha
  refine line_call awx7R 48 48 [] 85 (args := #[.int .i64 5, .int .i64 3]) [(84, .bool true)] rfl (by decide) (by decide) (by decide) ha (fun o ho hg => ⟨(awx7R.wanted hg rfl ha (d := 84) (by simp)), e_call (by kernel_rfl) ho rfl (by simp only [List.map_toArray, List.map_cons, List.map_nil, ev_const])⟩) (by simp) ?_
  refine (mk_is5 (i := x4) (s := s4) _ F12.out F13.out M4.out (by omega)).mono ?_; rintro e w13 ⟨A13, n13, c13, rfl, h, hb⟩
  have b13 : n13 ≤ 1 := len_le h B4.out
  replace E := Lib.hid (St.push E.out hb h)
  clear h hb
  have hSw := St.sb E; refine ⟨_, rfl, hSw, ?_⟩; intro a ha
  refine line_call awx7R 49 49 [] 86 (args := #[.agg #[.bool (ngB x4), .slice A13 n13 c13, .int .i64 (s4 : Int)]]) [(84, .bool true)] rfl (by decide) (by decide) (by decide) ha (fun o ho hg => ⟨(awx7R.wanted hg rfl ha (d := 84) (by simp)), e_call (by kernel_rfl) ho rfl (by have q0 := ha.ev (i := 85) (v := .agg #[.bool (ngB x4), .slice A13 n13 c13, .int .i64 (s4 : Int)]) (by simp); simp only [List.map_toArray, List.map_cons, List.map_nil, ev_const, q0])⟩) (by simp) ?_
  refine (dtext_is (i := x4) (t := s4) (St.got E (A := A13) (n := n13) (c := c13) (a := (x4).natAbs) (by simp)) (by omega) (by omega) F14.out).mono ?_; rintro e w14 ⟨rfl, hb⟩
  replace E := Lib.hid (St.step E.out hb)
  clear hb
  replace E : Hid (St w w14 [(A2, n2, c2, (x2).natAbs), (A1, n1, c1, (x1).natAbs)] [(w2.heap.size, (.bool (ngB x2)), (.slice A2 n2 c2), (.int .i64 (s2 : Int))), (w1.heap.size, (.bool (ngB x1)), (.slice A1 n1 c1), (.int .i64 (s1 : Int)))]) := Lib.hid ((E.out).sub (by simp) (by simp))
  have hSw := St.sb E; refine ⟨_, rfl, hSw, ?_⟩; intro a ha
  refine line_still awx7R 50 50 [] 87 (.bool true) [(84, .bool true)] rfl (by decide) (by decide) (by decide) ha (fun o ho hg => y_of (awx7R.wanted hg rfl ha (d := 84) (by simp)) (fun wx hS => (e_seql ho (ha.ev (i := 86) (v := .string ⟨#[48, 46, 48, 48, 53]⟩) (by simp)) rfl) (beq_self_eq_true _))) (by simp) hSw ?_; intro a ha
  refine line_still awx7R 51 51 [] 88 (.bool true) [] rfl (by decide) (by decide) (by decide) ha (fun o ho hg => y_of (wanted_none hg) (fun wx hS => e_pick ho (ha.ev (i := 84) (v := .bool true) (by simp)) (ha.ev (i := 87) (v := .bool true) (by simp)) rfl)) (by simp) hSw ?_; intro a ha
  refine line_still awx7R 52 52 [] 89 (.bool true) [] rfl (by decide) (by decide) (by decide) ha (fun o ho hg => y_of (wanted_none hg) (fun wx hS => e_move (.inl ho) (ha.ev (i := 88) (v := .bool true) (by simp)))) (by simp) hSw ?_; intro a ha
  refine line_call awx7R 53 53 [] 90 (args := #[.string ⟨#[49, 46, 50, 53, 48]⟩]) [(89, .bool true)] rfl (by decide) (by decide) (by decide) ha (fun o ho hg => ⟨(awx7R.wanted hg rfl ha (d := 89) (by simp)), e_call (by kernel_rfl) ho rfl (by simp only [List.map_toArray, List.map_cons, List.map_nil, ev_const])⟩) (by simp) ?_
  refine (scale_is (s := ⟨#[49, 46, 50, 53, 48]⟩) (k := 3) (by decide) (HM.out.on E.out.bel) g12.1).mono ?_; rintro e w15 ⟨rfl, hb⟩
  replace E := Lib.hid (St.step E.out hb)
  clear hb
  have hSw := St.sb E; refine ⟨_, rfl, hSw, ?_⟩; intro a ha
  refine line_still awx7R 54 54 [] 91 (.bool true) [(89, .bool true)] rfl (by decide) (by decide) (by decide) ha (fun o ho hg => y_of (awx7R.wanted hg rfl ha (d := 89) (by simp)) (fun wx hS => e_eql ho (ha.ev (i := 90) (v := .int .i64 3) (by simp)) rfl)) (by simp) hSw ?_; intro a ha
  refine line_still awx7R 55 55 [] 92 (.bool true) [] rfl (by decide) (by decide) (by decide) ha (fun o ho hg => y_of (wanted_none hg) (fun wx hS => e_pick ho (ha.ev (i := 89) (v := .bool true) (by simp)) (ha.ev (i := 91) (v := .bool true) (by simp)) rfl)) (by simp) hSw ?_; intro a ha
  refine line_still awx7R 56 56 [] 93 (.bool true) [] rfl (by decide) (by decide) (by decide) ha (fun o ho hg => y_of (wanted_none hg) (fun wx hS => e_move (.inl ho) (ha.ev (i := 92) (v := .bool true) (by simp)))) (by simp) hSw ?_; intro a ha
  refine line_call awx7R 57 57 [] 94 (args := #[.string ⟨#[55]⟩]) [(93, .bool true)] rfl (by decide) (by decide) (by decide) ha (fun o ho hg => ⟨(awx7R.wanted hg rfl ha (d := 93) (by simp)), e_call (by kernel_rfl) ho rfl (by simp only [List.map_toArray, List.map_cons, List.map_nil, ev_const])⟩) (by simp) ?_
  refine (scale_is (s := ⟨#[55]⟩) (k := 0) (by decide) (HM.out.on E.out.bel) g12.2).mono ?_; rintro e w16 ⟨rfl, hb⟩
  replace E := Lib.hid (St.step E.out hb)
  clear hb
  have hSw := St.sb E; refine ⟨_, rfl, hSw, ?_⟩; intro a ha
  refine line_still awx7R 58 58 [] 95 (.bool true) [(93, .bool true)] rfl (by decide) (by decide) (by decide) ha (fun o ho hg => y_of (awx7R.wanted hg rfl ha (d := 93) (by simp)) (fun wx hS => e_eql ho (ha.ev (i := 94) (v := .int .i64 0) (by simp)) rfl)) (by simp) hSw ?_; intro a ha
  refine line_still awx7R 59 59 [] 96 (.bool true) [] rfl (by decide) (by decide) (by decide) ha (fun o ho hg => y_of (wanted_none hg) (fun wx hS => e_pick ho (ha.ev (i := 93) (v := .bool true) (by simp)) (ha.ev (i := 95) (v := .bool true) (by simp)) rfl)) (by simp) hSw ?_; intro a ha
  refine line_still awx7R 60 60 [] 0 (.bool true) [] rfl (by decide) (by decide) (by decide) ha (fun o ho hg => y_of (wanted_none hg) (fun wx hS => e_move (.inr ho) (ha.ev (i := 96) (v := .bool true) (by simp)))) (by simp) hSw ?_; intro a ha
  refine line_end awx7R rfl ?_
  simp only [Exit.then]
  refine hK _ _ ?_
  go_wp2
  exact bodyPost_ret (v := .bool true) (by have := ha.2.2 (0, .bool true) (by simp); simp [results, Tryz.results5, go_sem, Array.getD_eq_getD_getElem?, this]) ha.2.1 ⟨rfl, E.out.bel⟩

end Go.Proofs.YtllcjahekckbfaaGreatDoor
