/-
  DecOrder answers true.
-/
import Derived.Test.YtafbkoejobkncaaDecT
import Derived.Test.YtafbkoejobkncaaDecU
import Derived.Test.YtafbkoejobkncaaLineE
namespace Go.Proofs.Ytafbkoejobkncaa
open Go.RowKit

theorem wrap_small {z : Int} (h1 : -1 ≤ z) (h2 : z ≤ 1) : IntKind.i64.wrap z = z := IntWalk.i64_in _ ⟨by omega, by omega⟩

set_option maxHeartbeats 2000000 in
set_option maxRecDepth 100000 in
theorem order_long1 (b1 : Bool) (A1 : Option Addr) (n1 c1 : Nat) (xs1 : List Nat) (k1 : Int) (b2 : Bool) (A2 : Option Addr) (n2 c2 : Nat) (xs2 : List Nat) (k2 : Int) (b3 : Bool) (A3 : Option Addr) (n3 c3 : Nat) (xs3 : List Nat) (k3 : Int) (w : World) (h1 : Lim w w.heap.size A1 n1 c1 xs1) (h2 : Lim w w.heap.size A2 n2 c2 xs2) (h3 : Lim w w.heap.size A3 n3 c3 xs3) (l1 : longB b1 n1 xs1 k1 = true) : Calls Try.prog 5 #[.agg #[.bool b1, .slice A1 n1 c1, .int .i64 k1], .agg #[.bool b2, .slice A2 n2 c2, .int .i64 k2], .agg #[.bool b3, .slice A3 n3 c3, .int .i64 k3]] w (RetVal w (.bool true)) := by
  have H1 := Lib.hid h1
  have H2 := Lib.hid h2
  have H3 := Lib.hid h3
  have L1 := Lib.hid l1
  clear h1 h2 h3 l1
  go_enter Try.func5, Try.ntmps5
  go_wp2_with fail
  generalize hW : World.alloc (World.alloc (World.alloc w _) _) _ = W0
  have E0 : St w W0 [] [((w.heap.size + 1 + 1), .bool b3, .slice A3 n3 c3, .int .i64 k3), ((w.heap.size + 1), .bool b2, .slice A2 n2 c2, .int .i64 k2), (w.heap.size, .bool b1, .slice A1 n1 c1, .int .i64 k1)] := by rw [← hW]; exact (((St.start w (l := []) (fun q hq => by cases hq)).lay rfl).lay (by simp)).lay (by simp)
  have E := Lib.hid E0
  clear hW E0
  refine (long_is (H1.out.on E.out.bel) L1.out).mono ?_; rintro e w1 ⟨rfl, hb⟩; replace E := Lib.hid (St.step E.out hb); clear hb
  go_wp2_with fail
  refine (awake5 _).mono ?_; rintro e w9 ⟨rfl, hb⟩; replace E := Lib.hid (St.step E.out hb); clear hb
  go_wp2_with fail
  go_ret
  exact ⟨rfl, E.out.bel⟩

set_option maxHeartbeats 2000000 in
set_option maxRecDepth 100000 in
theorem order_long2 (b1 : Bool) (A1 : Option Addr) (n1 c1 : Nat) (xs1 : List Nat) (k1 : Int) (b2 : Bool) (A2 : Option Addr) (n2 c2 : Nat) (xs2 : List Nat) (k2 : Int) (b3 : Bool) (A3 : Option Addr) (n3 c3 : Nat) (xs3 : List Nat) (k3 : Int) (w : World) (h1 : Lim w w.heap.size A1 n1 c1 xs1) (h2 : Lim w w.heap.size A2 n2 c2 xs2) (h3 : Lim w w.heap.size A3 n3 c3 xs3) (l1 : longB b1 n1 xs1 k1 = false) (l2 : longB b2 n2 xs2 k2 = true) : Calls Try.prog 5 #[.agg #[.bool b1, .slice A1 n1 c1, .int .i64 k1], .agg #[.bool b2, .slice A2 n2 c2, .int .i64 k2], .agg #[.bool b3, .slice A3 n3 c3, .int .i64 k3]] w (RetVal w (.bool true)) := by
  have H1 := Lib.hid h1
  have H2 := Lib.hid h2
  have H3 := Lib.hid h3
  have L1 := Lib.hid l1
  have L2 := Lib.hid l2
  clear h1 h2 h3 l1 l2
  go_enter Try.func5, Try.ntmps5
  go_wp2_with fail
  generalize hW : World.alloc (World.alloc (World.alloc w _) _) _ = W0
  have E0 : St w W0 [] [((w.heap.size + 1 + 1), .bool b3, .slice A3 n3 c3, .int .i64 k3), ((w.heap.size + 1), .bool b2, .slice A2 n2 c2, .int .i64 k2), (w.heap.size, .bool b1, .slice A1 n1 c1, .int .i64 k1)] := by rw [← hW]; exact (((St.start w (l := []) (fun q hq => by cases hq)).lay rfl).lay (by simp)).lay (by simp)
  have E := Lib.hid E0
  clear hW E0
  refine (long_is (H1.out.on E.out.bel) L1.out).mono ?_; rintro e w1 ⟨rfl, hb⟩; replace E := Lib.hid (St.step E.out hb); clear hb
  obtain ⟨p0, p1, p2, pf0, pf1, pf2, plt⟩ := St.at_ (x0 := .bool b2) (x1 := .slice A2 n2 c2) (x2 := .int .i64 k2) (g := (w.heap.size + 1)) E (by simp)
  go_wp2_with fail
  refine (long_is (H2.out.on E.out.bel) L2.out).mono ?_; rintro e w2 ⟨rfl, hb⟩; replace E := Lib.hid (St.step E.out hb); clear hb
  clear p0 p1 p2 pf0 pf1 pf2 plt
  go_wp2_with fail
  refine (awake5 _).mono ?_; rintro e w9 ⟨rfl, hb⟩; replace E := Lib.hid (St.step E.out hb); clear hb
  go_wp2_with fail
  go_ret
  exact ⟨rfl, E.out.bel⟩

set_option maxHeartbeats 2000000 in
set_option maxRecDepth 100000 in
theorem order_long3 (b1 : Bool) (A1 : Option Addr) (n1 c1 : Nat) (xs1 : List Nat) (k1 : Int) (b2 : Bool) (A2 : Option Addr) (n2 c2 : Nat) (xs2 : List Nat) (k2 : Int) (b3 : Bool) (A3 : Option Addr) (n3 c3 : Nat) (xs3 : List Nat) (k3 : Int) (w : World) (h1 : Lim w w.heap.size A1 n1 c1 xs1) (h2 : Lim w w.heap.size A2 n2 c2 xs2) (h3 : Lim w w.heap.size A3 n3 c3 xs3) (l1 : longB b1 n1 xs1 k1 = false) (l2 : longB b2 n2 xs2 k2 = false) (l3 : longB b3 n3 xs3 k3 = true) : Calls Try.prog 5 #[.agg #[.bool b1, .slice A1 n1 c1, .int .i64 k1], .agg #[.bool b2, .slice A2 n2 c2, .int .i64 k2], .agg #[.bool b3, .slice A3 n3 c3, .int .i64 k3]] w (RetVal w (.bool true)) := by
  have H1 := Lib.hid h1
  have H2 := Lib.hid h2
  have H3 := Lib.hid h3
  have L1 := Lib.hid l1
  have L2 := Lib.hid l2
  have L3 := Lib.hid l3
  clear h1 h2 h3 l1 l2 l3
  go_enter Try.func5, Try.ntmps5
  go_wp2_with fail
  generalize hW : World.alloc (World.alloc (World.alloc w _) _) _ = W0
  have E0 : St w W0 [] [((w.heap.size + 1 + 1), .bool b3, .slice A3 n3 c3, .int .i64 k3), ((w.heap.size + 1), .bool b2, .slice A2 n2 c2, .int .i64 k2), (w.heap.size, .bool b1, .slice A1 n1 c1, .int .i64 k1)] := by rw [← hW]; exact (((St.start w (l := []) (fun q hq => by cases hq)).lay rfl).lay (by simp)).lay (by simp)
  have E := Lib.hid E0
  clear hW E0
  refine (long_is (H1.out.on E.out.bel) L1.out).mono ?_; rintro e w1 ⟨rfl, hb⟩; replace E := Lib.hid (St.step E.out hb); clear hb
  obtain ⟨p0, p1, p2, pf0, pf1, pf2, plt⟩ := St.at_ (x0 := .bool b2) (x1 := .slice A2 n2 c2) (x2 := .int .i64 k2) (g := (w.heap.size + 1)) E (by simp)
  go_wp2_with fail
  refine (long_is (H2.out.on E.out.bel) L2.out).mono ?_; rintro e w2 ⟨rfl, hb⟩; replace E := Lib.hid (St.step E.out hb); clear hb
  clear p0 p1 p2 pf0 pf1 pf2 plt
  obtain ⟨p0, p1, p2, pf0, pf1, pf2, plt⟩ := St.at_ (x0 := .bool b3) (x1 := .slice A3 n3 c3) (x2 := .int .i64 k3) (g := (w.heap.size + 1 + 1)) E (by simp)
  go_wp2_with fail
  refine (long_is (H3.out.on E.out.bel) L3.out).mono ?_; rintro e w3 ⟨rfl, hb⟩; replace E := Lib.hid (St.step E.out hb); clear hb
  clear p0 p1 p2 pf0 pf1 pf2 plt
  go_wp2_with fail
  refine (awake5 _).mono ?_; rintro e w9 ⟨rfl, hb⟩; replace E := Lib.hid (St.step E.out hb); clear hb
  go_wp2_with fail
  go_ret
  exact ⟨rfl, E.out.bel⟩

def ordAT : List Row3 := [(some 22, none, .move (.tmp 7)), (some 23, none, .load 25 (.tmp 4)), (some 24, none, .load 25 (.tmp 3)), (some 25, none, .call { callee := .value (.func 23), args := #[.tmp 23, .tmp 24], argTypes := #[25, 25] }), (some 26, none, .unOp .neg 3 (.tmp 25)), (some 27, none, .binOp .neq 3 (.tmp 22) (.tmp 26) 3), (some 28, none, .move (.tmp 27)), (some 29, some (6, false), .move (.tmp 7)), (some 30, some (6, false), .binOp .leq 3 (.tmp 29) (.const (.int .i64 0)) 3), (some 31, some (6, false), .move (.tmp 30)), (some 32, some (9, true), .load 25 (.tmp 4)), (some 33, some (9, true), .load 25 (.tmp 5)), (some 34, some (9, true), .call { callee := .value (.func 23), args := #[.tmp 32, .tmp 33], argTypes := #[25, 25] }), (some 35, some (9, true), .binOp .leq 3 (.tmp 34) (.const (.int .i64 0)) 3), (some 36, some (6, false), .pick (.tmp 31) (.tmp 35) (.const (.bool false))), (some 37, some (6, false), .move (.tmp 36)), (some 38, some (15, true), .load 25 (.tmp 3)), (some 39, some (15, true), .load 25 (.tmp 5)), (some 40, some (15, true), .call { callee := .value (.func 23), args := #[.tmp 38, .tmp 39], argTypes := #[25, 25] }), (some 41, some (15, true), .binOp .gtr 3 (.tmp 40) (.const (.int .i64 0)) 3), (some 42, some (6, false), .pick (.tmp 37) (.tmp 41) (.const (.bool false))), (some 43, none, .pick (.tmp 28) (.const (.bool true)) (.tmp 42)), (some 44, none, .move (.tmp 43)), (some 45, some (22, false), .load 25 (.tmp 3)), (some 46, some (22, false), .call { callee := .value (.func 17), args := #[.tmp 45], argTypes := #[25] }), (some 47, some (22, false), .load 25 (.tmp 4)), (some 48, some (22, false), .call { callee := .value (.func 17), args := #[.tmp 47], argTypes := #[25] }), (some 49, some (22, false), .call { callee := .value (.func 23), args := #[.tmp 46, .tmp 48], argTypes := #[25, 25] }), (some 50, some (22, false), .move (.tmp 7)), (some 51, some (22, false), .unOp .neg 3 (.tmp 50)), (some 52, some (22, false), .binOp .neq 3 (.tmp 49) (.tmp 51) 3), (some 53, none, .pick (.tmp 44) (.const (.bool true)) (.tmp 52))]
set_option maxRecDepth 100000 in
theorem ordARow : (opsAt Try.prog 5 4).toList.map row3 = ordAT := by kernel_rfl
theorem ordASel : Region.noSelect (opsAt Try.prog 5 4) = true := by kernel_rfl
theorem ordADone : Region.ready .any (opsAt Try.prog 5 4) (upto (opsAt Try.prog 5 4).size (opsAt Try.prog 5 4).size []) = [] := by kernel_rfl
theorem ordAstill0 : [(0, [], 0), (1, [], 1), (2, [], 2), (4, [], 4), (5, [], 5), (6, [], 6), (7, [], 7), (8, [], 8), (9, [], 9), (10, [], 10)].all (stillB (opsAt Try.prog 5 4)) = true := by kernel_rfl
theorem ordAstill1 : [(11, [], 11), (13, [], 13), (14, [], 14), (15, [], 15), (16, [], 16), (17, [], 17), (19, [], 19), (20, [], 20), (21, [], 21), (22, [], 22)].all (stillB (opsAt Try.prog 5 4)) = true := by kernel_rfl
theorem ordAstill2 : [(23, [], 23), (24, [], 25), (24, [25], 28), (24, [28, 25], 29), (30, [], 30), (31, [], 31)].all (stillB (opsAt Try.prog 5 4)) = true := by kernel_rfl
theorem ordAsole0 : [(3, [], 3), (12, [], 12), (18, [], 18), (24, [29, 28, 25], 24), (26, [29, 28], 26), (27, [29, 28], 27)].all (soleB (opsAt Try.prog 5 4)) = true := by kernel_rfl
theorem ordAR : Reg (opsAt Try.prog 5 4) ordAT [(0, [], 0), (1, [], 1), (2, [], 2), (4, [], 4), (5, [], 5), (6, [], 6), (7, [], 7), (8, [], 8), (9, [], 9), (10, [], 10), (11, [], 11), (13, [], 13), (14, [], 14), (15, [], 15), (16, [], 16), (17, [], 17), (19, [], 19), (20, [], 20), (21, [], 21), (22, [], 22), (23, [], 23), (24, [], 25), (24, [25], 28), (24, [28, 25], 29), (30, [], 30), (31, [], 31)] [(3, [], 3), (12, [], 12), (18, [], 18), (24, [29, 28, 25], 24), (26, [29, 28], 26), (27, [29, 28], 27)] := ⟨ordARow, ordASel, (all_parts ordAstill0 (all_parts ordAstill1 (all_parts ordAstill2 (fun k h => by cases h)))), (all_parts ordAsole0 (fun k h => by cases h)), ordADone⟩

def ordBT : List Row3 := [(some 54, none, .load 25 (.tmp 3)), (some 55, none, .load 25 (.tmp 5)), (some 56, none, .call { callee := .value (.func 28), args := #[.tmp 54, .tmp 55], argTypes := #[25, 25] }), (some 57, none, .load 25 (.tmp 4)), (some 58, none, .load 25 (.tmp 5)), (some 59, none, .call { callee := .value (.func 28), args := #[.tmp 57, .tmp 58], argTypes := #[25, 25] }), (some 60, none, .call { callee := .value (.func 23), args := #[.tmp 56, .tmp 59], argTypes := #[25, 25] }), (some 61, none, .move (.tmp 7)), (some 62, none, .binOp .eql 3 (.tmp 60) (.tmp 61) 3), (some 63, none, .move (.tmp 62)), (some 64, some (9, true), .load 25 (.tmp 3)), (some 65, some (9, true), .load 25 (.tmp 4)), (some 66, some (9, true), .call { callee := .value (.func 30), args := #[.tmp 64, .tmp 65], argTypes := #[25, 25] }), (some 67, some (9, true), .call { callee := .value (.func 21), args := #[.tmp 66], argTypes := #[25] }), (some 68, some (9, true), .move (.tmp 7)), (some 69, some (9, true), .binOp .eql 3 (.tmp 67) (.tmp 68) 3), (some 70, none, .pick (.tmp 63) (.tmp 69) (.const (.bool false))), (some 71, none, .move (.tmp 70)), (some 72, some (17, true), .load 25 (.tmp 3)), (some 73, some (17, true), .call { callee := .value (.func 19), args := #[.tmp 72], argTypes := #[25] }), (some 74, some (17, true), .call { callee := .value (.func 21), args := #[.tmp 73], argTypes := #[25] }), (some 75, some (17, true), .binOp .geq 3 (.tmp 74) (.const (.int .i64 0)) 3), (some 76, none, .pick (.tmp 71) (.tmp 75) (.const (.bool false))), (some 77, none, .move (.tmp 76)), (some 78, some (23, true), .call { callee := .value (.func 14), args := #[], argTypes := #[] }), (some 79, none, .pick (.tmp 77) (.tmp 78) (.const (.bool false))), (some 6, none, .assign (.tmp 79))]
set_option maxRecDepth 100000 in
theorem ordBRow : (opsAt Try.prog 5 6).toList.map row3 = ordBT := by kernel_rfl
theorem ordBSel : Region.noSelect (opsAt Try.prog 5 6) = true := by kernel_rfl
theorem ordBDone : Region.ready .any (opsAt Try.prog 5 6) (upto (opsAt Try.prog 5 6).size (opsAt Try.prog 5 6).size []) = [] := by kernel_rfl
theorem ordBstill0 : [(0, [], 0), (1, [], 1), (2, [], 3), (2, [3], 4), (2, [4, 3], 7), (8, [], 8), (9, [], 9), (10, [], 10), (11, [], 11), (12, [], 14)].all (stillB (opsAt Try.prog 5 6)) = true := by kernel_rfl
theorem ordBstill1 : [(15, [], 15), (16, [], 16), (17, [], 17), (18, [], 18), (21, [], 21), (22, [], 22), (23, [], 23), (25, [], 25), (26, [], 26)].all (stillB (opsAt Try.prog 5 6)) = true := by kernel_rfl
theorem ordBsole0 : [(2, [7, 4, 3], 2), (5, [7], 5), (6, [7], 6), (12, [14], 12), (13, [14], 13), (19, [], 19), (20, [], 20), (24, [], 24)].all (soleB (opsAt Try.prog 5 6)) = true := by kernel_rfl
theorem ordBR : Reg (opsAt Try.prog 5 6) ordBT [(0, [], 0), (1, [], 1), (2, [], 3), (2, [3], 4), (2, [4, 3], 7), (8, [], 8), (9, [], 9), (10, [], 10), (11, [], 11), (12, [], 14), (15, [], 15), (16, [], 16), (17, [], 17), (18, [], 18), (21, [], 21), (22, [], 22), (23, [], 23), (25, [], 25), (26, [], 26)] [(2, [7, 4, 3], 2), (5, [7], 5), (6, [7], 6), (12, [14], 12), (13, [14], 13), (19, [], 19), (20, [], 20), (24, [], 24)] := ⟨ordBRow, ordBSel, (all_parts ordBstill0 (all_parts ordBstill1 (fun k h => by cases h))), (all_parts ordBsole0 (fun k h => by cases h)), ordBDone⟩

set_option maxHeartbeats 8000000 in
set_option maxRecDepth 100000 in
theorem order_A (Aa : Option Addr) (na ca s : Nat) (i : Int) (Ab : Option Addr) (nb cb t : Nat) (j : Int) (Ac : Option Addr) (nc cc u : Nat) (k : Int) (w : World) (h1 : Num w w.heap.size Aa na ca i.natAbs) (h2 : Num w w.heap.size Ab nb cb j.natAbs) (h3 : Num w w.heap.size Ac nc cc k.natAbs) (m1 : na ≤ 12) (t1 : s ≤ 60) (m2 : nb ≤ 12) (t2 : t ≤ 60) (m3 : nc ≤ 12) (t3 : u ≤ 60) (c1 : cmpD i s j t ≤ 0) (c2 : cmpD j t k u ≤ 0) : Calls Try.prog 5 #[.agg #[.bool (ngB i), .slice Aa na ca, .int .i64 (s : Int)], .agg #[.bool (ngB j), .slice Ab nb cb, .int .i64 (t : Int)], .agg #[.bool (ngB k), .slice Ac nc cc, .int .i64 (u : Int)]] w (RetVal w (.bool true)) := by
  have N1 : Hid (longB (ngB i) na (dg i.natAbs) (s : Int) = false) := not_long h1 m1 t1
  have N2 : Hid (longB (ngB j) nb (dg j.natAbs) (t : Int) = false) := not_long h2 m2 t2
  have N3 : Hid (longB (ngB k) nc (dg k.natAbs) (u : Int) = false) := not_long h3 m3 t3
  obtain ⟨z, hz⟩ : ∃ rr, cmpD i s j t = rr := ⟨_, rfl⟩
  have HZ := Lib.hid hz
  have hzb : -1 ≤ z ∧ z ≤ 1 := by rw [← hz]; exact cmpZ_bounds _ _
  obtain ⟨hz1, hz2⟩ := hzb
  have HT : Hid (cmpD j t i s = -z) := by show _ = _; rw [← hz]; exact ord_turn i j s t
  have W1 : Hid (IntKind.i64.wrap (- -z) = z) := by show _ = _; rw [Int.neg_neg]; exact wrap_small hz1 hz2
  have W2 : Hid (IntKind.i64.wrap (-z) = -z) := wrap_small (by omega) (by omega)
  have E1 : Hid ((z != z) = false) := by show _ = _; simp
  have E2 : Hid ((-z != -z) = false) := by show _ = _; simp
  have E3 : Hid ((z == z) = true) := by show _ = _; simp
  obtain ⟨y, hy⟩ : ∃ rr, cmpD j t k u = rr := ⟨_, rfl⟩
  have HY := Lib.hid hy
  have D2 : Hid (decide (y ≤ 0) = true) := by show _ = _; rw [← hy]; exact decide_eq_true c2
  have D1 : Hid (decide (z ≤ 0) = true) := by show _ = _; rw [← hz]; exact decide_eq_true c1
  obtain ⟨v, hv⟩ : ∃ rr, cmpD i s k u = rr := ⟨_, rfl⟩
  have HV := Lib.hid hv
  have D3 : Hid (decide (0 < v) = false) := by show _ = _; rw [← hv]; exact decide_eq_false (by have := ord_trans c1 c2; omega)
  have z_1 : Sz i s 108 := (Sz.of_len (by have := h1.len; omega : (dg i.natAbs).length ≤ 12))
  have z_2 : Sz j t 108 := (Sz.of_len (by have := h2.len; omega : (dg j.natAbs).length ≤ 12))
  have z_3 : Sz k u 108 := (Sz.of_len (by have := h3.len; omega : (dg k.natAbs).length ≤ 12))
  obtain ⟨x1, hx1⟩ : ∃ rr, -i = rr := ⟨_, rfl⟩
  have z1 : Sz x1 s 108 := by rw [← hx1]; exact (z_1.neg).mono (by decide)
  have HL1 : Hid ((dg x1.natAbs).length ≤ 168) := (by show _ ≤ _; have := z1.len; omega)
  have HX1 := Lib.hid hx1
  obtain ⟨x2, hx2⟩ : ∃ rr, -j = rr := ⟨_, rfl⟩
  have z2 : Sz x2 t 108 := by rw [← hx2]; exact (z_2.neg).mono (by decide)
  have HL2 : Hid ((dg x2.natAbs).length ≤ 168) := (by show _ ≤ _; have := z2.len; omega)
  have HX2 := Lib.hid hx2
  have F1 : Hid (cmpD x1 s x2 t = -z) := (by show _ = _; subst hx2; subst hx1; exact (by rw [← HZ.out]; exact ord_neg i j s t))
  obtain ⟨x3, hx3⟩ : ∃ rr, addZ i s k u = rr := ⟨_, rfl⟩
  obtain ⟨s3, hs3⟩ : ∃ rr, max s u = rr := ⟨_, rfl⟩
  have z3 : Sz x3 s3 109 := by rw [← hx3, ← hs3]; exact (z_1.add z_3).mono (by decide)
  have u3 : s3 ≤ 60 := by omega
  have HL3 : Hid ((dg x3.natAbs).length ≤ 169) := (by show _ ≤ _; have := z3.len; omega)
  have HX3 := Lib.hid hx3
  have HS3 := Lib.hid hs3
  obtain ⟨x4, hx4⟩ : ∃ rr, addZ j t k u = rr := ⟨_, rfl⟩
  obtain ⟨s4, hs4⟩ : ∃ rr, max t u = rr := ⟨_, rfl⟩
  have z4 : Sz x4 s4 109 := by rw [← hx4, ← hs4]; exact (z_2.add z_3).mono (by decide)
  have u4 : s4 ≤ 60 := by omega
  have HL4 : Hid ((dg x4.natAbs).length ≤ 169) := (by show _ ≤ _; have := z4.len; omega)
  have HX4 := Lib.hid hx4
  have HS4 := Lib.hid hs4
  have F2 : Hid (cmpD x3 s3 x4 s4 = z) := (by show _ = _; subst hs4; subst hx4; subst hs3; subst hx3; subst hx2; subst hx1; exact (by rw [← HZ.out]; exact ord_add i j k s t u))
  obtain ⟨x5, hx5⟩ : ∃ rr, subZ i s j t = rr := ⟨_, rfl⟩
  obtain ⟨s5, hs5⟩ : ∃ rr, max s t = rr := ⟨_, rfl⟩
  have z5 : Sz x5 s5 109 := by rw [← hx5, ← hs5]; exact (z_1.sub z_2).mono (by decide)
  have u5 : s5 ≤ 60 := by omega
  have HL5 : Hid ((dg x5.natAbs).length ≤ 169) := (by show _ ≤ _; have := z5.len; omega)
  have HX5 := Lib.hid hx5
  have HS5 := Lib.hid hs5
  have F3 : Hid (x5.sign = z) := (by show _ = _; subst hs5; subst hx5; subst hs4; subst hx4; subst hs3; subst hx3; subst hx2; subst hx1; exact (by rw [← HZ.out]; exact ord_sub i j s t))
  obtain ⟨x6, hx6⟩ : ∃ rr, (i.natAbs : Int) = rr := ⟨_, rfl⟩
  have z6 : Sz x6 s 108 := by rw [← hx6]; exact (z_1.abs).mono (by decide)
  have HL6 : Hid ((dg x6.natAbs).length ≤ 168) := (by show _ ≤ _; have := z6.len; omega)
  have HX6 := Lib.hid hx6
  obtain ⟨sg, hsg⟩ : ∃ rr, x6.sign = rr := ⟨_, rfl⟩
  have HSG := Lib.hid hsg
  have D4 : Hid (decide (0 ≤ sg) = true) := by show _ = _; rw [← hsg, ← hx6]; exact decide_eq_true (ord_abs i)
  have H1 := Lib.hid h1
  have H2 := Lib.hid h2
  have H3 := Lib.hid h3
  clear hsg hz hy hv c1 c2
  clear hx1 hx2 hx3 hs3 hx4 hs4 hx5 hs5 hx6
  clear h1 h2 h3 hz1 hz2 z_1 z_2 z_3 z1 z2 z3 z4 z5 z6
  go_enter Try.func5, Try.ntmps5
  go_wp2_with fail
  generalize hW : World.alloc (World.alloc (World.alloc w _) _) _ = W0
  have E0 : St w W0 [(Aa, na, ca, (i).natAbs), (Ab, nb, cb, (j).natAbs), (Ac, nc, cc, (k).natAbs)] [((w.heap.size + 1 + 1), (.bool (ngB k)), (.slice Ac nc cc), (.int .i64 (u : Int))), ((w.heap.size + 1), (.bool (ngB j)), (.slice Ab nb cb), (.int .i64 (t : Int))), (w.heap.size, (.bool (ngB i)), (.slice Aa na ca), (.int .i64 (s : Int)))] := by rw [← hW]; exact (((St.start w (l := [(Aa, na, ca, (i).natAbs), (Ab, nb, cb, (j).natAbs), (Ac, nc, cc, (k).natAbs)]) (by simp; exact ⟨H1.out, H2.out, H3.out⟩)).lay rfl).lay (by simp)).lay (by simp)
  have E := Lib.hid E0
  clear hW E0
  refine (long_is (St.got E (A := Aa) (n := na) (c := ca) (a := (i).natAbs) (by simp)) N1.out).mono ?_; rintro e w1 ⟨rfl, hb⟩
  replace E := Lib.hid (St.step E.out hb)
  clear hb
  obtain ⟨p1a, p1b, p1c, p1d, p1e, p1f, p1g⟩ := St.at_ (x0 := (.bool (ngB j))) (x1 := (.slice Ab nb cb)) (x2 := (.int .i64 (t : Int))) (g := (w.heap.size + 1)) E (by simp)
  go_wp2_with fail
  refine (long_is (St.got E (A := Ab) (n := nb) (c := cb) (a := (j).natAbs) (by simp)) N2.out).mono ?_; rintro e w2 ⟨rfl, hb⟩
  clear p1a p1b p1c p1d p1e p1f p1g
  replace E := Lib.hid (St.step E.out hb)
  clear hb
  obtain ⟨p0a, p0b, p0c, p0d, p0e, p0f, p0g⟩ := St.at_ (x0 := (.bool (ngB k))) (x1 := (.slice Ac nc cc)) (x2 := (.int .i64 (u : Int))) (g := (w.heap.size + 1 + 1)) E (by simp)
  go_wp2_with fail
  refine (long_is (St.got E (A := Ac) (n := nc) (c := cc) (a := (k).natAbs) (by simp)) N3.out).mono ?_; rintro e w3 ⟨rfl, hb⟩
  clear p0a p0b p0c p0d p0e p0f p0g
  replace E := Lib.hid (St.step E.out hb)
  clear hb
  obtain ⟨p1a, p1b, p1c, p1d, p1e, p1f, p1g⟩ := St.at_ (x0 := (.bool (ngB j))) (x1 := (.slice Ab nb cb)) (x2 := (.int .i64 (t : Int))) (g := (w.heap.size + 1)) E (by simp)
  obtain ⟨p2a, p2b, p2c, p2d, p2e, p2f, p2g⟩ := St.at_ (x0 := (.bool (ngB i))) (x1 := (.slice Aa na ca)) (x2 := (.int .i64 (s : Int))) (g := w.heap.size) E (by simp)
  go_wp2_with fail
  refine (cmp5_is (i := i) (s := s) (j := j) (t := t) (St.got E (A := Aa) (n := na) (c := ca) (a := (i).natAbs) (by simp)) (St.got E (A := Ab) (n := nb) (c := cb) (a := (j).natAbs) (by simp)) (by omega) (by omega) (by omega) (by omega) HZ.out).mono ?_; rintro e w4 ⟨rfl, hb⟩
  clear p1a p1b p1c p1d p1e p1f p1g p2a p2b p2c p2d p2e p2f p2g
  replace E := Lib.hid (St.step E.out hb)
  clear hb
  go_wp2_with fail
  rename_i K0 hK0 K hK
  replace E := Lib.hid (St.step E.out (Below.refl _ _))
  replace E := Lib.hid (St.drew E.out)
  refine line_start (ops := opsAt Try.prog 5 4) (S := SB [((w.heap.size + 1 + 1), (.bool (ngB k)), (.slice Ac nc cc), (.int .i64 (u : Int))), ((w.heap.size + 1), (.bool (ngB j)), (.slice Ab nb cb), (.int .i64 (t : Int))), (w.heap.size, (.bool (ngB i)), (.slice Aa na ca), (.int .i64 (s : Int)))]) (by kernel_rfl) (by kernel_rfl) (St.sb E) ?_
  have hSw := St.sb E
  generalize hA : Act.mk _ _ = a
  have ha : Fr 80 a [(3, .pointer (some ⟨w.heap.size, 0, none⟩)), (4, .pointer (some ⟨(w.heap.size + 1), 0, none⟩)), (5, .pointer (some ⟨(w.heap.size + 1 + 1), 0, none⟩)), (7, .int .i64 z)] := by rw [← hA]; exact ⟨rfl, rfl, by intro q hq; simp at hq; rcases hq with rfl | rfl | rfl | rfl <;> rfl⟩
  clear hA
  refine line_still ordAR 0 0 [] 22 (.int .i64 z) [(3, .pointer (some ⟨w.heap.size, 0, none⟩)), (4, .pointer (some ⟨(w.heap.size + 1), 0, none⟩)), (5, .pointer (some ⟨(w.heap.size + 1 + 1), 0, none⟩)), (7, .int .i64 z)] rfl (by decide) (by decide) (by decide) ha (fun o ho hg => y_of (wanted_none hg) (fun wx hS => e_move (.inl ho) (ha.ev (i := 7) (v := .int .i64 z) (by simp)))) (by simp) hSw ?_; intro a ha
  refine line_still ordAR 1 1 [] 23 (.agg #[(.bool (ngB j)), (.slice Ab nb cb), (.int .i64 (t : Int))]) [(22, .int .i64 z), (3, .pointer (some ⟨w.heap.size, 0, none⟩)), (4, .pointer (some ⟨(w.heap.size + 1), 0, none⟩)), (5, .pointer (some ⟨(w.heap.size + 1 + 1), 0, none⟩)), (7, .int .i64 z)] rfl (by decide) (by decide) (by decide) ha (fun o ho hg => y_of (wanted_none hg) (fun wx hS => e_load ho (ha.ev (i := 4) (v := .pointer (some ⟨(w.heap.size + 1), 0, none⟩)) (by simp)) (hS.at_ (g := (w.heap.size + 1)) (x0 := (.bool (ngB j))) (x1 := (.slice Ab nb cb)) (x2 := (.int .i64 (t : Int))) (by simp)))) (by simp) hSw ?_; intro a ha
  refine line_still ordAR 2 2 [] 24 (.agg #[(.bool (ngB i)), (.slice Aa na ca), (.int .i64 (s : Int))]) [(23, .agg #[(.bool (ngB j)), (.slice Ab nb cb), (.int .i64 (t : Int))]), (22, .int .i64 z), (3, .pointer (some ⟨w.heap.size, 0, none⟩)), (4, .pointer (some ⟨(w.heap.size + 1), 0, none⟩)), (5, .pointer (some ⟨(w.heap.size + 1 + 1), 0, none⟩)), (7, .int .i64 z)] rfl (by decide) (by decide) (by decide) ha (fun o ho hg => y_of (wanted_none hg) (fun wx hS => e_load ho (ha.ev (i := 3) (v := .pointer (some ⟨w.heap.size, 0, none⟩)) (by simp)) (hS.at_ (g := w.heap.size) (x0 := (.bool (ngB i))) (x1 := (.slice Aa na ca)) (x2 := (.int .i64 (s : Int))) (by simp)))) (by simp) hSw ?_; intro a ha
  refine line_call ordAR 3 3 [] 25 (args := #[.agg #[(.bool (ngB j)), (.slice Ab nb cb), (.int .i64 (t : Int))], .agg #[(.bool (ngB i)), (.slice Aa na ca), (.int .i64 (s : Int))]]) [(22, .int .i64 z), (3, .pointer (some ⟨w.heap.size, 0, none⟩)), (4, .pointer (some ⟨(w.heap.size + 1), 0, none⟩)), (5, .pointer (some ⟨(w.heap.size + 1 + 1), 0, none⟩)), (7, .int .i64 z)] rfl (by decide) (by decide) (by decide) ha (fun o ho hg => ⟨(wanted_none hg), e_call (by kernel_rfl) ho rfl (by have q0 := ha.ev (i := 23) (v := .agg #[(.bool (ngB j)), (.slice Ab nb cb), (.int .i64 (t : Int))]) (by simp); have q1 := ha.ev (i := 24) (v := .agg #[(.bool (ngB i)), (.slice Aa na ca), (.int .i64 (s : Int))]) (by simp); simp only [List.map_toArray, List.map_cons, List.map_nil, ev_const, q0, q1])⟩) (by simp) ?_
  refine (cmp5_is (i := j) (s := t) (j := i) (t := s) (St.got E (A := Ab) (n := nb) (c := cb) (a := (j).natAbs) (by simp)) (St.got E (A := Aa) (n := na) (c := ca) (a := (i).natAbs) (by simp)) (by omega) (by omega) (by omega) (by omega) HT.out).mono ?_; rintro e w5 ⟨rfl, hb⟩
  replace E := Lib.hid (St.step E.out hb)
  clear hb
  have hSw := St.sb E; refine ⟨_, rfl, hSw, ?_⟩; intro a ha
  refine line_still ordAR 4 4 [] 26 (.int .i64 z) [(22, .int .i64 z), (3, .pointer (some ⟨w.heap.size, 0, none⟩)), (4, .pointer (some ⟨(w.heap.size + 1), 0, none⟩)), (5, .pointer (some ⟨(w.heap.size + 1 + 1), 0, none⟩)), (7, .int .i64 z)] rfl (by decide) (by decide) (by decide) ha (fun o ho hg => y_of (wanted_none hg) (fun wx hS => (e_neg ho (ha.ev (i := 25) (v := .int .i64 (-z)) (by simp))).trans (by rw [W1.out]))) (by simp) hSw ?_; intro a ha
  refine line_still ordAR 5 5 [] 27 (.bool false) [(3, .pointer (some ⟨w.heap.size, 0, none⟩)), (4, .pointer (some ⟨(w.heap.size + 1), 0, none⟩)), (5, .pointer (some ⟨(w.heap.size + 1 + 1), 0, none⟩)), (7, .int .i64 z)] rfl (by decide) (by decide) (by decide) ha (fun o ho hg => y_of (wanted_none hg) (fun wx hS => (e_neq ho (ha.ev (i := 22) (v := .int .i64 z) (by simp)) (ha.ev (i := 26) (v := .int .i64 z) (by simp))).trans (by rw [E1.out]))) (by simp) hSw ?_; intro a ha
  refine line_still ordAR 6 6 [] 28 (.bool false) [(3, .pointer (some ⟨w.heap.size, 0, none⟩)), (4, .pointer (some ⟨(w.heap.size + 1), 0, none⟩)), (5, .pointer (some ⟨(w.heap.size + 1 + 1), 0, none⟩)), (7, .int .i64 z)] rfl (by decide) (by decide) (by decide) ha (fun o ho hg => y_of (wanted_none hg) (fun wx hS => e_move (.inl ho) (ha.ev (i := 27) (v := .bool false) (by simp)))) (by simp) hSw ?_; intro a ha
  refine line_still ordAR 7 7 [] 29 (.int .i64 z) [(28, .bool false), (3, .pointer (some ⟨w.heap.size, 0, none⟩)), (4, .pointer (some ⟨(w.heap.size + 1), 0, none⟩)), (5, .pointer (some ⟨(w.heap.size + 1 + 1), 0, none⟩)), (7, .int .i64 z)] rfl (by decide) (by decide) (by decide) ha (fun o ho hg => y_of (ordAR.wanted hg rfl ha (d := 28) (by simp)) (fun wx hS => e_move (.inl ho) (ha.ev (i := 7) (v := .int .i64 z) (by simp)))) (by simp) hSw ?_; intro a ha
  refine line_still ordAR 8 8 [] 30 (.bool true) [(28, .bool false), (3, .pointer (some ⟨w.heap.size, 0, none⟩)), (4, .pointer (some ⟨(w.heap.size + 1), 0, none⟩)), (5, .pointer (some ⟨(w.heap.size + 1 + 1), 0, none⟩)), (7, .int .i64 z)] rfl (by decide) (by decide) (by decide) ha (fun o ho hg => y_of (ordAR.wanted hg rfl ha (d := 28) (by simp)) (fun wx hS => (e_leq ho (ha.ev (i := 29) (v := .int .i64 z) (by simp)) rfl).trans (by rw [D1.out]))) (by simp) hSw ?_; intro a ha
  refine line_still ordAR 9 9 [] 31 (.bool true) [(28, .bool false), (3, .pointer (some ⟨w.heap.size, 0, none⟩)), (4, .pointer (some ⟨(w.heap.size + 1), 0, none⟩)), (5, .pointer (some ⟨(w.heap.size + 1 + 1), 0, none⟩)), (7, .int .i64 z)] rfl (by decide) (by decide) (by decide) ha (fun o ho hg => y_of (ordAR.wanted hg rfl ha (d := 28) (by simp)) (fun wx hS => e_move (.inl ho) (ha.ev (i := 30) (v := .bool true) (by simp)))) (by simp) hSw ?_; intro a ha
  refine line_still ordAR 10 10 [] 32 (.agg #[(.bool (ngB j)), (.slice Ab nb cb), (.int .i64 (t : Int))]) [(31, .bool true), (28, .bool false), (3, .pointer (some ⟨w.heap.size, 0, none⟩)), (4, .pointer (some ⟨(w.heap.size + 1), 0, none⟩)), (5, .pointer (some ⟨(w.heap.size + 1 + 1), 0, none⟩)), (7, .int .i64 z)] rfl (by decide) (by decide) (by decide) ha (fun o ho hg => y_of (ordAR.wanted hg rfl ha (d := 31) (by simp)) (fun wx hS => e_load ho (ha.ev (i := 4) (v := .pointer (some ⟨(w.heap.size + 1), 0, none⟩)) (by simp)) (hS.at_ (g := (w.heap.size + 1)) (x0 := (.bool (ngB j))) (x1 := (.slice Ab nb cb)) (x2 := (.int .i64 (t : Int))) (by simp)))) (by simp) hSw ?_; intro a ha
  refine line_still ordAR 11 11 [] 33 (.agg #[(.bool (ngB k)), (.slice Ac nc cc), (.int .i64 (u : Int))]) [(32, .agg #[(.bool (ngB j)), (.slice Ab nb cb), (.int .i64 (t : Int))]), (31, .bool true), (28, .bool false), (3, .pointer (some ⟨w.heap.size, 0, none⟩)), (4, .pointer (some ⟨(w.heap.size + 1), 0, none⟩)), (5, .pointer (some ⟨(w.heap.size + 1 + 1), 0, none⟩)), (7, .int .i64 z)] rfl (by decide) (by decide) (by decide) ha (fun o ho hg => y_of (ordAR.wanted hg rfl ha (d := 31) (by simp)) (fun wx hS => e_load ho (ha.ev (i := 5) (v := .pointer (some ⟨(w.heap.size + 1 + 1), 0, none⟩)) (by simp)) (hS.at_ (g := (w.heap.size + 1 + 1)) (x0 := (.bool (ngB k))) (x1 := (.slice Ac nc cc)) (x2 := (.int .i64 (u : Int))) (by simp)))) (by simp) hSw ?_; intro a ha
  refine line_call ordAR 12 12 [] 34 (args := #[.agg #[(.bool (ngB j)), (.slice Ab nb cb), (.int .i64 (t : Int))], .agg #[(.bool (ngB k)), (.slice Ac nc cc), (.int .i64 (u : Int))]]) [(31, .bool true), (28, .bool false), (3, .pointer (some ⟨w.heap.size, 0, none⟩)), (4, .pointer (some ⟨(w.heap.size + 1), 0, none⟩)), (5, .pointer (some ⟨(w.heap.size + 1 + 1), 0, none⟩)), (7, .int .i64 z)] rfl (by decide) (by decide) (by decide) ha (fun o ho hg => ⟨(ordAR.wanted hg rfl ha (d := 31) (by simp)), e_call (by kernel_rfl) ho rfl (by have q0 := ha.ev (i := 32) (v := .agg #[(.bool (ngB j)), (.slice Ab nb cb), (.int .i64 (t : Int))]) (by simp); have q1 := ha.ev (i := 33) (v := .agg #[(.bool (ngB k)), (.slice Ac nc cc), (.int .i64 (u : Int))]) (by simp); simp only [List.map_toArray, List.map_cons, List.map_nil, ev_const, q0, q1])⟩) (by simp) ?_
  refine (cmp5_is (i := j) (s := t) (j := k) (t := u) (St.got E (A := Ab) (n := nb) (c := cb) (a := (j).natAbs) (by simp)) (St.got E (A := Ac) (n := nc) (c := cc) (a := (k).natAbs) (by simp)) (by omega) (by omega) (by omega) (by omega) HY.out).mono ?_; rintro e w6 ⟨rfl, hb⟩
  replace E := Lib.hid (St.step E.out hb)
  clear hb
  have hSw := St.sb E; refine ⟨_, rfl, hSw, ?_⟩; intro a ha
  refine line_still ordAR 13 13 [] 35 (.bool true) [(31, .bool true), (28, .bool false), (3, .pointer (some ⟨w.heap.size, 0, none⟩)), (4, .pointer (some ⟨(w.heap.size + 1), 0, none⟩)), (5, .pointer (some ⟨(w.heap.size + 1 + 1), 0, none⟩)), (7, .int .i64 z)] rfl (by decide) (by decide) (by decide) ha (fun o ho hg => y_of (ordAR.wanted hg rfl ha (d := 31) (by simp)) (fun wx hS => (e_leq ho (ha.ev (i := 34) (v := .int .i64 y) (by simp)) rfl).trans (by rw [D2.out]))) (by simp) hSw ?_; intro a ha
  refine line_still ordAR 14 14 [] 36 (.bool true) [(28, .bool false), (3, .pointer (some ⟨w.heap.size, 0, none⟩)), (4, .pointer (some ⟨(w.heap.size + 1), 0, none⟩)), (5, .pointer (some ⟨(w.heap.size + 1 + 1), 0, none⟩)), (7, .int .i64 z)] rfl (by decide) (by decide) (by decide) ha (fun o ho hg => y_of (ordAR.wanted hg rfl ha (d := 28) (by simp)) (fun wx hS => e_pick ho (ha.ev (i := 31) (v := .bool true) (by simp)) (ha.ev (i := 35) (v := .bool true) (by simp)) rfl)) (by simp) hSw ?_; intro a ha
  refine line_still ordAR 15 15 [] 37 (.bool true) [(28, .bool false), (3, .pointer (some ⟨w.heap.size, 0, none⟩)), (4, .pointer (some ⟨(w.heap.size + 1), 0, none⟩)), (5, .pointer (some ⟨(w.heap.size + 1 + 1), 0, none⟩)), (7, .int .i64 z)] rfl (by decide) (by decide) (by decide) ha (fun o ho hg => y_of (ordAR.wanted hg rfl ha (d := 28) (by simp)) (fun wx hS => e_move (.inl ho) (ha.ev (i := 36) (v := .bool true) (by simp)))) (by simp) hSw ?_; intro a ha
  refine line_still ordAR 16 16 [] 38 (.agg #[(.bool (ngB i)), (.slice Aa na ca), (.int .i64 (s : Int))]) [(37, .bool true), (28, .bool false), (3, .pointer (some ⟨w.heap.size, 0, none⟩)), (4, .pointer (some ⟨(w.heap.size + 1), 0, none⟩)), (5, .pointer (some ⟨(w.heap.size + 1 + 1), 0, none⟩)), (7, .int .i64 z)] rfl (by decide) (by decide) (by decide) ha (fun o ho hg => y_of (ordAR.wanted hg rfl ha (d := 37) (by simp)) (fun wx hS => e_load ho (ha.ev (i := 3) (v := .pointer (some ⟨w.heap.size, 0, none⟩)) (by simp)) (hS.at_ (g := w.heap.size) (x0 := (.bool (ngB i))) (x1 := (.slice Aa na ca)) (x2 := (.int .i64 (s : Int))) (by simp)))) (by simp) hSw ?_; intro a ha
  refine line_still ordAR 17 17 [] 39 (.agg #[(.bool (ngB k)), (.slice Ac nc cc), (.int .i64 (u : Int))]) [(38, .agg #[(.bool (ngB i)), (.slice Aa na ca), (.int .i64 (s : Int))]), (37, .bool true), (28, .bool false), (3, .pointer (some ⟨w.heap.size, 0, none⟩)), (4, .pointer (some ⟨(w.heap.size + 1), 0, none⟩)), (5, .pointer (some ⟨(w.heap.size + 1 + 1), 0, none⟩)), (7, .int .i64 z)] rfl (by decide) (by decide) (by decide) ha (fun o ho hg => y_of (ordAR.wanted hg rfl ha (d := 37) (by simp)) (fun wx hS => e_load ho (ha.ev (i := 5) (v := .pointer (some ⟨(w.heap.size + 1 + 1), 0, none⟩)) (by simp)) (hS.at_ (g := (w.heap.size + 1 + 1)) (x0 := (.bool (ngB k))) (x1 := (.slice Ac nc cc)) (x2 := (.int .i64 (u : Int))) (by simp)))) (by simp) hSw ?_; intro a ha
  refine line_call ordAR 18 18 [] 40 (args := #[.agg #[(.bool (ngB i)), (.slice Aa na ca), (.int .i64 (s : Int))], .agg #[(.bool (ngB k)), (.slice Ac nc cc), (.int .i64 (u : Int))]]) [(37, .bool true), (28, .bool false), (3, .pointer (some ⟨w.heap.size, 0, none⟩)), (4, .pointer (some ⟨(w.heap.size + 1), 0, none⟩)), (5, .pointer (some ⟨(w.heap.size + 1 + 1), 0, none⟩)), (7, .int .i64 z)] rfl (by decide) (by decide) (by decide) ha (fun o ho hg => ⟨(ordAR.wanted hg rfl ha (d := 37) (by simp)), e_call (by kernel_rfl) ho rfl (by have q0 := ha.ev (i := 38) (v := .agg #[(.bool (ngB i)), (.slice Aa na ca), (.int .i64 (s : Int))]) (by simp); have q1 := ha.ev (i := 39) (v := .agg #[(.bool (ngB k)), (.slice Ac nc cc), (.int .i64 (u : Int))]) (by simp); simp only [List.map_toArray, List.map_cons, List.map_nil, ev_const, q0, q1])⟩) (by simp) ?_
  refine (cmp5_is (i := i) (s := s) (j := k) (t := u) (St.got E (A := Aa) (n := na) (c := ca) (a := (i).natAbs) (by simp)) (St.got E (A := Ac) (n := nc) (c := cc) (a := (k).natAbs) (by simp)) (by omega) (by omega) (by omega) (by omega) HV.out).mono ?_; rintro e w7 ⟨rfl, hb⟩
  replace E := Lib.hid (St.step E.out hb)
  clear hb
  have hSw := St.sb E; refine ⟨_, rfl, hSw, ?_⟩; intro a ha
  refine line_still ordAR 19 19 [] 41 (.bool false) [(37, .bool true), (28, .bool false), (3, .pointer (some ⟨w.heap.size, 0, none⟩)), (4, .pointer (some ⟨(w.heap.size + 1), 0, none⟩)), (5, .pointer (some ⟨(w.heap.size + 1 + 1), 0, none⟩)), (7, .int .i64 z)] rfl (by decide) (by decide) (by decide) ha (fun o ho hg => y_of (ordAR.wanted hg rfl ha (d := 37) (by simp)) (fun wx hS => (e_gtr ho (ha.ev (i := 40) (v := .int .i64 v) (by simp)) rfl).trans (by rw [D3.out]))) (by simp) hSw ?_; intro a ha
  refine line_still ordAR 20 20 [] 42 (.bool false) [(28, .bool false), (3, .pointer (some ⟨w.heap.size, 0, none⟩)), (4, .pointer (some ⟨(w.heap.size + 1), 0, none⟩)), (5, .pointer (some ⟨(w.heap.size + 1 + 1), 0, none⟩)), (7, .int .i64 z)] rfl (by decide) (by decide) (by decide) ha (fun o ho hg => y_of (ordAR.wanted hg rfl ha (d := 28) (by simp)) (fun wx hS => e_pick ho (ha.ev (i := 37) (v := .bool true) (by simp)) (ha.ev (i := 41) (v := .bool false) (by simp)) rfl)) (by simp) hSw ?_; intro a ha
  refine line_still ordAR 21 21 [] 43 (.bool false) [(3, .pointer (some ⟨w.heap.size, 0, none⟩)), (4, .pointer (some ⟨(w.heap.size + 1), 0, none⟩)), (5, .pointer (some ⟨(w.heap.size + 1 + 1), 0, none⟩)), (7, .int .i64 z)] rfl (by decide) (by decide) (by decide) ha (fun o ho hg => y_of (wanted_none hg) (fun wx hS => e_pick ho (ha.ev (i := 28) (v := .bool false) (by simp)) rfl (ha.ev (i := 42) (v := .bool false) (by simp)))) (by simp) hSw ?_; intro a ha
  refine line_still ordAR 22 22 [] 44 (.bool false) [(3, .pointer (some ⟨w.heap.size, 0, none⟩)), (4, .pointer (some ⟨(w.heap.size + 1), 0, none⟩)), (5, .pointer (some ⟨(w.heap.size + 1 + 1), 0, none⟩)), (7, .int .i64 z)] rfl (by decide) (by decide) (by decide) ha (fun o ho hg => y_of (wanted_none hg) (fun wx hS => e_move (.inl ho) (ha.ev (i := 43) (v := .bool false) (by simp)))) (by simp) hSw ?_; intro a ha
  refine line_still ordAR 23 23 [] 45 (.agg #[(.bool (ngB i)), (.slice Aa na ca), (.int .i64 (s : Int))]) [(44, .bool false), (3, .pointer (some ⟨w.heap.size, 0, none⟩)), (4, .pointer (some ⟨(w.heap.size + 1), 0, none⟩)), (5, .pointer (some ⟨(w.heap.size + 1 + 1), 0, none⟩)), (7, .int .i64 z)] rfl (by decide) (by decide) (by decide) ha (fun o ho hg => y_of (ordAR.wanted hg rfl ha (d := 44) (by simp)) (fun wx hS => e_load ho (ha.ev (i := 3) (v := .pointer (some ⟨w.heap.size, 0, none⟩)) (by simp)) (hS.at_ (g := w.heap.size) (x0 := (.bool (ngB i))) (x1 := (.slice Aa na ca)) (x2 := (.int .i64 (s : Int))) (by simp)))) (by simp) hSw ?_; intro a ha
  refine line_ahead ordAR 24 24 [] 25 47 (.agg #[(.bool (ngB j)), (.slice Ab nb cb), (.int .i64 (t : Int))]) [(45, .agg #[(.bool (ngB i)), (.slice Aa na ca), (.int .i64 (s : Int))]), (44, .bool false), (3, .pointer (some ⟨w.heap.size, 0, none⟩)), (4, .pointer (some ⟨(w.heap.size + 1), 0, none⟩)), (5, .pointer (some ⟨(w.heap.size + 1 + 1), 0, none⟩)), (7, .int .i64 z)] rfl (by decide) (by decide) (by decide) ha (fun o ho hg => y_of (ordAR.wanted hg rfl ha (d := 44) (by simp)) (fun wx hS => e_load ho (ha.ev (i := 4) (v := .pointer (some ⟨(w.heap.size + 1), 0, none⟩)) (by simp)) (hS.at_ (g := (w.heap.size + 1)) (x0 := (.bool (ngB j))) (x1 := (.slice Ab nb cb)) (x2 := (.int .i64 (t : Int))) (by simp)))) (by simp) hSw ?_; intro a ha
  refine line_ahead ordAR 25 24 [25] 28 50 (.int .i64 z) [(47, .agg #[(.bool (ngB j)), (.slice Ab nb cb), (.int .i64 (t : Int))]), (45, .agg #[(.bool (ngB i)), (.slice Aa na ca), (.int .i64 (s : Int))]), (44, .bool false), (3, .pointer (some ⟨w.heap.size, 0, none⟩)), (4, .pointer (some ⟨(w.heap.size + 1), 0, none⟩)), (5, .pointer (some ⟨(w.heap.size + 1 + 1), 0, none⟩)), (7, .int .i64 z)] rfl (by decide) (by decide) (by decide) ha (fun o ho hg => y_of (ordAR.wanted hg rfl ha (d := 44) (by simp)) (fun wx hS => e_move (.inl ho) (ha.ev (i := 7) (v := .int .i64 z) (by simp)))) (by simp) hSw ?_; intro a ha
  refine line_ahead ordAR 26 24 [28, 25] 29 51 (.int .i64 (-z)) [(47, .agg #[(.bool (ngB j)), (.slice Ab nb cb), (.int .i64 (t : Int))]), (45, .agg #[(.bool (ngB i)), (.slice Aa na ca), (.int .i64 (s : Int))]), (44, .bool false), (3, .pointer (some ⟨w.heap.size, 0, none⟩)), (4, .pointer (some ⟨(w.heap.size + 1), 0, none⟩)), (5, .pointer (some ⟨(w.heap.size + 1 + 1), 0, none⟩)), (7, .int .i64 z)] rfl (by decide) (by decide) (by decide) ha (fun o ho hg => y_of (ordAR.wanted hg rfl ha (d := 44) (by simp)) (fun wx hS => (e_neg ho (ha.ev (i := 50) (v := .int .i64 z) (by simp))).trans (by rw [W2.out]))) (by simp) hSw ?_; intro a ha
  refine line_call ordAR 27 24 [29, 28, 25] 46 (args := #[.agg #[(.bool (ngB i)), (.slice Aa na ca), (.int .i64 (s : Int))]]) [(51, .int .i64 (-z)), (47, .agg #[(.bool (ngB j)), (.slice Ab nb cb), (.int .i64 (t : Int))]), (44, .bool false), (3, .pointer (some ⟨w.heap.size, 0, none⟩)), (4, .pointer (some ⟨(w.heap.size + 1), 0, none⟩)), (5, .pointer (some ⟨(w.heap.size + 1 + 1), 0, none⟩)), (7, .int .i64 z)] rfl (by decide) (by decide) (by decide) ha (fun o ho hg => ⟨(ordAR.wanted hg rfl ha (d := 44) (by simp)), e_call (by kernel_rfl) ho rfl (by have q0 := ha.ev (i := 45) (v := .agg #[(.bool (ngB i)), (.slice Aa na ca), (.int .i64 (s : Int))]) (by simp); simp only [List.map_toArray, List.map_cons, List.map_nil, ev_const, q0])⟩) (by simp) ?_
  refine (neg_is5 (i := i) (s := s) (St.got E (A := Aa) (n := na) (c := ca) (a := (i).natAbs) (by simp)) (by omega) (by omega) HX1.out).mono ?_; rintro e w8 ⟨A8, n8, c8, rfl, h, hb⟩
  have b8 : n8 ≤ 168 := len_le h HL1.out
  replace E := Lib.hid (St.push E.out hb h)
  clear h hb
  have hSw := St.sb E; refine ⟨_, rfl, hSw, ?_⟩; intro a ha
  refine line_skip [29, 28] (by intro i; simp <;> omega) ?_
  refine line_call ordAR 28 26 [29, 28] 48 (args := #[.agg #[(.bool (ngB j)), (.slice Ab nb cb), (.int .i64 (t : Int))]]) [(46, .agg #[.bool (ngB x1), .slice A8 n8 c8, .int .i64 (s : Int)]), (51, .int .i64 (-z)), (44, .bool false), (3, .pointer (some ⟨w.heap.size, 0, none⟩)), (4, .pointer (some ⟨(w.heap.size + 1), 0, none⟩)), (5, .pointer (some ⟨(w.heap.size + 1 + 1), 0, none⟩)), (7, .int .i64 z)] rfl (by decide) (by decide) (by decide) ha (fun o ho hg => ⟨(ordAR.wanted hg rfl ha (d := 44) (by simp)), e_call (by kernel_rfl) ho rfl (by have q0 := ha.ev (i := 47) (v := .agg #[(.bool (ngB j)), (.slice Ab nb cb), (.int .i64 (t : Int))]) (by simp); simp only [List.map_toArray, List.map_cons, List.map_nil, ev_const, q0])⟩) (by simp) ?_
  refine (neg_is5 (i := j) (s := t) (St.got E (A := Ab) (n := nb) (c := cb) (a := (j).natAbs) (by simp)) (by omega) (by omega) HX2.out).mono ?_; rintro e w9 ⟨A9, n9, c9, rfl, h, hb⟩
  have b9 : n9 ≤ 168 := len_le h HL2.out
  replace E := Lib.hid (St.push E.out hb h)
  clear h hb
  have hSw := St.sb E; refine ⟨_, rfl, hSw, ?_⟩; intro a ha
  refine line_call ordAR 29 27 [29, 28] 49 (args := #[.agg #[.bool (ngB x1), .slice A8 n8 c8, .int .i64 (s : Int)], .agg #[.bool (ngB x2), .slice A9 n9 c9, .int .i64 (t : Int)]]) [(51, .int .i64 (-z)), (44, .bool false), (3, .pointer (some ⟨w.heap.size, 0, none⟩)), (4, .pointer (some ⟨(w.heap.size + 1), 0, none⟩)), (5, .pointer (some ⟨(w.heap.size + 1 + 1), 0, none⟩)), (7, .int .i64 z)] rfl (by decide) (by decide) (by decide) ha (fun o ho hg => ⟨(ordAR.wanted hg rfl ha (d := 44) (by simp)), e_call (by kernel_rfl) ho rfl (by have q0 := ha.ev (i := 46) (v := .agg #[.bool (ngB x1), .slice A8 n8 c8, .int .i64 (s : Int)]) (by simp); have q1 := ha.ev (i := 48) (v := .agg #[.bool (ngB x2), .slice A9 n9 c9, .int .i64 (t : Int)]) (by simp); simp only [List.map_toArray, List.map_cons, List.map_nil, ev_const, q0, q1])⟩) (by simp) ?_
  refine (cmp5_is (i := x1) (s := s) (j := x2) (t := t) (St.got E (A := A8) (n := n8) (c := c8) (a := (x1).natAbs) (by simp)) (St.got E (A := A9) (n := n9) (c := c9) (a := (x2).natAbs) (by simp)) (by omega) (by omega) (by omega) (by omega) F1.out).mono ?_; rintro e w10 ⟨rfl, hb⟩
  replace E := Lib.hid (St.step E.out hb)
  clear hb
  replace E : Hid (St w w10 [(Aa, na, ca, (i).natAbs), (Ab, nb, cb, (j).natAbs), (Ac, nc, cc, (k).natAbs)] [((w.heap.size + 1 + 1), (.bool (ngB k)), (.slice Ac nc cc), (.int .i64 (u : Int))), ((w.heap.size + 1), (.bool (ngB j)), (.slice Ab nb cb), (.int .i64 (t : Int))), (w.heap.size, (.bool (ngB i)), (.slice Aa na ca), (.int .i64 (s : Int)))]) := Lib.hid ((E.out).sub (by simp) (by simp))
  have hSw := St.sb E; refine ⟨_, rfl, hSw, ?_⟩; intro a ha
  refine line_skip [29] (by intro i; simp <;> omega) ?_
  refine line_skip [] (by intro i; simp <;> omega) ?_
  refine line_still ordAR 30 30 [] 52 (.bool false) [(44, .bool false), (3, .pointer (some ⟨w.heap.size, 0, none⟩)), (4, .pointer (some ⟨(w.heap.size + 1), 0, none⟩)), (5, .pointer (some ⟨(w.heap.size + 1 + 1), 0, none⟩)), (7, .int .i64 z)] rfl (by decide) (by decide) (by decide) ha (fun o ho hg => y_of (ordAR.wanted hg rfl ha (d := 44) (by simp)) (fun wx hS => (e_neq ho (ha.ev (i := 49) (v := .int .i64 (-z)) (by simp)) (ha.ev (i := 51) (v := .int .i64 (-z)) (by simp))).trans (by rw [E2.out]))) (by simp) hSw ?_; intro a ha
  refine line_still ordAR 31 31 [] 53 (.bool false) [(3, .pointer (some ⟨w.heap.size, 0, none⟩)), (4, .pointer (some ⟨(w.heap.size + 1), 0, none⟩)), (5, .pointer (some ⟨(w.heap.size + 1 + 1), 0, none⟩)), (7, .int .i64 z)] rfl (by decide) (by decide) (by decide) ha (fun o ho hg => y_of (wanted_none hg) (fun wx hS => e_pick ho (ha.ev (i := 44) (v := .bool false) (by simp)) rfl (ha.ev (i := 52) (v := .bool false) (by simp)))) (by simp) hSw ?_; intro a ha
  refine line_end ordAR rfl ?_
  simp only [Exit.then]
  refine hK _ _ ?_
  refine wp_cond_false (ha.ev (by simp)) ?_
  refine wp_skip ?_
  simp only [Exit.then]
  refine hK0 _ _ ?_
  clear hK hK0 K K0
  refine wp_seq_k (fun K hK => ?_)
  replace E := Lib.hid (St.drew E.out)
  refine line_start (ops := opsAt Try.prog 5 6) (S := SB [((w.heap.size + 1 + 1), (.bool (ngB k)), (.slice Ac nc cc), (.int .i64 (u : Int))), ((w.heap.size + 1), (.bool (ngB j)), (.slice Ab nb cb), (.int .i64 (t : Int))), (w.heap.size, (.bool (ngB i)), (.slice Aa na ca), (.int .i64 (s : Int)))]) (by kernel_rfl) (by kernel_rfl) (St.sb E) ?_
  have hSw := St.sb E
  refine line_still ordBR 0 0 [] 54 (.agg #[(.bool (ngB i)), (.slice Aa na ca), (.int .i64 (s : Int))]) [(3, .pointer (some ⟨w.heap.size, 0, none⟩)), (4, .pointer (some ⟨(w.heap.size + 1), 0, none⟩)), (5, .pointer (some ⟨(w.heap.size + 1 + 1), 0, none⟩)), (7, .int .i64 z)] rfl (by decide) (by decide) (by decide) ha (fun o ho hg => y_of (wanted_none hg) (fun wx hS => e_load ho (ha.ev (i := 3) (v := .pointer (some ⟨w.heap.size, 0, none⟩)) (by simp)) (hS.at_ (g := w.heap.size) (x0 := (.bool (ngB i))) (x1 := (.slice Aa na ca)) (x2 := (.int .i64 (s : Int))) (by simp)))) (by simp) hSw ?_; intro a ha
  refine line_still ordBR 1 1 [] 55 (.agg #[(.bool (ngB k)), (.slice Ac nc cc), (.int .i64 (u : Int))]) [(54, .agg #[(.bool (ngB i)), (.slice Aa na ca), (.int .i64 (s : Int))]), (3, .pointer (some ⟨w.heap.size, 0, none⟩)), (4, .pointer (some ⟨(w.heap.size + 1), 0, none⟩)), (5, .pointer (some ⟨(w.heap.size + 1 + 1), 0, none⟩)), (7, .int .i64 z)] rfl (by decide) (by decide) (by decide) ha (fun o ho hg => y_of (wanted_none hg) (fun wx hS => e_load ho (ha.ev (i := 5) (v := .pointer (some ⟨(w.heap.size + 1 + 1), 0, none⟩)) (by simp)) (hS.at_ (g := (w.heap.size + 1 + 1)) (x0 := (.bool (ngB k))) (x1 := (.slice Ac nc cc)) (x2 := (.int .i64 (u : Int))) (by simp)))) (by simp) hSw ?_; intro a ha
  refine line_ahead ordBR 2 2 [] 3 57 (.agg #[(.bool (ngB j)), (.slice Ab nb cb), (.int .i64 (t : Int))]) [(55, .agg #[(.bool (ngB k)), (.slice Ac nc cc), (.int .i64 (u : Int))]), (54, .agg #[(.bool (ngB i)), (.slice Aa na ca), (.int .i64 (s : Int))]), (3, .pointer (some ⟨w.heap.size, 0, none⟩)), (4, .pointer (some ⟨(w.heap.size + 1), 0, none⟩)), (5, .pointer (some ⟨(w.heap.size + 1 + 1), 0, none⟩)), (7, .int .i64 z)] rfl (by decide) (by decide) (by decide) ha (fun o ho hg => y_of (wanted_none hg) (fun wx hS => e_load ho (ha.ev (i := 4) (v := .pointer (some ⟨(w.heap.size + 1), 0, none⟩)) (by simp)) (hS.at_ (g := (w.heap.size + 1)) (x0 := (.bool (ngB j))) (x1 := (.slice Ab nb cb)) (x2 := (.int .i64 (t : Int))) (by simp)))) (by simp) hSw ?_; intro a ha
  refine line_ahead ordBR 3 2 [3] 4 58 (.agg #[(.bool (ngB k)), (.slice Ac nc cc), (.int .i64 (u : Int))]) [(57, .agg #[(.bool (ngB j)), (.slice Ab nb cb), (.int .i64 (t : Int))]), (55, .agg #[(.bool (ngB k)), (.slice Ac nc cc), (.int .i64 (u : Int))]), (54, .agg #[(.bool (ngB i)), (.slice Aa na ca), (.int .i64 (s : Int))]), (3, .pointer (some ⟨w.heap.size, 0, none⟩)), (4, .pointer (some ⟨(w.heap.size + 1), 0, none⟩)), (7, .int .i64 z)] rfl (by decide) (by decide) (by decide) ha (fun o ho hg => y_of (wanted_none hg) (fun wx hS => e_load ho (ha.ev (i := 5) (v := .pointer (some ⟨(w.heap.size + 1 + 1), 0, none⟩)) (by simp)) (hS.at_ (g := (w.heap.size + 1 + 1)) (x0 := (.bool (ngB k))) (x1 := (.slice Ac nc cc)) (x2 := (.int .i64 (u : Int))) (by simp)))) (by simp) hSw ?_; intro a ha
  refine line_ahead ordBR 4 2 [4, 3] 7 61 (.int .i64 z) [(58, .agg #[(.bool (ngB k)), (.slice Ac nc cc), (.int .i64 (u : Int))]), (57, .agg #[(.bool (ngB j)), (.slice Ab nb cb), (.int .i64 (t : Int))]), (55, .agg #[(.bool (ngB k)), (.slice Ac nc cc), (.int .i64 (u : Int))]), (54, .agg #[(.bool (ngB i)), (.slice Aa na ca), (.int .i64 (s : Int))]), (3, .pointer (some ⟨w.heap.size, 0, none⟩)), (4, .pointer (some ⟨(w.heap.size + 1), 0, none⟩)), (7, .int .i64 z)] rfl (by decide) (by decide) (by decide) ha (fun o ho hg => y_of (wanted_none hg) (fun wx hS => e_move (.inl ho) (ha.ev (i := 7) (v := .int .i64 z) (by simp)))) (by simp) hSw ?_; intro a ha
  refine line_call ordBR 5 2 [7, 4, 3] 56 (args := #[.agg #[(.bool (ngB i)), (.slice Aa na ca), (.int .i64 (s : Int))], .agg #[(.bool (ngB k)), (.slice Ac nc cc), (.int .i64 (u : Int))]]) [(61, .int .i64 z), (58, .agg #[(.bool (ngB k)), (.slice Ac nc cc), (.int .i64 (u : Int))]), (57, .agg #[(.bool (ngB j)), (.slice Ab nb cb), (.int .i64 (t : Int))]), (3, .pointer (some ⟨w.heap.size, 0, none⟩)), (4, .pointer (some ⟨(w.heap.size + 1), 0, none⟩)), (7, .int .i64 z)] rfl (by decide) (by decide) (by decide) ha (fun o ho hg => ⟨(wanted_none hg), e_call (by kernel_rfl) ho rfl (by have q0 := ha.ev (i := 54) (v := .agg #[(.bool (ngB i)), (.slice Aa na ca), (.int .i64 (s : Int))]) (by simp); have q1 := ha.ev (i := 55) (v := .agg #[(.bool (ngB k)), (.slice Ac nc cc), (.int .i64 (u : Int))]) (by simp); simp only [List.map_toArray, List.map_cons, List.map_nil, ev_const, q0, q1])⟩) (by simp) ?_
  refine (add_is5 (i := i) (s := s) (j := k) (t := u) (St.got E (A := Aa) (n := na) (c := ca) (a := (i).natAbs) (by simp)) (St.got E (A := Ac) (n := nc) (c := cc) (a := (k).natAbs) (by simp)) (by omega) (by omega) (by omega) (by omega) HS3.out HX3.out).mono ?_; rintro e w11 ⟨A11, n11, c11, rfl, h, hb⟩
  have b11 : n11 ≤ 169 := len_le h HL3.out
  replace E := Lib.hid (St.push E.out hb h)
  clear h hb
  have hSw := St.sb E; refine ⟨_, rfl, hSw, ?_⟩; intro a ha
  refine line_skip [7, 4] (by intro i; simp <;> omega) ?_
  refine line_skip [7] (by intro i; simp <;> omega) ?_
  refine line_call ordBR 6 5 [7] 59 (args := #[.agg #[(.bool (ngB j)), (.slice Ab nb cb), (.int .i64 (t : Int))], .agg #[(.bool (ngB k)), (.slice Ac nc cc), (.int .i64 (u : Int))]]) [(56, .agg #[.bool (ngB x3), .slice A11 n11 c11, .int .i64 (s3 : Int)]), (61, .int .i64 z), (3, .pointer (some ⟨w.heap.size, 0, none⟩)), (4, .pointer (some ⟨(w.heap.size + 1), 0, none⟩)), (7, .int .i64 z)] rfl (by decide) (by decide) (by decide) ha (fun o ho hg => ⟨(wanted_none hg), e_call (by kernel_rfl) ho rfl (by have q0 := ha.ev (i := 57) (v := .agg #[(.bool (ngB j)), (.slice Ab nb cb), (.int .i64 (t : Int))]) (by simp); have q1 := ha.ev (i := 58) (v := .agg #[(.bool (ngB k)), (.slice Ac nc cc), (.int .i64 (u : Int))]) (by simp); simp only [List.map_toArray, List.map_cons, List.map_nil, ev_const, q0, q1])⟩) (by simp) ?_
  refine (add_is5 (i := j) (s := t) (j := k) (t := u) (St.got E (A := Ab) (n := nb) (c := cb) (a := (j).natAbs) (by simp)) (St.got E (A := Ac) (n := nc) (c := cc) (a := (k).natAbs) (by simp)) (by omega) (by omega) (by omega) (by omega) HS4.out HX4.out).mono ?_; rintro e w12 ⟨A12, n12, c12, rfl, h, hb⟩
  have b12 : n12 ≤ 169 := len_le h HL4.out
  replace E := Lib.hid (St.push E.out hb h)
  clear h hb
  have hSw := St.sb E; refine ⟨_, rfl, hSw, ?_⟩; intro a ha
  refine line_call ordBR 7 6 [7] 60 (args := #[.agg #[.bool (ngB x3), .slice A11 n11 c11, .int .i64 (s3 : Int)], .agg #[.bool (ngB x4), .slice A12 n12 c12, .int .i64 (s4 : Int)]]) [(61, .int .i64 z), (3, .pointer (some ⟨w.heap.size, 0, none⟩)), (4, .pointer (some ⟨(w.heap.size + 1), 0, none⟩)), (7, .int .i64 z)] rfl (by decide) (by decide) (by decide) ha (fun o ho hg => ⟨(wanted_none hg), e_call (by kernel_rfl) ho rfl (by have q0 := ha.ev (i := 56) (v := .agg #[.bool (ngB x3), .slice A11 n11 c11, .int .i64 (s3 : Int)]) (by simp); have q1 := ha.ev (i := 59) (v := .agg #[.bool (ngB x4), .slice A12 n12 c12, .int .i64 (s4 : Int)]) (by simp); simp only [List.map_toArray, List.map_cons, List.map_nil, ev_const, q0, q1])⟩) (by simp) ?_
  refine (cmp5_is (i := x3) (s := s3) (j := x4) (t := s4) (St.got E (A := A11) (n := n11) (c := c11) (a := (x3).natAbs) (by simp)) (St.got E (A := A12) (n := n12) (c := c12) (a := (x4).natAbs) (by simp)) (by omega) (by omega) (by omega) (by omega) F2.out).mono ?_; rintro e w13 ⟨rfl, hb⟩
  replace E := Lib.hid (St.step E.out hb)
  clear hb
  replace E : Hid (St w w13 [(Aa, na, ca, (i).natAbs), (Ab, nb, cb, (j).natAbs), (Ac, nc, cc, (k).natAbs)] [((w.heap.size + 1 + 1), (.bool (ngB k)), (.slice Ac nc cc), (.int .i64 (u : Int))), ((w.heap.size + 1), (.bool (ngB j)), (.slice Ab nb cb), (.int .i64 (t : Int))), (w.heap.size, (.bool (ngB i)), (.slice Aa na ca), (.int .i64 (s : Int)))]) := Lib.hid ((E.out).sub (by simp) (by simp))
  have hSw := St.sb E; refine ⟨_, rfl, hSw, ?_⟩; intro a ha
  refine line_skip [] (by intro i; simp <;> omega) ?_
  refine line_still ordBR 8 8 [] 62 (.bool true) [(3, .pointer (some ⟨w.heap.size, 0, none⟩)), (4, .pointer (some ⟨(w.heap.size + 1), 0, none⟩)), (7, .int .i64 z)] rfl (by decide) (by decide) (by decide) ha (fun o ho hg => y_of (wanted_none hg) (fun wx hS => (e_eql ho (ha.ev (i := 60) (v := .int .i64 z) (by simp)) (ha.ev (i := 61) (v := .int .i64 z) (by simp))).trans (by rw [E3.out]))) (by simp) hSw ?_; intro a ha
  refine line_still ordBR 9 9 [] 63 (.bool true) [(3, .pointer (some ⟨w.heap.size, 0, none⟩)), (4, .pointer (some ⟨(w.heap.size + 1), 0, none⟩)), (7, .int .i64 z)] rfl (by decide) (by decide) (by decide) ha (fun o ho hg => y_of (wanted_none hg) (fun wx hS => e_move (.inl ho) (ha.ev (i := 62) (v := .bool true) (by simp)))) (by simp) hSw ?_; intro a ha
  refine line_still ordBR 10 10 [] 64 (.agg #[(.bool (ngB i)), (.slice Aa na ca), (.int .i64 (s : Int))]) [(63, .bool true), (3, .pointer (some ⟨w.heap.size, 0, none⟩)), (4, .pointer (some ⟨(w.heap.size + 1), 0, none⟩)), (7, .int .i64 z)] rfl (by decide) (by decide) (by decide) ha (fun o ho hg => y_of (ordBR.wanted hg rfl ha (d := 63) (by simp)) (fun wx hS => e_load ho (ha.ev (i := 3) (v := .pointer (some ⟨w.heap.size, 0, none⟩)) (by simp)) (hS.at_ (g := w.heap.size) (x0 := (.bool (ngB i))) (x1 := (.slice Aa na ca)) (x2 := (.int .i64 (s : Int))) (by simp)))) (by simp) hSw ?_; intro a ha
  refine line_still ordBR 11 11 [] 65 (.agg #[(.bool (ngB j)), (.slice Ab nb cb), (.int .i64 (t : Int))]) [(64, .agg #[(.bool (ngB i)), (.slice Aa na ca), (.int .i64 (s : Int))]), (63, .bool true), (3, .pointer (some ⟨w.heap.size, 0, none⟩)), (7, .int .i64 z)] rfl (by decide) (by decide) (by decide) ha (fun o ho hg => y_of (ordBR.wanted hg rfl ha (d := 63) (by simp)) (fun wx hS => e_load ho (ha.ev (i := 4) (v := .pointer (some ⟨(w.heap.size + 1), 0, none⟩)) (by simp)) (hS.at_ (g := (w.heap.size + 1)) (x0 := (.bool (ngB j))) (x1 := (.slice Ab nb cb)) (x2 := (.int .i64 (t : Int))) (by simp)))) (by simp) hSw ?_; intro a ha
  refine line_ahead ordBR 12 12 [] 14 68 (.int .i64 z) [(65, .agg #[(.bool (ngB j)), (.slice Ab nb cb), (.int .i64 (t : Int))]), (64, .agg #[(.bool (ngB i)), (.slice Aa na ca), (.int .i64 (s : Int))]), (63, .bool true), (3, .pointer (some ⟨w.heap.size, 0, none⟩))] rfl (by decide) (by decide) (by decide) ha (fun o ho hg => y_of (ordBR.wanted hg rfl ha (d := 63) (by simp)) (fun wx hS => e_move (.inl ho) (ha.ev (i := 7) (v := .int .i64 z) (by simp)))) (by simp) hSw ?_; intro a ha
  refine line_call ordBR 13 12 [14] 66 (args := #[.agg #[(.bool (ngB i)), (.slice Aa na ca), (.int .i64 (s : Int))], .agg #[(.bool (ngB j)), (.slice Ab nb cb), (.int .i64 (t : Int))]]) [(68, .int .i64 z), (63, .bool true), (3, .pointer (some ⟨w.heap.size, 0, none⟩))] rfl (by decide) (by decide) (by decide) ha (fun o ho hg => ⟨(ordBR.wanted hg rfl ha (d := 63) (by simp)), e_call (by kernel_rfl) ho rfl (by have q0 := ha.ev (i := 64) (v := .agg #[(.bool (ngB i)), (.slice Aa na ca), (.int .i64 (s : Int))]) (by simp); have q1 := ha.ev (i := 65) (v := .agg #[(.bool (ngB j)), (.slice Ab nb cb), (.int .i64 (t : Int))]) (by simp); simp only [List.map_toArray, List.map_cons, List.map_nil, ev_const, q0, q1])⟩) (by simp) ?_
  refine (sub_is5 (i := i) (s := s) (j := j) (t := t) (St.got E (A := Aa) (n := na) (c := ca) (a := (i).natAbs) (by simp)) (St.got E (A := Ab) (n := nb) (c := cb) (a := (j).natAbs) (by simp)) (by omega) (by omega) (by omega) (by omega) HS5.out HX5.out).mono ?_; rintro e w14 ⟨A14, n14, c14, rfl, h, hb⟩
  have b14 : n14 ≤ 169 := len_le h HL5.out
  replace E := Lib.hid (St.push E.out hb h)
  clear h hb
  have hSw := St.sb E; refine ⟨_, rfl, hSw, ?_⟩; intro a ha
  refine line_call ordBR 14 13 [14] 67 (args := #[.agg #[.bool (ngB x5), .slice A14 n14 c14, .int .i64 (s5 : Int)]]) [(68, .int .i64 z), (63, .bool true), (3, .pointer (some ⟨w.heap.size, 0, none⟩))] rfl (by decide) (by decide) (by decide) ha (fun o ho hg => ⟨(ordBR.wanted hg rfl ha (d := 63) (by simp)), e_call (by kernel_rfl) ho rfl (by have q0 := ha.ev (i := 66) (v := .agg #[.bool (ngB x5), .slice A14 n14 c14, .int .i64 (s5 : Int)]) (by simp); simp only [List.map_toArray, List.map_cons, List.map_nil, ev_const, q0])⟩) (by simp) ?_
  refine (sign_is (i := x5) (s := s5) (St.got E (A := A14) (n := n14) (c := c14) (a := (x5).natAbs) (by simp)) F3.out).mono ?_; rintro e w15 ⟨rfl, hb⟩
  replace E := Lib.hid (St.step E.out hb)
  clear hb
  replace E : Hid (St w w15 [(Aa, na, ca, (i).natAbs), (Ab, nb, cb, (j).natAbs), (Ac, nc, cc, (k).natAbs)] [((w.heap.size + 1 + 1), (.bool (ngB k)), (.slice Ac nc cc), (.int .i64 (u : Int))), ((w.heap.size + 1), (.bool (ngB j)), (.slice Ab nb cb), (.int .i64 (t : Int))), (w.heap.size, (.bool (ngB i)), (.slice Aa na ca), (.int .i64 (s : Int)))]) := Lib.hid ((E.out).sub (by simp) (by simp))
  have hSw := St.sb E; refine ⟨_, rfl, hSw, ?_⟩; intro a ha
  refine line_skip [] (by intro i; simp <;> omega) ?_
  refine line_still ordBR 15 15 [] 69 (.bool true) [(63, .bool true), (3, .pointer (some ⟨w.heap.size, 0, none⟩))] rfl (by decide) (by decide) (by decide) ha (fun o ho hg => y_of (ordBR.wanted hg rfl ha (d := 63) (by simp)) (fun wx hS => (e_eql ho (ha.ev (i := 67) (v := .int .i64 z) (by simp)) (ha.ev (i := 68) (v := .int .i64 z) (by simp))).trans (by rw [E3.out]))) (by simp) hSw ?_; intro a ha
  refine line_still ordBR 16 16 [] 70 (.bool true) [(3, .pointer (some ⟨w.heap.size, 0, none⟩))] rfl (by decide) (by decide) (by decide) ha (fun o ho hg => y_of (wanted_none hg) (fun wx hS => e_pick ho (ha.ev (i := 63) (v := .bool true) (by simp)) (ha.ev (i := 69) (v := .bool true) (by simp)) rfl)) (by simp) hSw ?_; intro a ha
  refine line_still ordBR 17 17 [] 71 (.bool true) [(3, .pointer (some ⟨w.heap.size, 0, none⟩))] rfl (by decide) (by decide) (by decide) ha (fun o ho hg => y_of (wanted_none hg) (fun wx hS => e_move (.inl ho) (ha.ev (i := 70) (v := .bool true) (by simp)))) (by simp) hSw ?_; intro a ha
  refine line_still ordBR 18 18 [] 72 (.agg #[(.bool (ngB i)), (.slice Aa na ca), (.int .i64 (s : Int))]) [(71, .bool true)] rfl (by decide) (by decide) (by decide) ha (fun o ho hg => y_of (ordBR.wanted hg rfl ha (d := 71) (by simp)) (fun wx hS => e_load ho (ha.ev (i := 3) (v := .pointer (some ⟨w.heap.size, 0, none⟩)) (by simp)) (hS.at_ (g := w.heap.size) (x0 := (.bool (ngB i))) (x1 := (.slice Aa na ca)) (x2 := (.int .i64 (s : Int))) (by simp)))) (by simp) hSw ?_; intro a ha
  refine line_call ordBR 19 19 [] 73 (args := #[.agg #[(.bool (ngB i)), (.slice Aa na ca), (.int .i64 (s : Int))]]) [(71, .bool true)] rfl (by decide) (by decide) (by decide) ha (fun o ho hg => ⟨(ordBR.wanted hg rfl ha (d := 71) (by simp)), e_call (by kernel_rfl) ho rfl (by have q0 := ha.ev (i := 72) (v := .agg #[(.bool (ngB i)), (.slice Aa na ca), (.int .i64 (s : Int))]) (by simp); simp only [List.map_toArray, List.map_cons, List.map_nil, ev_const, q0])⟩) (by simp) ?_
  refine (abs_is5 (i := i) (s := s) (St.got E (A := Aa) (n := na) (c := ca) (a := (i).natAbs) (by simp)) (by omega) (by omega) HX6.out).mono ?_; rintro e w16 ⟨A16, n16, c16, rfl, h, hb⟩
  have b16 : n16 ≤ 168 := len_le h HL6.out
  replace E := Lib.hid (St.push E.out hb h)
  clear h hb
  have hSw := St.sb E; refine ⟨_, rfl, hSw, ?_⟩; intro a ha
  refine line_call ordBR 20 20 [] 74 (args := #[.agg #[.bool (ngB x6), .slice A16 n16 c16, .int .i64 (s : Int)]]) [(71, .bool true)] rfl (by decide) (by decide) (by decide) ha (fun o ho hg => ⟨(ordBR.wanted hg rfl ha (d := 71) (by simp)), e_call (by kernel_rfl) ho rfl (by have q0 := ha.ev (i := 73) (v := .agg #[.bool (ngB x6), .slice A16 n16 c16, .int .i64 (s : Int)]) (by simp); simp only [List.map_toArray, List.map_cons, List.map_nil, ev_const, q0])⟩) (by simp) ?_
  refine (sign_is (i := x6) (s := s) (St.got E (A := A16) (n := n16) (c := c16) (a := (x6).natAbs) (by simp)) HSG.out).mono ?_; rintro e w17 ⟨rfl, hb⟩
  replace E := Lib.hid (St.step E.out hb)
  clear hb
  replace E : Hid (St w w17 [(Aa, na, ca, (i).natAbs), (Ab, nb, cb, (j).natAbs), (Ac, nc, cc, (k).natAbs)] [((w.heap.size + 1 + 1), (.bool (ngB k)), (.slice Ac nc cc), (.int .i64 (u : Int))), ((w.heap.size + 1), (.bool (ngB j)), (.slice Ab nb cb), (.int .i64 (t : Int))), (w.heap.size, (.bool (ngB i)), (.slice Aa na ca), (.int .i64 (s : Int)))]) := Lib.hid ((E.out).sub (by simp) (by simp))
  have hSw := St.sb E; refine ⟨_, rfl, hSw, ?_⟩; intro a ha
  refine line_still ordBR 21 21 [] 75 (.bool true) [(71, .bool true)] rfl (by decide) (by decide) (by decide) ha (fun o ho hg => y_of (ordBR.wanted hg rfl ha (d := 71) (by simp)) (fun wx hS => (e_geq ho (ha.ev (i := 74) (v := .int .i64 sg) (by simp)) rfl).trans (by rw [D4.out]))) (by simp) hSw ?_; intro a ha
  refine line_still ordBR 22 22 [] 76 (.bool true) [] rfl (by decide) (by decide) (by decide) ha (fun o ho hg => y_of (wanted_none hg) (fun wx hS => e_pick ho (ha.ev (i := 71) (v := .bool true) (by simp)) (ha.ev (i := 75) (v := .bool true) (by simp)) rfl)) (by simp) hSw ?_; intro a ha
  refine line_still ordBR 23 23 [] 77 (.bool true) [] rfl (by decide) (by decide) (by decide) ha (fun o ho hg => y_of (wanted_none hg) (fun wx hS => e_move (.inl ho) (ha.ev (i := 76) (v := .bool true) (by simp)))) (by simp) hSw ?_; intro a ha
  refine line_call ordBR 24 24 [] 78 (args := #[]) [(77, .bool true)] rfl (by decide) (by decide) (by decide) ha (fun o ho hg => ⟨(ordBR.wanted hg rfl ha (d := 77) (by simp)), e_call (by kernel_rfl) ho rfl (by simp only [List.map_toArray, List.map_cons, List.map_nil, ev_const])⟩) (by simp) ?_
  refine (awake5 _).mono ?_; rintro e w18 ⟨rfl, hb⟩
  replace E := Lib.hid (St.step E.out hb)
  clear hb
  have hSw := St.sb E; refine ⟨_, rfl, hSw, ?_⟩; intro a ha
  refine line_still ordBR 25 25 [] 79 (.bool true) [] rfl (by decide) (by decide) (by decide) ha (fun o ho hg => y_of (wanted_none hg) (fun wx hS => e_pick ho (ha.ev (i := 77) (v := .bool true) (by simp)) (ha.ev (i := 78) (v := .bool true) (by simp)) rfl)) (by simp) hSw ?_; intro a ha
  refine line_still ordBR 26 26 [] 6 (.bool true) [] rfl (by decide) (by decide) (by decide) ha (fun o ho hg => y_of (wanted_none hg) (fun wx hS => e_move (.inr ho) (ha.ev (i := 79) (v := .bool true) (by simp)))) (by simp) hSw ?_; intro a ha
  refine line_end ordBR rfl ?_
  simp only [Exit.then]
  refine hK _ _ ?_
  go_wp2
  exact bodyPost_ret (v := .bool true) (by have := ha.2.2 (6, .bool true) (by simp); simp [results, Try.results5, go_sem, Array.getD_eq_getD_getElem?, this]) ha.2.1 ⟨rfl, E.out.bel⟩

set_option maxHeartbeats 8000000 in
set_option maxRecDepth 100000 in
theorem order_B (Aa : Option Addr) (na ca s : Nat) (i : Int) (Ab : Option Addr) (nb cb t : Nat) (j : Int) (Ac : Option Addr) (nc cc u : Nat) (k : Int) (w : World) (h1 : Num w w.heap.size Aa na ca i.natAbs) (h2 : Num w w.heap.size Ab nb cb j.natAbs) (h3 : Num w w.heap.size Ac nc cc k.natAbs) (m1 : na ≤ 12) (t1 : s ≤ 60) (m2 : nb ≤ 12) (t2 : t ≤ 60) (m3 : nc ≤ 12) (t3 : u ≤ 60) (c1 : cmpD i s j t ≤ 0) (c2 : 0 < cmpD j t k u) : Calls Try.prog 5 #[.agg #[.bool (ngB i), .slice Aa na ca, .int .i64 (s : Int)], .agg #[.bool (ngB j), .slice Ab nb cb, .int .i64 (t : Int)], .agg #[.bool (ngB k), .slice Ac nc cc, .int .i64 (u : Int)]] w (RetVal w (.bool true)) := by
  have N1 : Hid (longB (ngB i) na (dg i.natAbs) (s : Int) = false) := not_long h1 m1 t1
  have N2 : Hid (longB (ngB j) nb (dg j.natAbs) (t : Int) = false) := not_long h2 m2 t2
  have N3 : Hid (longB (ngB k) nc (dg k.natAbs) (u : Int) = false) := not_long h3 m3 t3
  obtain ⟨z, hz⟩ : ∃ rr, cmpD i s j t = rr := ⟨_, rfl⟩
  have HZ := Lib.hid hz
  have hzb : -1 ≤ z ∧ z ≤ 1 := by rw [← hz]; exact cmpZ_bounds _ _
  obtain ⟨hz1, hz2⟩ := hzb
  have HT : Hid (cmpD j t i s = -z) := by show _ = _; rw [← hz]; exact ord_turn i j s t
  have W1 : Hid (IntKind.i64.wrap (- -z) = z) := by show _ = _; rw [Int.neg_neg]; exact wrap_small hz1 hz2
  have W2 : Hid (IntKind.i64.wrap (-z) = -z) := wrap_small (by omega) (by omega)
  have E1 : Hid ((z != z) = false) := by show _ = _; simp
  have E2 : Hid ((-z != -z) = false) := by show _ = _; simp
  have E3 : Hid ((z == z) = true) := by show _ = _; simp
  obtain ⟨y, hy⟩ : ∃ rr, cmpD j t k u = rr := ⟨_, rfl⟩
  have HY := Lib.hid hy
  have D2 : Hid (decide (y ≤ 0) = false) := by show _ = _; rw [← hy]; exact decide_eq_false (by omega)
  have D1 : Hid (decide (z ≤ 0) = true) := by show _ = _; rw [← hz]; exact decide_eq_true c1
  have z_1 : Sz i s 108 := (Sz.of_len (by have := h1.len; omega : (dg i.natAbs).length ≤ 12))
  have z_2 : Sz j t 108 := (Sz.of_len (by have := h2.len; omega : (dg j.natAbs).length ≤ 12))
  have z_3 : Sz k u 108 := (Sz.of_len (by have := h3.len; omega : (dg k.natAbs).length ≤ 12))
  obtain ⟨x1, hx1⟩ : ∃ rr, -i = rr := ⟨_, rfl⟩
  have z1 : Sz x1 s 108 := by rw [← hx1]; exact (z_1.neg).mono (by decide)
  have HL1 : Hid ((dg x1.natAbs).length ≤ 168) := (by show _ ≤ _; have := z1.len; omega)
  have HX1 := Lib.hid hx1
  obtain ⟨x2, hx2⟩ : ∃ rr, -j = rr := ⟨_, rfl⟩
  have z2 : Sz x2 t 108 := by rw [← hx2]; exact (z_2.neg).mono (by decide)
  have HL2 : Hid ((dg x2.natAbs).length ≤ 168) := (by show _ ≤ _; have := z2.len; omega)
  have HX2 := Lib.hid hx2
  have F1 : Hid (cmpD x1 s x2 t = -z) := (by show _ = _; subst hx2; subst hx1; exact (by rw [← HZ.out]; exact ord_neg i j s t))
  obtain ⟨x3, hx3⟩ : ∃ rr, addZ i s k u = rr := ⟨_, rfl⟩
  obtain ⟨s3, hs3⟩ : ∃ rr, max s u = rr := ⟨_, rfl⟩
  have z3 : Sz x3 s3 109 := by rw [← hx3, ← hs3]; exact (z_1.add z_3).mono (by decide)
  have u3 : s3 ≤ 60 := by omega
  have HL3 : Hid ((dg x3.natAbs).length ≤ 169) := (by show _ ≤ _; have := z3.len; omega)
  have HX3 := Lib.hid hx3
  have HS3 := Lib.hid hs3
  obtain ⟨x4, hx4⟩ : ∃ rr, addZ j t k u = rr := ⟨_, rfl⟩
  obtain ⟨s4, hs4⟩ : ∃ rr, max t u = rr := ⟨_, rfl⟩
  have z4 : Sz x4 s4 109 := by rw [← hx4, ← hs4]; exact (z_2.add z_3).mono (by decide)
  have u4 : s4 ≤ 60 := by omega
  have HL4 : Hid ((dg x4.natAbs).length ≤ 169) := (by show _ ≤ _; have := z4.len; omega)
  have HX4 := Lib.hid hx4
  have HS4 := Lib.hid hs4
  have F2 : Hid (cmpD x3 s3 x4 s4 = z) := (by show _ = _; subst hs4; subst hx4; subst hs3; subst hx3; subst hx2; subst hx1; exact (by rw [← HZ.out]; exact ord_add i j k s t u))
  obtain ⟨x5, hx5⟩ : ∃ rr, subZ i s j t = rr := ⟨_, rfl⟩
  obtain ⟨s5, hs5⟩ : ∃ rr, max s t = rr := ⟨_, rfl⟩
  have z5 : Sz x5 s5 109 := by rw [← hx5, ← hs5]; exact (z_1.sub z_2).mono (by decide)
  have u5 : s5 ≤ 60 := by omega
  have HL5 : Hid ((dg x5.natAbs).length ≤ 169) := (by show _ ≤ _; have := z5.len; omega)
  have HX5 := Lib.hid hx5
  have HS5 := Lib.hid hs5
  have F3 : Hid (x5.sign = z) := (by show _ = _; subst hs5; subst hx5; subst hs4; subst hx4; subst hs3; subst hx3; subst hx2; subst hx1; exact (by rw [← HZ.out]; exact ord_sub i j s t))
  obtain ⟨x6, hx6⟩ : ∃ rr, (i.natAbs : Int) = rr := ⟨_, rfl⟩
  have z6 : Sz x6 s 108 := by rw [← hx6]; exact (z_1.abs).mono (by decide)
  have HL6 : Hid ((dg x6.natAbs).length ≤ 168) := (by show _ ≤ _; have := z6.len; omega)
  have HX6 := Lib.hid hx6
  obtain ⟨sg, hsg⟩ : ∃ rr, x6.sign = rr := ⟨_, rfl⟩
  have HSG := Lib.hid hsg
  have D4 : Hid (decide (0 ≤ sg) = true) := by show _ = _; rw [← hsg, ← hx6]; exact decide_eq_true (ord_abs i)
  have H1 := Lib.hid h1
  have H2 := Lib.hid h2
  have H3 := Lib.hid h3
  clear hsg hz hy c1 c2
  clear hx1 hx2 hx3 hs3 hx4 hs4 hx5 hs5 hx6
  clear h1 h2 h3 hz1 hz2 z_1 z_2 z_3 z1 z2 z3 z4 z5 z6
  go_enter Try.func5, Try.ntmps5
  go_wp2_with fail
  generalize hW : World.alloc (World.alloc (World.alloc w _) _) _ = W0
  have E0 : St w W0 [(Aa, na, ca, (i).natAbs), (Ab, nb, cb, (j).natAbs), (Ac, nc, cc, (k).natAbs)] [((w.heap.size + 1 + 1), (.bool (ngB k)), (.slice Ac nc cc), (.int .i64 (u : Int))), ((w.heap.size + 1), (.bool (ngB j)), (.slice Ab nb cb), (.int .i64 (t : Int))), (w.heap.size, (.bool (ngB i)), (.slice Aa na ca), (.int .i64 (s : Int)))] := by rw [← hW]; exact (((St.start w (l := [(Aa, na, ca, (i).natAbs), (Ab, nb, cb, (j).natAbs), (Ac, nc, cc, (k).natAbs)]) (by simp; exact ⟨H1.out, H2.out, H3.out⟩)).lay rfl).lay (by simp)).lay (by simp)
  have E := Lib.hid E0
  clear hW E0
  refine (long_is (St.got E (A := Aa) (n := na) (c := ca) (a := (i).natAbs) (by simp)) N1.out).mono ?_; rintro e w1 ⟨rfl, hb⟩
  replace E := Lib.hid (St.step E.out hb)
  clear hb
  obtain ⟨p1a, p1b, p1c, p1d, p1e, p1f, p1g⟩ := St.at_ (x0 := (.bool (ngB j))) (x1 := (.slice Ab nb cb)) (x2 := (.int .i64 (t : Int))) (g := (w.heap.size + 1)) E (by simp)
  go_wp2_with fail
  refine (long_is (St.got E (A := Ab) (n := nb) (c := cb) (a := (j).natAbs) (by simp)) N2.out).mono ?_; rintro e w2 ⟨rfl, hb⟩
  clear p1a p1b p1c p1d p1e p1f p1g
  replace E := Lib.hid (St.step E.out hb)
  clear hb
  obtain ⟨p0a, p0b, p0c, p0d, p0e, p0f, p0g⟩ := St.at_ (x0 := (.bool (ngB k))) (x1 := (.slice Ac nc cc)) (x2 := (.int .i64 (u : Int))) (g := (w.heap.size + 1 + 1)) E (by simp)
  go_wp2_with fail
  refine (long_is (St.got E (A := Ac) (n := nc) (c := cc) (a := (k).natAbs) (by simp)) N3.out).mono ?_; rintro e w3 ⟨rfl, hb⟩
  clear p0a p0b p0c p0d p0e p0f p0g
  replace E := Lib.hid (St.step E.out hb)
  clear hb
  obtain ⟨p1a, p1b, p1c, p1d, p1e, p1f, p1g⟩ := St.at_ (x0 := (.bool (ngB j))) (x1 := (.slice Ab nb cb)) (x2 := (.int .i64 (t : Int))) (g := (w.heap.size + 1)) E (by simp)
  obtain ⟨p2a, p2b, p2c, p2d, p2e, p2f, p2g⟩ := St.at_ (x0 := (.bool (ngB i))) (x1 := (.slice Aa na ca)) (x2 := (.int .i64 (s : Int))) (g := w.heap.size) E (by simp)
  go_wp2_with fail
  refine (cmp5_is (i := i) (s := s) (j := j) (t := t) (St.got E (A := Aa) (n := na) (c := ca) (a := (i).natAbs) (by simp)) (St.got E (A := Ab) (n := nb) (c := cb) (a := (j).natAbs) (by simp)) (by omega) (by omega) (by omega) (by omega) HZ.out).mono ?_; rintro e w4 ⟨rfl, hb⟩
  clear p1a p1b p1c p1d p1e p1f p1g p2a p2b p2c p2d p2e p2f p2g
  replace E := Lib.hid (St.step E.out hb)
  clear hb
  go_wp2_with fail
  rename_i K0 hK0 K hK
  replace E := Lib.hid (St.step E.out (Below.refl _ _))
  replace E := Lib.hid (St.drew E.out)
  refine line_start (ops := opsAt Try.prog 5 4) (S := SB [((w.heap.size + 1 + 1), (.bool (ngB k)), (.slice Ac nc cc), (.int .i64 (u : Int))), ((w.heap.size + 1), (.bool (ngB j)), (.slice Ab nb cb), (.int .i64 (t : Int))), (w.heap.size, (.bool (ngB i)), (.slice Aa na ca), (.int .i64 (s : Int)))]) (by kernel_rfl) (by kernel_rfl) (St.sb E) ?_
  have hSw := St.sb E
  generalize hA : Act.mk _ _ = a
  have ha : Fr 80 a [(3, .pointer (some ⟨w.heap.size, 0, none⟩)), (4, .pointer (some ⟨(w.heap.size + 1), 0, none⟩)), (5, .pointer (some ⟨(w.heap.size + 1 + 1), 0, none⟩)), (7, .int .i64 z)] := by rw [← hA]; exact ⟨rfl, rfl, by intro q hq; simp at hq; rcases hq with rfl | rfl | rfl | rfl <;> rfl⟩
  clear hA
  refine line_still ordAR 0 0 [] 22 (.int .i64 z) [(3, .pointer (some ⟨w.heap.size, 0, none⟩)), (4, .pointer (some ⟨(w.heap.size + 1), 0, none⟩)), (5, .pointer (some ⟨(w.heap.size + 1 + 1), 0, none⟩)), (7, .int .i64 z)] rfl (by decide) (by decide) (by decide) ha (fun o ho hg => y_of (wanted_none hg) (fun wx hS => e_move (.inl ho) (ha.ev (i := 7) (v := .int .i64 z) (by simp)))) (by simp) hSw ?_; intro a ha
  refine line_still ordAR 1 1 [] 23 (.agg #[(.bool (ngB j)), (.slice Ab nb cb), (.int .i64 (t : Int))]) [(22, .int .i64 z), (3, .pointer (some ⟨w.heap.size, 0, none⟩)), (4, .pointer (some ⟨(w.heap.size + 1), 0, none⟩)), (5, .pointer (some ⟨(w.heap.size + 1 + 1), 0, none⟩)), (7, .int .i64 z)] rfl (by decide) (by decide) (by decide) ha (fun o ho hg => y_of (wanted_none hg) (fun wx hS => e_load ho (ha.ev (i := 4) (v := .pointer (some ⟨(w.heap.size + 1), 0, none⟩)) (by simp)) (hS.at_ (g := (w.heap.size + 1)) (x0 := (.bool (ngB j))) (x1 := (.slice Ab nb cb)) (x2 := (.int .i64 (t : Int))) (by simp)))) (by simp) hSw ?_; intro a ha
  refine line_still ordAR 2 2 [] 24 (.agg #[(.bool (ngB i)), (.slice Aa na ca), (.int .i64 (s : Int))]) [(23, .agg #[(.bool (ngB j)), (.slice Ab nb cb), (.int .i64 (t : Int))]), (22, .int .i64 z), (3, .pointer (some ⟨w.heap.size, 0, none⟩)), (4, .pointer (some ⟨(w.heap.size + 1), 0, none⟩)), (5, .pointer (some ⟨(w.heap.size + 1 + 1), 0, none⟩)), (7, .int .i64 z)] rfl (by decide) (by decide) (by decide) ha (fun o ho hg => y_of (wanted_none hg) (fun wx hS => e_load ho (ha.ev (i := 3) (v := .pointer (some ⟨w.heap.size, 0, none⟩)) (by simp)) (hS.at_ (g := w.heap.size) (x0 := (.bool (ngB i))) (x1 := (.slice Aa na ca)) (x2 := (.int .i64 (s : Int))) (by simp)))) (by simp) hSw ?_; intro a ha
  refine line_call ordAR 3 3 [] 25 (args := #[.agg #[(.bool (ngB j)), (.slice Ab nb cb), (.int .i64 (t : Int))], .agg #[(.bool (ngB i)), (.slice Aa na ca), (.int .i64 (s : Int))]]) [(22, .int .i64 z), (3, .pointer (some ⟨w.heap.size, 0, none⟩)), (4, .pointer (some ⟨(w.heap.size + 1), 0, none⟩)), (5, .pointer (some ⟨(w.heap.size + 1 + 1), 0, none⟩)), (7, .int .i64 z)] rfl (by decide) (by decide) (by decide) ha (fun o ho hg => ⟨(wanted_none hg), e_call (by kernel_rfl) ho rfl (by have q0 := ha.ev (i := 23) (v := .agg #[(.bool (ngB j)), (.slice Ab nb cb), (.int .i64 (t : Int))]) (by simp); have q1 := ha.ev (i := 24) (v := .agg #[(.bool (ngB i)), (.slice Aa na ca), (.int .i64 (s : Int))]) (by simp); simp only [List.map_toArray, List.map_cons, List.map_nil, ev_const, q0, q1])⟩) (by simp) ?_
  refine (cmp5_is (i := j) (s := t) (j := i) (t := s) (St.got E (A := Ab) (n := nb) (c := cb) (a := (j).natAbs) (by simp)) (St.got E (A := Aa) (n := na) (c := ca) (a := (i).natAbs) (by simp)) (by omega) (by omega) (by omega) (by omega) HT.out).mono ?_; rintro e w5 ⟨rfl, hb⟩
  replace E := Lib.hid (St.step E.out hb)
  clear hb
  have hSw := St.sb E; refine ⟨_, rfl, hSw, ?_⟩; intro a ha
  refine line_still ordAR 4 4 [] 26 (.int .i64 z) [(22, .int .i64 z), (3, .pointer (some ⟨w.heap.size, 0, none⟩)), (4, .pointer (some ⟨(w.heap.size + 1), 0, none⟩)), (5, .pointer (some ⟨(w.heap.size + 1 + 1), 0, none⟩)), (7, .int .i64 z)] rfl (by decide) (by decide) (by decide) ha (fun o ho hg => y_of (wanted_none hg) (fun wx hS => (e_neg ho (ha.ev (i := 25) (v := .int .i64 (-z)) (by simp))).trans (by rw [W1.out]))) (by simp) hSw ?_; intro a ha
  refine line_still ordAR 5 5 [] 27 (.bool false) [(3, .pointer (some ⟨w.heap.size, 0, none⟩)), (4, .pointer (some ⟨(w.heap.size + 1), 0, none⟩)), (5, .pointer (some ⟨(w.heap.size + 1 + 1), 0, none⟩)), (7, .int .i64 z)] rfl (by decide) (by decide) (by decide) ha (fun o ho hg => y_of (wanted_none hg) (fun wx hS => (e_neq ho (ha.ev (i := 22) (v := .int .i64 z) (by simp)) (ha.ev (i := 26) (v := .int .i64 z) (by simp))).trans (by rw [E1.out]))) (by simp) hSw ?_; intro a ha
  refine line_still ordAR 6 6 [] 28 (.bool false) [(3, .pointer (some ⟨w.heap.size, 0, none⟩)), (4, .pointer (some ⟨(w.heap.size + 1), 0, none⟩)), (5, .pointer (some ⟨(w.heap.size + 1 + 1), 0, none⟩)), (7, .int .i64 z)] rfl (by decide) (by decide) (by decide) ha (fun o ho hg => y_of (wanted_none hg) (fun wx hS => e_move (.inl ho) (ha.ev (i := 27) (v := .bool false) (by simp)))) (by simp) hSw ?_; intro a ha
  refine line_still ordAR 7 7 [] 29 (.int .i64 z) [(28, .bool false), (3, .pointer (some ⟨w.heap.size, 0, none⟩)), (4, .pointer (some ⟨(w.heap.size + 1), 0, none⟩)), (5, .pointer (some ⟨(w.heap.size + 1 + 1), 0, none⟩)), (7, .int .i64 z)] rfl (by decide) (by decide) (by decide) ha (fun o ho hg => y_of (ordAR.wanted hg rfl ha (d := 28) (by simp)) (fun wx hS => e_move (.inl ho) (ha.ev (i := 7) (v := .int .i64 z) (by simp)))) (by simp) hSw ?_; intro a ha
  refine line_still ordAR 8 8 [] 30 (.bool true) [(28, .bool false), (3, .pointer (some ⟨w.heap.size, 0, none⟩)), (4, .pointer (some ⟨(w.heap.size + 1), 0, none⟩)), (5, .pointer (some ⟨(w.heap.size + 1 + 1), 0, none⟩)), (7, .int .i64 z)] rfl (by decide) (by decide) (by decide) ha (fun o ho hg => y_of (ordAR.wanted hg rfl ha (d := 28) (by simp)) (fun wx hS => (e_leq ho (ha.ev (i := 29) (v := .int .i64 z) (by simp)) rfl).trans (by rw [D1.out]))) (by simp) hSw ?_; intro a ha
  refine line_still ordAR 9 9 [] 31 (.bool true) [(28, .bool false), (3, .pointer (some ⟨w.heap.size, 0, none⟩)), (4, .pointer (some ⟨(w.heap.size + 1), 0, none⟩)), (5, .pointer (some ⟨(w.heap.size + 1 + 1), 0, none⟩)), (7, .int .i64 z)] rfl (by decide) (by decide) (by decide) ha (fun o ho hg => y_of (ordAR.wanted hg rfl ha (d := 28) (by simp)) (fun wx hS => e_move (.inl ho) (ha.ev (i := 30) (v := .bool true) (by simp)))) (by simp) hSw ?_; intro a ha
  refine line_still ordAR 10 10 [] 32 (.agg #[(.bool (ngB j)), (.slice Ab nb cb), (.int .i64 (t : Int))]) [(31, .bool true), (28, .bool false), (3, .pointer (some ⟨w.heap.size, 0, none⟩)), (4, .pointer (some ⟨(w.heap.size + 1), 0, none⟩)), (5, .pointer (some ⟨(w.heap.size + 1 + 1), 0, none⟩)), (7, .int .i64 z)] rfl (by decide) (by decide) (by decide) ha (fun o ho hg => y_of (ordAR.wanted hg rfl ha (d := 31) (by simp)) (fun wx hS => e_load ho (ha.ev (i := 4) (v := .pointer (some ⟨(w.heap.size + 1), 0, none⟩)) (by simp)) (hS.at_ (g := (w.heap.size + 1)) (x0 := (.bool (ngB j))) (x1 := (.slice Ab nb cb)) (x2 := (.int .i64 (t : Int))) (by simp)))) (by simp) hSw ?_; intro a ha
  refine line_still ordAR 11 11 [] 33 (.agg #[(.bool (ngB k)), (.slice Ac nc cc), (.int .i64 (u : Int))]) [(32, .agg #[(.bool (ngB j)), (.slice Ab nb cb), (.int .i64 (t : Int))]), (31, .bool true), (28, .bool false), (3, .pointer (some ⟨w.heap.size, 0, none⟩)), (4, .pointer (some ⟨(w.heap.size + 1), 0, none⟩)), (5, .pointer (some ⟨(w.heap.size + 1 + 1), 0, none⟩)), (7, .int .i64 z)] rfl (by decide) (by decide) (by decide) ha (fun o ho hg => y_of (ordAR.wanted hg rfl ha (d := 31) (by simp)) (fun wx hS => e_load ho (ha.ev (i := 5) (v := .pointer (some ⟨(w.heap.size + 1 + 1), 0, none⟩)) (by simp)) (hS.at_ (g := (w.heap.size + 1 + 1)) (x0 := (.bool (ngB k))) (x1 := (.slice Ac nc cc)) (x2 := (.int .i64 (u : Int))) (by simp)))) (by simp) hSw ?_; intro a ha
  refine line_call ordAR 12 12 [] 34 (args := #[.agg #[(.bool (ngB j)), (.slice Ab nb cb), (.int .i64 (t : Int))], .agg #[(.bool (ngB k)), (.slice Ac nc cc), (.int .i64 (u : Int))]]) [(31, .bool true), (28, .bool false), (3, .pointer (some ⟨w.heap.size, 0, none⟩)), (4, .pointer (some ⟨(w.heap.size + 1), 0, none⟩)), (5, .pointer (some ⟨(w.heap.size + 1 + 1), 0, none⟩)), (7, .int .i64 z)] rfl (by decide) (by decide) (by decide) ha (fun o ho hg => ⟨(ordAR.wanted hg rfl ha (d := 31) (by simp)), e_call (by kernel_rfl) ho rfl (by have q0 := ha.ev (i := 32) (v := .agg #[(.bool (ngB j)), (.slice Ab nb cb), (.int .i64 (t : Int))]) (by simp); have q1 := ha.ev (i := 33) (v := .agg #[(.bool (ngB k)), (.slice Ac nc cc), (.int .i64 (u : Int))]) (by simp); simp only [List.map_toArray, List.map_cons, List.map_nil, ev_const, q0, q1])⟩) (by simp) ?_
  refine (cmp5_is (i := j) (s := t) (j := k) (t := u) (St.got E (A := Ab) (n := nb) (c := cb) (a := (j).natAbs) (by simp)) (St.got E (A := Ac) (n := nc) (c := cc) (a := (k).natAbs) (by simp)) (by omega) (by omega) (by omega) (by omega) HY.out).mono ?_; rintro e w6 ⟨rfl, hb⟩
  replace E := Lib.hid (St.step E.out hb)
  clear hb
  have hSw := St.sb E; refine ⟨_, rfl, hSw, ?_⟩; intro a ha
  refine line_still ordAR 13 13 [] 35 (.bool false) [(31, .bool true), (28, .bool false), (3, .pointer (some ⟨w.heap.size, 0, none⟩)), (4, .pointer (some ⟨(w.heap.size + 1), 0, none⟩)), (5, .pointer (some ⟨(w.heap.size + 1 + 1), 0, none⟩)), (7, .int .i64 z)] rfl (by decide) (by decide) (by decide) ha (fun o ho hg => y_of (ordAR.wanted hg rfl ha (d := 31) (by simp)) (fun wx hS => (e_leq ho (ha.ev (i := 34) (v := .int .i64 y) (by simp)) rfl).trans (by rw [D2.out]))) (by simp) hSw ?_; intro a ha
  refine line_still ordAR 14 14 [] 36 (.bool false) [(28, .bool false), (3, .pointer (some ⟨w.heap.size, 0, none⟩)), (4, .pointer (some ⟨(w.heap.size + 1), 0, none⟩)), (5, .pointer (some ⟨(w.heap.size + 1 + 1), 0, none⟩)), (7, .int .i64 z)] rfl (by decide) (by decide) (by decide) ha (fun o ho hg => y_of (ordAR.wanted hg rfl ha (d := 28) (by simp)) (fun wx hS => e_pick ho (ha.ev (i := 31) (v := .bool true) (by simp)) (ha.ev (i := 35) (v := .bool false) (by simp)) rfl)) (by simp) hSw ?_; intro a ha
  refine line_still ordAR 15 15 [] 37 (.bool false) [(28, .bool false), (3, .pointer (some ⟨w.heap.size, 0, none⟩)), (4, .pointer (some ⟨(w.heap.size + 1), 0, none⟩)), (5, .pointer (some ⟨(w.heap.size + 1 + 1), 0, none⟩)), (7, .int .i64 z)] rfl (by decide) (by decide) (by decide) ha (fun o ho hg => y_of (ordAR.wanted hg rfl ha (d := 28) (by simp)) (fun wx hS => e_move (.inl ho) (ha.ev (i := 36) (v := .bool false) (by simp)))) (by simp) hSw ?_; intro a ha
  refine line_still ordAR 16 16 [] 38 undef [(37, .bool false), (28, .bool false), (3, .pointer (some ⟨w.heap.size, 0, none⟩)), (4, .pointer (some ⟨(w.heap.size + 1), 0, none⟩)), (5, .pointer (some ⟨(w.heap.size + 1 + 1), 0, none⟩)), (7, .int .i64 z)] rfl (by decide) (by decide) (by decide) ha (fun o ho hg => y_not (ordAR.unwanted hg rfl ha (d := 37) (by simp))) (by simp) hSw ?_; intro a ha
  refine line_still ordAR 17 17 [] 39 undef [(38, undef), (37, .bool false), (28, .bool false), (3, .pointer (some ⟨w.heap.size, 0, none⟩)), (4, .pointer (some ⟨(w.heap.size + 1), 0, none⟩)), (5, .pointer (some ⟨(w.heap.size + 1 + 1), 0, none⟩)), (7, .int .i64 z)] rfl (by decide) (by decide) (by decide) ha (fun o ho hg => y_not (ordAR.unwanted hg rfl ha (d := 37) (by simp))) (by simp) hSw ?_; intro a ha
  refine line_not ordAR 18 18 [] 40 [(37, .bool false), (28, .bool false), (3, .pointer (some ⟨w.heap.size, 0, none⟩)), (4, .pointer (some ⟨(w.heap.size + 1), 0, none⟩)), (5, .pointer (some ⟨(w.heap.size + 1 + 1), 0, none⟩)), (7, .int .i64 z)] rfl (by decide) (by decide) (by decide) ha (fun o ho hg => ordAR.unwanted hg rfl ha (d := 37) (by simp)) (by simp) hSw ?_; intro a ha
  refine line_still ordAR 19 19 [] 41 undef [(37, .bool false), (28, .bool false), (3, .pointer (some ⟨w.heap.size, 0, none⟩)), (4, .pointer (some ⟨(w.heap.size + 1), 0, none⟩)), (5, .pointer (some ⟨(w.heap.size + 1 + 1), 0, none⟩)), (7, .int .i64 z)] rfl (by decide) (by decide) (by decide) ha (fun o ho hg => y_not (ordAR.unwanted hg rfl ha (d := 37) (by simp))) (by simp) hSw ?_; intro a ha
  refine line_still ordAR 20 20 [] 42 (.bool false) [(28, .bool false), (3, .pointer (some ⟨w.heap.size, 0, none⟩)), (4, .pointer (some ⟨(w.heap.size + 1), 0, none⟩)), (5, .pointer (some ⟨(w.heap.size + 1 + 1), 0, none⟩)), (7, .int .i64 z)] rfl (by decide) (by decide) (by decide) ha (fun o ho hg => y_of (ordAR.wanted hg rfl ha (d := 28) (by simp)) (fun wx hS => e_pick ho (ha.ev (i := 37) (v := .bool false) (by simp)) (ha.ev (i := 41) (v := undef) (by simp)) rfl)) (by simp) hSw ?_; intro a ha
  refine line_still ordAR 21 21 [] 43 (.bool false) [(3, .pointer (some ⟨w.heap.size, 0, none⟩)), (4, .pointer (some ⟨(w.heap.size + 1), 0, none⟩)), (5, .pointer (some ⟨(w.heap.size + 1 + 1), 0, none⟩)), (7, .int .i64 z)] rfl (by decide) (by decide) (by decide) ha (fun o ho hg => y_of (wanted_none hg) (fun wx hS => e_pick ho (ha.ev (i := 28) (v := .bool false) (by simp)) rfl (ha.ev (i := 42) (v := .bool false) (by simp)))) (by simp) hSw ?_; intro a ha
  refine line_still ordAR 22 22 [] 44 (.bool false) [(3, .pointer (some ⟨w.heap.size, 0, none⟩)), (4, .pointer (some ⟨(w.heap.size + 1), 0, none⟩)), (5, .pointer (some ⟨(w.heap.size + 1 + 1), 0, none⟩)), (7, .int .i64 z)] rfl (by decide) (by decide) (by decide) ha (fun o ho hg => y_of (wanted_none hg) (fun wx hS => e_move (.inl ho) (ha.ev (i := 43) (v := .bool false) (by simp)))) (by simp) hSw ?_; intro a ha
  refine line_still ordAR 23 23 [] 45 (.agg #[(.bool (ngB i)), (.slice Aa na ca), (.int .i64 (s : Int))]) [(44, .bool false), (3, .pointer (some ⟨w.heap.size, 0, none⟩)), (4, .pointer (some ⟨(w.heap.size + 1), 0, none⟩)), (5, .pointer (some ⟨(w.heap.size + 1 + 1), 0, none⟩)), (7, .int .i64 z)] rfl (by decide) (by decide) (by decide) ha (fun o ho hg => y_of (ordAR.wanted hg rfl ha (d := 44) (by simp)) (fun wx hS => e_load ho (ha.ev (i := 3) (v := .pointer (some ⟨w.heap.size, 0, none⟩)) (by simp)) (hS.at_ (g := w.heap.size) (x0 := (.bool (ngB i))) (x1 := (.slice Aa na ca)) (x2 := (.int .i64 (s : Int))) (by simp)))) (by simp) hSw ?_; intro a ha
  refine line_ahead ordAR 24 24 [] 25 47 (.agg #[(.bool (ngB j)), (.slice Ab nb cb), (.int .i64 (t : Int))]) [(45, .agg #[(.bool (ngB i)), (.slice Aa na ca), (.int .i64 (s : Int))]), (44, .bool false), (3, .pointer (some ⟨w.heap.size, 0, none⟩)), (4, .pointer (some ⟨(w.heap.size + 1), 0, none⟩)), (5, .pointer (some ⟨(w.heap.size + 1 + 1), 0, none⟩)), (7, .int .i64 z)] rfl (by decide) (by decide) (by decide) ha (fun o ho hg => y_of (ordAR.wanted hg rfl ha (d := 44) (by simp)) (fun wx hS => e_load ho (ha.ev (i := 4) (v := .pointer (some ⟨(w.heap.size + 1), 0, none⟩)) (by simp)) (hS.at_ (g := (w.heap.size + 1)) (x0 := (.bool (ngB j))) (x1 := (.slice Ab nb cb)) (x2 := (.int .i64 (t : Int))) (by simp)))) (by simp) hSw ?_; intro a ha
  refine line_ahead ordAR 25 24 [25] 28 50 (.int .i64 z) [(47, .agg #[(.bool (ngB j)), (.slice Ab nb cb), (.int .i64 (t : Int))]), (45, .agg #[(.bool (ngB i)), (.slice Aa na ca), (.int .i64 (s : Int))]), (44, .bool false), (3, .pointer (some ⟨w.heap.size, 0, none⟩)), (4, .pointer (some ⟨(w.heap.size + 1), 0, none⟩)), (5, .pointer (some ⟨(w.heap.size + 1 + 1), 0, none⟩)), (7, .int .i64 z)] rfl (by decide) (by decide) (by decide) ha (fun o ho hg => y_of (ordAR.wanted hg rfl ha (d := 44) (by simp)) (fun wx hS => e_move (.inl ho) (ha.ev (i := 7) (v := .int .i64 z) (by simp)))) (by simp) hSw ?_; intro a ha
  refine line_ahead ordAR 26 24 [28, 25] 29 51 (.int .i64 (-z)) [(47, .agg #[(.bool (ngB j)), (.slice Ab nb cb), (.int .i64 (t : Int))]), (45, .agg #[(.bool (ngB i)), (.slice Aa na ca), (.int .i64 (s : Int))]), (44, .bool false), (3, .pointer (some ⟨w.heap.size, 0, none⟩)), (4, .pointer (some ⟨(w.heap.size + 1), 0, none⟩)), (5, .pointer (some ⟨(w.heap.size + 1 + 1), 0, none⟩)), (7, .int .i64 z)] rfl (by decide) (by decide) (by decide) ha (fun o ho hg => y_of (ordAR.wanted hg rfl ha (d := 44) (by simp)) (fun wx hS => (e_neg ho (ha.ev (i := 50) (v := .int .i64 z) (by simp))).trans (by rw [W2.out]))) (by simp) hSw ?_; intro a ha
  refine line_call ordAR 27 24 [29, 28, 25] 46 (args := #[.agg #[(.bool (ngB i)), (.slice Aa na ca), (.int .i64 (s : Int))]]) [(51, .int .i64 (-z)), (47, .agg #[(.bool (ngB j)), (.slice Ab nb cb), (.int .i64 (t : Int))]), (44, .bool false), (3, .pointer (some ⟨w.heap.size, 0, none⟩)), (4, .pointer (some ⟨(w.heap.size + 1), 0, none⟩)), (5, .pointer (some ⟨(w.heap.size + 1 + 1), 0, none⟩)), (7, .int .i64 z)] rfl (by decide) (by decide) (by decide) ha (fun o ho hg => ⟨(ordAR.wanted hg rfl ha (d := 44) (by simp)), e_call (by kernel_rfl) ho rfl (by have q0 := ha.ev (i := 45) (v := .agg #[(.bool (ngB i)), (.slice Aa na ca), (.int .i64 (s : Int))]) (by simp); simp only [List.map_toArray, List.map_cons, List.map_nil, ev_const, q0])⟩) (by simp) ?_
  refine (neg_is5 (i := i) (s := s) (St.got E (A := Aa) (n := na) (c := ca) (a := (i).natAbs) (by simp)) (by omega) (by omega) HX1.out).mono ?_; rintro e w7 ⟨A7, n7, c7, rfl, h, hb⟩
  have b7 : n7 ≤ 168 := len_le h HL1.out
  replace E := Lib.hid (St.push E.out hb h)
  clear h hb
  have hSw := St.sb E; refine ⟨_, rfl, hSw, ?_⟩; intro a ha
  refine line_skip [29, 28] (by intro i; simp <;> omega) ?_
  refine line_call ordAR 28 26 [29, 28] 48 (args := #[.agg #[(.bool (ngB j)), (.slice Ab nb cb), (.int .i64 (t : Int))]]) [(46, .agg #[.bool (ngB x1), .slice A7 n7 c7, .int .i64 (s : Int)]), (51, .int .i64 (-z)), (44, .bool false), (3, .pointer (some ⟨w.heap.size, 0, none⟩)), (4, .pointer (some ⟨(w.heap.size + 1), 0, none⟩)), (5, .pointer (some ⟨(w.heap.size + 1 + 1), 0, none⟩)), (7, .int .i64 z)] rfl (by decide) (by decide) (by decide) ha (fun o ho hg => ⟨(ordAR.wanted hg rfl ha (d := 44) (by simp)), e_call (by kernel_rfl) ho rfl (by have q0 := ha.ev (i := 47) (v := .agg #[(.bool (ngB j)), (.slice Ab nb cb), (.int .i64 (t : Int))]) (by simp); simp only [List.map_toArray, List.map_cons, List.map_nil, ev_const, q0])⟩) (by simp) ?_
  refine (neg_is5 (i := j) (s := t) (St.got E (A := Ab) (n := nb) (c := cb) (a := (j).natAbs) (by simp)) (by omega) (by omega) HX2.out).mono ?_; rintro e w8 ⟨A8, n8, c8, rfl, h, hb⟩
  have b8 : n8 ≤ 168 := len_le h HL2.out
  replace E := Lib.hid (St.push E.out hb h)
  clear h hb
  have hSw := St.sb E; refine ⟨_, rfl, hSw, ?_⟩; intro a ha
  refine line_call ordAR 29 27 [29, 28] 49 (args := #[.agg #[.bool (ngB x1), .slice A7 n7 c7, .int .i64 (s : Int)], .agg #[.bool (ngB x2), .slice A8 n8 c8, .int .i64 (t : Int)]]) [(51, .int .i64 (-z)), (44, .bool false), (3, .pointer (some ⟨w.heap.size, 0, none⟩)), (4, .pointer (some ⟨(w.heap.size + 1), 0, none⟩)), (5, .pointer (some ⟨(w.heap.size + 1 + 1), 0, none⟩)), (7, .int .i64 z)] rfl (by decide) (by decide) (by decide) ha (fun o ho hg => ⟨(ordAR.wanted hg rfl ha (d := 44) (by simp)), e_call (by kernel_rfl) ho rfl (by have q0 := ha.ev (i := 46) (v := .agg #[.bool (ngB x1), .slice A7 n7 c7, .int .i64 (s : Int)]) (by simp); have q1 := ha.ev (i := 48) (v := .agg #[.bool (ngB x2), .slice A8 n8 c8, .int .i64 (t : Int)]) (by simp); simp only [List.map_toArray, List.map_cons, List.map_nil, ev_const, q0, q1])⟩) (by simp) ?_
  refine (cmp5_is (i := x1) (s := s) (j := x2) (t := t) (St.got E (A := A7) (n := n7) (c := c7) (a := (x1).natAbs) (by simp)) (St.got E (A := A8) (n := n8) (c := c8) (a := (x2).natAbs) (by simp)) (by omega) (by omega) (by omega) (by omega) F1.out).mono ?_; rintro e w9 ⟨rfl, hb⟩
  replace E := Lib.hid (St.step E.out hb)
  clear hb
  replace E : Hid (St w w9 [(Aa, na, ca, (i).natAbs), (Ab, nb, cb, (j).natAbs), (Ac, nc, cc, (k).natAbs)] [((w.heap.size + 1 + 1), (.bool (ngB k)), (.slice Ac nc cc), (.int .i64 (u : Int))), ((w.heap.size + 1), (.bool (ngB j)), (.slice Ab nb cb), (.int .i64 (t : Int))), (w.heap.size, (.bool (ngB i)), (.slice Aa na ca), (.int .i64 (s : Int)))]) := Lib.hid ((E.out).sub (by simp) (by simp))
  have hSw := St.sb E; refine ⟨_, rfl, hSw, ?_⟩; intro a ha
  refine line_skip [29] (by intro i; simp <;> omega) ?_
  refine line_skip [] (by intro i; simp <;> omega) ?_
  refine line_still ordAR 30 30 [] 52 (.bool false) [(44, .bool false), (3, .pointer (some ⟨w.heap.size, 0, none⟩)), (4, .pointer (some ⟨(w.heap.size + 1), 0, none⟩)), (5, .pointer (some ⟨(w.heap.size + 1 + 1), 0, none⟩)), (7, .int .i64 z)] rfl (by decide) (by decide) (by decide) ha (fun o ho hg => y_of (ordAR.wanted hg rfl ha (d := 44) (by simp)) (fun wx hS => (e_neq ho (ha.ev (i := 49) (v := .int .i64 (-z)) (by simp)) (ha.ev (i := 51) (v := .int .i64 (-z)) (by simp))).trans (by rw [E2.out]))) (by simp) hSw ?_; intro a ha
  refine line_still ordAR 31 31 [] 53 (.bool false) [(3, .pointer (some ⟨w.heap.size, 0, none⟩)), (4, .pointer (some ⟨(w.heap.size + 1), 0, none⟩)), (5, .pointer (some ⟨(w.heap.size + 1 + 1), 0, none⟩)), (7, .int .i64 z)] rfl (by decide) (by decide) (by decide) ha (fun o ho hg => y_of (wanted_none hg) (fun wx hS => e_pick ho (ha.ev (i := 44) (v := .bool false) (by simp)) rfl (ha.ev (i := 52) (v := .bool false) (by simp)))) (by simp) hSw ?_; intro a ha
  refine line_end ordAR rfl ?_
  simp only [Exit.then]
  refine hK _ _ ?_
  refine wp_cond_false (ha.ev (by simp)) ?_
  refine wp_skip ?_
  simp only [Exit.then]
  refine hK0 _ _ ?_
  clear hK hK0 K K0
  refine wp_seq_k (fun K hK => ?_)
  replace E := Lib.hid (St.drew E.out)
  refine line_start (ops := opsAt Try.prog 5 6) (S := SB [((w.heap.size + 1 + 1), (.bool (ngB k)), (.slice Ac nc cc), (.int .i64 (u : Int))), ((w.heap.size + 1), (.bool (ngB j)), (.slice Ab nb cb), (.int .i64 (t : Int))), (w.heap.size, (.bool (ngB i)), (.slice Aa na ca), (.int .i64 (s : Int)))]) (by kernel_rfl) (by kernel_rfl) (St.sb E) ?_
  have hSw := St.sb E
  refine line_still ordBR 0 0 [] 54 (.agg #[(.bool (ngB i)), (.slice Aa na ca), (.int .i64 (s : Int))]) [(3, .pointer (some ⟨w.heap.size, 0, none⟩)), (4, .pointer (some ⟨(w.heap.size + 1), 0, none⟩)), (5, .pointer (some ⟨(w.heap.size + 1 + 1), 0, none⟩)), (7, .int .i64 z)] rfl (by decide) (by decide) (by decide) ha (fun o ho hg => y_of (wanted_none hg) (fun wx hS => e_load ho (ha.ev (i := 3) (v := .pointer (some ⟨w.heap.size, 0, none⟩)) (by simp)) (hS.at_ (g := w.heap.size) (x0 := (.bool (ngB i))) (x1 := (.slice Aa na ca)) (x2 := (.int .i64 (s : Int))) (by simp)))) (by simp) hSw ?_; intro a ha
  refine line_still ordBR 1 1 [] 55 (.agg #[(.bool (ngB k)), (.slice Ac nc cc), (.int .i64 (u : Int))]) [(54, .agg #[(.bool (ngB i)), (.slice Aa na ca), (.int .i64 (s : Int))]), (3, .pointer (some ⟨w.heap.size, 0, none⟩)), (4, .pointer (some ⟨(w.heap.size + 1), 0, none⟩)), (5, .pointer (some ⟨(w.heap.size + 1 + 1), 0, none⟩)), (7, .int .i64 z)] rfl (by decide) (by decide) (by decide) ha (fun o ho hg => y_of (wanted_none hg) (fun wx hS => e_load ho (ha.ev (i := 5) (v := .pointer (some ⟨(w.heap.size + 1 + 1), 0, none⟩)) (by simp)) (hS.at_ (g := (w.heap.size + 1 + 1)) (x0 := (.bool (ngB k))) (x1 := (.slice Ac nc cc)) (x2 := (.int .i64 (u : Int))) (by simp)))) (by simp) hSw ?_; intro a ha
  refine line_ahead ordBR 2 2 [] 3 57 (.agg #[(.bool (ngB j)), (.slice Ab nb cb), (.int .i64 (t : Int))]) [(55, .agg #[(.bool (ngB k)), (.slice Ac nc cc), (.int .i64 (u : Int))]), (54, .agg #[(.bool (ngB i)), (.slice Aa na ca), (.int .i64 (s : Int))]), (3, .pointer (some ⟨w.heap.size, 0, none⟩)), (4, .pointer (some ⟨(w.heap.size + 1), 0, none⟩)), (5, .pointer (some ⟨(w.heap.size + 1 + 1), 0, none⟩)), (7, .int .i64 z)] rfl (by decide) (by decide) (by decide) ha (fun o ho hg => y_of (wanted_none hg) (fun wx hS => e_load ho (ha.ev (i := 4) (v := .pointer (some ⟨(w.heap.size + 1), 0, none⟩)) (by simp)) (hS.at_ (g := (w.heap.size + 1)) (x0 := (.bool (ngB j))) (x1 := (.slice Ab nb cb)) (x2 := (.int .i64 (t : Int))) (by simp)))) (by simp) hSw ?_; intro a ha
  refine line_ahead ordBR 3 2 [3] 4 58 (.agg #[(.bool (ngB k)), (.slice Ac nc cc), (.int .i64 (u : Int))]) [(57, .agg #[(.bool (ngB j)), (.slice Ab nb cb), (.int .i64 (t : Int))]), (55, .agg #[(.bool (ngB k)), (.slice Ac nc cc), (.int .i64 (u : Int))]), (54, .agg #[(.bool (ngB i)), (.slice Aa na ca), (.int .i64 (s : Int))]), (3, .pointer (some ⟨w.heap.size, 0, none⟩)), (4, .pointer (some ⟨(w.heap.size + 1), 0, none⟩)), (7, .int .i64 z)] rfl (by decide) (by decide) (by decide) ha (fun o ho hg => y_of (wanted_none hg) (fun wx hS => e_load ho (ha.ev (i := 5) (v := .pointer (some ⟨(w.heap.size + 1 + 1), 0, none⟩)) (by simp)) (hS.at_ (g := (w.heap.size + 1 + 1)) (x0 := (.bool (ngB k))) (x1 := (.slice Ac nc cc)) (x2 := (.int .i64 (u : Int))) (by simp)))) (by simp) hSw ?_; intro a ha
  refine line_ahead ordBR 4 2 [4, 3] 7 61 (.int .i64 z) [(58, .agg #[(.bool (ngB k)), (.slice Ac nc cc), (.int .i64 (u : Int))]), (57, .agg #[(.bool (ngB j)), (.slice Ab nb cb), (.int .i64 (t : Int))]), (55, .agg #[(.bool (ngB k)), (.slice Ac nc cc), (.int .i64 (u : Int))]), (54, .agg #[(.bool (ngB i)), (.slice Aa na ca), (.int .i64 (s : Int))]), (3, .pointer (some ⟨w.heap.size, 0, none⟩)), (4, .pointer (some ⟨(w.heap.size + 1), 0, none⟩)), (7, .int .i64 z)] rfl (by decide) (by decide) (by decide) ha (fun o ho hg => y_of (wanted_none hg) (fun wx hS => e_move (.inl ho) (ha.ev (i := 7) (v := .int .i64 z) (by simp)))) (by simp) hSw ?_; intro a ha
  refine line_call ordBR 5 2 [7, 4, 3] 56 (args := #[.agg #[(.bool (ngB i)), (.slice Aa na ca), (.int .i64 (s : Int))], .agg #[(.bool (ngB k)), (.slice Ac nc cc), (.int .i64 (u : Int))]]) [(61, .int .i64 z), (58, .agg #[(.bool (ngB k)), (.slice Ac nc cc), (.int .i64 (u : Int))]), (57, .agg #[(.bool (ngB j)), (.slice Ab nb cb), (.int .i64 (t : Int))]), (3, .pointer (some ⟨w.heap.size, 0, none⟩)), (4, .pointer (some ⟨(w.heap.size + 1), 0, none⟩)), (7, .int .i64 z)] rfl (by decide) (by decide) (by decide) ha (fun o ho hg => ⟨(wanted_none hg), e_call (by kernel_rfl) ho rfl (by have q0 := ha.ev (i := 54) (v := .agg #[(.bool (ngB i)), (.slice Aa na ca), (.int .i64 (s : Int))]) (by simp); have q1 := ha.ev (i := 55) (v := .agg #[(.bool (ngB k)), (.slice Ac nc cc), (.int .i64 (u : Int))]) (by simp); simp only [List.map_toArray, List.map_cons, List.map_nil, ev_const, q0, q1])⟩) (by simp) ?_
  refine (add_is5 (i := i) (s := s) (j := k) (t := u) (St.got E (A := Aa) (n := na) (c := ca) (a := (i).natAbs) (by simp)) (St.got E (A := Ac) (n := nc) (c := cc) (a := (k).natAbs) (by simp)) (by omega) (by omega) (by omega) (by omega) HS3.out HX3.out).mono ?_; rintro e w10 ⟨A10, n10, c10, rfl, h, hb⟩
  have b10 : n10 ≤ 169 := len_le h HL3.out
  replace E := Lib.hid (St.push E.out hb h)
  clear h hb
  have hSw := St.sb E; refine ⟨_, rfl, hSw, ?_⟩; intro a ha
  refine line_skip [7, 4] (by intro i; simp <;> omega) ?_
  refine line_skip [7] (by intro i; simp <;> omega) ?_
  refine line_call ordBR 6 5 [7] 59 (args := #[.agg #[(.bool (ngB j)), (.slice Ab nb cb), (.int .i64 (t : Int))], .agg #[(.bool (ngB k)), (.slice Ac nc cc), (.int .i64 (u : Int))]]) [(56, .agg #[.bool (ngB x3), .slice A10 n10 c10, .int .i64 (s3 : Int)]), (61, .int .i64 z), (3, .pointer (some ⟨w.heap.size, 0, none⟩)), (4, .pointer (some ⟨(w.heap.size + 1), 0, none⟩)), (7, .int .i64 z)] rfl (by decide) (by decide) (by decide) ha (fun o ho hg => ⟨(wanted_none hg), e_call (by kernel_rfl) ho rfl (by have q0 := ha.ev (i := 57) (v := .agg #[(.bool (ngB j)), (.slice Ab nb cb), (.int .i64 (t : Int))]) (by simp); have q1 := ha.ev (i := 58) (v := .agg #[(.bool (ngB k)), (.slice Ac nc cc), (.int .i64 (u : Int))]) (by simp); simp only [List.map_toArray, List.map_cons, List.map_nil, ev_const, q0, q1])⟩) (by simp) ?_
  refine (add_is5 (i := j) (s := t) (j := k) (t := u) (St.got E (A := Ab) (n := nb) (c := cb) (a := (j).natAbs) (by simp)) (St.got E (A := Ac) (n := nc) (c := cc) (a := (k).natAbs) (by simp)) (by omega) (by omega) (by omega) (by omega) HS4.out HX4.out).mono ?_; rintro e w11 ⟨A11, n11, c11, rfl, h, hb⟩
  have b11 : n11 ≤ 169 := len_le h HL4.out
  replace E := Lib.hid (St.push E.out hb h)
  clear h hb
  have hSw := St.sb E; refine ⟨_, rfl, hSw, ?_⟩; intro a ha
  refine line_call ordBR 7 6 [7] 60 (args := #[.agg #[.bool (ngB x3), .slice A10 n10 c10, .int .i64 (s3 : Int)], .agg #[.bool (ngB x4), .slice A11 n11 c11, .int .i64 (s4 : Int)]]) [(61, .int .i64 z), (3, .pointer (some ⟨w.heap.size, 0, none⟩)), (4, .pointer (some ⟨(w.heap.size + 1), 0, none⟩)), (7, .int .i64 z)] rfl (by decide) (by decide) (by decide) ha (fun o ho hg => ⟨(wanted_none hg), e_call (by kernel_rfl) ho rfl (by have q0 := ha.ev (i := 56) (v := .agg #[.bool (ngB x3), .slice A10 n10 c10, .int .i64 (s3 : Int)]) (by simp); have q1 := ha.ev (i := 59) (v := .agg #[.bool (ngB x4), .slice A11 n11 c11, .int .i64 (s4 : Int)]) (by simp); simp only [List.map_toArray, List.map_cons, List.map_nil, ev_const, q0, q1])⟩) (by simp) ?_
  refine (cmp5_is (i := x3) (s := s3) (j := x4) (t := s4) (St.got E (A := A10) (n := n10) (c := c10) (a := (x3).natAbs) (by simp)) (St.got E (A := A11) (n := n11) (c := c11) (a := (x4).natAbs) (by simp)) (by omega) (by omega) (by omega) (by omega) F2.out).mono ?_; rintro e w12 ⟨rfl, hb⟩
  replace E := Lib.hid (St.step E.out hb)
  clear hb
  replace E : Hid (St w w12 [(Aa, na, ca, (i).natAbs), (Ab, nb, cb, (j).natAbs), (Ac, nc, cc, (k).natAbs)] [((w.heap.size + 1 + 1), (.bool (ngB k)), (.slice Ac nc cc), (.int .i64 (u : Int))), ((w.heap.size + 1), (.bool (ngB j)), (.slice Ab nb cb), (.int .i64 (t : Int))), (w.heap.size, (.bool (ngB i)), (.slice Aa na ca), (.int .i64 (s : Int)))]) := Lib.hid ((E.out).sub (by simp) (by simp))
  have hSw := St.sb E; refine ⟨_, rfl, hSw, ?_⟩; intro a ha
  refine line_skip [] (by intro i; simp <;> omega) ?_
  refine line_still ordBR 8 8 [] 62 (.bool true) [(3, .pointer (some ⟨w.heap.size, 0, none⟩)), (4, .pointer (some ⟨(w.heap.size + 1), 0, none⟩)), (7, .int .i64 z)] rfl (by decide) (by decide) (by decide) ha (fun o ho hg => y_of (wanted_none hg) (fun wx hS => (e_eql ho (ha.ev (i := 60) (v := .int .i64 z) (by simp)) (ha.ev (i := 61) (v := .int .i64 z) (by simp))).trans (by rw [E3.out]))) (by simp) hSw ?_; intro a ha
  refine line_still ordBR 9 9 [] 63 (.bool true) [(3, .pointer (some ⟨w.heap.size, 0, none⟩)), (4, .pointer (some ⟨(w.heap.size + 1), 0, none⟩)), (7, .int .i64 z)] rfl (by decide) (by decide) (by decide) ha (fun o ho hg => y_of (wanted_none hg) (fun wx hS => e_move (.inl ho) (ha.ev (i := 62) (v := .bool true) (by simp)))) (by simp) hSw ?_; intro a ha
  refine line_still ordBR 10 10 [] 64 (.agg #[(.bool (ngB i)), (.slice Aa na ca), (.int .i64 (s : Int))]) [(63, .bool true), (3, .pointer (some ⟨w.heap.size, 0, none⟩)), (4, .pointer (some ⟨(w.heap.size + 1), 0, none⟩)), (7, .int .i64 z)] rfl (by decide) (by decide) (by decide) ha (fun o ho hg => y_of (ordBR.wanted hg rfl ha (d := 63) (by simp)) (fun wx hS => e_load ho (ha.ev (i := 3) (v := .pointer (some ⟨w.heap.size, 0, none⟩)) (by simp)) (hS.at_ (g := w.heap.size) (x0 := (.bool (ngB i))) (x1 := (.slice Aa na ca)) (x2 := (.int .i64 (s : Int))) (by simp)))) (by simp) hSw ?_; intro a ha
  refine line_still ordBR 11 11 [] 65 (.agg #[(.bool (ngB j)), (.slice Ab nb cb), (.int .i64 (t : Int))]) [(64, .agg #[(.bool (ngB i)), (.slice Aa na ca), (.int .i64 (s : Int))]), (63, .bool true), (3, .pointer (some ⟨w.heap.size, 0, none⟩)), (7, .int .i64 z)] rfl (by decide) (by decide) (by decide) ha (fun o ho hg => y_of (ordBR.wanted hg rfl ha (d := 63) (by simp)) (fun wx hS => e_load ho (ha.ev (i := 4) (v := .pointer (some ⟨(w.heap.size + 1), 0, none⟩)) (by simp)) (hS.at_ (g := (w.heap.size + 1)) (x0 := (.bool (ngB j))) (x1 := (.slice Ab nb cb)) (x2 := (.int .i64 (t : Int))) (by simp)))) (by simp) hSw ?_; intro a ha
  refine line_ahead ordBR 12 12 [] 14 68 (.int .i64 z) [(65, .agg #[(.bool (ngB j)), (.slice Ab nb cb), (.int .i64 (t : Int))]), (64, .agg #[(.bool (ngB i)), (.slice Aa na ca), (.int .i64 (s : Int))]), (63, .bool true), (3, .pointer (some ⟨w.heap.size, 0, none⟩))] rfl (by decide) (by decide) (by decide) ha (fun o ho hg => y_of (ordBR.wanted hg rfl ha (d := 63) (by simp)) (fun wx hS => e_move (.inl ho) (ha.ev (i := 7) (v := .int .i64 z) (by simp)))) (by simp) hSw ?_; intro a ha
  refine line_call ordBR 13 12 [14] 66 (args := #[.agg #[(.bool (ngB i)), (.slice Aa na ca), (.int .i64 (s : Int))], .agg #[(.bool (ngB j)), (.slice Ab nb cb), (.int .i64 (t : Int))]]) [(68, .int .i64 z), (63, .bool true), (3, .pointer (some ⟨w.heap.size, 0, none⟩))] rfl (by decide) (by decide) (by decide) ha (fun o ho hg => ⟨(ordBR.wanted hg rfl ha (d := 63) (by simp)), e_call (by kernel_rfl) ho rfl (by have q0 := ha.ev (i := 64) (v := .agg #[(.bool (ngB i)), (.slice Aa na ca), (.int .i64 (s : Int))]) (by simp); have q1 := ha.ev (i := 65) (v := .agg #[(.bool (ngB j)), (.slice Ab nb cb), (.int .i64 (t : Int))]) (by simp); simp only [List.map_toArray, List.map_cons, List.map_nil, ev_const, q0, q1])⟩) (by simp) ?_
  refine (sub_is5 (i := i) (s := s) (j := j) (t := t) (St.got E (A := Aa) (n := na) (c := ca) (a := (i).natAbs) (by simp)) (St.got E (A := Ab) (n := nb) (c := cb) (a := (j).natAbs) (by simp)) (by omega) (by omega) (by omega) (by omega) HS5.out HX5.out).mono ?_; rintro e w13 ⟨A13, n13, c13, rfl, h, hb⟩
  have b13 : n13 ≤ 169 := len_le h HL5.out
  replace E := Lib.hid (St.push E.out hb h)
  clear h hb
  have hSw := St.sb E; refine ⟨_, rfl, hSw, ?_⟩; intro a ha
  refine line_call ordBR 14 13 [14] 67 (args := #[.agg #[.bool (ngB x5), .slice A13 n13 c13, .int .i64 (s5 : Int)]]) [(68, .int .i64 z), (63, .bool true), (3, .pointer (some ⟨w.heap.size, 0, none⟩))] rfl (by decide) (by decide) (by decide) ha (fun o ho hg => ⟨(ordBR.wanted hg rfl ha (d := 63) (by simp)), e_call (by kernel_rfl) ho rfl (by have q0 := ha.ev (i := 66) (v := .agg #[.bool (ngB x5), .slice A13 n13 c13, .int .i64 (s5 : Int)]) (by simp); simp only [List.map_toArray, List.map_cons, List.map_nil, ev_const, q0])⟩) (by simp) ?_
  refine (sign_is (i := x5) (s := s5) (St.got E (A := A13) (n := n13) (c := c13) (a := (x5).natAbs) (by simp)) F3.out).mono ?_; rintro e w14 ⟨rfl, hb⟩
  replace E := Lib.hid (St.step E.out hb)
  clear hb
  replace E : Hid (St w w14 [(Aa, na, ca, (i).natAbs), (Ab, nb, cb, (j).natAbs), (Ac, nc, cc, (k).natAbs)] [((w.heap.size + 1 + 1), (.bool (ngB k)), (.slice Ac nc cc), (.int .i64 (u : Int))), ((w.heap.size + 1), (.bool (ngB j)), (.slice Ab nb cb), (.int .i64 (t : Int))), (w.heap.size, (.bool (ngB i)), (.slice Aa na ca), (.int .i64 (s : Int)))]) := Lib.hid ((E.out).sub (by simp) (by simp))
  have hSw := St.sb E; refine ⟨_, rfl, hSw, ?_⟩; intro a ha
  refine line_skip [] (by intro i; simp <;> omega) ?_
  refine line_still ordBR 15 15 [] 69 (.bool true) [(63, .bool true), (3, .pointer (some ⟨w.heap.size, 0, none⟩))] rfl (by decide) (by decide) (by decide) ha (fun o ho hg => y_of (ordBR.wanted hg rfl ha (d := 63) (by simp)) (fun wx hS => (e_eql ho (ha.ev (i := 67) (v := .int .i64 z) (by simp)) (ha.ev (i := 68) (v := .int .i64 z) (by simp))).trans (by rw [E3.out]))) (by simp) hSw ?_; intro a ha
  refine line_still ordBR 16 16 [] 70 (.bool true) [(3, .pointer (some ⟨w.heap.size, 0, none⟩))] rfl (by decide) (by decide) (by decide) ha (fun o ho hg => y_of (wanted_none hg) (fun wx hS => e_pick ho (ha.ev (i := 63) (v := .bool true) (by simp)) (ha.ev (i := 69) (v := .bool true) (by simp)) rfl)) (by simp) hSw ?_; intro a ha
  refine line_still ordBR 17 17 [] 71 (.bool true) [(3, .pointer (some ⟨w.heap.size, 0, none⟩))] rfl (by decide) (by decide) (by decide) ha (fun o ho hg => y_of (wanted_none hg) (fun wx hS => e_move (.inl ho) (ha.ev (i := 70) (v := .bool true) (by simp)))) (by simp) hSw ?_; intro a ha
  refine line_still ordBR 18 18 [] 72 (.agg #[(.bool (ngB i)), (.slice Aa na ca), (.int .i64 (s : Int))]) [(71, .bool true)] rfl (by decide) (by decide) (by decide) ha (fun o ho hg => y_of (ordBR.wanted hg rfl ha (d := 71) (by simp)) (fun wx hS => e_load ho (ha.ev (i := 3) (v := .pointer (some ⟨w.heap.size, 0, none⟩)) (by simp)) (hS.at_ (g := w.heap.size) (x0 := (.bool (ngB i))) (x1 := (.slice Aa na ca)) (x2 := (.int .i64 (s : Int))) (by simp)))) (by simp) hSw ?_; intro a ha
  refine line_call ordBR 19 19 [] 73 (args := #[.agg #[(.bool (ngB i)), (.slice Aa na ca), (.int .i64 (s : Int))]]) [(71, .bool true)] rfl (by decide) (by decide) (by decide) ha (fun o ho hg => ⟨(ordBR.wanted hg rfl ha (d := 71) (by simp)), e_call (by kernel_rfl) ho rfl (by have q0 := ha.ev (i := 72) (v := .agg #[(.bool (ngB i)), (.slice Aa na ca), (.int .i64 (s : Int))]) (by simp); simp only [List.map_toArray, List.map_cons, List.map_nil, ev_const, q0])⟩) (by simp) ?_
  refine (abs_is5 (i := i) (s := s) (St.got E (A := Aa) (n := na) (c := ca) (a := (i).natAbs) (by simp)) (by omega) (by omega) HX6.out).mono ?_; rintro e w15 ⟨A15, n15, c15, rfl, h, hb⟩
  have b15 : n15 ≤ 168 := len_le h HL6.out
  replace E := Lib.hid (St.push E.out hb h)
  clear h hb
  have hSw := St.sb E; refine ⟨_, rfl, hSw, ?_⟩; intro a ha
  refine line_call ordBR 20 20 [] 74 (args := #[.agg #[.bool (ngB x6), .slice A15 n15 c15, .int .i64 (s : Int)]]) [(71, .bool true)] rfl (by decide) (by decide) (by decide) ha (fun o ho hg => ⟨(ordBR.wanted hg rfl ha (d := 71) (by simp)), e_call (by kernel_rfl) ho rfl (by have q0 := ha.ev (i := 73) (v := .agg #[.bool (ngB x6), .slice A15 n15 c15, .int .i64 (s : Int)]) (by simp); simp only [List.map_toArray, List.map_cons, List.map_nil, ev_const, q0])⟩) (by simp) ?_
  refine (sign_is (i := x6) (s := s) (St.got E (A := A15) (n := n15) (c := c15) (a := (x6).natAbs) (by simp)) HSG.out).mono ?_; rintro e w16 ⟨rfl, hb⟩
  replace E := Lib.hid (St.step E.out hb)
  clear hb
  replace E : Hid (St w w16 [(Aa, na, ca, (i).natAbs), (Ab, nb, cb, (j).natAbs), (Ac, nc, cc, (k).natAbs)] [((w.heap.size + 1 + 1), (.bool (ngB k)), (.slice Ac nc cc), (.int .i64 (u : Int))), ((w.heap.size + 1), (.bool (ngB j)), (.slice Ab nb cb), (.int .i64 (t : Int))), (w.heap.size, (.bool (ngB i)), (.slice Aa na ca), (.int .i64 (s : Int)))]) := Lib.hid ((E.out).sub (by simp) (by simp))
  have hSw := St.sb E; refine ⟨_, rfl, hSw, ?_⟩; intro a ha
  refine line_still ordBR 21 21 [] 75 (.bool true) [(71, .bool true)] rfl (by decide) (by decide) (by decide) ha (fun o ho hg => y_of (ordBR.wanted hg rfl ha (d := 71) (by simp)) (fun wx hS => (e_geq ho (ha.ev (i := 74) (v := .int .i64 sg) (by simp)) rfl).trans (by rw [D4.out]))) (by simp) hSw ?_; intro a ha
  refine line_still ordBR 22 22 [] 76 (.bool true) [] rfl (by decide) (by decide) (by decide) ha (fun o ho hg => y_of (wanted_none hg) (fun wx hS => e_pick ho (ha.ev (i := 71) (v := .bool true) (by simp)) (ha.ev (i := 75) (v := .bool true) (by simp)) rfl)) (by simp) hSw ?_; intro a ha
  refine line_still ordBR 23 23 [] 77 (.bool true) [] rfl (by decide) (by decide) (by decide) ha (fun o ho hg => y_of (wanted_none hg) (fun wx hS => e_move (.inl ho) (ha.ev (i := 76) (v := .bool true) (by simp)))) (by simp) hSw ?_; intro a ha
  refine line_call ordBR 24 24 [] 78 (args := #[]) [(77, .bool true)] rfl (by decide) (by decide) (by decide) ha (fun o ho hg => ⟨(ordBR.wanted hg rfl ha (d := 77) (by simp)), e_call (by kernel_rfl) ho rfl (by simp only [List.map_toArray, List.map_cons, List.map_nil, ev_const])⟩) (by simp) ?_
  refine (awake5 _).mono ?_; rintro e w17 ⟨rfl, hb⟩
  replace E := Lib.hid (St.step E.out hb)
  clear hb
  have hSw := St.sb E; refine ⟨_, rfl, hSw, ?_⟩; intro a ha
  refine line_still ordBR 25 25 [] 79 (.bool true) [] rfl (by decide) (by decide) (by decide) ha (fun o ho hg => y_of (wanted_none hg) (fun wx hS => e_pick ho (ha.ev (i := 77) (v := .bool true) (by simp)) (ha.ev (i := 78) (v := .bool true) (by simp)) rfl)) (by simp) hSw ?_; intro a ha
  refine line_still ordBR 26 26 [] 6 (.bool true) [] rfl (by decide) (by decide) (by decide) ha (fun o ho hg => y_of (wanted_none hg) (fun wx hS => e_move (.inr ho) (ha.ev (i := 79) (v := .bool true) (by simp)))) (by simp) hSw ?_; intro a ha
  refine line_end ordBR rfl ?_
  simp only [Exit.then]
  refine hK _ _ ?_
  go_wp2
  exact bodyPost_ret (v := .bool true) (by have := ha.2.2 (6, .bool true) (by simp); simp [results, Try.results5, go_sem, Array.getD_eq_getD_getElem?, this]) ha.2.1 ⟨rfl, E.out.bel⟩

set_option maxHeartbeats 8000000 in
set_option maxRecDepth 100000 in
theorem order_C (Aa : Option Addr) (na ca s : Nat) (i : Int) (Ab : Option Addr) (nb cb t : Nat) (j : Int) (Ac : Option Addr) (nc cc u : Nat) (k : Int) (w : World) (h1 : Num w w.heap.size Aa na ca i.natAbs) (h2 : Num w w.heap.size Ab nb cb j.natAbs) (h3 : Num w w.heap.size Ac nc cc k.natAbs) (m1 : na ≤ 12) (t1 : s ≤ 60) (m2 : nb ≤ 12) (t2 : t ≤ 60) (m3 : nc ≤ 12) (t3 : u ≤ 60) (c1 : 0 < cmpD i s j t) : Calls Try.prog 5 #[.agg #[.bool (ngB i), .slice Aa na ca, .int .i64 (s : Int)], .agg #[.bool (ngB j), .slice Ab nb cb, .int .i64 (t : Int)], .agg #[.bool (ngB k), .slice Ac nc cc, .int .i64 (u : Int)]] w (RetVal w (.bool true)) := by
  have N1 : Hid (longB (ngB i) na (dg i.natAbs) (s : Int) = false) := not_long h1 m1 t1
  have N2 : Hid (longB (ngB j) nb (dg j.natAbs) (t : Int) = false) := not_long h2 m2 t2
  have N3 : Hid (longB (ngB k) nc (dg k.natAbs) (u : Int) = false) := not_long h3 m3 t3
  obtain ⟨z, hz⟩ : ∃ rr, cmpD i s j t = rr := ⟨_, rfl⟩
  have HZ := Lib.hid hz
  have hzb : -1 ≤ z ∧ z ≤ 1 := by rw [← hz]; exact cmpZ_bounds _ _
  obtain ⟨hz1, hz2⟩ := hzb
  have HT : Hid (cmpD j t i s = -z) := by show _ = _; rw [← hz]; exact ord_turn i j s t
  have W1 : Hid (IntKind.i64.wrap (- -z) = z) := by show _ = _; rw [Int.neg_neg]; exact wrap_small hz1 hz2
  have W2 : Hid (IntKind.i64.wrap (-z) = -z) := wrap_small (by omega) (by omega)
  have E1 : Hid ((z != z) = false) := by show _ = _; simp
  have E2 : Hid ((-z != -z) = false) := by show _ = _; simp
  have E3 : Hid ((z == z) = true) := by show _ = _; simp
  have D1 : Hid (decide (z ≤ 0) = false) := by show _ = _; rw [← hz]; exact decide_eq_false (by omega)
  have z_1 : Sz i s 108 := (Sz.of_len (by have := h1.len; omega : (dg i.natAbs).length ≤ 12))
  have z_2 : Sz j t 108 := (Sz.of_len (by have := h2.len; omega : (dg j.natAbs).length ≤ 12))
  have z_3 : Sz k u 108 := (Sz.of_len (by have := h3.len; omega : (dg k.natAbs).length ≤ 12))
  obtain ⟨x1, hx1⟩ : ∃ rr, -i = rr := ⟨_, rfl⟩
  have z1 : Sz x1 s 108 := by rw [← hx1]; exact (z_1.neg).mono (by decide)
  have HL1 : Hid ((dg x1.natAbs).length ≤ 168) := (by show _ ≤ _; have := z1.len; omega)
  have HX1 := Lib.hid hx1
  obtain ⟨x2, hx2⟩ : ∃ rr, -j = rr := ⟨_, rfl⟩
  have z2 : Sz x2 t 108 := by rw [← hx2]; exact (z_2.neg).mono (by decide)
  have HL2 : Hid ((dg x2.natAbs).length ≤ 168) := (by show _ ≤ _; have := z2.len; omega)
  have HX2 := Lib.hid hx2
  have F1 : Hid (cmpD x1 s x2 t = -z) := (by show _ = _; subst hx2; subst hx1; exact (by rw [← HZ.out]; exact ord_neg i j s t))
  obtain ⟨x3, hx3⟩ : ∃ rr, addZ i s k u = rr := ⟨_, rfl⟩
  obtain ⟨s3, hs3⟩ : ∃ rr, max s u = rr := ⟨_, rfl⟩
  have z3 : Sz x3 s3 109 := by rw [← hx3, ← hs3]; exact (z_1.add z_3).mono (by decide)
  have u3 : s3 ≤ 60 := by omega
  have HL3 : Hid ((dg x3.natAbs).length ≤ 169) := (by show _ ≤ _; have := z3.len; omega)
  have HX3 := Lib.hid hx3
  have HS3 := Lib.hid hs3
  obtain ⟨x4, hx4⟩ : ∃ rr, addZ j t k u = rr := ⟨_, rfl⟩
  obtain ⟨s4, hs4⟩ : ∃ rr, max t u = rr := ⟨_, rfl⟩
  have z4 : Sz x4 s4 109 := by rw [← hx4, ← hs4]; exact (z_2.add z_3).mono (by decide)
  have u4 : s4 ≤ 60 := by omega
  have HL4 : Hid ((dg x4.natAbs).length ≤ 169) := (by show _ ≤ _; have := z4.len; omega)
  have HX4 := Lib.hid hx4
  have HS4 := Lib.hid hs4
  have F2 : Hid (cmpD x3 s3 x4 s4 = z) := (by show _ = _; subst hs4; subst hx4; subst hs3; subst hx3; subst hx2; subst hx1; exact (by rw [← HZ.out]; exact ord_add i j k s t u))
  obtain ⟨x5, hx5⟩ : ∃ rr, subZ i s j t = rr := ⟨_, rfl⟩
  obtain ⟨s5, hs5⟩ : ∃ rr, max s t = rr := ⟨_, rfl⟩
  have z5 : Sz x5 s5 109 := by rw [← hx5, ← hs5]; exact (z_1.sub z_2).mono (by decide)
  have u5 : s5 ≤ 60 := by omega
  have HL5 : Hid ((dg x5.natAbs).length ≤ 169) := (by show _ ≤ _; have := z5.len; omega)
  have HX5 := Lib.hid hx5
  have HS5 := Lib.hid hs5
  have F3 : Hid (x5.sign = z) := (by show _ = _; subst hs5; subst hx5; subst hs4; subst hx4; subst hs3; subst hx3; subst hx2; subst hx1; exact (by rw [← HZ.out]; exact ord_sub i j s t))
  obtain ⟨x6, hx6⟩ : ∃ rr, (i.natAbs : Int) = rr := ⟨_, rfl⟩
  have z6 : Sz x6 s 108 := by rw [← hx6]; exact (z_1.abs).mono (by decide)
  have HL6 : Hid ((dg x6.natAbs).length ≤ 168) := (by show _ ≤ _; have := z6.len; omega)
  have HX6 := Lib.hid hx6
  obtain ⟨sg, hsg⟩ : ∃ rr, x6.sign = rr := ⟨_, rfl⟩
  have HSG := Lib.hid hsg
  have D4 : Hid (decide (0 ≤ sg) = true) := by show _ = _; rw [← hsg, ← hx6]; exact decide_eq_true (ord_abs i)
  have H1 := Lib.hid h1
  have H2 := Lib.hid h2
  have H3 := Lib.hid h3
  clear hsg hz c1
  clear hx1 hx2 hx3 hs3 hx4 hs4 hx5 hs5 hx6
  clear h1 h2 h3 hz1 hz2 z_1 z_2 z_3 z1 z2 z3 z4 z5 z6
  go_enter Try.func5, Try.ntmps5
  go_wp2_with fail
  generalize hW : World.alloc (World.alloc (World.alloc w _) _) _ = W0
  have E0 : St w W0 [(Aa, na, ca, (i).natAbs), (Ab, nb, cb, (j).natAbs), (Ac, nc, cc, (k).natAbs)] [((w.heap.size + 1 + 1), (.bool (ngB k)), (.slice Ac nc cc), (.int .i64 (u : Int))), ((w.heap.size + 1), (.bool (ngB j)), (.slice Ab nb cb), (.int .i64 (t : Int))), (w.heap.size, (.bool (ngB i)), (.slice Aa na ca), (.int .i64 (s : Int)))] := by rw [← hW]; exact (((St.start w (l := [(Aa, na, ca, (i).natAbs), (Ab, nb, cb, (j).natAbs), (Ac, nc, cc, (k).natAbs)]) (by simp; exact ⟨H1.out, H2.out, H3.out⟩)).lay rfl).lay (by simp)).lay (by simp)
  have E := Lib.hid E0
  clear hW E0
  refine (long_is (St.got E (A := Aa) (n := na) (c := ca) (a := (i).natAbs) (by simp)) N1.out).mono ?_; rintro e w1 ⟨rfl, hb⟩
  replace E := Lib.hid (St.step E.out hb)
  clear hb
  obtain ⟨p1a, p1b, p1c, p1d, p1e, p1f, p1g⟩ := St.at_ (x0 := (.bool (ngB j))) (x1 := (.slice Ab nb cb)) (x2 := (.int .i64 (t : Int))) (g := (w.heap.size + 1)) E (by simp)
  go_wp2_with fail
  refine (long_is (St.got E (A := Ab) (n := nb) (c := cb) (a := (j).natAbs) (by simp)) N2.out).mono ?_; rintro e w2 ⟨rfl, hb⟩
  clear p1a p1b p1c p1d p1e p1f p1g
  replace E := Lib.hid (St.step E.out hb)
  clear hb
  obtain ⟨p0a, p0b, p0c, p0d, p0e, p0f, p0g⟩ := St.at_ (x0 := (.bool (ngB k))) (x1 := (.slice Ac nc cc)) (x2 := (.int .i64 (u : Int))) (g := (w.heap.size + 1 + 1)) E (by simp)
  go_wp2_with fail
  refine (long_is (St.got E (A := Ac) (n := nc) (c := cc) (a := (k).natAbs) (by simp)) N3.out).mono ?_; rintro e w3 ⟨rfl, hb⟩
  clear p0a p0b p0c p0d p0e p0f p0g
  replace E := Lib.hid (St.step E.out hb)
  clear hb
  obtain ⟨p1a, p1b, p1c, p1d, p1e, p1f, p1g⟩ := St.at_ (x0 := (.bool (ngB j))) (x1 := (.slice Ab nb cb)) (x2 := (.int .i64 (t : Int))) (g := (w.heap.size + 1)) E (by simp)
  obtain ⟨p2a, p2b, p2c, p2d, p2e, p2f, p2g⟩ := St.at_ (x0 := (.bool (ngB i))) (x1 := (.slice Aa na ca)) (x2 := (.int .i64 (s : Int))) (g := w.heap.size) E (by simp)
  go_wp2_with fail
  refine (cmp5_is (i := i) (s := s) (j := j) (t := t) (St.got E (A := Aa) (n := na) (c := ca) (a := (i).natAbs) (by simp)) (St.got E (A := Ab) (n := nb) (c := cb) (a := (j).natAbs) (by simp)) (by omega) (by omega) (by omega) (by omega) HZ.out).mono ?_; rintro e w4 ⟨rfl, hb⟩
  clear p1a p1b p1c p1d p1e p1f p1g p2a p2b p2c p2d p2e p2f p2g
  replace E := Lib.hid (St.step E.out hb)
  clear hb
  go_wp2_with fail
  rename_i K0 hK0 K hK
  replace E := Lib.hid (St.step E.out (Below.refl _ _))
  replace E := Lib.hid (St.drew E.out)
  refine line_start (ops := opsAt Try.prog 5 4) (S := SB [((w.heap.size + 1 + 1), (.bool (ngB k)), (.slice Ac nc cc), (.int .i64 (u : Int))), ((w.heap.size + 1), (.bool (ngB j)), (.slice Ab nb cb), (.int .i64 (t : Int))), (w.heap.size, (.bool (ngB i)), (.slice Aa na ca), (.int .i64 (s : Int)))]) (by kernel_rfl) (by kernel_rfl) (St.sb E) ?_
  have hSw := St.sb E
  generalize hA : Act.mk _ _ = a
  have ha : Fr 80 a [(3, .pointer (some ⟨w.heap.size, 0, none⟩)), (4, .pointer (some ⟨(w.heap.size + 1), 0, none⟩)), (5, .pointer (some ⟨(w.heap.size + 1 + 1), 0, none⟩)), (7, .int .i64 z)] := by rw [← hA]; exact ⟨rfl, rfl, by intro q hq; simp at hq; rcases hq with rfl | rfl | rfl | rfl <;> rfl⟩
  clear hA
  refine line_still ordAR 0 0 [] 22 (.int .i64 z) [(3, .pointer (some ⟨w.heap.size, 0, none⟩)), (4, .pointer (some ⟨(w.heap.size + 1), 0, none⟩)), (5, .pointer (some ⟨(w.heap.size + 1 + 1), 0, none⟩)), (7, .int .i64 z)] rfl (by decide) (by decide) (by decide) ha (fun o ho hg => y_of (wanted_none hg) (fun wx hS => e_move (.inl ho) (ha.ev (i := 7) (v := .int .i64 z) (by simp)))) (by simp) hSw ?_; intro a ha
  refine line_still ordAR 1 1 [] 23 (.agg #[(.bool (ngB j)), (.slice Ab nb cb), (.int .i64 (t : Int))]) [(22, .int .i64 z), (3, .pointer (some ⟨w.heap.size, 0, none⟩)), (4, .pointer (some ⟨(w.heap.size + 1), 0, none⟩)), (5, .pointer (some ⟨(w.heap.size + 1 + 1), 0, none⟩)), (7, .int .i64 z)] rfl (by decide) (by decide) (by decide) ha (fun o ho hg => y_of (wanted_none hg) (fun wx hS => e_load ho (ha.ev (i := 4) (v := .pointer (some ⟨(w.heap.size + 1), 0, none⟩)) (by simp)) (hS.at_ (g := (w.heap.size + 1)) (x0 := (.bool (ngB j))) (x1 := (.slice Ab nb cb)) (x2 := (.int .i64 (t : Int))) (by simp)))) (by simp) hSw ?_; intro a ha
  refine line_still ordAR 2 2 [] 24 (.agg #[(.bool (ngB i)), (.slice Aa na ca), (.int .i64 (s : Int))]) [(23, .agg #[(.bool (ngB j)), (.slice Ab nb cb), (.int .i64 (t : Int))]), (22, .int .i64 z), (3, .pointer (some ⟨w.heap.size, 0, none⟩)), (4, .pointer (some ⟨(w.heap.size + 1), 0, none⟩)), (5, .pointer (some ⟨(w.heap.size + 1 + 1), 0, none⟩)), (7, .int .i64 z)] rfl (by decide) (by decide) (by decide) ha (fun o ho hg => y_of (wanted_none hg) (fun wx hS => e_load ho (ha.ev (i := 3) (v := .pointer (some ⟨w.heap.size, 0, none⟩)) (by simp)) (hS.at_ (g := w.heap.size) (x0 := (.bool (ngB i))) (x1 := (.slice Aa na ca)) (x2 := (.int .i64 (s : Int))) (by simp)))) (by simp) hSw ?_; intro a ha
  refine line_call ordAR 3 3 [] 25 (args := #[.agg #[(.bool (ngB j)), (.slice Ab nb cb), (.int .i64 (t : Int))], .agg #[(.bool (ngB i)), (.slice Aa na ca), (.int .i64 (s : Int))]]) [(22, .int .i64 z), (3, .pointer (some ⟨w.heap.size, 0, none⟩)), (4, .pointer (some ⟨(w.heap.size + 1), 0, none⟩)), (5, .pointer (some ⟨(w.heap.size + 1 + 1), 0, none⟩)), (7, .int .i64 z)] rfl (by decide) (by decide) (by decide) ha (fun o ho hg => ⟨(wanted_none hg), e_call (by kernel_rfl) ho rfl (by have q0 := ha.ev (i := 23) (v := .agg #[(.bool (ngB j)), (.slice Ab nb cb), (.int .i64 (t : Int))]) (by simp); have q1 := ha.ev (i := 24) (v := .agg #[(.bool (ngB i)), (.slice Aa na ca), (.int .i64 (s : Int))]) (by simp); simp only [List.map_toArray, List.map_cons, List.map_nil, ev_const, q0, q1])⟩) (by simp) ?_
  refine (cmp5_is (i := j) (s := t) (j := i) (t := s) (St.got E (A := Ab) (n := nb) (c := cb) (a := (j).natAbs) (by simp)) (St.got E (A := Aa) (n := na) (c := ca) (a := (i).natAbs) (by simp)) (by omega) (by omega) (by omega) (by omega) HT.out).mono ?_; rintro e w5 ⟨rfl, hb⟩
  replace E := Lib.hid (St.step E.out hb)
  clear hb
  have hSw := St.sb E; refine ⟨_, rfl, hSw, ?_⟩; intro a ha
  refine line_still ordAR 4 4 [] 26 (.int .i64 z) [(22, .int .i64 z), (3, .pointer (some ⟨w.heap.size, 0, none⟩)), (4, .pointer (some ⟨(w.heap.size + 1), 0, none⟩)), (5, .pointer (some ⟨(w.heap.size + 1 + 1), 0, none⟩)), (7, .int .i64 z)] rfl (by decide) (by decide) (by decide) ha (fun o ho hg => y_of (wanted_none hg) (fun wx hS => (e_neg ho (ha.ev (i := 25) (v := .int .i64 (-z)) (by simp))).trans (by rw [W1.out]))) (by simp) hSw ?_; intro a ha
  refine line_still ordAR 5 5 [] 27 (.bool false) [(3, .pointer (some ⟨w.heap.size, 0, none⟩)), (4, .pointer (some ⟨(w.heap.size + 1), 0, none⟩)), (5, .pointer (some ⟨(w.heap.size + 1 + 1), 0, none⟩)), (7, .int .i64 z)] rfl (by decide) (by decide) (by decide) ha (fun o ho hg => y_of (wanted_none hg) (fun wx hS => (e_neq ho (ha.ev (i := 22) (v := .int .i64 z) (by simp)) (ha.ev (i := 26) (v := .int .i64 z) (by simp))).trans (by rw [E1.out]))) (by simp) hSw ?_; intro a ha
  refine line_still ordAR 6 6 [] 28 (.bool false) [(3, .pointer (some ⟨w.heap.size, 0, none⟩)), (4, .pointer (some ⟨(w.heap.size + 1), 0, none⟩)), (5, .pointer (some ⟨(w.heap.size + 1 + 1), 0, none⟩)), (7, .int .i64 z)] rfl (by decide) (by decide) (by decide) ha (fun o ho hg => y_of (wanted_none hg) (fun wx hS => e_move (.inl ho) (ha.ev (i := 27) (v := .bool false) (by simp)))) (by simp) hSw ?_; intro a ha
  refine line_still ordAR 7 7 [] 29 (.int .i64 z) [(28, .bool false), (3, .pointer (some ⟨w.heap.size, 0, none⟩)), (4, .pointer (some ⟨(w.heap.size + 1), 0, none⟩)), (5, .pointer (some ⟨(w.heap.size + 1 + 1), 0, none⟩)), (7, .int .i64 z)] rfl (by decide) (by decide) (by decide) ha (fun o ho hg => y_of (ordAR.wanted hg rfl ha (d := 28) (by simp)) (fun wx hS => e_move (.inl ho) (ha.ev (i := 7) (v := .int .i64 z) (by simp)))) (by simp) hSw ?_; intro a ha
  refine line_still ordAR 8 8 [] 30 (.bool false) [(28, .bool false), (3, .pointer (some ⟨w.heap.size, 0, none⟩)), (4, .pointer (some ⟨(w.heap.size + 1), 0, none⟩)), (5, .pointer (some ⟨(w.heap.size + 1 + 1), 0, none⟩)), (7, .int .i64 z)] rfl (by decide) (by decide) (by decide) ha (fun o ho hg => y_of (ordAR.wanted hg rfl ha (d := 28) (by simp)) (fun wx hS => (e_leq ho (ha.ev (i := 29) (v := .int .i64 z) (by simp)) rfl).trans (by rw [D1.out]))) (by simp) hSw ?_; intro a ha
  refine line_still ordAR 9 9 [] 31 (.bool false) [(28, .bool false), (3, .pointer (some ⟨w.heap.size, 0, none⟩)), (4, .pointer (some ⟨(w.heap.size + 1), 0, none⟩)), (5, .pointer (some ⟨(w.heap.size + 1 + 1), 0, none⟩)), (7, .int .i64 z)] rfl (by decide) (by decide) (by decide) ha (fun o ho hg => y_of (ordAR.wanted hg rfl ha (d := 28) (by simp)) (fun wx hS => e_move (.inl ho) (ha.ev (i := 30) (v := .bool false) (by simp)))) (by simp) hSw ?_; intro a ha
  refine line_still ordAR 10 10 [] 32 undef [(31, .bool false), (28, .bool false), (3, .pointer (some ⟨w.heap.size, 0, none⟩)), (4, .pointer (some ⟨(w.heap.size + 1), 0, none⟩)), (5, .pointer (some ⟨(w.heap.size + 1 + 1), 0, none⟩)), (7, .int .i64 z)] rfl (by decide) (by decide) (by decide) ha (fun o ho hg => y_not (ordAR.unwanted hg rfl ha (d := 31) (by simp))) (by simp) hSw ?_; intro a ha
  refine line_still ordAR 11 11 [] 33 undef [(32, undef), (31, .bool false), (28, .bool false), (3, .pointer (some ⟨w.heap.size, 0, none⟩)), (4, .pointer (some ⟨(w.heap.size + 1), 0, none⟩)), (5, .pointer (some ⟨(w.heap.size + 1 + 1), 0, none⟩)), (7, .int .i64 z)] rfl (by decide) (by decide) (by decide) ha (fun o ho hg => y_not (ordAR.unwanted hg rfl ha (d := 31) (by simp))) (by simp) hSw ?_; intro a ha
  refine line_not ordAR 12 12 [] 34 [(31, .bool false), (28, .bool false), (3, .pointer (some ⟨w.heap.size, 0, none⟩)), (4, .pointer (some ⟨(w.heap.size + 1), 0, none⟩)), (5, .pointer (some ⟨(w.heap.size + 1 + 1), 0, none⟩)), (7, .int .i64 z)] rfl (by decide) (by decide) (by decide) ha (fun o ho hg => ordAR.unwanted hg rfl ha (d := 31) (by simp)) (by simp) hSw ?_; intro a ha
  refine line_still ordAR 13 13 [] 35 undef [(31, .bool false), (28, .bool false), (3, .pointer (some ⟨w.heap.size, 0, none⟩)), (4, .pointer (some ⟨(w.heap.size + 1), 0, none⟩)), (5, .pointer (some ⟨(w.heap.size + 1 + 1), 0, none⟩)), (7, .int .i64 z)] rfl (by decide) (by decide) (by decide) ha (fun o ho hg => y_not (ordAR.unwanted hg rfl ha (d := 31) (by simp))) (by simp) hSw ?_; intro a ha
  refine line_still ordAR 14 14 [] 36 (.bool false) [(28, .bool false), (3, .pointer (some ⟨w.heap.size, 0, none⟩)), (4, .pointer (some ⟨(w.heap.size + 1), 0, none⟩)), (5, .pointer (some ⟨(w.heap.size + 1 + 1), 0, none⟩)), (7, .int .i64 z)] rfl (by decide) (by decide) (by decide) ha (fun o ho hg => y_of (ordAR.wanted hg rfl ha (d := 28) (by simp)) (fun wx hS => e_pick ho (ha.ev (i := 31) (v := .bool false) (by simp)) (ha.ev (i := 35) (v := undef) (by simp)) rfl)) (by simp) hSw ?_; intro a ha
  refine line_still ordAR 15 15 [] 37 (.bool false) [(28, .bool false), (3, .pointer (some ⟨w.heap.size, 0, none⟩)), (4, .pointer (some ⟨(w.heap.size + 1), 0, none⟩)), (5, .pointer (some ⟨(w.heap.size + 1 + 1), 0, none⟩)), (7, .int .i64 z)] rfl (by decide) (by decide) (by decide) ha (fun o ho hg => y_of (ordAR.wanted hg rfl ha (d := 28) (by simp)) (fun wx hS => e_move (.inl ho) (ha.ev (i := 36) (v := .bool false) (by simp)))) (by simp) hSw ?_; intro a ha
  refine line_still ordAR 16 16 [] 38 undef [(37, .bool false), (28, .bool false), (3, .pointer (some ⟨w.heap.size, 0, none⟩)), (4, .pointer (some ⟨(w.heap.size + 1), 0, none⟩)), (5, .pointer (some ⟨(w.heap.size + 1 + 1), 0, none⟩)), (7, .int .i64 z)] rfl (by decide) (by decide) (by decide) ha (fun o ho hg => y_not (ordAR.unwanted hg rfl ha (d := 37) (by simp))) (by simp) hSw ?_; intro a ha
  refine line_still ordAR 17 17 [] 39 undef [(38, undef), (37, .bool false), (28, .bool false), (3, .pointer (some ⟨w.heap.size, 0, none⟩)), (4, .pointer (some ⟨(w.heap.size + 1), 0, none⟩)), (5, .pointer (some ⟨(w.heap.size + 1 + 1), 0, none⟩)), (7, .int .i64 z)] rfl (by decide) (by decide) (by decide) ha (fun o ho hg => y_not (ordAR.unwanted hg rfl ha (d := 37) (by simp))) (by simp) hSw ?_; intro a ha
  refine line_not ordAR 18 18 [] 40 [(37, .bool false), (28, .bool false), (3, .pointer (some ⟨w.heap.size, 0, none⟩)), (4, .pointer (some ⟨(w.heap.size + 1), 0, none⟩)), (5, .pointer (some ⟨(w.heap.size + 1 + 1), 0, none⟩)), (7, .int .i64 z)] rfl (by decide) (by decide) (by decide) ha (fun o ho hg => ordAR.unwanted hg rfl ha (d := 37) (by simp)) (by simp) hSw ?_; intro a ha
  refine line_still ordAR 19 19 [] 41 undef [(37, .bool false), (28, .bool false), (3, .pointer (some ⟨w.heap.size, 0, none⟩)), (4, .pointer (some ⟨(w.heap.size + 1), 0, none⟩)), (5, .pointer (some ⟨(w.heap.size + 1 + 1), 0, none⟩)), (7, .int .i64 z)] rfl (by decide) (by decide) (by decide) ha (fun o ho hg => y_not (ordAR.unwanted hg rfl ha (d := 37) (by simp))) (by simp) hSw ?_; intro a ha
  refine line_still ordAR 20 20 [] 42 (.bool false) [(28, .bool false), (3, .pointer (some ⟨w.heap.size, 0, none⟩)), (4, .pointer (some ⟨(w.heap.size + 1), 0, none⟩)), (5, .pointer (some ⟨(w.heap.size + 1 + 1), 0, none⟩)), (7, .int .i64 z)] rfl (by decide) (by decide) (by decide) ha (fun o ho hg => y_of (ordAR.wanted hg rfl ha (d := 28) (by simp)) (fun wx hS => e_pick ho (ha.ev (i := 37) (v := .bool false) (by simp)) (ha.ev (i := 41) (v := undef) (by simp)) rfl)) (by simp) hSw ?_; intro a ha
  refine line_still ordAR 21 21 [] 43 (.bool false) [(3, .pointer (some ⟨w.heap.size, 0, none⟩)), (4, .pointer (some ⟨(w.heap.size + 1), 0, none⟩)), (5, .pointer (some ⟨(w.heap.size + 1 + 1), 0, none⟩)), (7, .int .i64 z)] rfl (by decide) (by decide) (by decide) ha (fun o ho hg => y_of (wanted_none hg) (fun wx hS => e_pick ho (ha.ev (i := 28) (v := .bool false) (by simp)) rfl (ha.ev (i := 42) (v := .bool false) (by simp)))) (by simp) hSw ?_; intro a ha
  refine line_still ordAR 22 22 [] 44 (.bool false) [(3, .pointer (some ⟨w.heap.size, 0, none⟩)), (4, .pointer (some ⟨(w.heap.size + 1), 0, none⟩)), (5, .pointer (some ⟨(w.heap.size + 1 + 1), 0, none⟩)), (7, .int .i64 z)] rfl (by decide) (by decide) (by decide) ha (fun o ho hg => y_of (wanted_none hg) (fun wx hS => e_move (.inl ho) (ha.ev (i := 43) (v := .bool false) (by simp)))) (by simp) hSw ?_; intro a ha
  refine line_still ordAR 23 23 [] 45 (.agg #[(.bool (ngB i)), (.slice Aa na ca), (.int .i64 (s : Int))]) [(44, .bool false), (3, .pointer (some ⟨w.heap.size, 0, none⟩)), (4, .pointer (some ⟨(w.heap.size + 1), 0, none⟩)), (5, .pointer (some ⟨(w.heap.size + 1 + 1), 0, none⟩)), (7, .int .i64 z)] rfl (by decide) (by decide) (by decide) ha (fun o ho hg => y_of (ordAR.wanted hg rfl ha (d := 44) (by simp)) (fun wx hS => e_load ho (ha.ev (i := 3) (v := .pointer (some ⟨w.heap.size, 0, none⟩)) (by simp)) (hS.at_ (g := w.heap.size) (x0 := (.bool (ngB i))) (x1 := (.slice Aa na ca)) (x2 := (.int .i64 (s : Int))) (by simp)))) (by simp) hSw ?_; intro a ha
  refine line_ahead ordAR 24 24 [] 25 47 (.agg #[(.bool (ngB j)), (.slice Ab nb cb), (.int .i64 (t : Int))]) [(45, .agg #[(.bool (ngB i)), (.slice Aa na ca), (.int .i64 (s : Int))]), (44, .bool false), (3, .pointer (some ⟨w.heap.size, 0, none⟩)), (4, .pointer (some ⟨(w.heap.size + 1), 0, none⟩)), (5, .pointer (some ⟨(w.heap.size + 1 + 1), 0, none⟩)), (7, .int .i64 z)] rfl (by decide) (by decide) (by decide) ha (fun o ho hg => y_of (ordAR.wanted hg rfl ha (d := 44) (by simp)) (fun wx hS => e_load ho (ha.ev (i := 4) (v := .pointer (some ⟨(w.heap.size + 1), 0, none⟩)) (by simp)) (hS.at_ (g := (w.heap.size + 1)) (x0 := (.bool (ngB j))) (x1 := (.slice Ab nb cb)) (x2 := (.int .i64 (t : Int))) (by simp)))) (by simp) hSw ?_; intro a ha
  refine line_ahead ordAR 25 24 [25] 28 50 (.int .i64 z) [(47, .agg #[(.bool (ngB j)), (.slice Ab nb cb), (.int .i64 (t : Int))]), (45, .agg #[(.bool (ngB i)), (.slice Aa na ca), (.int .i64 (s : Int))]), (44, .bool false), (3, .pointer (some ⟨w.heap.size, 0, none⟩)), (4, .pointer (some ⟨(w.heap.size + 1), 0, none⟩)), (5, .pointer (some ⟨(w.heap.size + 1 + 1), 0, none⟩)), (7, .int .i64 z)] rfl (by decide) (by decide) (by decide) ha (fun o ho hg => y_of (ordAR.wanted hg rfl ha (d := 44) (by simp)) (fun wx hS => e_move (.inl ho) (ha.ev (i := 7) (v := .int .i64 z) (by simp)))) (by simp) hSw ?_; intro a ha
  refine line_ahead ordAR 26 24 [28, 25] 29 51 (.int .i64 (-z)) [(47, .agg #[(.bool (ngB j)), (.slice Ab nb cb), (.int .i64 (t : Int))]), (45, .agg #[(.bool (ngB i)), (.slice Aa na ca), (.int .i64 (s : Int))]), (44, .bool false), (3, .pointer (some ⟨w.heap.size, 0, none⟩)), (4, .pointer (some ⟨(w.heap.size + 1), 0, none⟩)), (5, .pointer (some ⟨(w.heap.size + 1 + 1), 0, none⟩)), (7, .int .i64 z)] rfl (by decide) (by decide) (by decide) ha (fun o ho hg => y_of (ordAR.wanted hg rfl ha (d := 44) (by simp)) (fun wx hS => (e_neg ho (ha.ev (i := 50) (v := .int .i64 z) (by simp))).trans (by rw [W2.out]))) (by simp) hSw ?_; intro a ha
  refine line_call ordAR 27 24 [29, 28, 25] 46 (args := #[.agg #[(.bool (ngB i)), (.slice Aa na ca), (.int .i64 (s : Int))]]) [(51, .int .i64 (-z)), (47, .agg #[(.bool (ngB j)), (.slice Ab nb cb), (.int .i64 (t : Int))]), (44, .bool false), (3, .pointer (some ⟨w.heap.size, 0, none⟩)), (4, .pointer (some ⟨(w.heap.size + 1), 0, none⟩)), (5, .pointer (some ⟨(w.heap.size + 1 + 1), 0, none⟩)), (7, .int .i64 z)] rfl (by decide) (by decide) (by decide) ha (fun o ho hg => ⟨(ordAR.wanted hg rfl ha (d := 44) (by simp)), e_call (by kernel_rfl) ho rfl (by have q0 := ha.ev (i := 45) (v := .agg #[(.bool (ngB i)), (.slice Aa na ca), (.int .i64 (s : Int))]) (by simp); simp only [List.map_toArray, List.map_cons, List.map_nil, ev_const, q0])⟩) (by simp) ?_
  refine (neg_is5 (i := i) (s := s) (St.got E (A := Aa) (n := na) (c := ca) (a := (i).natAbs) (by simp)) (by omega) (by omega) HX1.out).mono ?_; rintro e w6 ⟨A6, n6, c6, rfl, h, hb⟩
  have b6 : n6 ≤ 168 := len_le h HL1.out
  replace E := Lib.hid (St.push E.out hb h)
  clear h hb
  have hSw := St.sb E; refine ⟨_, rfl, hSw, ?_⟩; intro a ha
  refine line_skip [29, 28] (by intro i; simp <;> omega) ?_
  refine line_call ordAR 28 26 [29, 28] 48 (args := #[.agg #[(.bool (ngB j)), (.slice Ab nb cb), (.int .i64 (t : Int))]]) [(46, .agg #[.bool (ngB x1), .slice A6 n6 c6, .int .i64 (s : Int)]), (51, .int .i64 (-z)), (44, .bool false), (3, .pointer (some ⟨w.heap.size, 0, none⟩)), (4, .pointer (some ⟨(w.heap.size + 1), 0, none⟩)), (5, .pointer (some ⟨(w.heap.size + 1 + 1), 0, none⟩)), (7, .int .i64 z)] rfl (by decide) (by decide) (by decide) ha (fun o ho hg => ⟨(ordAR.wanted hg rfl ha (d := 44) (by simp)), e_call (by kernel_rfl) ho rfl (by have q0 := ha.ev (i := 47) (v := .agg #[(.bool (ngB j)), (.slice Ab nb cb), (.int .i64 (t : Int))]) (by simp); simp only [List.map_toArray, List.map_cons, List.map_nil, ev_const, q0])⟩) (by simp) ?_
  refine (neg_is5 (i := j) (s := t) (St.got E (A := Ab) (n := nb) (c := cb) (a := (j).natAbs) (by simp)) (by omega) (by omega) HX2.out).mono ?_; rintro e w7 ⟨A7, n7, c7, rfl, h, hb⟩
  have b7 : n7 ≤ 168 := len_le h HL2.out
  replace E := Lib.hid (St.push E.out hb h)
  clear h hb
  have hSw := St.sb E; refine ⟨_, rfl, hSw, ?_⟩; intro a ha
  refine line_call ordAR 29 27 [29, 28] 49 (args := #[.agg #[.bool (ngB x1), .slice A6 n6 c6, .int .i64 (s : Int)], .agg #[.bool (ngB x2), .slice A7 n7 c7, .int .i64 (t : Int)]]) [(51, .int .i64 (-z)), (44, .bool false), (3, .pointer (some ⟨w.heap.size, 0, none⟩)), (4, .pointer (some ⟨(w.heap.size + 1), 0, none⟩)), (5, .pointer (some ⟨(w.heap.size + 1 + 1), 0, none⟩)), (7, .int .i64 z)] rfl (by decide) (by decide) (by decide) ha (fun o ho hg => ⟨(ordAR.wanted hg rfl ha (d := 44) (by simp)), e_call (by kernel_rfl) ho rfl (by have q0 := ha.ev (i := 46) (v := .agg #[.bool (ngB x1), .slice A6 n6 c6, .int .i64 (s : Int)]) (by simp); have q1 := ha.ev (i := 48) (v := .agg #[.bool (ngB x2), .slice A7 n7 c7, .int .i64 (t : Int)]) (by simp); simp only [List.map_toArray, List.map_cons, List.map_nil, ev_const, q0, q1])⟩) (by simp) ?_
  refine (cmp5_is (i := x1) (s := s) (j := x2) (t := t) (St.got E (A := A6) (n := n6) (c := c6) (a := (x1).natAbs) (by simp)) (St.got E (A := A7) (n := n7) (c := c7) (a := (x2).natAbs) (by simp)) (by omega) (by omega) (by omega) (by omega) F1.out).mono ?_; rintro e w8 ⟨rfl, hb⟩
  replace E := Lib.hid (St.step E.out hb)
  clear hb
  replace E : Hid (St w w8 [(Aa, na, ca, (i).natAbs), (Ab, nb, cb, (j).natAbs), (Ac, nc, cc, (k).natAbs)] [((w.heap.size + 1 + 1), (.bool (ngB k)), (.slice Ac nc cc), (.int .i64 (u : Int))), ((w.heap.size + 1), (.bool (ngB j)), (.slice Ab nb cb), (.int .i64 (t : Int))), (w.heap.size, (.bool (ngB i)), (.slice Aa na ca), (.int .i64 (s : Int)))]) := Lib.hid ((E.out).sub (by simp) (by simp))
  have hSw := St.sb E; refine ⟨_, rfl, hSw, ?_⟩; intro a ha
  refine line_skip [29] (by intro i; simp <;> omega) ?_
  refine line_skip [] (by intro i; simp <;> omega) ?_
  refine line_still ordAR 30 30 [] 52 (.bool false) [(44, .bool false), (3, .pointer (some ⟨w.heap.size, 0, none⟩)), (4, .pointer (some ⟨(w.heap.size + 1), 0, none⟩)), (5, .pointer (some ⟨(w.heap.size + 1 + 1), 0, none⟩)), (7, .int .i64 z)] rfl (by decide) (by decide) (by decide) ha (fun o ho hg => y_of (ordAR.wanted hg rfl ha (d := 44) (by simp)) (fun wx hS => (e_neq ho (ha.ev (i := 49) (v := .int .i64 (-z)) (by simp)) (ha.ev (i := 51) (v := .int .i64 (-z)) (by simp))).trans (by rw [E2.out]))) (by simp) hSw ?_; intro a ha
  refine line_still ordAR 31 31 [] 53 (.bool false) [(3, .pointer (some ⟨w.heap.size, 0, none⟩)), (4, .pointer (some ⟨(w.heap.size + 1), 0, none⟩)), (5, .pointer (some ⟨(w.heap.size + 1 + 1), 0, none⟩)), (7, .int .i64 z)] rfl (by decide) (by decide) (by decide) ha (fun o ho hg => y_of (wanted_none hg) (fun wx hS => e_pick ho (ha.ev (i := 44) (v := .bool false) (by simp)) rfl (ha.ev (i := 52) (v := .bool false) (by simp)))) (by simp) hSw ?_; intro a ha
  refine line_end ordAR rfl ?_
  simp only [Exit.then]
  refine hK _ _ ?_
  refine wp_cond_false (ha.ev (by simp)) ?_
  refine wp_skip ?_
  simp only [Exit.then]
  refine hK0 _ _ ?_
  clear hK hK0 K K0
  refine wp_seq_k (fun K hK => ?_)
  replace E := Lib.hid (St.drew E.out)
  refine line_start (ops := opsAt Try.prog 5 6) (S := SB [((w.heap.size + 1 + 1), (.bool (ngB k)), (.slice Ac nc cc), (.int .i64 (u : Int))), ((w.heap.size + 1), (.bool (ngB j)), (.slice Ab nb cb), (.int .i64 (t : Int))), (w.heap.size, (.bool (ngB i)), (.slice Aa na ca), (.int .i64 (s : Int)))]) (by kernel_rfl) (by kernel_rfl) (St.sb E) ?_
  have hSw := St.sb E
  refine line_still ordBR 0 0 [] 54 (.agg #[(.bool (ngB i)), (.slice Aa na ca), (.int .i64 (s : Int))]) [(3, .pointer (some ⟨w.heap.size, 0, none⟩)), (4, .pointer (some ⟨(w.heap.size + 1), 0, none⟩)), (5, .pointer (some ⟨(w.heap.size + 1 + 1), 0, none⟩)), (7, .int .i64 z)] rfl (by decide) (by decide) (by decide) ha (fun o ho hg => y_of (wanted_none hg) (fun wx hS => e_load ho (ha.ev (i := 3) (v := .pointer (some ⟨w.heap.size, 0, none⟩)) (by simp)) (hS.at_ (g := w.heap.size) (x0 := (.bool (ngB i))) (x1 := (.slice Aa na ca)) (x2 := (.int .i64 (s : Int))) (by simp)))) (by simp) hSw ?_; intro a ha
  refine line_still ordBR 1 1 [] 55 (.agg #[(.bool (ngB k)), (.slice Ac nc cc), (.int .i64 (u : Int))]) [(54, .agg #[(.bool (ngB i)), (.slice Aa na ca), (.int .i64 (s : Int))]), (3, .pointer (some ⟨w.heap.size, 0, none⟩)), (4, .pointer (some ⟨(w.heap.size + 1), 0, none⟩)), (5, .pointer (some ⟨(w.heap.size + 1 + 1), 0, none⟩)), (7, .int .i64 z)] rfl (by decide) (by decide) (by decide) ha (fun o ho hg => y_of (wanted_none hg) (fun wx hS => e_load ho (ha.ev (i := 5) (v := .pointer (some ⟨(w.heap.size + 1 + 1), 0, none⟩)) (by simp)) (hS.at_ (g := (w.heap.size + 1 + 1)) (x0 := (.bool (ngB k))) (x1 := (.slice Ac nc cc)) (x2 := (.int .i64 (u : Int))) (by simp)))) (by simp) hSw ?_; intro a ha
  refine line_ahead ordBR 2 2 [] 3 57 (.agg #[(.bool (ngB j)), (.slice Ab nb cb), (.int .i64 (t : Int))]) [(55, .agg #[(.bool (ngB k)), (.slice Ac nc cc), (.int .i64 (u : Int))]), (54, .agg #[(.bool (ngB i)), (.slice Aa na ca), (.int .i64 (s : Int))]), (3, .pointer (some ⟨w.heap.size, 0, none⟩)), (4, .pointer (some ⟨(w.heap.size + 1), 0, none⟩)), (5, .pointer (some ⟨(w.heap.size + 1 + 1), 0, none⟩)), (7, .int .i64 z)] rfl (by decide) (by decide) (by decide) ha (fun o ho hg => y_of (wanted_none hg) (fun wx hS => e_load ho (ha.ev (i := 4) (v := .pointer (some ⟨(w.heap.size + 1), 0, none⟩)) (by simp)) (hS.at_ (g := (w.heap.size + 1)) (x0 := (.bool (ngB j))) (x1 := (.slice Ab nb cb)) (x2 := (.int .i64 (t : Int))) (by simp)))) (by simp) hSw ?_; intro a ha
  refine line_ahead ordBR 3 2 [3] 4 58 (.agg #[(.bool (ngB k)), (.slice Ac nc cc), (.int .i64 (u : Int))]) [(57, .agg #[(.bool (ngB j)), (.slice Ab nb cb), (.int .i64 (t : Int))]), (55, .agg #[(.bool (ngB k)), (.slice Ac nc cc), (.int .i64 (u : Int))]), (54, .agg #[(.bool (ngB i)), (.slice Aa na ca), (.int .i64 (s : Int))]), (3, .pointer (some ⟨w.heap.size, 0, none⟩)), (4, .pointer (some ⟨(w.heap.size + 1), 0, none⟩)), (7, .int .i64 z)] rfl (by decide) (by decide) (by decide) ha (fun o ho hg => y_of (wanted_none hg) (fun wx hS => e_load ho (ha.ev (i := 5) (v := .pointer (some ⟨(w.heap.size + 1 + 1), 0, none⟩)) (by simp)) (hS.at_ (g := (w.heap.size + 1 + 1)) (x0 := (.bool (ngB k))) (x1 := (.slice Ac nc cc)) (x2 := (.int .i64 (u : Int))) (by simp)))) (by simp) hSw ?_; intro a ha
  refine line_ahead ordBR 4 2 [4, 3] 7 61 (.int .i64 z) [(58, .agg #[(.bool (ngB k)), (.slice Ac nc cc), (.int .i64 (u : Int))]), (57, .agg #[(.bool (ngB j)), (.slice Ab nb cb), (.int .i64 (t : Int))]), (55, .agg #[(.bool (ngB k)), (.slice Ac nc cc), (.int .i64 (u : Int))]), (54, .agg #[(.bool (ngB i)), (.slice Aa na ca), (.int .i64 (s : Int))]), (3, .pointer (some ⟨w.heap.size, 0, none⟩)), (4, .pointer (some ⟨(w.heap.size + 1), 0, none⟩)), (7, .int .i64 z)] rfl (by decide) (by decide) (by decide) ha (fun o ho hg => y_of (wanted_none hg) (fun wx hS => e_move (.inl ho) (ha.ev (i := 7) (v := .int .i64 z) (by simp)))) (by simp) hSw ?_; intro a ha
  refine line_call ordBR 5 2 [7, 4, 3] 56 (args := #[.agg #[(.bool (ngB i)), (.slice Aa na ca), (.int .i64 (s : Int))], .agg #[(.bool (ngB k)), (.slice Ac nc cc), (.int .i64 (u : Int))]]) [(61, .int .i64 z), (58, .agg #[(.bool (ngB k)), (.slice Ac nc cc), (.int .i64 (u : Int))]), (57, .agg #[(.bool (ngB j)), (.slice Ab nb cb), (.int .i64 (t : Int))]), (3, .pointer (some ⟨w.heap.size, 0, none⟩)), (4, .pointer (some ⟨(w.heap.size + 1), 0, none⟩)), (7, .int .i64 z)] rfl (by decide) (by decide) (by decide) ha (fun o ho hg => ⟨(wanted_none hg), e_call (by kernel_rfl) ho rfl (by have q0 := ha.ev (i := 54) (v := .agg #[(.bool (ngB i)), (.slice Aa na ca), (.int .i64 (s : Int))]) (by simp); have q1 := ha.ev (i := 55) (v := .agg #[(.bool (ngB k)), (.slice Ac nc cc), (.int .i64 (u : Int))]) (by simp); simp only [List.map_toArray, List.map_cons, List.map_nil, ev_const, q0, q1])⟩) (by simp) ?_
  refine (add_is5 (i := i) (s := s) (j := k) (t := u) (St.got E (A := Aa) (n := na) (c := ca) (a := (i).natAbs) (by simp)) (St.got E (A := Ac) (n := nc) (c := cc) (a := (k).natAbs) (by simp)) (by omega) (by omega) (by omega) (by omega) HS3.out HX3.out).mono ?_; rintro e w9 ⟨A9, n9, c9, rfl, h, hb⟩
  have b9 : n9 ≤ 169 := len_le h HL3.out
  replace E := Lib.hid (St.push E.out hb h)
  clear h hb
  have hSw := St.sb E; refine ⟨_, rfl, hSw, ?_⟩; intro a ha
  refine line_skip [7, 4] (by intro i; simp <;> omega) ?_
  refine line_skip [7] (by intro i; simp <;> omega) ?_
  refine line_call ordBR 6 5 [7] 59 (args := #[.agg #[(.bool (ngB j)), (.slice Ab nb cb), (.int .i64 (t : Int))], .agg #[(.bool (ngB k)), (.slice Ac nc cc), (.int .i64 (u : Int))]]) [(56, .agg #[.bool (ngB x3), .slice A9 n9 c9, .int .i64 (s3 : Int)]), (61, .int .i64 z), (3, .pointer (some ⟨w.heap.size, 0, none⟩)), (4, .pointer (some ⟨(w.heap.size + 1), 0, none⟩)), (7, .int .i64 z)] rfl (by decide) (by decide) (by decide) ha (fun o ho hg => ⟨(wanted_none hg), e_call (by kernel_rfl) ho rfl (by have q0 := ha.ev (i := 57) (v := .agg #[(.bool (ngB j)), (.slice Ab nb cb), (.int .i64 (t : Int))]) (by simp); have q1 := ha.ev (i := 58) (v := .agg #[(.bool (ngB k)), (.slice Ac nc cc), (.int .i64 (u : Int))]) (by simp); simp only [List.map_toArray, List.map_cons, List.map_nil, ev_const, q0, q1])⟩) (by simp) ?_
  refine (add_is5 (i := j) (s := t) (j := k) (t := u) (St.got E (A := Ab) (n := nb) (c := cb) (a := (j).natAbs) (by simp)) (St.got E (A := Ac) (n := nc) (c := cc) (a := (k).natAbs) (by simp)) (by omega) (by omega) (by omega) (by omega) HS4.out HX4.out).mono ?_; rintro e w10 ⟨A10, n10, c10, rfl, h, hb⟩
  have b10 : n10 ≤ 169 := len_le h HL4.out
  replace E := Lib.hid (St.push E.out hb h)
  clear h hb
  have hSw := St.sb E; refine ⟨_, rfl, hSw, ?_⟩; intro a ha
  refine line_call ordBR 7 6 [7] 60 (args := #[.agg #[.bool (ngB x3), .slice A9 n9 c9, .int .i64 (s3 : Int)], .agg #[.bool (ngB x4), .slice A10 n10 c10, .int .i64 (s4 : Int)]]) [(61, .int .i64 z), (3, .pointer (some ⟨w.heap.size, 0, none⟩)), (4, .pointer (some ⟨(w.heap.size + 1), 0, none⟩)), (7, .int .i64 z)] rfl (by decide) (by decide) (by decide) ha (fun o ho hg => ⟨(wanted_none hg), e_call (by kernel_rfl) ho rfl (by have q0 := ha.ev (i := 56) (v := .agg #[.bool (ngB x3), .slice A9 n9 c9, .int .i64 (s3 : Int)]) (by simp); have q1 := ha.ev (i := 59) (v := .agg #[.bool (ngB x4), .slice A10 n10 c10, .int .i64 (s4 : Int)]) (by simp); simp only [List.map_toArray, List.map_cons, List.map_nil, ev_const, q0, q1])⟩) (by simp) ?_
  refine (cmp5_is (i := x3) (s := s3) (j := x4) (t := s4) (St.got E (A := A9) (n := n9) (c := c9) (a := (x3).natAbs) (by simp)) (St.got E (A := A10) (n := n10) (c := c10) (a := (x4).natAbs) (by simp)) (by omega) (by omega) (by omega) (by omega) F2.out).mono ?_; rintro e w11 ⟨rfl, hb⟩
  replace E := Lib.hid (St.step E.out hb)
  clear hb
  replace E : Hid (St w w11 [(Aa, na, ca, (i).natAbs), (Ab, nb, cb, (j).natAbs), (Ac, nc, cc, (k).natAbs)] [((w.heap.size + 1 + 1), (.bool (ngB k)), (.slice Ac nc cc), (.int .i64 (u : Int))), ((w.heap.size + 1), (.bool (ngB j)), (.slice Ab nb cb), (.int .i64 (t : Int))), (w.heap.size, (.bool (ngB i)), (.slice Aa na ca), (.int .i64 (s : Int)))]) := Lib.hid ((E.out).sub (by simp) (by simp))
  have hSw := St.sb E; refine ⟨_, rfl, hSw, ?_⟩; intro a ha
  refine line_skip [] (by intro i; simp <;> omega) ?_
  refine line_still ordBR 8 8 [] 62 (.bool true) [(3, .pointer (some ⟨w.heap.size, 0, none⟩)), (4, .pointer (some ⟨(w.heap.size + 1), 0, none⟩)), (7, .int .i64 z)] rfl (by decide) (by decide) (by decide) ha (fun o ho hg => y_of (wanted_none hg) (fun wx hS => (e_eql ho (ha.ev (i := 60) (v := .int .i64 z) (by simp)) (ha.ev (i := 61) (v := .int .i64 z) (by simp))).trans (by rw [E3.out]))) (by simp) hSw ?_; intro a ha
  refine line_still ordBR 9 9 [] 63 (.bool true) [(3, .pointer (some ⟨w.heap.size, 0, none⟩)), (4, .pointer (some ⟨(w.heap.size + 1), 0, none⟩)), (7, .int .i64 z)] rfl (by decide) (by decide) (by decide) ha (fun o ho hg => y_of (wanted_none hg) (fun wx hS => e_move (.inl ho) (ha.ev (i := 62) (v := .bool true) (by simp)))) (by simp) hSw ?_; intro a ha
  refine line_still ordBR 10 10 [] 64 (.agg #[(.bool (ngB i)), (.slice Aa na ca), (.int .i64 (s : Int))]) [(63, .bool true), (3, .pointer (some ⟨w.heap.size, 0, none⟩)), (4, .pointer (some ⟨(w.heap.size + 1), 0, none⟩)), (7, .int .i64 z)] rfl (by decide) (by decide) (by decide) ha (fun o ho hg => y_of (ordBR.wanted hg rfl ha (d := 63) (by simp)) (fun wx hS => e_load ho (ha.ev (i := 3) (v := .pointer (some ⟨w.heap.size, 0, none⟩)) (by simp)) (hS.at_ (g := w.heap.size) (x0 := (.bool (ngB i))) (x1 := (.slice Aa na ca)) (x2 := (.int .i64 (s : Int))) (by simp)))) (by simp) hSw ?_; intro a ha
  refine line_still ordBR 11 11 [] 65 (.agg #[(.bool (ngB j)), (.slice Ab nb cb), (.int .i64 (t : Int))]) [(64, .agg #[(.bool (ngB i)), (.slice Aa na ca), (.int .i64 (s : Int))]), (63, .bool true), (3, .pointer (some ⟨w.heap.size, 0, none⟩)), (7, .int .i64 z)] rfl (by decide) (by decide) (by decide) ha (fun o ho hg => y_of (ordBR.wanted hg rfl ha (d := 63) (by simp)) (fun wx hS => e_load ho (ha.ev (i := 4) (v := .pointer (some ⟨(w.heap.size + 1), 0, none⟩)) (by simp)) (hS.at_ (g := (w.heap.size + 1)) (x0 := (.bool (ngB j))) (x1 := (.slice Ab nb cb)) (x2 := (.int .i64 (t : Int))) (by simp)))) (by simp) hSw ?_; intro a ha
  refine line_ahead ordBR 12 12 [] 14 68 (.int .i64 z) [(65, .agg #[(.bool (ngB j)), (.slice Ab nb cb), (.int .i64 (t : Int))]), (64, .agg #[(.bool (ngB i)), (.slice Aa na ca), (.int .i64 (s : Int))]), (63, .bool true), (3, .pointer (some ⟨w.heap.size, 0, none⟩))] rfl (by decide) (by decide) (by decide) ha (fun o ho hg => y_of (ordBR.wanted hg rfl ha (d := 63) (by simp)) (fun wx hS => e_move (.inl ho) (ha.ev (i := 7) (v := .int .i64 z) (by simp)))) (by simp) hSw ?_; intro a ha
  refine line_call ordBR 13 12 [14] 66 (args := #[.agg #[(.bool (ngB i)), (.slice Aa na ca), (.int .i64 (s : Int))], .agg #[(.bool (ngB j)), (.slice Ab nb cb), (.int .i64 (t : Int))]]) [(68, .int .i64 z), (63, .bool true), (3, .pointer (some ⟨w.heap.size, 0, none⟩))] rfl (by decide) (by decide) (by decide) ha (fun o ho hg => ⟨(ordBR.wanted hg rfl ha (d := 63) (by simp)), e_call (by kernel_rfl) ho rfl (by have q0 := ha.ev (i := 64) (v := .agg #[(.bool (ngB i)), (.slice Aa na ca), (.int .i64 (s : Int))]) (by simp); have q1 := ha.ev (i := 65) (v := .agg #[(.bool (ngB j)), (.slice Ab nb cb), (.int .i64 (t : Int))]) (by simp); simp only [List.map_toArray, List.map_cons, List.map_nil, ev_const, q0, q1])⟩) (by simp) ?_
  refine (sub_is5 (i := i) (s := s) (j := j) (t := t) (St.got E (A := Aa) (n := na) (c := ca) (a := (i).natAbs) (by simp)) (St.got E (A := Ab) (n := nb) (c := cb) (a := (j).natAbs) (by simp)) (by omega) (by omega) (by omega) (by omega) HS5.out HX5.out).mono ?_; rintro e w12 ⟨A12, n12, c12, rfl, h, hb⟩
  have b12 : n12 ≤ 169 := len_le h HL5.out
  replace E := Lib.hid (St.push E.out hb h)
  clear h hb
  have hSw := St.sb E; refine ⟨_, rfl, hSw, ?_⟩; intro a ha
  refine line_call ordBR 14 13 [14] 67 (args := #[.agg #[.bool (ngB x5), .slice A12 n12 c12, .int .i64 (s5 : Int)]]) [(68, .int .i64 z), (63, .bool true), (3, .pointer (some ⟨w.heap.size, 0, none⟩))] rfl (by decide) (by decide) (by decide) ha (fun o ho hg => ⟨(ordBR.wanted hg rfl ha (d := 63) (by simp)), e_call (by kernel_rfl) ho rfl (by have q0 := ha.ev (i := 66) (v := .agg #[.bool (ngB x5), .slice A12 n12 c12, .int .i64 (s5 : Int)]) (by simp); simp only [List.map_toArray, List.map_cons, List.map_nil, ev_const, q0])⟩) (by simp) ?_
  refine (sign_is (i := x5) (s := s5) (St.got E (A := A12) (n := n12) (c := c12) (a := (x5).natAbs) (by simp)) F3.out).mono ?_; rintro e w13 ⟨rfl, hb⟩
  replace E := Lib.hid (St.step E.out hb)
  clear hb
  replace E : Hid (St w w13 [(Aa, na, ca, (i).natAbs), (Ab, nb, cb, (j).natAbs), (Ac, nc, cc, (k).natAbs)] [((w.heap.size + 1 + 1), (.bool (ngB k)), (.slice Ac nc cc), (.int .i64 (u : Int))), ((w.heap.size + 1), (.bool (ngB j)), (.slice Ab nb cb), (.int .i64 (t : Int))), (w.heap.size, (.bool (ngB i)), (.slice Aa na ca), (.int .i64 (s : Int)))]) := Lib.hid ((E.out).sub (by simp) (by simp))
  have hSw := St.sb E; refine ⟨_, rfl, hSw, ?_⟩; intro a ha
  refine line_skip [] (by intro i; simp <;> omega) ?_
  refine line_still ordBR 15 15 [] 69 (.bool true) [(63, .bool true), (3, .pointer (some ⟨w.heap.size, 0, none⟩))] rfl (by decide) (by decide) (by decide) ha (fun o ho hg => y_of (ordBR.wanted hg rfl ha (d := 63) (by simp)) (fun wx hS => (e_eql ho (ha.ev (i := 67) (v := .int .i64 z) (by simp)) (ha.ev (i := 68) (v := .int .i64 z) (by simp))).trans (by rw [E3.out]))) (by simp) hSw ?_; intro a ha
  refine line_still ordBR 16 16 [] 70 (.bool true) [(3, .pointer (some ⟨w.heap.size, 0, none⟩))] rfl (by decide) (by decide) (by decide) ha (fun o ho hg => y_of (wanted_none hg) (fun wx hS => e_pick ho (ha.ev (i := 63) (v := .bool true) (by simp)) (ha.ev (i := 69) (v := .bool true) (by simp)) rfl)) (by simp) hSw ?_; intro a ha
  refine line_still ordBR 17 17 [] 71 (.bool true) [(3, .pointer (some ⟨w.heap.size, 0, none⟩))] rfl (by decide) (by decide) (by decide) ha (fun o ho hg => y_of (wanted_none hg) (fun wx hS => e_move (.inl ho) (ha.ev (i := 70) (v := .bool true) (by simp)))) (by simp) hSw ?_; intro a ha
  refine line_still ordBR 18 18 [] 72 (.agg #[(.bool (ngB i)), (.slice Aa na ca), (.int .i64 (s : Int))]) [(71, .bool true)] rfl (by decide) (by decide) (by decide) ha (fun o ho hg => y_of (ordBR.wanted hg rfl ha (d := 71) (by simp)) (fun wx hS => e_load ho (ha.ev (i := 3) (v := .pointer (some ⟨w.heap.size, 0, none⟩)) (by simp)) (hS.at_ (g := w.heap.size) (x0 := (.bool (ngB i))) (x1 := (.slice Aa na ca)) (x2 := (.int .i64 (s : Int))) (by simp)))) (by simp) hSw ?_; intro a ha
  refine line_call ordBR 19 19 [] 73 (args := #[.agg #[(.bool (ngB i)), (.slice Aa na ca), (.int .i64 (s : Int))]]) [(71, .bool true)] rfl (by decide) (by decide) (by decide) ha (fun o ho hg => ⟨(ordBR.wanted hg rfl ha (d := 71) (by simp)), e_call (by kernel_rfl) ho rfl (by have q0 := ha.ev (i := 72) (v := .agg #[(.bool (ngB i)), (.slice Aa na ca), (.int .i64 (s : Int))]) (by simp); simp only [List.map_toArray, List.map_cons, List.map_nil, ev_const, q0])⟩) (by simp) ?_
  refine (abs_is5 (i := i) (s := s) (St.got E (A := Aa) (n := na) (c := ca) (a := (i).natAbs) (by simp)) (by omega) (by omega) HX6.out).mono ?_; rintro e w14 ⟨A14, n14, c14, rfl, h, hb⟩
  have b14 : n14 ≤ 168 := len_le h HL6.out
  replace E := Lib.hid (St.push E.out hb h)
  clear h hb
  have hSw := St.sb E; refine ⟨_, rfl, hSw, ?_⟩; intro a ha
  refine line_call ordBR 20 20 [] 74 (args := #[.agg #[.bool (ngB x6), .slice A14 n14 c14, .int .i64 (s : Int)]]) [(71, .bool true)] rfl (by decide) (by decide) (by decide) ha (fun o ho hg => ⟨(ordBR.wanted hg rfl ha (d := 71) (by simp)), e_call (by kernel_rfl) ho rfl (by have q0 := ha.ev (i := 73) (v := .agg #[.bool (ngB x6), .slice A14 n14 c14, .int .i64 (s : Int)]) (by simp); simp only [List.map_toArray, List.map_cons, List.map_nil, ev_const, q0])⟩) (by simp) ?_
  refine (sign_is (i := x6) (s := s) (St.got E (A := A14) (n := n14) (c := c14) (a := (x6).natAbs) (by simp)) HSG.out).mono ?_; rintro e w15 ⟨rfl, hb⟩
  replace E := Lib.hid (St.step E.out hb)
  clear hb
  replace E : Hid (St w w15 [(Aa, na, ca, (i).natAbs), (Ab, nb, cb, (j).natAbs), (Ac, nc, cc, (k).natAbs)] [((w.heap.size + 1 + 1), (.bool (ngB k)), (.slice Ac nc cc), (.int .i64 (u : Int))), ((w.heap.size + 1), (.bool (ngB j)), (.slice Ab nb cb), (.int .i64 (t : Int))), (w.heap.size, (.bool (ngB i)), (.slice Aa na ca), (.int .i64 (s : Int)))]) := Lib.hid ((E.out).sub (by simp) (by simp))
  have hSw := St.sb E; refine ⟨_, rfl, hSw, ?_⟩; intro a ha
  refine line_still ordBR 21 21 [] 75 (.bool true) [(71, .bool true)] rfl (by decide) (by decide) (by decide) ha (fun o ho hg => y_of (ordBR.wanted hg rfl ha (d := 71) (by simp)) (fun wx hS => (e_geq ho (ha.ev (i := 74) (v := .int .i64 sg) (by simp)) rfl).trans (by rw [D4.out]))) (by simp) hSw ?_; intro a ha
  refine line_still ordBR 22 22 [] 76 (.bool true) [] rfl (by decide) (by decide) (by decide) ha (fun o ho hg => y_of (wanted_none hg) (fun wx hS => e_pick ho (ha.ev (i := 71) (v := .bool true) (by simp)) (ha.ev (i := 75) (v := .bool true) (by simp)) rfl)) (by simp) hSw ?_; intro a ha
  refine line_still ordBR 23 23 [] 77 (.bool true) [] rfl (by decide) (by decide) (by decide) ha (fun o ho hg => y_of (wanted_none hg) (fun wx hS => e_move (.inl ho) (ha.ev (i := 76) (v := .bool true) (by simp)))) (by simp) hSw ?_; intro a ha
  refine line_call ordBR 24 24 [] 78 (args := #[]) [(77, .bool true)] rfl (by decide) (by decide) (by decide) ha (fun o ho hg => ⟨(ordBR.wanted hg rfl ha (d := 77) (by simp)), e_call (by kernel_rfl) ho rfl (by simp only [List.map_toArray, List.map_cons, List.map_nil, ev_const])⟩) (by simp) ?_
  refine (awake5 _).mono ?_; rintro e w16 ⟨rfl, hb⟩
  replace E := Lib.hid (St.step E.out hb)
  clear hb
  have hSw := St.sb E; refine ⟨_, rfl, hSw, ?_⟩; intro a ha
  refine line_still ordBR 25 25 [] 79 (.bool true) [] rfl (by decide) (by decide) (by decide) ha (fun o ho hg => y_of (wanted_none hg) (fun wx hS => e_pick ho (ha.ev (i := 77) (v := .bool true) (by simp)) (ha.ev (i := 78) (v := .bool true) (by simp)) rfl)) (by simp) hSw ?_; intro a ha
  refine line_still ordBR 26 26 [] 6 (.bool true) [] rfl (by decide) (by decide) (by decide) ha (fun o ho hg => y_of (wanted_none hg) (fun wx hS => e_move (.inr ho) (ha.ev (i := 79) (v := .bool true) (by simp)))) (by simp) hSw ?_; intro a ha
  refine line_end ordBR rfl ?_
  simp only [Exit.then]
  refine hK _ _ ?_
  go_wp2
  exact bodyPost_ret (v := .bool true) (by have := ha.2.2 (6, .bool true) (by simp); simp [results, Try.results5, go_sem, Array.getD_eq_getD_getElem?, this]) ha.2.1 ⟨rfl, E.out.bel⟩

theorem order5_any (b1 : Bool) (A1 : Option Addr) (n1 ca : Nat) (xs1 : List Nat) (k1 : Int) (b2 : Bool) (A2 : Option Addr) (n2 cb : Nat) (xs2 : List Nat) (k2 : Int) (b3 : Bool) (A3 : Option Addr) (n3 cc : Nat) (xs3 : List Nat) (k3 : Int) (w : World) (h1 : Lim w w.heap.size A1 n1 ca xs1) (h2 : Lim w w.heap.size A2 n2 cb xs2) (h3 : Lim w w.heap.size A3 n3 cc xs3) : Calls Try.prog 5 #[.agg #[.bool b1, .slice A1 n1 ca, .int .i64 k1], .agg #[.bool b2, .slice A2 n2 cb, .int .i64 k2], .agg #[.bool b3, .slice A3 n3 cc, .int .i64 k3]] w (RetVal w (.bool true)) := by
  cases l1 : longB b1 n1 xs1 k1 with
  | true => exact order_long1 b1 A1 n1 ca xs1 k1 b2 A2 n2 cb xs2 k2 b3 A3 n3 cc xs3 k3 w h1 h2 h3 l1
  | false =>
    cases l2 : longB b2 n2 xs2 k2 with
    | true => exact order_long2 b1 A1 n1 ca xs1 k1 b2 A2 n2 cb xs2 k2 b3 A3 n3 cc xs3 k3 w h1 h2 h3 l1 l2
    | false =>
      cases l3 : longB b3 n3 xs3 k3 with
      | true => exact order_long3 b1 A1 n1 ca xs1 k1 b2 A2 n2 cb xs2 k2 b3 A3 n3 cc xs3 k3 w h1 h2 h3 l1 l2 l3
      | false =>
        obtain ⟨i, s, rfl, rfl, rfl, m1, t1⟩ := of_long l1 h1
        obtain ⟨j, t, rfl, rfl, rfl, m2, t2⟩ := of_long l2 h2
        obtain ⟨k, u, rfl, rfl, rfl, m3, t3⟩ := of_long l3 h3
        rcases Int.lt_or_le 0 (cmpD i s j t) with c1 | c1
        · exact order_C A1 n1 ca s i A2 n2 cb t j A3 n3 cc u k w h1 h2 h3 m1 t1 m2 t2 m3 t3 c1
        · rcases Int.lt_or_le 0 (cmpD j t k u) with c2 | c2
          · exact order_B A1 n1 ca s i A2 n2 cb t j A3 n3 cc u k w h1 h2 h3 m1 t1 m2 t2 m3 t3 c1 c2
          · exact order_A A1 n1 ca s i A2 n2 cb t j A3 n3 cc u k w h1 h2 h3 m1 t1 m2 t2 m3 t3 c1 c2

end Go.Proofs.Ytafbkoejobkncaa
