/-
  DecRing answers true.
-/
import Derived.Test.YtafbkoejobkncaaDecT
import Derived.Test.YtafbkoejobkncaaDecU
namespace Go.Proofs.Ytafbkoejobkncaa
open Go.RowKit

set_option maxHeartbeats 2000000 in
set_option maxRecDepth 100000 in
theorem ring_long1 (b1 : Bool) (A1 : Option Addr) (n1 c1 : Nat) (xs1 : List Nat) (k1 : Int) (b2 : Bool) (A2 : Option Addr) (n2 c2 : Nat) (xs2 : List Nat) (k2 : Int) (b3 : Bool) (A3 : Option Addr) (n3 c3 : Nat) (xs3 : List Nat) (k3 : Int) (w : World) (h1 : Lim w w.heap.size A1 n1 c1 xs1) (h2 : Lim w w.heap.size A2 n2 c2 xs2) (h3 : Lim w w.heap.size A3 n3 c3 xs3) (l1 : longB b1 n1 xs1 k1 = true) : Calls Try.prog 4 #[.agg #[.bool b1, .slice A1 n1 c1, .int .i64 k1], .agg #[.bool b2, .slice A2 n2 c2, .int .i64 k2], .agg #[.bool b3, .slice A3 n3 c3, .int .i64 k3]] w (RetVal w (.bool true)) := by
  have H1 := Lib.hid h1
  have H2 := Lib.hid h2
  have H3 := Lib.hid h3
  have L1 := Lib.hid l1
  clear h1 h2 h3 l1
  go_enter Try.func4, Try.ntmps4
  go_wp2_with fail
  generalize hW : World.alloc (World.alloc (World.alloc w _) _) _ = W0
  have E0 : St w W0 [] [((w.heap.size + 1 + 1), .bool b3, .slice A3 n3 c3, .int .i64 k3), ((w.heap.size + 1), .bool b2, .slice A2 n2 c2, .int .i64 k2), (w.heap.size, .bool b1, .slice A1 n1 c1, .int .i64 k1)] := by rw [← hW]; exact (((St.start w (l := []) (fun q hq => by cases hq)).lay rfl).lay (by simp)).lay (by simp)
  have E := Lib.hid E0
  clear hW E0
  refine (long_is (H1.out.on E.out.bel) L1.out).mono ?_; rintro e w1 ⟨rfl, hb⟩; replace E := Lib.hid (St.step E.out hb); clear hb
  go_wp2_with fail
  refine (awake5 _).mono ?_; rintro e w9 ⟨rfl, hb⟩; replace E := Lib.hid (St.step E.out hb); clear hb
  go_wp2_with fail
  go_ret
  exact ⟨rfl, E.out.bel⟩

set_option maxHeartbeats 2000000 in
set_option maxRecDepth 100000 in
theorem ring_long2 (b1 : Bool) (A1 : Option Addr) (n1 c1 : Nat) (xs1 : List Nat) (k1 : Int) (b2 : Bool) (A2 : Option Addr) (n2 c2 : Nat) (xs2 : List Nat) (k2 : Int) (b3 : Bool) (A3 : Option Addr) (n3 c3 : Nat) (xs3 : List Nat) (k3 : Int) (w : World) (h1 : Lim w w.heap.size A1 n1 c1 xs1) (h2 : Lim w w.heap.size A2 n2 c2 xs2) (h3 : Lim w w.heap.size A3 n3 c3 xs3) (l1 : longB b1 n1 xs1 k1 = false) (l2 : longB b2 n2 xs2 k2 = true) : Calls Try.prog 4 #[.agg #[.bool b1, .slice A1 n1 c1, .int .i64 k1], .agg #[.bool b2, .slice A2 n2 c2, .int .i64 k2], .agg #[.bool b3, .slice A3 n3 c3, .int .i64 k3]] w (RetVal w (.bool true)) := by
  have H1 := Lib.hid h1
  have H2 := Lib.hid h2
  have H3 := Lib.hid h3
  have L1 := Lib.hid l1
  have L2 := Lib.hid l2
  clear h1 h2 h3 l1 l2
  go_enter Try.func4, Try.ntmps4
  go_wp2_with fail
  generalize hW : World.alloc (World.alloc (World.alloc w _) _) _ = W0
  have E0 : St w W0 [] [((w.heap.size + 1 + 1), .bool b3, .slice A3 n3 c3, .int .i64 k3), ((w.heap.size + 1), .bool b2, .slice A2 n2 c2, .int .i64 k2), (w.heap.size, .bool b1, .slice A1 n1 c1, .int .i64 k1)] := by rw [← hW]; exact (((St.start w (l := []) (fun q hq => by cases hq)).lay rfl).lay (by simp)).lay (by simp)
  have E := Lib.hid E0
  clear hW E0
  refine (long_is (H1.out.on E.out.bel) L1.out).mono ?_; rintro e w1 ⟨rfl, hb⟩; replace E := Lib.hid (St.step E.out hb); clear hb
  obtain ⟨p0, p1, p2, pf0, pf1, pf2, plt⟩ := St.at_ (x0 := .bool b2) (x1 := .slice A2 n2 c2) (x2 := .int .i64 k2) (g := (w.heap.size + 1)) E (by simp)
  go_wp2_with fail
  refine (long_is (H2.out.on E.out.bel) L2.out).mono ?_; rintro e w2 ⟨rfl, hb⟩; replace E := Lib.hid (St.step E.out hb); clear hb
  clear p0 p1 p2 pf0 pf1 pf2 plt
  go_wp2_with fail
  refine (awake5 _).mono ?_; rintro e w9 ⟨rfl, hb⟩; replace E := Lib.hid (St.step E.out hb); clear hb
  go_wp2_with fail
  go_ret
  exact ⟨rfl, E.out.bel⟩

set_option maxHeartbeats 2000000 in
set_option maxRecDepth 100000 in
theorem ring_long3 (b1 : Bool) (A1 : Option Addr) (n1 c1 : Nat) (xs1 : List Nat) (k1 : Int) (b2 : Bool) (A2 : Option Addr) (n2 c2 : Nat) (xs2 : List Nat) (k2 : Int) (b3 : Bool) (A3 : Option Addr) (n3 c3 : Nat) (xs3 : List Nat) (k3 : Int) (w : World) (h1 : Lim w w.heap.size A1 n1 c1 xs1) (h2 : Lim w w.heap.size A2 n2 c2 xs2) (h3 : Lim w w.heap.size A3 n3 c3 xs3) (l1 : longB b1 n1 xs1 k1 = false) (l2 : longB b2 n2 xs2 k2 = false) (l3 : longB b3 n3 xs3 k3 = true) : Calls Try.prog 4 #[.agg #[.bool b1, .slice A1 n1 c1, .int .i64 k1], .agg #[.bool b2, .slice A2 n2 c2, .int .i64 k2], .agg #[.bool b3, .slice A3 n3 c3, .int .i64 k3]] w (RetVal w (.bool true)) := by
  have H1 := Lib.hid h1
  have H2 := Lib.hid h2
  have H3 := Lib.hid h3
  have L1 := Lib.hid l1
  have L2 := Lib.hid l2
  have L3 := Lib.hid l3
  clear h1 h2 h3 l1 l2 l3
  go_enter Try.func4, Try.ntmps4
  go_wp2_with fail
  generalize hW : World.alloc (World.alloc (World.alloc w _) _) _ = W0
  have E0 : St w W0 [] [((w.heap.size + 1 + 1), .bool b3, .slice A3 n3 c3, .int .i64 k3), ((w.heap.size + 1), .bool b2, .slice A2 n2 c2, .int .i64 k2), (w.heap.size, .bool b1, .slice A1 n1 c1, .int .i64 k1)] := by rw [← hW]; exact (((St.start w (l := []) (fun q hq => by cases hq)).lay rfl).lay (by simp)).lay (by simp)
  have E := Lib.hid E0
  clear hW E0
  refine (long_is (H1.out.on E.out.bel) L1.out).mono ?_; rintro e w1 ⟨rfl, hb⟩; replace E := Lib.hid (St.step E.out hb); clear hb
  obtain ⟨p0, p1, p2, pf0, pf1, pf2, plt⟩ := St.at_ (x0 := .bool b2) (x1 := .slice A2 n2 c2) (x2 := .int .i64 k2) (g := (w.heap.size + 1)) E (by simp)
  go_wp2_with fail
  refine (long_is (H2.out.on E.out.bel) L2.out).mono ?_; rintro e w2 ⟨rfl, hb⟩; replace E := Lib.hid (St.step E.out hb); clear hb
  clear p0 p1 p2 pf0 pf1 pf2 plt
  obtain ⟨p0, p1, p2, pf0, pf1, pf2, plt⟩ := St.at_ (x0 := .bool b3) (x1 := .slice A3 n3 c3) (x2 := .int .i64 k3) (g := (w.heap.size + 1 + 1)) E (by simp)
  go_wp2_with fail
  refine (long_is (H3.out.on E.out.bel) L3.out).mono ?_; rintro e w3 ⟨rfl, hb⟩; replace E := Lib.hid (St.step E.out hb); clear hb
  clear p0 p1 p2 pf0 pf1 pf2 plt
  go_wp2_with fail
  refine (awake5 _).mono ?_; rintro e w9 ⟨rfl, hb⟩; replace E := Lib.hid (St.step E.out hb); clear hb
  go_wp2_with fail
  go_ret
  exact ⟨rfl, E.out.bel⟩

def ringT : List Row3 := [(some 22, none, .load 25 (.tmp 7)), (some 23, none, .call { callee := .value (.func 8), args := #[.tmp 22], argTypes := #[25] }), (some 24, none, .move (.tmp 23)), (some 25, some (2, true), .load 25 (.tmp 7)), (some 26, some (2, true), .load 25 (.tmp 4)), (some 27, some (2, true), .load 25 (.tmp 3)), (some 28, some (2, true), .call { callee := .value (.func 28), args := #[.tmp 26, .tmp 27], argTypes := #[25, 25] }), (some 29, some (2, true), .call { callee := .value (.func 27), args := #[.tmp 25, .tmp 28], argTypes := #[25, 25] }), (some 30, none, .pick (.tmp 24) (.tmp 29) (.const (.bool false))), (some 31, none, .move (.tmp 30)), (some 32, some (9, true), .load 25 (.tmp 7)), (some 33, some (9, true), .load 25 (.tmp 5)), (some 34, some (9, true), .call { callee := .value (.func 28), args := #[.tmp 32, .tmp 33], argTypes := #[25, 25] }), (some 35, some (9, true), .load 25 (.tmp 3)), (some 36, some (9, true), .load 25 (.tmp 4)), (some 37, some (9, true), .load 25 (.tmp 5)), (some 38, some (9, true), .call { callee := .value (.func 28), args := #[.tmp 36, .tmp 37], argTypes := #[25, 25] }), (some 39, some (9, true), .call { callee := .value (.func 28), args := #[.tmp 35, .tmp 38], argTypes := #[25, 25] }), (some 40, some (9, true), .call { callee := .value (.func 25), args := #[.tmp 34, .tmp 39], argTypes := #[25, 25] }), (some 41, none, .pick (.tmp 31) (.tmp 40) (.const (.bool false))), (some 42, none, .move (.tmp 41)), (some 43, some (20, true), .load 25 (.tmp 7)), (some 44, some (20, true), .load 25 (.tmp 4)), (some 45, some (20, true), .call { callee := .value (.func 30), args := #[.tmp 43, .tmp 44], argTypes := #[25, 25] }), (some 46, some (20, true), .load 25 (.tmp 3)), (some 47, some (20, true), .call { callee := .value (.func 25), args := #[.tmp 45, .tmp 46], argTypes := #[25, 25] }), (some 48, none, .pick (.tmp 42) (.tmp 47) (.const (.bool false))), (some 49, none, .move (.tmp 48)), (some 50, some (27, true), .load 25 (.tmp 3)), (some 51, some (27, true), .load 25 (.tmp 4)), (some 52, some (27, true), .call { callee := .value (.func 32), args := #[.tmp 50, .tmp 51], argTypes := #[25, 25] }), (some 53, some (27, true), .load 25 (.tmp 4)), (some 54, some (27, true), .load 25 (.tmp 3)), (some 55, some (27, true), .call { callee := .value (.func 32), args := #[.tmp 53, .tmp 54], argTypes := #[25, 25] }), (some 56, some (27, true), .call { callee := .value (.func 27), args := #[.tmp 52, .tmp 55], argTypes := #[25, 25] }), (some 57, none, .pick (.tmp 49) (.tmp 56) (.const (.bool false))), (some 58, none, .move (.tmp 57)), (some 59, some (36, true), .load 25 (.tmp 3)), (some 60, some (36, true), .load 25 (.tmp 4)), (some 61, some (36, true), .call { callee := .value (.func 32), args := #[.tmp 59, .tmp 60], argTypes := #[25, 25] }), (some 62, some (36, true), .load 25 (.tmp 5)), (some 63, some (36, true), .call { callee := .value (.func 32), args := #[.tmp 61, .tmp 62], argTypes := #[25, 25] }), (some 64, some (36, true), .load 25 (.tmp 3)), (some 65, some (36, true), .load 25 (.tmp 4)), (some 66, some (36, true), .load 25 (.tmp 5)), (some 67, some (36, true), .call { callee := .value (.func 32), args := #[.tmp 65, .tmp 66], argTypes := #[25, 25] }), (some 68, some (36, true), .call { callee := .value (.func 32), args := #[.tmp 64, .tmp 67], argTypes := #[25, 25] }), (some 69, some (36, true), .call { callee := .value (.func 25), args := #[.tmp 63, .tmp 68], argTypes := #[25, 25] }), (some 70, none, .pick (.tmp 58) (.tmp 69) (.const (.bool false))), (some 71, none, .move (.tmp 70)), (some 72, some (49, true), .load 25 (.tmp 7)), (some 73, some (49, true), .load 25 (.tmp 5)), (some 74, some (49, true), .call { callee := .value (.func 32), args := #[.tmp 72, .tmp 73], argTypes := #[25, 25] }), (some 75, some (49, true), .load 25 (.tmp 3)), (some 76, some (49, true), .load 25 (.tmp 5)), (some 77, some (49, true), .call { callee := .value (.func 32), args := #[.tmp 75, .tmp 76], argTypes := #[25, 25] }), (some 78, some (49, true), .load 25 (.tmp 4)), (some 79, some (49, true), .load 25 (.tmp 5)), (some 80, some (49, true), .call { callee := .value (.func 32), args := #[.tmp 78, .tmp 79], argTypes := #[25, 25] }), (some 81, some (49, true), .call { callee := .value (.func 28), args := #[.tmp 77, .tmp 80], argTypes := #[25, 25] }), (some 82, some (49, true), .call { callee := .value (.func 25), args := #[.tmp 74, .tmp 81], argTypes := #[25, 25] }), (some 83, none, .pick (.tmp 71) (.tmp 82) (.const (.bool false))), (some 84, none, .move (.tmp 83)), (some 85, some (62, true), .load 25 (.tmp 3)), (some 86, some (62, true), .load 25 (.tmp 4)), (some 87, some (62, true), .call { callee := .value (.func 32), args := #[.tmp 85, .tmp 86], argTypes := #[25, 25] }), (some 88, some (62, true), .call { callee := .value (.func 8), args := #[.tmp 87], argTypes := #[25] }), (some 89, none, .pick (.tmp 84) (.tmp 88) (.const (.bool false))), (some 90, none, .move (.tmp 89)), (some 91, some (68, true), .call { callee := .value (.func 14), args := #[], argTypes := #[] }), (some 92, none, .pick (.tmp 90) (.tmp 91) (.const (.bool false))), (some 6, none, .assign (.tmp 92))]
set_option maxRecDepth 100000 in
theorem ringRow : (opsAt Try.prog 4 4).toList.map row3 = ringT := by kernel_rfl
theorem ringSel : Region.noSelect (opsAt Try.prog 4 4) = true := by kernel_rfl
theorem ringDone : Region.ready .any (opsAt Try.prog 4 4) (upto (opsAt Try.prog 4 4).size (opsAt Try.prog 4 4).size []) = [] := by kernel_rfl
theorem ringstill0 : [(0, [], 0), (2, [], 2), (3, [], 3), (4, [], 4), (5, [], 5), (8, [], 8), (9, [], 9), (10, [], 10), (11, [], 11), (12, [], 13)].all (stillB (opsAt Try.prog 4 4)) = true := by kernel_rfl
theorem ringstill1 : [(12, [13], 14), (12, [14, 13], 15), (19, [], 19), (20, [], 20), (21, [], 21), (22, [], 22), (23, [], 24), (26, [], 26), (27, [], 27), (28, [], 28)].all (stillB (opsAt Try.prog 4 4)) = true := by kernel_rfl
theorem ringstill2 : [(29, [], 29), (30, [], 31), (30, [31], 32), (35, [], 35), (36, [], 36), (37, [], 37), (38, [], 38), (39, [], 40), (39, [40], 42), (39, [42, 40], 43)].all (stillB (opsAt Try.prog 4 4)) = true := by kernel_rfl
theorem ringstill3 : [(39, [43, 42, 40], 44), (48, [], 48), (49, [], 49), (50, [], 50), (51, [], 51), (52, [], 53), (52, [53], 54), (52, [54, 53], 56), (52, [56, 54, 53], 57), (61, [], 61)].all (stillB (opsAt Try.prog 4 4)) = true := by kernel_rfl
theorem ringstill4 : [(62, [], 62), (63, [], 63), (64, [], 64), (67, [], 67), (68, [], 68), (70, [], 70), (71, [], 71)].all (stillB (opsAt Try.prog 4 4)) = true := by kernel_rfl
theorem ringsole0 : [(1, [], 1), (6, [], 6), (7, [], 7), (12, [15, 14, 13], 12), (16, [], 16), (17, [], 17), (18, [], 18), (23, [24], 23), (25, [], 25), (30, [32, 31], 30)].all (soleB (opsAt Try.prog 4 4)) = true := by kernel_rfl
theorem ringsole1 : [(33, [], 33), (34, [], 34), (39, [44, 43, 42, 40], 39), (41, [44, 43, 42], 41), (45, [], 45), (46, [], 46), (47, [], 47), (52, [57, 56, 54, 53], 52), (55, [57, 56], 55), (58, [], 58)].all (soleB (opsAt Try.prog 4 4)) = true := by kernel_rfl
theorem ringsole2 : [(59, [], 59), (60, [], 60), (65, [], 65), (66, [], 66), (69, [], 69)].all (soleB (opsAt Try.prog 4 4)) = true := by kernel_rfl
theorem ringR : Reg (opsAt Try.prog 4 4) ringT [(0, [], 0), (2, [], 2), (3, [], 3), (4, [], 4), (5, [], 5), (8, [], 8), (9, [], 9), (10, [], 10), (11, [], 11), (12, [], 13), (12, [13], 14), (12, [14, 13], 15), (19, [], 19), (20, [], 20), (21, [], 21), (22, [], 22), (23, [], 24), (26, [], 26), (27, [], 27), (28, [], 28), (29, [], 29), (30, [], 31), (30, [31], 32), (35, [], 35), (36, [], 36), (37, [], 37), (38, [], 38), (39, [], 40), (39, [40], 42), (39, [42, 40], 43), (39, [43, 42, 40], 44), (48, [], 48), (49, [], 49), (50, [], 50), (51, [], 51), (52, [], 53), (52, [53], 54), (52, [54, 53], 56), (52, [56, 54, 53], 57), (61, [], 61), (62, [], 62), (63, [], 63), (64, [], 64), (67, [], 67), (68, [], 68), (70, [], 70), (71, [], 71)] [(1, [], 1), (6, [], 6), (7, [], 7), (12, [15, 14, 13], 12), (16, [], 16), (17, [], 17), (18, [], 18), (23, [24], 23), (25, [], 25), (30, [32, 31], 30), (33, [], 33), (34, [], 34), (39, [44, 43, 42, 40], 39), (41, [44, 43, 42], 41), (45, [], 45), (46, [], 46), (47, [], 47), (52, [57, 56, 54, 53], 52), (55, [57, 56], 55), (58, [], 58), (59, [], 59), (60, [], 60), (65, [], 65), (66, [], 66), (69, [], 69)] := ⟨ringRow, ringSel, (all_parts ringstill0 (all_parts ringstill1 (all_parts ringstill2 (all_parts ringstill3 (all_parts ringstill4 (fun k h => by cases h)))))), (all_parts ringsole0 (all_parts ringsole1 (all_parts ringsole2 (fun k h => by cases h)))), ringDone⟩

set_option maxHeartbeats 8000000 in
set_option maxRecDepth 100000 in
theorem ring_dec (Aa : Option Addr) (na ca s : Nat) (i : Int) (Ab : Option Addr) (nb cb t : Nat) (j : Int) (Ac : Option Addr) (nc cc u : Nat) (k : Int) (w : World) (h1 : Num w w.heap.size Aa na ca i.natAbs) (h2 : Num w w.heap.size Ab nb cb j.natAbs) (h3 : Num w w.heap.size Ac nc cc k.natAbs) (m1 : na ≤ 12) (t1 : s ≤ 60) (m2 : nb ≤ 12) (t2 : t ≤ 60) (m3 : nc ≤ 12) (t3 : u ≤ 60) : Calls Try.prog 4 #[.agg #[.bool (ngB i), .slice Aa na ca, .int .i64 (s : Int)], .agg #[.bool (ngB j), .slice Ab nb cb, .int .i64 (t : Int)], .agg #[.bool (ngB k), .slice Ac nc cc, .int .i64 (u : Int)]] w (RetVal w (.bool true)) := by
  have N1 : Hid (longB (ngB i) na (dg i.natAbs) (s : Int) = false) := not_long h1 m1 t1
  have N2 : Hid (longB (ngB j) nb (dg j.natAbs) (t : Int) = false) := not_long h2 m2 t2
  have N3 : Hid (longB (ngB k) nc (dg k.natAbs) (u : Int) = false) := not_long h3 m3 t3
  have z_1 : Sz i s 108 := (Sz.of_len (by have := h1.len; omega : (dg i.natAbs).length ≤ 12))
  have z_2 : Sz j t 108 := (Sz.of_len (by have := h2.len; omega : (dg j.natAbs).length ≤ 12))
  have z_3 : Sz k u 108 := (Sz.of_len (by have := h3.len; omega : (dg k.natAbs).length ≤ 12))
  obtain ⟨x1, hx1⟩ : ∃ rr, addZ i s j t = rr := ⟨_, rfl⟩
  obtain ⟨s1, hs1⟩ : ∃ rr, max s t = rr := ⟨_, rfl⟩
  have z1 : Sz x1 s1 109 := by rw [← hx1, ← hs1]; exact (z_1.add z_2).mono (by decide)
  have u1 : s1 ≤ 60 := by omega
  have HL1 : Hid ((dg x1.natAbs).length ≤ 169) := (by show _ ≤ _; have := z1.len; omega)
  have HX1 := Lib.hid hx1
  have HS1 := Lib.hid hs1
  obtain ⟨x2, hx2⟩ : ∃ rr, addZ j t i s = rr := ⟨_, rfl⟩
  obtain ⟨s2, hs2⟩ : ∃ rr, max t s = rr := ⟨_, rfl⟩
  have z2 : Sz x2 s2 109 := by rw [← hx2, ← hs2]; exact (z_2.add z_1).mono (by decide)
  have u2 : s2 ≤ 60 := by omega
  have HL2 : Hid ((dg x2.natAbs).length ≤ 169) := (by show _ ≤ _; have := z2.len; omega)
  have HX2 := Lib.hid hx2
  have HS2 := Lib.hid hs2
  have F1 : Hid (alikeB x1 s1 x2 s2 = true) := (by show _ = _; subst hs2; subst hx2; subst hs1; subst hx1; exact ring_comm i j s t)
  obtain ⟨x3, hx3⟩ : ∃ rr, addZ x1 s1 k u = rr := ⟨_, rfl⟩
  obtain ⟨s3, hs3⟩ : ∃ rr, max s1 u = rr := ⟨_, rfl⟩
  have z3 : Sz x3 s3 110 := by rw [← hx3, ← hs3]; exact (z1.add z_3).mono (by decide)
  have u3 : s3 ≤ 60 := by omega
  have HL3 : Hid ((dg x3.natAbs).length ≤ 170) := (by show _ ≤ _; have := z3.len; omega)
  have HX3 := Lib.hid hx3
  have HS3 := Lib.hid hs3
  obtain ⟨x4, hx4⟩ : ∃ rr, addZ j t k u = rr := ⟨_, rfl⟩
  obtain ⟨s4, hs4⟩ : ∃ rr, max t u = rr := ⟨_, rfl⟩
  have z4 : Sz x4 s4 109 := by rw [← hx4, ← hs4]; exact (z_2.add z_3).mono (by decide)
  have u4 : s4 ≤ 60 := by omega
  have HL4 : Hid ((dg x4.natAbs).length ≤ 169) := (by show _ ≤ _; have := z4.len; omega)
  have HX4 := Lib.hid hx4
  have HS4 := Lib.hid hs4
  obtain ⟨x5, hx5⟩ : ∃ rr, addZ i s x4 s4 = rr := ⟨_, rfl⟩
  obtain ⟨s5, hs5⟩ : ∃ rr, max s s4 = rr := ⟨_, rfl⟩
  have z5 : Sz x5 s5 110 := by rw [← hx5, ← hs5]; exact (z_1.add z4).mono (by decide)
  have u5 : s5 ≤ 60 := by omega
  have HL5 : Hid ((dg x5.natAbs).length ≤ 170) := (by show _ ≤ _; have := z5.len; omega)
  have HX5 := Lib.hid hx5
  have HS5 := Lib.hid hs5
  have F2 : Hid ((cmpD x3 s3 x5 s5 == 0) = true) := (by show _ = _; subst hs5; subst hx5; subst hs4; subst hx4; subst hs3; subst hx3; subst hs2; subst hx2; subst hs1; subst hx1; exact ring_assoc i j k s t u)
  obtain ⟨x6, hx6⟩ : ∃ rr, subZ x1 s1 j t = rr := ⟨_, rfl⟩
  obtain ⟨s6, hs6⟩ : ∃ rr, max s1 t = rr := ⟨_, rfl⟩
  have z6 : Sz x6 s6 110 := by rw [← hx6, ← hs6]; exact (z1.sub z_2).mono (by decide)
  have u6 : s6 ≤ 60 := by omega
  have HL6 : Hid ((dg x6.natAbs).length ≤ 170) := (by show _ ≤ _; have := z6.len; omega)
  have HX6 := Lib.hid hx6
  have HS6 := Lib.hid hs6
  have F3 : Hid ((cmpD x6 s6 i s == 0) = true) := (by show _ = _; subst hs6; subst hx6; subst hs5; subst hx5; subst hs4; subst hx4; subst hs3; subst hx3; subst hs2; subst hx2; subst hs1; subst hx1; exact ring_back i j s t)
  obtain ⟨x7, hx7⟩ : ∃ rr, i * j = rr := ⟨_, rfl⟩
  obtain ⟨s7, hs7⟩ : ∃ rr, s + t = rr := ⟨_, rfl⟩
  have z7 : Sz x7 s7 216 := by rw [← hx7, ← hs7]; exact (z_1.mul z_2).mono (by decide)
  have u7 : s7 ≤ 120 := by omega
  have HL7 : Hid ((dg x7.natAbs).length ≤ 336) := (by show _ ≤ _; have := z7.len; omega)
  have HX7 := Lib.hid hx7
  have HS7 := Lib.hid hs7
  obtain ⟨x8, hx8⟩ : ∃ rr, j * i = rr := ⟨_, rfl⟩
  obtain ⟨s8, hs8⟩ : ∃ rr, t + s = rr := ⟨_, rfl⟩
  have z8 : Sz x8 s8 216 := by rw [← hx8, ← hs8]; exact (z_2.mul z_1).mono (by decide)
  have u8 : s8 ≤ 120 := by omega
  have HL8 : Hid ((dg x8.natAbs).length ≤ 336) := (by show _ ≤ _; have := z8.len; omega)
  have HX8 := Lib.hid hx8
  have HS8 := Lib.hid hs8
  have F4 : Hid (alikeB x7 s7 x8 s8 = true) := (by show _ = _; subst hs8; subst hx8; subst hs7; subst hx7; subst hs6; subst hx6; subst hs5; subst hx5; subst hs4; subst hx4; subst hs3; subst hx3; subst hs2; subst hx2; subst hs1; subst hx1; exact ring_mcomm i j s t)
  obtain ⟨x9, hx9⟩ : ∃ rr, i * j = rr := ⟨_, rfl⟩
  obtain ⟨s9, hs9⟩ : ∃ rr, s + t = rr := ⟨_, rfl⟩
  have z9 : Sz x9 s9 216 := by rw [← hx9, ← hs9]; exact (z_1.mul z_2).mono (by decide)
  have u9 : s9 ≤ 120 := by omega
  have HL9 : Hid ((dg x9.natAbs).length ≤ 336) := (by show _ ≤ _; have := z9.len; omega)
  have HX9 := Lib.hid hx9
  have HS9 := Lib.hid hs9
  obtain ⟨x10, hx10⟩ : ∃ rr, x9 * k = rr := ⟨_, rfl⟩
  obtain ⟨s10, hs10⟩ : ∃ rr, s9 + u = rr := ⟨_, rfl⟩
  have z10 : Sz x10 s10 324 := by rw [← hx10, ← hs10]; exact (z9.mul z_3).mono (by decide)
  have u10 : s10 ≤ 180 := by omega
  have HL10 : Hid ((dg x10.natAbs).length ≤ 504) := (by show _ ≤ _; have := z10.len; omega)
  have HX10 := Lib.hid hx10
  have HS10 := Lib.hid hs10
  obtain ⟨x11, hx11⟩ : ∃ rr, j * k = rr := ⟨_, rfl⟩
  obtain ⟨s11, hs11⟩ : ∃ rr, t + u = rr := ⟨_, rfl⟩
  have z11 : Sz x11 s11 216 := by rw [← hx11, ← hs11]; exact (z_2.mul z_3).mono (by decide)
  have u11 : s11 ≤ 120 := by omega
  have HL11 : Hid ((dg x11.natAbs).length ≤ 336) := (by show _ ≤ _; have := z11.len; omega)
  have HX11 := Lib.hid hx11
  have HS11 := Lib.hid hs11
  obtain ⟨x12, hx12⟩ : ∃ rr, i * x11 = rr := ⟨_, rfl⟩
  obtain ⟨s12, hs12⟩ : ∃ rr, s + s11 = rr := ⟨_, rfl⟩
  have z12 : Sz x12 s12 324 := by rw [← hx12, ← hs12]; exact (z_1.mul z11).mono (by decide)
  have u12 : s12 ≤ 180 := by omega
  have HL12 : Hid ((dg x12.natAbs).length ≤ 504) := (by show _ ≤ _; have := z12.len; omega)
  have HX12 := Lib.hid hx12
  have HS12 := Lib.hid hs12
  have F5 : Hid ((cmpD x10 s10 x12 s12 == 0) = true) := (by show _ = _; subst hs12; subst hx12; subst hs11; subst hx11; subst hs10; subst hx10; subst hs9; subst hx9; subst hs8; subst hx8; subst hs7; subst hx7; subst hs6; subst hx6; subst hs5; subst hx5; subst hs4; subst hx4; subst hs3; subst hx3; subst hs2; subst hx2; subst hs1; subst hx1; exact ring_massoc i j k s t u)
  obtain ⟨x13, hx13⟩ : ∃ rr, x1 * k = rr := ⟨_, rfl⟩
  obtain ⟨s13, hs13⟩ : ∃ rr, s1 + u = rr := ⟨_, rfl⟩
  have z13 : Sz x13 s13 217 := by rw [← hx13, ← hs13]; exact (z1.mul z_3).mono (by decide)
  have u13 : s13 ≤ 120 := by omega
  have HL13 : Hid ((dg x13.natAbs).length ≤ 337) := (by show _ ≤ _; have := z13.len; omega)
  have HX13 := Lib.hid hx13
  have HS13 := Lib.hid hs13
  obtain ⟨x14, hx14⟩ : ∃ rr, i * k = rr := ⟨_, rfl⟩
  obtain ⟨s14, hs14⟩ : ∃ rr, s + u = rr := ⟨_, rfl⟩
  have z14 : Sz x14 s14 216 := by rw [← hx14, ← hs14]; exact (z_1.mul z_3).mono (by decide)
  have u14 : s14 ≤ 120 := by omega
  have HL14 : Hid ((dg x14.natAbs).length ≤ 336) := (by show _ ≤ _; have := z14.len; omega)
  have HX14 := Lib.hid hx14
  have HS14 := Lib.hid hs14
  obtain ⟨x15, hx15⟩ : ∃ rr, j * k = rr := ⟨_, rfl⟩
  obtain ⟨s15, hs15⟩ : ∃ rr, t + u = rr := ⟨_, rfl⟩
  have z15 : Sz x15 s15 216 := by rw [← hx15, ← hs15]; exact (z_2.mul z_3).mono (by decide)
  have u15 : s15 ≤ 120 := by omega
  have HL15 : Hid ((dg x15.natAbs).length ≤ 336) := (by show _ ≤ _; have := z15.len; omega)
  have HX15 := Lib.hid hx15
  have HS15 := Lib.hid hs15
  obtain ⟨x16, hx16⟩ : ∃ rr, addZ x14 s14 x15 s15 = rr := ⟨_, rfl⟩
  obtain ⟨s16, hs16⟩ : ∃ rr, max s14 s15 = rr := ⟨_, rfl⟩
  have z16 : Sz x16 s16 217 := by rw [← hx16, ← hs16]; exact (z14.add z15).mono (by decide)
  have u16 : s16 ≤ 120 := by omega
  have HL16 : Hid ((dg x16.natAbs).length ≤ 337) := (by show _ ≤ _; have := z16.len; omega)
  have HX16 := Lib.hid hx16
  have HS16 := Lib.hid hs16
  have F6 : Hid ((cmpD x13 s13 x16 s16 == 0) = true) := (by show _ = _; subst hs16; subst hx16; subst hs15; subst hx15; subst hs14; subst hx14; subst hs13; subst hx13; subst hs12; subst hx12; subst hs11; subst hx11; subst hs10; subst hx10; subst hs9; subst hx9; subst hs8; subst hx8; subst hs7; subst hx7; subst hs6; subst hx6; subst hs5; subst hx5; subst hs4; subst hx4; subst hs3; subst hx3; subst hs2; subst hx2; subst hs1; subst hx1; exact ring_over i j k s t u)
  obtain ⟨x17, hx17⟩ : ∃ rr, i * j = rr := ⟨_, rfl⟩
  obtain ⟨s17, hs17⟩ : ∃ rr, s + t = rr := ⟨_, rfl⟩
  have z17 : Sz x17 s17 216 := by rw [← hx17, ← hs17]; exact (z_1.mul z_2).mono (by decide)
  have u17 : s17 ≤ 120 := by omega
  have HL17 : Hid ((dg x17.natAbs).length ≤ 336) := (by show _ ≤ _; have := z17.len; omega)
  have HX17 := Lib.hid hx17
  have HS17 := Lib.hid hs17
  have H1 := Lib.hid h1
  have H2 := Lib.hid h2
  have H3 := Lib.hid h3
  clear hx1 hs1 hx2 hs2 hx3 hs3 hx4 hs4 hx5 hs5 hx6 hs6 hx7 hs7 hx8 hs8 hx9 hs9 hx10 hs10 hx11 hs11 hx12 hs12 hx13 hs13 hx14 hs14 hx15 hs15 hx16 hs16 hx17 hs17
  clear h1 h2 h3 z_1 z_2 z_3 z1 z2 z3 z4 z5 z6 z7 z8 z9 z10 z11 z12 z13 z14 z15 z16 z17
  go_enter Try.func4, Try.ntmps4
  go_wp2_with fail
  generalize hW : World.alloc (World.alloc (World.alloc w _) _) _ = W0
  have E0 : St w W0 [(Aa, na, ca, (i).natAbs), (Ab, nb, cb, (j).natAbs), (Ac, nc, cc, (k).natAbs)] [((w.heap.size + 1 + 1), (.bool (ngB k)), (.slice Ac nc cc), (.int .i64 (u : Int))), ((w.heap.size + 1), (.bool (ngB j)), (.slice Ab nb cb), (.int .i64 (t : Int))), (w.heap.size, (.bool (ngB i)), (.slice Aa na ca), (.int .i64 (s : Int)))] := by rw [← hW]; exact (((St.start w (l := [(Aa, na, ca, (i).natAbs), (Ab, nb, cb, (j).natAbs), (Ac, nc, cc, (k).natAbs)]) (by simp; exact ⟨H1.out, H2.out, H3.out⟩)).lay rfl).lay (by simp)).lay (by simp)
  have E := Lib.hid E0
  clear hW E0
  refine (long_is (St.got E (A := Aa) (n := na) (c := ca) (a := (i).natAbs) (by simp)) N1.out).mono ?_; rintro e w1 ⟨rfl, hb⟩
  replace E := Lib.hid (St.step E.out hb)
  clear hb
  obtain ⟨p1a, p1b, p1c, p1d, p1e, p1f, p1g⟩ := St.at_ (x0 := (.bool (ngB j))) (x1 := (.slice Ab nb cb)) (x2 := (.int .i64 (t : Int))) (g := (w.heap.size + 1)) E (by simp)
  go_wp2_with fail
  refine (long_is (St.got E (A := Ab) (n := nb) (c := cb) (a := (j).natAbs) (by simp)) N2.out).mono ?_; rintro e w2 ⟨rfl, hb⟩
  clear p1a p1b p1c p1d p1e p1f p1g
  replace E := Lib.hid (St.step E.out hb)
  clear hb
  obtain ⟨p0a, p0b, p0c, p0d, p0e, p0f, p0g⟩ := St.at_ (x0 := (.bool (ngB k))) (x1 := (.slice Ac nc cc)) (x2 := (.int .i64 (u : Int))) (g := (w.heap.size + 1 + 1)) E (by simp)
  go_wp2_with fail
  refine (long_is (St.got E (A := Ac) (n := nc) (c := cc) (a := (k).natAbs) (by simp)) N3.out).mono ?_; rintro e w3 ⟨rfl, hb⟩
  clear p0a p0b p0c p0d p0e p0f p0g
  replace E := Lib.hid (St.step E.out hb)
  clear hb
  obtain ⟨p1a, p1b, p1c, p1d, p1e, p1f, p1g⟩ := St.at_ (x0 := (.bool (ngB j))) (x1 := (.slice Ab nb cb)) (x2 := (.int .i64 (t : Int))) (g := (w.heap.size + 1)) E (by simp)
  obtain ⟨p2a, p2b, p2c, p2d, p2e, p2f, p2g⟩ := St.at_ (x0 := (.bool (ngB i))) (x1 := (.slice Aa na ca)) (x2 := (.int .i64 (s : Int))) (g := w.heap.size) E (by simp)
  go_wp2_with fail
  refine (add_is5 (i := i) (s := s) (j := j) (t := t) (St.got E (A := Aa) (n := na) (c := ca) (a := (i).natAbs) (by simp)) (St.got E (A := Ab) (n := nb) (c := cb) (a := (j).natAbs) (by simp)) (by omega) (by omega) (by omega) (by omega) HS1.out HX1.out).mono ?_; rintro e w4 ⟨A4, n4, c4, rfl, h, hb⟩
  have b4 : n4 ≤ 169 := len_le h HL1.out
  clear p1a p1b p1c p1d p1e p1f p1g p2a p2b p2c p2d p2e p2f p2g
  replace E := Lib.hid (St.push E.out hb h)
  clear h hb
  obtain ⟨p0a, p0b, p0c, p0d, p0e, p0f, p0g⟩ := St.at_ (x0 := (.bool (ngB k))) (x1 := (.slice Ac nc cc)) (x2 := (.int .i64 (u : Int))) (g := (w.heap.size + 1 + 1)) E (by simp)
  obtain ⟨p1a, p1b, p1c, p1d, p1e, p1f, p1g⟩ := St.at_ (x0 := (.bool (ngB j))) (x1 := (.slice Ab nb cb)) (x2 := (.int .i64 (t : Int))) (g := (w.heap.size + 1)) E (by simp)
  obtain ⟨p2a, p2b, p2c, p2d, p2e, p2f, p2g⟩ := St.at_ (x0 := (.bool (ngB i))) (x1 := (.slice Aa na ca)) (x2 := (.int .i64 (s : Int))) (g := w.heap.size) E (by simp)
  go_wp2_with fail
  clear p0a p0b p0c p0d p0e p0f p0g p1a p1b p1c p1d p1e p1f p1g p2a p2b p2c p2d p2e p2f p2g
  have E5 : Hid (St w (w4.alloc (.cells #[(.bool (ngB x1)), (.slice A4 n4 c4), (.int .i64 (s1 : Int))] 25)) [(A4, n4, c4, (x1).natAbs), (Aa, na, ca, (i).natAbs), (Ab, nb, cb, (j).natAbs), (Ac, nc, cc, (k).natAbs)] ((w4.heap.size, (.bool (ngB x1)), (.slice A4 n4 c4), (.int .i64 (s1 : Int))) :: [((w.heap.size + 1 + 1), (.bool (ngB k)), (.slice Ac nc cc), (.int .i64 (u : Int))), ((w.heap.size + 1), (.bool (ngB j)), (.slice Ab nb cb), (.int .i64 (t : Int))), (w.heap.size, (.bool (ngB i)), (.slice Aa na ca), (.int .i64 (s : Int)))])) := St.lay E.out rfl
  generalize hW2 : World.alloc w4 _ = W1 at E5 ⊢
  replace E := Lib.hid (St.drew E5.out)
  clear hW2 E5
  rename_i K hK
  refine line_start (ops := opsAt Try.prog 4 4) (S := SB [(w4.heap.size, (.bool (ngB x1)), (.slice A4 n4 c4), (.int .i64 (s1 : Int))), ((w.heap.size + 1 + 1), (.bool (ngB k)), (.slice Ac nc cc), (.int .i64 (u : Int))), ((w.heap.size + 1), (.bool (ngB j)), (.slice Ab nb cb), (.int .i64 (t : Int))), (w.heap.size, (.bool (ngB i)), (.slice Aa na ca), (.int .i64 (s : Int)))]) (by kernel_rfl) (by kernel_rfl) (St.sb E) ?_
  have hSw := St.sb E
  generalize hA : Act.mk _ _ = a
  have ha : Fr 93 a [(3, .pointer (some ⟨w.heap.size, 0, none⟩)), (4, .pointer (some ⟨(w.heap.size + 1), 0, none⟩)), (5, .pointer (some ⟨(w.heap.size + 1 + 1), 0, none⟩)), (7, .pointer (some ⟨w4.heap.size, 0, none⟩))] := by rw [← hA]; exact ⟨rfl, rfl, by intro q hq; simp at hq; rcases hq with rfl | rfl | rfl | rfl <;> rfl⟩
  clear hA
  refine line_still ringR 0 0 [] 22 (.agg #[(.bool (ngB x1)), (.slice A4 n4 c4), (.int .i64 (s1 : Int))]) [(3, .pointer (some ⟨w.heap.size, 0, none⟩)), (4, .pointer (some ⟨(w.heap.size + 1), 0, none⟩)), (5, .pointer (some ⟨(w.heap.size + 1 + 1), 0, none⟩)), (7, .pointer (some ⟨w4.heap.size, 0, none⟩))] rfl (by decide) (by decide) (by decide) ha (fun o ho hg => y_of (wanted_none hg) (fun wx hS => e_load ho (ha.ev (i := 7) (v := .pointer (some ⟨w4.heap.size, 0, none⟩)) (by simp)) (hS.at_ (g := w4.heap.size) (x0 := (.bool (ngB x1))) (x1 := (.slice A4 n4 c4)) (x2 := (.int .i64 (s1 : Int))) (by simp)))) (by simp) hSw ?_; intro a ha
  refine line_call ringR 1 1 [] 23 (args := #[.agg #[(.bool (ngB x1)), (.slice A4 n4 c4), (.int .i64 (s1 : Int))]]) [(3, .pointer (some ⟨w.heap.size, 0, none⟩)), (4, .pointer (some ⟨(w.heap.size + 1), 0, none⟩)), (5, .pointer (some ⟨(w.heap.size + 1 + 1), 0, none⟩)), (7, .pointer (some ⟨w4.heap.size, 0, none⟩))] rfl (by decide) (by decide) (by decide) ha (fun o ho hg => ⟨(wanted_none hg), e_call (by kernel_rfl) ho rfl (by have q0 := ha.ev (i := 22) (v := .agg #[(.bool (ngB x1)), (.slice A4 n4 c4), (.int .i64 (s1 : Int))]) (by simp); simp only [List.map_toArray, List.map_cons, List.map_nil, ev_const, q0])⟩) (by simp) ?_
  refine (right_is5 (i := x1) (s := s1) (St.got E (A := A4) (n := n4) (c := c4) (a := (x1).natAbs) (by simp))).mono ?_; rintro e w5 ⟨rfl, hb⟩
  replace E := Lib.hid (St.step E.out hb)
  clear hb
  have hSw := St.sb E; refine ⟨_, rfl, hSw, ?_⟩; intro a ha
  refine line_still ringR 2 2 [] 24 (.bool true) [(3, .pointer (some ⟨w.heap.size, 0, none⟩)), (4, .pointer (some ⟨(w.heap.size + 1), 0, none⟩)), (5, .pointer (some ⟨(w.heap.size + 1 + 1), 0, none⟩)), (7, .pointer (some ⟨w4.heap.size, 0, none⟩))] rfl (by decide) (by decide) (by decide) ha (fun o ho hg => y_of (wanted_none hg) (fun wx hS => e_move (.inl ho) (ha.ev (i := 23) (v := .bool true) (by simp)))) (by simp) hSw ?_; intro a ha
  refine line_still ringR 3 3 [] 25 (.agg #[(.bool (ngB x1)), (.slice A4 n4 c4), (.int .i64 (s1 : Int))]) [(24, .bool true), (3, .pointer (some ⟨w.heap.size, 0, none⟩)), (4, .pointer (some ⟨(w.heap.size + 1), 0, none⟩)), (5, .pointer (some ⟨(w.heap.size + 1 + 1), 0, none⟩)), (7, .pointer (some ⟨w4.heap.size, 0, none⟩))] rfl (by decide) (by decide) (by decide) ha (fun o ho hg => y_of (ringR.wanted hg rfl ha (d := 24) (by simp)) (fun wx hS => e_load ho (ha.ev (i := 7) (v := .pointer (some ⟨w4.heap.size, 0, none⟩)) (by simp)) (hS.at_ (g := w4.heap.size) (x0 := (.bool (ngB x1))) (x1 := (.slice A4 n4 c4)) (x2 := (.int .i64 (s1 : Int))) (by simp)))) (by simp) hSw ?_; intro a ha
  refine line_still ringR 4 4 [] 26 (.agg #[(.bool (ngB j)), (.slice Ab nb cb), (.int .i64 (t : Int))]) [(25, .agg #[(.bool (ngB x1)), (.slice A4 n4 c4), (.int .i64 (s1 : Int))]), (24, .bool true), (3, .pointer (some ⟨w.heap.size, 0, none⟩)), (4, .pointer (some ⟨(w.heap.size + 1), 0, none⟩)), (5, .pointer (some ⟨(w.heap.size + 1 + 1), 0, none⟩)), (7, .pointer (some ⟨w4.heap.size, 0, none⟩))] rfl (by decide) (by decide) (by decide) ha (fun o ho hg => y_of (ringR.wanted hg rfl ha (d := 24) (by simp)) (fun wx hS => e_load ho (ha.ev (i := 4) (v := .pointer (some ⟨(w.heap.size + 1), 0, none⟩)) (by simp)) (hS.at_ (g := (w.heap.size + 1)) (x0 := (.bool (ngB j))) (x1 := (.slice Ab nb cb)) (x2 := (.int .i64 (t : Int))) (by simp)))) (by simp) hSw ?_; intro a ha
  refine line_still ringR 5 5 [] 27 (.agg #[(.bool (ngB i)), (.slice Aa na ca), (.int .i64 (s : Int))]) [(26, .agg #[(.bool (ngB j)), (.slice Ab nb cb), (.int .i64 (t : Int))]), (25, .agg #[(.bool (ngB x1)), (.slice A4 n4 c4), (.int .i64 (s1 : Int))]), (24, .bool true), (3, .pointer (some ⟨w.heap.size, 0, none⟩)), (4, .pointer (some ⟨(w.heap.size + 1), 0, none⟩)), (5, .pointer (some ⟨(w.heap.size + 1 + 1), 0, none⟩)), (7, .pointer (some ⟨w4.heap.size, 0, none⟩))] rfl (by decide) (by decide) (by decide) ha (fun o ho hg => y_of (ringR.wanted hg rfl ha (d := 24) (by simp)) (fun wx hS => e_load ho (ha.ev (i := 3) (v := .pointer (some ⟨w.heap.size, 0, none⟩)) (by simp)) (hS.at_ (g := w.heap.size) (x0 := (.bool (ngB i))) (x1 := (.slice Aa na ca)) (x2 := (.int .i64 (s : Int))) (by simp)))) (by simp) hSw ?_; intro a ha
  refine line_call ringR 6 6 [] 28 (args := #[.agg #[(.bool (ngB j)), (.slice Ab nb cb), (.int .i64 (t : Int))], .agg #[(.bool (ngB i)), (.slice Aa na ca), (.int .i64 (s : Int))]]) [(25, .agg #[(.bool (ngB x1)), (.slice A4 n4 c4), (.int .i64 (s1 : Int))]), (24, .bool true), (3, .pointer (some ⟨w.heap.size, 0, none⟩)), (4, .pointer (some ⟨(w.heap.size + 1), 0, none⟩)), (5, .pointer (some ⟨(w.heap.size + 1 + 1), 0, none⟩)), (7, .pointer (some ⟨w4.heap.size, 0, none⟩))] rfl (by decide) (by decide) (by decide) ha (fun o ho hg => ⟨(ringR.wanted hg rfl ha (d := 24) (by simp)), e_call (by kernel_rfl) ho rfl (by have q0 := ha.ev (i := 26) (v := .agg #[(.bool (ngB j)), (.slice Ab nb cb), (.int .i64 (t : Int))]) (by simp); have q1 := ha.ev (i := 27) (v := .agg #[(.bool (ngB i)), (.slice Aa na ca), (.int .i64 (s : Int))]) (by simp); simp only [List.map_toArray, List.map_cons, List.map_nil, ev_const, q0, q1])⟩) (by simp) ?_
  refine (add_is5 (i := j) (s := t) (j := i) (t := s) (St.got E (A := Ab) (n := nb) (c := cb) (a := (j).natAbs) (by simp)) (St.got E (A := Aa) (n := na) (c := ca) (a := (i).natAbs) (by simp)) (by omega) (by omega) (by omega) (by omega) HS2.out HX2.out).mono ?_; rintro e w6 ⟨A6, n6, c6, rfl, h, hb⟩
  have b6 : n6 ≤ 169 := len_le h HL2.out
  replace E := Lib.hid (St.push E.out hb h)
  clear h hb
  have hSw := St.sb E; refine ⟨_, rfl, hSw, ?_⟩; intro a ha
  refine line_call ringR 7 7 [] 29 (args := #[.agg #[(.bool (ngB x1)), (.slice A4 n4 c4), (.int .i64 (s1 : Int))], .agg #[.bool (ngB x2), .slice A6 n6 c6, .int .i64 (s2 : Int)]]) [(24, .bool true), (3, .pointer (some ⟨w.heap.size, 0, none⟩)), (4, .pointer (some ⟨(w.heap.size + 1), 0, none⟩)), (5, .pointer (some ⟨(w.heap.size + 1 + 1), 0, none⟩)), (7, .pointer (some ⟨w4.heap.size, 0, none⟩))] rfl (by decide) (by decide) (by decide) ha (fun o ho hg => ⟨(ringR.wanted hg rfl ha (d := 24) (by simp)), e_call (by kernel_rfl) ho rfl (by have q0 := ha.ev (i := 25) (v := .agg #[(.bool (ngB x1)), (.slice A4 n4 c4), (.int .i64 (s1 : Int))]) (by simp); have q1 := ha.ev (i := 28) (v := .agg #[.bool (ngB x2), .slice A6 n6 c6, .int .i64 (s2 : Int)]) (by simp); simp only [List.map_toArray, List.map_cons, List.map_nil, ev_const, q0, q1])⟩) (by simp) ?_
  refine (alike_is5 (i := x1) (j := x2) (s := s1) (t := s2) (St.got E (A := A4) (n := n4) (c := c4) (a := (x1).natAbs) (by simp)) (St.got E (A := A6) (n := n6) (c := c6) (a := (x2).natAbs) (by simp)) F1.out).mono ?_; rintro e w7 ⟨rfl, hb⟩
  replace E := Lib.hid (St.step E.out hb)
  clear hb
  replace E : Hid (St w w7 [(A4, n4, c4, (x1).natAbs), (Aa, na, ca, (i).natAbs), (Ab, nb, cb, (j).natAbs), (Ac, nc, cc, (k).natAbs)] [(w4.heap.size, (.bool (ngB x1)), (.slice A4 n4 c4), (.int .i64 (s1 : Int))), ((w.heap.size + 1 + 1), (.bool (ngB k)), (.slice Ac nc cc), (.int .i64 (u : Int))), ((w.heap.size + 1), (.bool (ngB j)), (.slice Ab nb cb), (.int .i64 (t : Int))), (w.heap.size, (.bool (ngB i)), (.slice Aa na ca), (.int .i64 (s : Int)))]) := Lib.hid ((E.out).sub (by simp) (by simp))
  have hSw := St.sb E; refine ⟨_, rfl, hSw, ?_⟩; intro a ha
  refine line_still ringR 8 8 [] 30 (.bool true) [(3, .pointer (some ⟨w.heap.size, 0, none⟩)), (4, .pointer (some ⟨(w.heap.size + 1), 0, none⟩)), (5, .pointer (some ⟨(w.heap.size + 1 + 1), 0, none⟩)), (7, .pointer (some ⟨w4.heap.size, 0, none⟩))] rfl (by decide) (by decide) (by decide) ha (fun o ho hg => y_of (wanted_none hg) (fun wx hS => e_pick ho (ha.ev (i := 24) (v := .bool true) (by simp)) (ha.ev (i := 29) (v := .bool true) (by simp)) rfl)) (by simp) hSw ?_; intro a ha
  refine line_still ringR 9 9 [] 31 (.bool true) [(3, .pointer (some ⟨w.heap.size, 0, none⟩)), (4, .pointer (some ⟨(w.heap.size + 1), 0, none⟩)), (5, .pointer (some ⟨(w.heap.size + 1 + 1), 0, none⟩)), (7, .pointer (some ⟨w4.heap.size, 0, none⟩))] rfl (by decide) (by decide) (by decide) ha (fun o ho hg => y_of (wanted_none hg) (fun wx hS => e_move (.inl ho) (ha.ev (i := 30) (v := .bool true) (by simp)))) (by simp) hSw ?_; intro a ha
  refine line_still ringR 10 10 [] 32 (.agg #[(.bool (ngB x1)), (.slice A4 n4 c4), (.int .i64 (s1 : Int))]) [(31, .bool true), (3, .pointer (some ⟨w.heap.size, 0, none⟩)), (4, .pointer (some ⟨(w.heap.size + 1), 0, none⟩)), (5, .pointer (some ⟨(w.heap.size + 1 + 1), 0, none⟩)), (7, .pointer (some ⟨w4.heap.size, 0, none⟩))] rfl (by decide) (by decide) (by decide) ha (fun o ho hg => y_of (ringR.wanted hg rfl ha (d := 31) (by simp)) (fun wx hS => e_load ho (ha.ev (i := 7) (v := .pointer (some ⟨w4.heap.size, 0, none⟩)) (by simp)) (hS.at_ (g := w4.heap.size) (x0 := (.bool (ngB x1))) (x1 := (.slice A4 n4 c4)) (x2 := (.int .i64 (s1 : Int))) (by simp)))) (by simp) hSw ?_; intro a ha
  refine line_still ringR 11 11 [] 33 (.agg #[(.bool (ngB k)), (.slice Ac nc cc), (.int .i64 (u : Int))]) [(32, .agg #[(.bool (ngB x1)), (.slice A4 n4 c4), (.int .i64 (s1 : Int))]), (31, .bool true), (3, .pointer (some ⟨w.heap.size, 0, none⟩)), (4, .pointer (some ⟨(w.heap.size + 1), 0, none⟩)), (5, .pointer (some ⟨(w.heap.size + 1 + 1), 0, none⟩)), (7, .pointer (some ⟨w4.heap.size, 0, none⟩))] rfl (by decide) (by decide) (by decide) ha (fun o ho hg => y_of (ringR.wanted hg rfl ha (d := 31) (by simp)) (fun wx hS => e_load ho (ha.ev (i := 5) (v := .pointer (some ⟨(w.heap.size + 1 + 1), 0, none⟩)) (by simp)) (hS.at_ (g := (w.heap.size + 1 + 1)) (x0 := (.bool (ngB k))) (x1 := (.slice Ac nc cc)) (x2 := (.int .i64 (u : Int))) (by simp)))) (by simp) hSw ?_; intro a ha
  refine line_ahead ringR 12 12 [] 13 35 (.agg #[(.bool (ngB i)), (.slice Aa na ca), (.int .i64 (s : Int))]) [(33, .agg #[(.bool (ngB k)), (.slice Ac nc cc), (.int .i64 (u : Int))]), (32, .agg #[(.bool (ngB x1)), (.slice A4 n4 c4), (.int .i64 (s1 : Int))]), (31, .bool true), (3, .pointer (some ⟨w.heap.size, 0, none⟩)), (4, .pointer (some ⟨(w.heap.size + 1), 0, none⟩)), (5, .pointer (some ⟨(w.heap.size + 1 + 1), 0, none⟩)), (7, .pointer (some ⟨w4.heap.size, 0, none⟩))] rfl (by decide) (by decide) (by decide) ha (fun o ho hg => y_of (ringR.wanted hg rfl ha (d := 31) (by simp)) (fun wx hS => e_load ho (ha.ev (i := 3) (v := .pointer (some ⟨w.heap.size, 0, none⟩)) (by simp)) (hS.at_ (g := w.heap.size) (x0 := (.bool (ngB i))) (x1 := (.slice Aa na ca)) (x2 := (.int .i64 (s : Int))) (by simp)))) (by simp) hSw ?_; intro a ha
  refine line_ahead ringR 13 12 [13] 14 36 (.agg #[(.bool (ngB j)), (.slice Ab nb cb), (.int .i64 (t : Int))]) [(35, .agg #[(.bool (ngB i)), (.slice Aa na ca), (.int .i64 (s : Int))]), (33, .agg #[(.bool (ngB k)), (.slice Ac nc cc), (.int .i64 (u : Int))]), (32, .agg #[(.bool (ngB x1)), (.slice A4 n4 c4), (.int .i64 (s1 : Int))]), (31, .bool true), (3, .pointer (some ⟨w.heap.size, 0, none⟩)), (4, .pointer (some ⟨(w.heap.size + 1), 0, none⟩)), (5, .pointer (some ⟨(w.heap.size + 1 + 1), 0, none⟩)), (7, .pointer (some ⟨w4.heap.size, 0, none⟩))] rfl (by decide) (by decide) (by decide) ha (fun o ho hg => y_of (ringR.wanted hg rfl ha (d := 31) (by simp)) (fun wx hS => e_load ho (ha.ev (i := 4) (v := .pointer (some ⟨(w.heap.size + 1), 0, none⟩)) (by simp)) (hS.at_ (g := (w.heap.size + 1)) (x0 := (.bool (ngB j))) (x1 := (.slice Ab nb cb)) (x2 := (.int .i64 (t : Int))) (by simp)))) (by simp) hSw ?_; intro a ha
  refine line_ahead ringR 14 12 [14, 13] 15 37 (.agg #[(.bool (ngB k)), (.slice Ac nc cc), (.int .i64 (u : Int))]) [(36, .agg #[(.bool (ngB j)), (.slice Ab nb cb), (.int .i64 (t : Int))]), (35, .agg #[(.bool (ngB i)), (.slice Aa na ca), (.int .i64 (s : Int))]), (33, .agg #[(.bool (ngB k)), (.slice Ac nc cc), (.int .i64 (u : Int))]), (32, .agg #[(.bool (ngB x1)), (.slice A4 n4 c4), (.int .i64 (s1 : Int))]), (31, .bool true), (3, .pointer (some ⟨w.heap.size, 0, none⟩)), (4, .pointer (some ⟨(w.heap.size + 1), 0, none⟩)), (5, .pointer (some ⟨(w.heap.size + 1 + 1), 0, none⟩)), (7, .pointer (some ⟨w4.heap.size, 0, none⟩))] rfl (by decide) (by decide) (by decide) ha (fun o ho hg => y_of (ringR.wanted hg rfl ha (d := 31) (by simp)) (fun wx hS => e_load ho (ha.ev (i := 5) (v := .pointer (some ⟨(w.heap.size + 1 + 1), 0, none⟩)) (by simp)) (hS.at_ (g := (w.heap.size + 1 + 1)) (x0 := (.bool (ngB k))) (x1 := (.slice Ac nc cc)) (x2 := (.int .i64 (u : Int))) (by simp)))) (by simp) hSw ?_; intro a ha
  refine line_call ringR 15 12 [15, 14, 13] 34 (args := #[.agg #[(.bool (ngB x1)), (.slice A4 n4 c4), (.int .i64 (s1 : Int))], .agg #[(.bool (ngB k)), (.slice Ac nc cc), (.int .i64 (u : Int))]]) [(37, .agg #[(.bool (ngB k)), (.slice Ac nc cc), (.int .i64 (u : Int))]), (36, .agg #[(.bool (ngB j)), (.slice Ab nb cb), (.int .i64 (t : Int))]), (35, .agg #[(.bool (ngB i)), (.slice Aa na ca), (.int .i64 (s : Int))]), (31, .bool true), (3, .pointer (some ⟨w.heap.size, 0, none⟩)), (4, .pointer (some ⟨(w.heap.size + 1), 0, none⟩)), (5, .pointer (some ⟨(w.heap.size + 1 + 1), 0, none⟩)), (7, .pointer (some ⟨w4.heap.size, 0, none⟩))] rfl (by decide) (by decide) (by decide) ha (fun o ho hg => ⟨(ringR.wanted hg rfl ha (d := 31) (by simp)), e_call (by kernel_rfl) ho rfl (by have q0 := ha.ev (i := 32) (v := .agg #[(.bool (ngB x1)), (.slice A4 n4 c4), (.int .i64 (s1 : Int))]) (by simp); have q1 := ha.ev (i := 33) (v := .agg #[(.bool (ngB k)), (.slice Ac nc cc), (.int .i64 (u : Int))]) (by simp); simp only [List.map_toArray, List.map_cons, List.map_nil, ev_const, q0, q1])⟩) (by simp) ?_
  refine (add_is5 (i := x1) (s := s1) (j := k) (t := u) (St.got E (A := A4) (n := n4) (c := c4) (a := (x1).natAbs) (by simp)) (St.got E (A := Ac) (n := nc) (c := cc) (a := (k).natAbs) (by simp)) (by omega) (by omega) (by omega) (by omega) HS3.out HX3.out).mono ?_; rintro e w8 ⟨A8, n8, c8, rfl, h, hb⟩
  have b8 : n8 ≤ 170 := len_le h HL3.out
  replace E := Lib.hid (St.push E.out hb h)
  clear h hb
  have hSw := St.sb E; refine ⟨_, rfl, hSw, ?_⟩; intro a ha
  refine line_skip [15, 14] (by intro i; simp <;> omega) ?_
  refine line_skip [15] (by intro i; simp <;> omega) ?_
  refine line_skip [] (by intro i; simp <;> omega) ?_
  refine line_call ringR 16 16 [] 38 (args := #[.agg #[(.bool (ngB j)), (.slice Ab nb cb), (.int .i64 (t : Int))], .agg #[(.bool (ngB k)), (.slice Ac nc cc), (.int .i64 (u : Int))]]) [(34, .agg #[.bool (ngB x3), .slice A8 n8 c8, .int .i64 (s3 : Int)]), (35, .agg #[(.bool (ngB i)), (.slice Aa na ca), (.int .i64 (s : Int))]), (31, .bool true), (3, .pointer (some ⟨w.heap.size, 0, none⟩)), (4, .pointer (some ⟨(w.heap.size + 1), 0, none⟩)), (5, .pointer (some ⟨(w.heap.size + 1 + 1), 0, none⟩)), (7, .pointer (some ⟨w4.heap.size, 0, none⟩))] rfl (by decide) (by decide) (by decide) ha (fun o ho hg => ⟨(ringR.wanted hg rfl ha (d := 31) (by simp)), e_call (by kernel_rfl) ho rfl (by have q0 := ha.ev (i := 36) (v := .agg #[(.bool (ngB j)), (.slice Ab nb cb), (.int .i64 (t : Int))]) (by simp); have q1 := ha.ev (i := 37) (v := .agg #[(.bool (ngB k)), (.slice Ac nc cc), (.int .i64 (u : Int))]) (by simp); simp only [List.map_toArray, List.map_cons, List.map_nil, ev_const, q0, q1])⟩) (by simp) ?_
  refine (add_is5 (i := j) (s := t) (j := k) (t := u) (St.got E (A := Ab) (n := nb) (c := cb) (a := (j).natAbs) (by simp)) (St.got E (A := Ac) (n := nc) (c := cc) (a := (k).natAbs) (by simp)) (by omega) (by omega) (by omega) (by omega) HS4.out HX4.out).mono ?_; rintro e w9 ⟨A9, n9, c9, rfl, h, hb⟩
  have b9 : n9 ≤ 169 := len_le h HL4.out
  replace E := Lib.hid (St.push E.out hb h)
  clear h hb
  have hSw := St.sb E; refine ⟨_, rfl, hSw, ?_⟩; intro a ha
  refine line_call ringR 17 17 [] 39 (args := #[.agg #[(.bool (ngB i)), (.slice Aa na ca), (.int .i64 (s : Int))], .agg #[.bool (ngB x4), .slice A9 n9 c9, .int .i64 (s4 : Int)]]) [(34, .agg #[.bool (ngB x3), .slice A8 n8 c8, .int .i64 (s3 : Int)]), (31, .bool true), (3, .pointer (some ⟨w.heap.size, 0, none⟩)), (4, .pointer (some ⟨(w.heap.size + 1), 0, none⟩)), (5, .pointer (some ⟨(w.heap.size + 1 + 1), 0, none⟩)), (7, .pointer (some ⟨w4.heap.size, 0, none⟩))] rfl (by decide) (by decide) (by decide) ha (fun o ho hg => ⟨(ringR.wanted hg rfl ha (d := 31) (by simp)), e_call (by kernel_rfl) ho rfl (by have q0 := ha.ev (i := 35) (v := .agg #[(.bool (ngB i)), (.slice Aa na ca), (.int .i64 (s : Int))]) (by simp); have q1 := ha.ev (i := 38) (v := .agg #[.bool (ngB x4), .slice A9 n9 c9, .int .i64 (s4 : Int)]) (by simp); simp only [List.map_toArray, List.map_cons, List.map_nil, ev_const, q0, q1])⟩) (by simp) ?_
  refine (add_is5 (i := i) (s := s) (j := x4) (t := s4) (St.got E (A := Aa) (n := na) (c := ca) (a := (i).natAbs) (by simp)) (St.got E (A := A9) (n := n9) (c := c9) (a := (x4).natAbs) (by simp)) (by omega) (by omega) (by omega) (by omega) HS5.out HX5.out).mono ?_; rintro e w10 ⟨A10, n10, c10, rfl, h, hb⟩
  have b10 : n10 ≤ 170 := len_le h HL5.out
  replace E := Lib.hid (St.push E.out hb h)
  clear h hb
  have hSw := St.sb E; refine ⟨_, rfl, hSw, ?_⟩; intro a ha
  refine line_call ringR 18 18 [] 40 (args := #[.agg #[.bool (ngB x3), .slice A8 n8 c8, .int .i64 (s3 : Int)], .agg #[.bool (ngB x5), .slice A10 n10 c10, .int .i64 (s5 : Int)]]) [(31, .bool true), (3, .pointer (some ⟨w.heap.size, 0, none⟩)), (4, .pointer (some ⟨(w.heap.size + 1), 0, none⟩)), (5, .pointer (some ⟨(w.heap.size + 1 + 1), 0, none⟩)), (7, .pointer (some ⟨w4.heap.size, 0, none⟩))] rfl (by decide) (by decide) (by decide) ha (fun o ho hg => ⟨(ringR.wanted hg rfl ha (d := 31) (by simp)), e_call (by kernel_rfl) ho rfl (by have q0 := ha.ev (i := 34) (v := .agg #[.bool (ngB x3), .slice A8 n8 c8, .int .i64 (s3 : Int)]) (by simp); have q1 := ha.ev (i := 39) (v := .agg #[.bool (ngB x5), .slice A10 n10 c10, .int .i64 (s5 : Int)]) (by simp); simp only [List.map_toArray, List.map_cons, List.map_nil, ev_const, q0, q1])⟩) (by simp) ?_
  refine (same_is5 (i := x3) (s := s3) (j := x5) (t := s5) (St.got E (A := A8) (n := n8) (c := c8) (a := (x3).natAbs) (by simp)) (St.got E (A := A10) (n := n10) (c := c10) (a := (x5).natAbs) (by simp)) (by omega) (by omega) (by omega) (by omega) F2.out).mono ?_; rintro e w11 ⟨rfl, hb⟩
  replace E := Lib.hid (St.step E.out hb)
  clear hb
  replace E : Hid (St w w11 [(A4, n4, c4, (x1).natAbs), (Aa, na, ca, (i).natAbs), (Ab, nb, cb, (j).natAbs), (Ac, nc, cc, (k).natAbs)] [(w4.heap.size, (.bool (ngB x1)), (.slice A4 n4 c4), (.int .i64 (s1 : Int))), ((w.heap.size + 1 + 1), (.bool (ngB k)), (.slice Ac nc cc), (.int .i64 (u : Int))), ((w.heap.size + 1), (.bool (ngB j)), (.slice Ab nb cb), (.int .i64 (t : Int))), (w.heap.size, (.bool (ngB i)), (.slice Aa na ca), (.int .i64 (s : Int)))]) := Lib.hid ((E.out).sub (by simp) (by simp))
  have hSw := St.sb E; refine ⟨_, rfl, hSw, ?_⟩; intro a ha
  refine line_still ringR 19 19 [] 41 (.bool true) [(3, .pointer (some ⟨w.heap.size, 0, none⟩)), (4, .pointer (some ⟨(w.heap.size + 1), 0, none⟩)), (5, .pointer (some ⟨(w.heap.size + 1 + 1), 0, none⟩)), (7, .pointer (some ⟨w4.heap.size, 0, none⟩))] rfl (by decide) (by decide) (by decide) ha (fun o ho hg => y_of (wanted_none hg) (fun wx hS => e_pick ho (ha.ev (i := 31) (v := .bool true) (by simp)) (ha.ev (i := 40) (v := .bool true) (by simp)) rfl)) (by simp) hSw ?_; intro a ha
  refine line_still ringR 20 20 [] 42 (.bool true) [(3, .pointer (some ⟨w.heap.size, 0, none⟩)), (4, .pointer (some ⟨(w.heap.size + 1), 0, none⟩)), (5, .pointer (some ⟨(w.heap.size + 1 + 1), 0, none⟩)), (7, .pointer (some ⟨w4.heap.size, 0, none⟩))] rfl (by decide) (by decide) (by decide) ha (fun o ho hg => y_of (wanted_none hg) (fun wx hS => e_move (.inl ho) (ha.ev (i := 41) (v := .bool true) (by simp)))) (by simp) hSw ?_; intro a ha
  refine line_still ringR 21 21 [] 43 (.agg #[(.bool (ngB x1)), (.slice A4 n4 c4), (.int .i64 (s1 : Int))]) [(42, .bool true), (3, .pointer (some ⟨w.heap.size, 0, none⟩)), (4, .pointer (some ⟨(w.heap.size + 1), 0, none⟩)), (5, .pointer (some ⟨(w.heap.size + 1 + 1), 0, none⟩)), (7, .pointer (some ⟨w4.heap.size, 0, none⟩))] rfl (by decide) (by decide) (by decide) ha (fun o ho hg => y_of (ringR.wanted hg rfl ha (d := 42) (by simp)) (fun wx hS => e_load ho (ha.ev (i := 7) (v := .pointer (some ⟨w4.heap.size, 0, none⟩)) (by simp)) (hS.at_ (g := w4.heap.size) (x0 := (.bool (ngB x1))) (x1 := (.slice A4 n4 c4)) (x2 := (.int .i64 (s1 : Int))) (by simp)))) (by simp) hSw ?_; intro a ha
  refine line_still ringR 22 22 [] 44 (.agg #[(.bool (ngB j)), (.slice Ab nb cb), (.int .i64 (t : Int))]) [(43, .agg #[(.bool (ngB x1)), (.slice A4 n4 c4), (.int .i64 (s1 : Int))]), (42, .bool true), (3, .pointer (some ⟨w.heap.size, 0, none⟩)), (4, .pointer (some ⟨(w.heap.size + 1), 0, none⟩)), (5, .pointer (some ⟨(w.heap.size + 1 + 1), 0, none⟩)), (7, .pointer (some ⟨w4.heap.size, 0, none⟩))] rfl (by decide) (by decide) (by decide) ha (fun o ho hg => y_of (ringR.wanted hg rfl ha (d := 42) (by simp)) (fun wx hS => e_load ho (ha.ev (i := 4) (v := .pointer (some ⟨(w.heap.size + 1), 0, none⟩)) (by simp)) (hS.at_ (g := (w.heap.size + 1)) (x0 := (.bool (ngB j))) (x1 := (.slice Ab nb cb)) (x2 := (.int .i64 (t : Int))) (by simp)))) (by simp) hSw ?_; intro a ha
  refine line_ahead ringR 23 23 [] 24 46 (.agg #[(.bool (ngB i)), (.slice Aa na ca), (.int .i64 (s : Int))]) [(44, .agg #[(.bool (ngB j)), (.slice Ab nb cb), (.int .i64 (t : Int))]), (43, .agg #[(.bool (ngB x1)), (.slice A4 n4 c4), (.int .i64 (s1 : Int))]), (42, .bool true), (3, .pointer (some ⟨w.heap.size, 0, none⟩)), (4, .pointer (some ⟨(w.heap.size + 1), 0, none⟩)), (5, .pointer (some ⟨(w.heap.size + 1 + 1), 0, none⟩)), (7, .pointer (some ⟨w4.heap.size, 0, none⟩))] rfl (by decide) (by decide) (by decide) ha (fun o ho hg => y_of (ringR.wanted hg rfl ha (d := 42) (by simp)) (fun wx hS => e_load ho (ha.ev (i := 3) (v := .pointer (some ⟨w.heap.size, 0, none⟩)) (by simp)) (hS.at_ (g := w.heap.size) (x0 := (.bool (ngB i))) (x1 := (.slice Aa na ca)) (x2 := (.int .i64 (s : Int))) (by simp)))) (by simp) hSw ?_; intro a ha
  refine line_call ringR 24 23 [24] 45 (args := #[.agg #[(.bool (ngB x1)), (.slice A4 n4 c4), (.int .i64 (s1 : Int))], .agg #[(.bool (ngB j)), (.slice Ab nb cb), (.int .i64 (t : Int))]]) [(46, .agg #[(.bool (ngB i)), (.slice Aa na ca), (.int .i64 (s : Int))]), (42, .bool true), (3, .pointer (some ⟨w.heap.size, 0, none⟩)), (4, .pointer (some ⟨(w.heap.size + 1), 0, none⟩)), (5, .pointer (some ⟨(w.heap.size + 1 + 1), 0, none⟩)), (7, .pointer (some ⟨w4.heap.size, 0, none⟩))] rfl (by decide) (by decide) (by decide) ha (fun o ho hg => ⟨(ringR.wanted hg rfl ha (d := 42) (by simp)), e_call (by kernel_rfl) ho rfl (by have q0 := ha.ev (i := 43) (v := .agg #[(.bool (ngB x1)), (.slice A4 n4 c4), (.int .i64 (s1 : Int))]) (by simp); have q1 := ha.ev (i := 44) (v := .agg #[(.bool (ngB j)), (.slice Ab nb cb), (.int .i64 (t : Int))]) (by simp); simp only [List.map_toArray, List.map_cons, List.map_nil, ev_const, q0, q1])⟩) (by simp) ?_
  refine (sub_is5 (i := x1) (s := s1) (j := j) (t := t) (St.got E (A := A4) (n := n4) (c := c4) (a := (x1).natAbs) (by simp)) (St.got E (A := Ab) (n := nb) (c := cb) (a := (j).natAbs) (by simp)) (by omega) (by omega) (by omega) (by omega) HS6.out HX6.out).mono ?_; rintro e w12 ⟨A12, n12, c12, rfl, h, hb⟩
  have b12 : n12 ≤ 170 := len_le h HL6.out
  replace E := Lib.hid (St.push E.out hb h)
  clear h hb
  have hSw := St.sb E; refine ⟨_, rfl, hSw, ?_⟩; intro a ha
  refine line_skip [] (by intro i; simp <;> omega) ?_
  refine line_call ringR 25 25 [] 47 (args := #[.agg #[.bool (ngB x6), .slice A12 n12 c12, .int .i64 (s6 : Int)], .agg #[(.bool (ngB i)), (.slice Aa na ca), (.int .i64 (s : Int))]]) [(42, .bool true), (3, .pointer (some ⟨w.heap.size, 0, none⟩)), (4, .pointer (some ⟨(w.heap.size + 1), 0, none⟩)), (5, .pointer (some ⟨(w.heap.size + 1 + 1), 0, none⟩)), (7, .pointer (some ⟨w4.heap.size, 0, none⟩))] rfl (by decide) (by decide) (by decide) ha (fun o ho hg => ⟨(ringR.wanted hg rfl ha (d := 42) (by simp)), e_call (by kernel_rfl) ho rfl (by have q0 := ha.ev (i := 45) (v := .agg #[.bool (ngB x6), .slice A12 n12 c12, .int .i64 (s6 : Int)]) (by simp); have q1 := ha.ev (i := 46) (v := .agg #[(.bool (ngB i)), (.slice Aa na ca), (.int .i64 (s : Int))]) (by simp); simp only [List.map_toArray, List.map_cons, List.map_nil, ev_const, q0, q1])⟩) (by simp) ?_
  refine (same_is5 (i := x6) (s := s6) (j := i) (t := s) (St.got E (A := A12) (n := n12) (c := c12) (a := (x6).natAbs) (by simp)) (St.got E (A := Aa) (n := na) (c := ca) (a := (i).natAbs) (by simp)) (by omega) (by omega) (by omega) (by omega) F3.out).mono ?_; rintro e w13 ⟨rfl, hb⟩
  replace E := Lib.hid (St.step E.out hb)
  clear hb
  replace E : Hid (St w w13 [(A4, n4, c4, (x1).natAbs), (Aa, na, ca, (i).natAbs), (Ab, nb, cb, (j).natAbs), (Ac, nc, cc, (k).natAbs)] [(w4.heap.size, (.bool (ngB x1)), (.slice A4 n4 c4), (.int .i64 (s1 : Int))), ((w.heap.size + 1 + 1), (.bool (ngB k)), (.slice Ac nc cc), (.int .i64 (u : Int))), ((w.heap.size + 1), (.bool (ngB j)), (.slice Ab nb cb), (.int .i64 (t : Int))), (w.heap.size, (.bool (ngB i)), (.slice Aa na ca), (.int .i64 (s : Int)))]) := Lib.hid ((E.out).sub (by simp) (by simp))
  have hSw := St.sb E; refine ⟨_, rfl, hSw, ?_⟩; intro a ha
  refine line_still ringR 26 26 [] 48 (.bool true) [(3, .pointer (some ⟨w.heap.size, 0, none⟩)), (4, .pointer (some ⟨(w.heap.size + 1), 0, none⟩)), (5, .pointer (some ⟨(w.heap.size + 1 + 1), 0, none⟩)), (7, .pointer (some ⟨w4.heap.size, 0, none⟩))] rfl (by decide) (by decide) (by decide) ha (fun o ho hg => y_of (wanted_none hg) (fun wx hS => e_pick ho (ha.ev (i := 42) (v := .bool true) (by simp)) (ha.ev (i := 47) (v := .bool true) (by simp)) rfl)) (by simp) hSw ?_; intro a ha
  refine line_still ringR 27 27 [] 49 (.bool true) [(3, .pointer (some ⟨w.heap.size, 0, none⟩)), (4, .pointer (some ⟨(w.heap.size + 1), 0, none⟩)), (5, .pointer (some ⟨(w.heap.size + 1 + 1), 0, none⟩)), (7, .pointer (some ⟨w4.heap.size, 0, none⟩))] rfl (by decide) (by decide) (by decide) ha (fun o ho hg => y_of (wanted_none hg) (fun wx hS => e_move (.inl ho) (ha.ev (i := 48) (v := .bool true) (by simp)))) (by simp) hSw ?_; intro a ha
  refine line_still ringR 28 28 [] 50 (.agg #[(.bool (ngB i)), (.slice Aa na ca), (.int .i64 (s : Int))]) [(49, .bool true), (3, .pointer (some ⟨w.heap.size, 0, none⟩)), (4, .pointer (some ⟨(w.heap.size + 1), 0, none⟩)), (5, .pointer (some ⟨(w.heap.size + 1 + 1), 0, none⟩)), (7, .pointer (some ⟨w4.heap.size, 0, none⟩))] rfl (by decide) (by decide) (by decide) ha (fun o ho hg => y_of (ringR.wanted hg rfl ha (d := 49) (by simp)) (fun wx hS => e_load ho (ha.ev (i := 3) (v := .pointer (some ⟨w.heap.size, 0, none⟩)) (by simp)) (hS.at_ (g := w.heap.size) (x0 := (.bool (ngB i))) (x1 := (.slice Aa na ca)) (x2 := (.int .i64 (s : Int))) (by simp)))) (by simp) hSw ?_; intro a ha
  refine line_still ringR 29 29 [] 51 (.agg #[(.bool (ngB j)), (.slice Ab nb cb), (.int .i64 (t : Int))]) [(50, .agg #[(.bool (ngB i)), (.slice Aa na ca), (.int .i64 (s : Int))]), (49, .bool true), (3, .pointer (some ⟨w.heap.size, 0, none⟩)), (4, .pointer (some ⟨(w.heap.size + 1), 0, none⟩)), (5, .pointer (some ⟨(w.heap.size + 1 + 1), 0, none⟩)), (7, .pointer (some ⟨w4.heap.size, 0, none⟩))] rfl (by decide) (by decide) (by decide) ha (fun o ho hg => y_of (ringR.wanted hg rfl ha (d := 49) (by simp)) (fun wx hS => e_load ho (ha.ev (i := 4) (v := .pointer (some ⟨(w.heap.size + 1), 0, none⟩)) (by simp)) (hS.at_ (g := (w.heap.size + 1)) (x0 := (.bool (ngB j))) (x1 := (.slice Ab nb cb)) (x2 := (.int .i64 (t : Int))) (by simp)))) (by simp) hSw ?_; intro a ha
  refine line_ahead ringR 30 30 [] 31 53 (.agg #[(.bool (ngB j)), (.slice Ab nb cb), (.int .i64 (t : Int))]) [(51, .agg #[(.bool (ngB j)), (.slice Ab nb cb), (.int .i64 (t : Int))]), (50, .agg #[(.bool (ngB i)), (.slice Aa na ca), (.int .i64 (s : Int))]), (49, .bool true), (3, .pointer (some ⟨w.heap.size, 0, none⟩)), (4, .pointer (some ⟨(w.heap.size + 1), 0, none⟩)), (5, .pointer (some ⟨(w.heap.size + 1 + 1), 0, none⟩)), (7, .pointer (some ⟨w4.heap.size, 0, none⟩))] rfl (by decide) (by decide) (by decide) ha (fun o ho hg => y_of (ringR.wanted hg rfl ha (d := 49) (by simp)) (fun wx hS => e_load ho (ha.ev (i := 4) (v := .pointer (some ⟨(w.heap.size + 1), 0, none⟩)) (by simp)) (hS.at_ (g := (w.heap.size + 1)) (x0 := (.bool (ngB j))) (x1 := (.slice Ab nb cb)) (x2 := (.int .i64 (t : Int))) (by simp)))) (by simp) hSw ?_; intro a ha
  refine line_ahead ringR 31 30 [31] 32 54 (.agg #[(.bool (ngB i)), (.slice Aa na ca), (.int .i64 (s : Int))]) [(53, .agg #[(.bool (ngB j)), (.slice Ab nb cb), (.int .i64 (t : Int))]), (51, .agg #[(.bool (ngB j)), (.slice Ab nb cb), (.int .i64 (t : Int))]), (50, .agg #[(.bool (ngB i)), (.slice Aa na ca), (.int .i64 (s : Int))]), (49, .bool true), (3, .pointer (some ⟨w.heap.size, 0, none⟩)), (4, .pointer (some ⟨(w.heap.size + 1), 0, none⟩)), (5, .pointer (some ⟨(w.heap.size + 1 + 1), 0, none⟩)), (7, .pointer (some ⟨w4.heap.size, 0, none⟩))] rfl (by decide) (by decide) (by decide) ha (fun o ho hg => y_of (ringR.wanted hg rfl ha (d := 49) (by simp)) (fun wx hS => e_load ho (ha.ev (i := 3) (v := .pointer (some ⟨w.heap.size, 0, none⟩)) (by simp)) (hS.at_ (g := w.heap.size) (x0 := (.bool (ngB i))) (x1 := (.slice Aa na ca)) (x2 := (.int .i64 (s : Int))) (by simp)))) (by simp) hSw ?_; intro a ha
  refine line_call ringR 32 30 [32, 31] 52 (args := #[.agg #[(.bool (ngB i)), (.slice Aa na ca), (.int .i64 (s : Int))], .agg #[(.bool (ngB j)), (.slice Ab nb cb), (.int .i64 (t : Int))]]) [(54, .agg #[(.bool (ngB i)), (.slice Aa na ca), (.int .i64 (s : Int))]), (53, .agg #[(.bool (ngB j)), (.slice Ab nb cb), (.int .i64 (t : Int))]), (49, .bool true), (3, .pointer (some ⟨w.heap.size, 0, none⟩)), (4, .pointer (some ⟨(w.heap.size + 1), 0, none⟩)), (5, .pointer (some ⟨(w.heap.size + 1 + 1), 0, none⟩)), (7, .pointer (some ⟨w4.heap.size, 0, none⟩))] rfl (by decide) (by decide) (by decide) ha (fun o ho hg => ⟨(ringR.wanted hg rfl ha (d := 49) (by simp)), e_call (by kernel_rfl) ho rfl (by have q0 := ha.ev (i := 50) (v := .agg #[(.bool (ngB i)), (.slice Aa na ca), (.int .i64 (s : Int))]) (by simp); have q1 := ha.ev (i := 51) (v := .agg #[(.bool (ngB j)), (.slice Ab nb cb), (.int .i64 (t : Int))]) (by simp); simp only [List.map_toArray, List.map_cons, List.map_nil, ev_const, q0, q1])⟩) (by simp) ?_
  refine (mul_is5 (i := i) (s := s) (j := j) (t := t) (St.got E (A := Aa) (n := na) (c := ca) (a := (i).natAbs) (by simp)) (St.got E (A := Ab) (n := nb) (c := cb) (a := (j).natAbs) (by simp)) (by omega) (by omega) (by omega) (by omega) HS7.out HX7.out).mono ?_; rintro e w14 ⟨A14, n14, c14, rfl, h, hb⟩
  have b14 : n14 ≤ 336 := len_le h HL7.out
  replace E := Lib.hid (St.push E.out hb h)
  clear h hb
  have hSw := St.sb E; refine ⟨_, rfl, hSw, ?_⟩; intro a ha
  refine line_skip [32] (by intro i; simp <;> omega) ?_
  refine line_skip [] (by intro i; simp <;> omega) ?_
  refine line_call ringR 33 33 [] 55 (args := #[.agg #[(.bool (ngB j)), (.slice Ab nb cb), (.int .i64 (t : Int))], .agg #[(.bool (ngB i)), (.slice Aa na ca), (.int .i64 (s : Int))]]) [(52, .agg #[.bool (ngB x7), .slice A14 n14 c14, .int .i64 (s7 : Int)]), (49, .bool true), (3, .pointer (some ⟨w.heap.size, 0, none⟩)), (4, .pointer (some ⟨(w.heap.size + 1), 0, none⟩)), (5, .pointer (some ⟨(w.heap.size + 1 + 1), 0, none⟩)), (7, .pointer (some ⟨w4.heap.size, 0, none⟩))] rfl (by decide) (by decide) (by decide) ha (fun o ho hg => ⟨(ringR.wanted hg rfl ha (d := 49) (by simp)), e_call (by kernel_rfl) ho rfl (by have q0 := ha.ev (i := 53) (v := .agg #[(.bool (ngB j)), (.slice Ab nb cb), (.int .i64 (t : Int))]) (by simp); have q1 := ha.ev (i := 54) (v := .agg #[(.bool (ngB i)), (.slice Aa na ca), (.int .i64 (s : Int))]) (by simp); simp only [List.map_toArray, List.map_cons, List.map_nil, ev_const, q0, q1])⟩) (by simp) ?_
  refine (mul_is5 (i := j) (s := t) (j := i) (t := s) (St.got E (A := Ab) (n := nb) (c := cb) (a := (j).natAbs) (by simp)) (St.got E (A := Aa) (n := na) (c := ca) (a := (i).natAbs) (by simp)) (by omega) (by omega) (by omega) (by omega) HS8.out HX8.out).mono ?_; rintro e w15 ⟨A15, n15, c15, rfl, h, hb⟩
  have b15 : n15 ≤ 336 := len_le h HL8.out
  replace E := Lib.hid (St.push E.out hb h)
  clear h hb
  have hSw := St.sb E; refine ⟨_, rfl, hSw, ?_⟩; intro a ha
  refine line_call ringR 34 34 [] 56 (args := #[.agg #[.bool (ngB x7), .slice A14 n14 c14, .int .i64 (s7 : Int)], .agg #[.bool (ngB x8), .slice A15 n15 c15, .int .i64 (s8 : Int)]]) [(49, .bool true), (3, .pointer (some ⟨w.heap.size, 0, none⟩)), (4, .pointer (some ⟨(w.heap.size + 1), 0, none⟩)), (5, .pointer (some ⟨(w.heap.size + 1 + 1), 0, none⟩)), (7, .pointer (some ⟨w4.heap.size, 0, none⟩))] rfl (by decide) (by decide) (by decide) ha (fun o ho hg => ⟨(ringR.wanted hg rfl ha (d := 49) (by simp)), e_call (by kernel_rfl) ho rfl (by have q0 := ha.ev (i := 52) (v := .agg #[.bool (ngB x7), .slice A14 n14 c14, .int .i64 (s7 : Int)]) (by simp); have q1 := ha.ev (i := 55) (v := .agg #[.bool (ngB x8), .slice A15 n15 c15, .int .i64 (s8 : Int)]) (by simp); simp only [List.map_toArray, List.map_cons, List.map_nil, ev_const, q0, q1])⟩) (by simp) ?_
  refine (alike_is5 (i := x7) (j := x8) (s := s7) (t := s8) (St.got E (A := A14) (n := n14) (c := c14) (a := (x7).natAbs) (by simp)) (St.got E (A := A15) (n := n15) (c := c15) (a := (x8).natAbs) (by simp)) F4.out).mono ?_; rintro e w16 ⟨rfl, hb⟩
  replace E := Lib.hid (St.step E.out hb)
  clear hb
  replace E : Hid (St w w16 [(A4, n4, c4, (x1).natAbs), (Aa, na, ca, (i).natAbs), (Ab, nb, cb, (j).natAbs), (Ac, nc, cc, (k).natAbs)] [(w4.heap.size, (.bool (ngB x1)), (.slice A4 n4 c4), (.int .i64 (s1 : Int))), ((w.heap.size + 1 + 1), (.bool (ngB k)), (.slice Ac nc cc), (.int .i64 (u : Int))), ((w.heap.size + 1), (.bool (ngB j)), (.slice Ab nb cb), (.int .i64 (t : Int))), (w.heap.size, (.bool (ngB i)), (.slice Aa na ca), (.int .i64 (s : Int)))]) := Lib.hid ((E.out).sub (by simp) (by simp))
  have hSw := St.sb E; refine ⟨_, rfl, hSw, ?_⟩; intro a ha
  refine line_still ringR 35 35 [] 57 (.bool true) [(3, .pointer (some ⟨w.heap.size, 0, none⟩)), (4, .pointer (some ⟨(w.heap.size + 1), 0, none⟩)), (5, .pointer (some ⟨(w.heap.size + 1 + 1), 0, none⟩)), (7, .pointer (some ⟨w4.heap.size, 0, none⟩))] rfl (by decide) (by decide) (by decide) ha (fun o ho hg => y_of (wanted_none hg) (fun wx hS => e_pick ho (ha.ev (i := 49) (v := .bool true) (by simp)) (ha.ev (i := 56) (v := .bool true) (by simp)) rfl)) (by simp) hSw ?_; intro a ha
  refine line_still ringR 36 36 [] 58 (.bool true) [(3, .pointer (some ⟨w.heap.size, 0, none⟩)), (4, .pointer (some ⟨(w.heap.size + 1), 0, none⟩)), (5, .pointer (some ⟨(w.heap.size + 1 + 1), 0, none⟩)), (7, .pointer (some ⟨w4.heap.size, 0, none⟩))] rfl (by decide) (by decide) (by decide) ha (fun o ho hg => y_of (wanted_none hg) (fun wx hS => e_move (.inl ho) (ha.ev (i := 57) (v := .bool true) (by simp)))) (by simp) hSw ?_; intro a ha
  refine line_still ringR 37 37 [] 59 (.agg #[(.bool (ngB i)), (.slice Aa na ca), (.int .i64 (s : Int))]) [(58, .bool true), (3, .pointer (some ⟨w.heap.size, 0, none⟩)), (4, .pointer (some ⟨(w.heap.size + 1), 0, none⟩)), (5, .pointer (some ⟨(w.heap.size + 1 + 1), 0, none⟩)), (7, .pointer (some ⟨w4.heap.size, 0, none⟩))] rfl (by decide) (by decide) (by decide) ha (fun o ho hg => y_of (ringR.wanted hg rfl ha (d := 58) (by simp)) (fun wx hS => e_load ho (ha.ev (i := 3) (v := .pointer (some ⟨w.heap.size, 0, none⟩)) (by simp)) (hS.at_ (g := w.heap.size) (x0 := (.bool (ngB i))) (x1 := (.slice Aa na ca)) (x2 := (.int .i64 (s : Int))) (by simp)))) (by simp) hSw ?_; intro a ha
  refine line_still ringR 38 38 [] 60 (.agg #[(.bool (ngB j)), (.slice Ab nb cb), (.int .i64 (t : Int))]) [(59, .agg #[(.bool (ngB i)), (.slice Aa na ca), (.int .i64 (s : Int))]), (58, .bool true), (3, .pointer (some ⟨w.heap.size, 0, none⟩)), (4, .pointer (some ⟨(w.heap.size + 1), 0, none⟩)), (5, .pointer (some ⟨(w.heap.size + 1 + 1), 0, none⟩)), (7, .pointer (some ⟨w4.heap.size, 0, none⟩))] rfl (by decide) (by decide) (by decide) ha (fun o ho hg => y_of (ringR.wanted hg rfl ha (d := 58) (by simp)) (fun wx hS => e_load ho (ha.ev (i := 4) (v := .pointer (some ⟨(w.heap.size + 1), 0, none⟩)) (by simp)) (hS.at_ (g := (w.heap.size + 1)) (x0 := (.bool (ngB j))) (x1 := (.slice Ab nb cb)) (x2 := (.int .i64 (t : Int))) (by simp)))) (by simp) hSw ?_; intro a ha
  refine line_ahead ringR 39 39 [] 40 62 (.agg #[(.bool (ngB k)), (.slice Ac nc cc), (.int .i64 (u : Int))]) [(60, .agg #[(.bool (ngB j)), (.slice Ab nb cb), (.int .i64 (t : Int))]), (59, .agg #[(.bool (ngB i)), (.slice Aa na ca), (.int .i64 (s : Int))]), (58, .bool true), (3, .pointer (some ⟨w.heap.size, 0, none⟩)), (4, .pointer (some ⟨(w.heap.size + 1), 0, none⟩)), (5, .pointer (some ⟨(w.heap.size + 1 + 1), 0, none⟩)), (7, .pointer (some ⟨w4.heap.size, 0, none⟩))] rfl (by decide) (by decide) (by decide) ha (fun o ho hg => y_of (ringR.wanted hg rfl ha (d := 58) (by simp)) (fun wx hS => e_load ho (ha.ev (i := 5) (v := .pointer (some ⟨(w.heap.size + 1 + 1), 0, none⟩)) (by simp)) (hS.at_ (g := (w.heap.size + 1 + 1)) (x0 := (.bool (ngB k))) (x1 := (.slice Ac nc cc)) (x2 := (.int .i64 (u : Int))) (by simp)))) (by simp) hSw ?_; intro a ha
  refine line_ahead ringR 40 39 [40] 42 64 (.agg #[(.bool (ngB i)), (.slice Aa na ca), (.int .i64 (s : Int))]) [(62, .agg #[(.bool (ngB k)), (.slice Ac nc cc), (.int .i64 (u : Int))]), (60, .agg #[(.bool (ngB j)), (.slice Ab nb cb), (.int .i64 (t : Int))]), (59, .agg #[(.bool (ngB i)), (.slice Aa na ca), (.int .i64 (s : Int))]), (58, .bool true), (3, .pointer (some ⟨w.heap.size, 0, none⟩)), (4, .pointer (some ⟨(w.heap.size + 1), 0, none⟩)), (5, .pointer (some ⟨(w.heap.size + 1 + 1), 0, none⟩)), (7, .pointer (some ⟨w4.heap.size, 0, none⟩))] rfl (by decide) (by decide) (by decide) ha (fun o ho hg => y_of (ringR.wanted hg rfl ha (d := 58) (by simp)) (fun wx hS => e_load ho (ha.ev (i := 3) (v := .pointer (some ⟨w.heap.size, 0, none⟩)) (by simp)) (hS.at_ (g := w.heap.size) (x0 := (.bool (ngB i))) (x1 := (.slice Aa na ca)) (x2 := (.int .i64 (s : Int))) (by simp)))) (by simp) hSw ?_; intro a ha
  refine line_ahead ringR 41 39 [42, 40] 43 65 (.agg #[(.bool (ngB j)), (.slice Ab nb cb), (.int .i64 (t : Int))]) [(64, .agg #[(.bool (ngB i)), (.slice Aa na ca), (.int .i64 (s : Int))]), (62, .agg #[(.bool (ngB k)), (.slice Ac nc cc), (.int .i64 (u : Int))]), (60, .agg #[(.bool (ngB j)), (.slice Ab nb cb), (.int .i64 (t : Int))]), (59, .agg #[(.bool (ngB i)), (.slice Aa na ca), (.int .i64 (s : Int))]), (58, .bool true), (3, .pointer (some ⟨w.heap.size, 0, none⟩)), (4, .pointer (some ⟨(w.heap.size + 1), 0, none⟩)), (5, .pointer (some ⟨(w.heap.size + 1 + 1), 0, none⟩)), (7, .pointer (some ⟨w4.heap.size, 0, none⟩))] rfl (by decide) (by decide) (by decide) ha (fun o ho hg => y_of (ringR.wanted hg rfl ha (d := 58) (by simp)) (fun wx hS => e_load ho (ha.ev (i := 4) (v := .pointer (some ⟨(w.heap.size + 1), 0, none⟩)) (by simp)) (hS.at_ (g := (w.heap.size + 1)) (x0 := (.bool (ngB j))) (x1 := (.slice Ab nb cb)) (x2 := (.int .i64 (t : Int))) (by simp)))) (by simp) hSw ?_; intro a ha
  refine line_ahead ringR 42 39 [43, 42, 40] 44 66 (.agg #[(.bool (ngB k)), (.slice Ac nc cc), (.int .i64 (u : Int))]) [(65, .agg #[(.bool (ngB j)), (.slice Ab nb cb), (.int .i64 (t : Int))]), (64, .agg #[(.bool (ngB i)), (.slice Aa na ca), (.int .i64 (s : Int))]), (62, .agg #[(.bool (ngB k)), (.slice Ac nc cc), (.int .i64 (u : Int))]), (60, .agg #[(.bool (ngB j)), (.slice Ab nb cb), (.int .i64 (t : Int))]), (59, .agg #[(.bool (ngB i)), (.slice Aa na ca), (.int .i64 (s : Int))]), (58, .bool true), (3, .pointer (some ⟨w.heap.size, 0, none⟩)), (4, .pointer (some ⟨(w.heap.size + 1), 0, none⟩)), (5, .pointer (some ⟨(w.heap.size + 1 + 1), 0, none⟩)), (7, .pointer (some ⟨w4.heap.size, 0, none⟩))] rfl (by decide) (by decide) (by decide) ha (fun o ho hg => y_of (ringR.wanted hg rfl ha (d := 58) (by simp)) (fun wx hS => e_load ho (ha.ev (i := 5) (v := .pointer (some ⟨(w.heap.size + 1 + 1), 0, none⟩)) (by simp)) (hS.at_ (g := (w.heap.size + 1 + 1)) (x0 := (.bool (ngB k))) (x1 := (.slice Ac nc cc)) (x2 := (.int .i64 (u : Int))) (by simp)))) (by simp) hSw ?_; intro a ha
  refine line_call ringR 43 39 [44, 43, 42, 40] 61 (args := #[.agg #[(.bool (ngB i)), (.slice Aa na ca), (.int .i64 (s : Int))], .agg #[(.bool (ngB j)), (.slice Ab nb cb), (.int .i64 (t : Int))]]) [(66, .agg #[(.bool (ngB k)), (.slice Ac nc cc), (.int .i64 (u : Int))]), (65, .agg #[(.bool (ngB j)), (.slice Ab nb cb), (.int .i64 (t : Int))]), (64, .agg #[(.bool (ngB i)), (.slice Aa na ca), (.int .i64 (s : Int))]), (62, .agg #[(.bool (ngB k)), (.slice Ac nc cc), (.int .i64 (u : Int))]), (58, .bool true), (3, .pointer (some ⟨w.heap.size, 0, none⟩)), (4, .pointer (some ⟨(w.heap.size + 1), 0, none⟩)), (5, .pointer (some ⟨(w.heap.size + 1 + 1), 0, none⟩)), (7, .pointer (some ⟨w4.heap.size, 0, none⟩))] rfl (by decide) (by decide) (by decide) ha (fun o ho hg => ⟨(ringR.wanted hg rfl ha (d := 58) (by simp)), e_call (by kernel_rfl) ho rfl (by have q0 := ha.ev (i := 59) (v := .agg #[(.bool (ngB i)), (.slice Aa na ca), (.int .i64 (s : Int))]) (by simp); have q1 := ha.ev (i := 60) (v := .agg #[(.bool (ngB j)), (.slice Ab nb cb), (.int .i64 (t : Int))]) (by simp); simp only [List.map_toArray, List.map_cons, List.map_nil, ev_const, q0, q1])⟩) (by simp) ?_
  refine (mul_is5 (i := i) (s := s) (j := j) (t := t) (St.got E (A := Aa) (n := na) (c := ca) (a := (i).natAbs) (by simp)) (St.got E (A := Ab) (n := nb) (c := cb) (a := (j).natAbs) (by simp)) (by omega) (by omega) (by omega) (by omega) HS9.out HX9.out).mono ?_; rintro e w17 ⟨A17, n17, c17, rfl, h, hb⟩
  have b17 : n17 ≤ 336 := len_le h HL9.out
  replace E := Lib.hid (St.push E.out hb h)
  clear h hb
  have hSw := St.sb E; refine ⟨_, rfl, hSw, ?_⟩; intro a ha
  refine line_skip [44, 43, 42] (by intro i; simp <;> omega) ?_
  refine line_call ringR 44 41 [44, 43, 42] 63 (args := #[.agg #[.bool (ngB x9), .slice A17 n17 c17, .int .i64 (s9 : Int)], .agg #[(.bool (ngB k)), (.slice Ac nc cc), (.int .i64 (u : Int))]]) [(66, .agg #[(.bool (ngB k)), (.slice Ac nc cc), (.int .i64 (u : Int))]), (65, .agg #[(.bool (ngB j)), (.slice Ab nb cb), (.int .i64 (t : Int))]), (64, .agg #[(.bool (ngB i)), (.slice Aa na ca), (.int .i64 (s : Int))]), (58, .bool true), (3, .pointer (some ⟨w.heap.size, 0, none⟩)), (4, .pointer (some ⟨(w.heap.size + 1), 0, none⟩)), (5, .pointer (some ⟨(w.heap.size + 1 + 1), 0, none⟩)), (7, .pointer (some ⟨w4.heap.size, 0, none⟩))] rfl (by decide) (by decide) (by decide) ha (fun o ho hg => ⟨(ringR.wanted hg rfl ha (d := 58) (by simp)), e_call (by kernel_rfl) ho rfl (by have q0 := ha.ev (i := 61) (v := .agg #[.bool (ngB x9), .slice A17 n17 c17, .int .i64 (s9 : Int)]) (by simp); have q1 := ha.ev (i := 62) (v := .agg #[(.bool (ngB k)), (.slice Ac nc cc), (.int .i64 (u : Int))]) (by simp); simp only [List.map_toArray, List.map_cons, List.map_nil, ev_const, q0, q1])⟩) (by simp) ?_
  refine (mul_is5 (i := x9) (s := s9) (j := k) (t := u) (St.got E (A := A17) (n := n17) (c := c17) (a := (x9).natAbs) (by simp)) (St.got E (A := Ac) (n := nc) (c := cc) (a := (k).natAbs) (by simp)) (by omega) (by omega) (by omega) (by omega) HS10.out HX10.out).mono ?_; rintro e w18 ⟨A18, n18, c18, rfl, h, hb⟩
  have b18 : n18 ≤ 504 := len_le h HL10.out
  replace E := Lib.hid (St.push E.out hb h)
  clear h hb
  have hSw := St.sb E; refine ⟨_, rfl, hSw, ?_⟩; intro a ha
  refine line_skip [44, 43] (by intro i; simp <;> omega) ?_
  refine line_skip [44] (by intro i; simp <;> omega) ?_
  refine line_skip [] (by intro i; simp <;> omega) ?_
  refine line_call ringR 45 45 [] 67 (args := #[.agg #[(.bool (ngB j)), (.slice Ab nb cb), (.int .i64 (t : Int))], .agg #[(.bool (ngB k)), (.slice Ac nc cc), (.int .i64 (u : Int))]]) [(63, .agg #[.bool (ngB x10), .slice A18 n18 c18, .int .i64 (s10 : Int)]), (64, .agg #[(.bool (ngB i)), (.slice Aa na ca), (.int .i64 (s : Int))]), (58, .bool true), (3, .pointer (some ⟨w.heap.size, 0, none⟩)), (4, .pointer (some ⟨(w.heap.size + 1), 0, none⟩)), (5, .pointer (some ⟨(w.heap.size + 1 + 1), 0, none⟩)), (7, .pointer (some ⟨w4.heap.size, 0, none⟩))] rfl (by decide) (by decide) (by decide) ha (fun o ho hg => ⟨(ringR.wanted hg rfl ha (d := 58) (by simp)), e_call (by kernel_rfl) ho rfl (by have q0 := ha.ev (i := 65) (v := .agg #[(.bool (ngB j)), (.slice Ab nb cb), (.int .i64 (t : Int))]) (by simp); have q1 := ha.ev (i := 66) (v := .agg #[(.bool (ngB k)), (.slice Ac nc cc), (.int .i64 (u : Int))]) (by simp); simp only [List.map_toArray, List.map_cons, List.map_nil, ev_const, q0, q1])⟩) (by simp) ?_
  refine (mul_is5 (i := j) (s := t) (j := k) (t := u) (St.got E (A := Ab) (n := nb) (c := cb) (a := (j).natAbs) (by simp)) (St.got E (A := Ac) (n := nc) (c := cc) (a := (k).natAbs) (by simp)) (by omega) (by omega) (by omega) (by omega) HS11.out HX11.out).mono ?_; rintro e w19 ⟨A19, n19, c19, rfl, h, hb⟩
  have b19 : n19 ≤ 336 := len_le h HL11.out
  replace E := Lib.hid (St.push E.out hb h)
  clear h hb
  have hSw := St.sb E; refine ⟨_, rfl, hSw, ?_⟩; intro a ha
  refine line_call ringR 46 46 [] 68 (args := #[.agg #[(.bool (ngB i)), (.slice Aa na ca), (.int .i64 (s : Int))], .agg #[.bool (ngB x11), .slice A19 n19 c19, .int .i64 (s11 : Int)]]) [(63, .agg #[.bool (ngB x10), .slice A18 n18 c18, .int .i64 (s10 : Int)]), (58, .bool true), (3, .pointer (some ⟨w.heap.size, 0, none⟩)), (4, .pointer (some ⟨(w.heap.size + 1), 0, none⟩)), (5, .pointer (some ⟨(w.heap.size + 1 + 1), 0, none⟩)), (7, .pointer (some ⟨w4.heap.size, 0, none⟩))] rfl (by decide) (by decide) (by decide) ha (fun o ho hg => ⟨(ringR.wanted hg rfl ha (d := 58) (by simp)), e_call (by kernel_rfl) ho rfl (by have q0 := ha.ev (i := 64) (v := .agg #[(.bool (ngB i)), (.slice Aa na ca), (.int .i64 (s : Int))]) (by simp); have q1 := ha.ev (i := 67) (v := .agg #[.bool (ngB x11), .slice A19 n19 c19, .int .i64 (s11 : Int)]) (by simp); simp only [List.map_toArray, List.map_cons, List.map_nil, ev_const, q0, q1])⟩) (by simp) ?_
  refine (mul_is5 (i := i) (s := s) (j := x11) (t := s11) (St.got E (A := Aa) (n := na) (c := ca) (a := (i).natAbs) (by simp)) (St.got E (A := A19) (n := n19) (c := c19) (a := (x11).natAbs) (by simp)) (by omega) (by omega) (by omega) (by omega) HS12.out HX12.out).mono ?_; rintro e w20 ⟨A20, n20, c20, rfl, h, hb⟩
  have b20 : n20 ≤ 504 := len_le h HL12.out
  replace E := Lib.hid (St.push E.out hb h)
  clear h hb
  have hSw := St.sb E; refine ⟨_, rfl, hSw, ?_⟩; intro a ha
  refine line_call ringR 47 47 [] 69 (args := #[.agg #[.bool (ngB x10), .slice A18 n18 c18, .int .i64 (s10 : Int)], .agg #[.bool (ngB x12), .slice A20 n20 c20, .int .i64 (s12 : Int)]]) [(58, .bool true), (3, .pointer (some ⟨w.heap.size, 0, none⟩)), (4, .pointer (some ⟨(w.heap.size + 1), 0, none⟩)), (5, .pointer (some ⟨(w.heap.size + 1 + 1), 0, none⟩)), (7, .pointer (some ⟨w4.heap.size, 0, none⟩))] rfl (by decide) (by decide) (by decide) ha (fun o ho hg => ⟨(ringR.wanted hg rfl ha (d := 58) (by simp)), e_call (by kernel_rfl) ho rfl (by have q0 := ha.ev (i := 63) (v := .agg #[.bool (ngB x10), .slice A18 n18 c18, .int .i64 (s10 : Int)]) (by simp); have q1 := ha.ev (i := 68) (v := .agg #[.bool (ngB x12), .slice A20 n20 c20, .int .i64 (s12 : Int)]) (by simp); simp only [List.map_toArray, List.map_cons, List.map_nil, ev_const, q0, q1])⟩) (by simp) ?_
  refine (same_is5 (i := x10) (s := s10) (j := x12) (t := s12) (St.got E (A := A18) (n := n18) (c := c18) (a := (x10).natAbs) (by simp)) (St.got E (A := A20) (n := n20) (c := c20) (a := (x12).natAbs) (by simp)) (by omega) (by omega) (by omega) (by omega) F5.out).mono ?_; rintro e w21 ⟨rfl, hb⟩
  replace E := Lib.hid (St.step E.out hb)
  clear hb
  replace E : Hid (St w w21 [(A4, n4, c4, (x1).natAbs), (Aa, na, ca, (i).natAbs), (Ab, nb, cb, (j).natAbs), (Ac, nc, cc, (k).natAbs)] [(w4.heap.size, (.bool (ngB x1)), (.slice A4 n4 c4), (.int .i64 (s1 : Int))), ((w.heap.size + 1 + 1), (.bool (ngB k)), (.slice Ac nc cc), (.int .i64 (u : Int))), ((w.heap.size + 1), (.bool (ngB j)), (.slice Ab nb cb), (.int .i64 (t : Int))), (w.heap.size, (.bool (ngB i)), (.slice Aa na ca), (.int .i64 (s : Int)))]) := Lib.hid ((E.out).sub (by simp) (by simp))
  have hSw := St.sb E; refine ⟨_, rfl, hSw, ?_⟩; intro a ha
  refine line_still ringR 48 48 [] 70 (.bool true) [(3, .pointer (some ⟨w.heap.size, 0, none⟩)), (4, .pointer (some ⟨(w.heap.size + 1), 0, none⟩)), (5, .pointer (some ⟨(w.heap.size + 1 + 1), 0, none⟩)), (7, .pointer (some ⟨w4.heap.size, 0, none⟩))] rfl (by decide) (by decide) (by decide) ha (fun o ho hg => y_of (wanted_none hg) (fun wx hS => e_pick ho (ha.ev (i := 58) (v := .bool true) (by simp)) (ha.ev (i := 69) (v := .bool true) (by simp)) rfl)) (by simp) hSw ?_; intro a ha
  refine line_still ringR 49 49 [] 71 (.bool true) [(3, .pointer (some ⟨w.heap.size, 0, none⟩)), (4, .pointer (some ⟨(w.heap.size + 1), 0, none⟩)), (5, .pointer (some ⟨(w.heap.size + 1 + 1), 0, none⟩)), (7, .pointer (some ⟨w4.heap.size, 0, none⟩))] rfl (by decide) (by decide) (by decide) ha (fun o ho hg => y_of (wanted_none hg) (fun wx hS => e_move (.inl ho) (ha.ev (i := 70) (v := .bool true) (by simp)))) (by simp) hSw ?_; intro a ha
  refine line_still ringR 50 50 [] 72 (.agg #[(.bool (ngB x1)), (.slice A4 n4 c4), (.int .i64 (s1 : Int))]) [(71, .bool true), (3, .pointer (some ⟨w.heap.size, 0, none⟩)), (4, .pointer (some ⟨(w.heap.size + 1), 0, none⟩)), (5, .pointer (some ⟨(w.heap.size + 1 + 1), 0, none⟩))] rfl (by decide) (by decide) (by decide) ha (fun o ho hg => y_of (ringR.wanted hg rfl ha (d := 71) (by simp)) (fun wx hS => e_load ho (ha.ev (i := 7) (v := .pointer (some ⟨w4.heap.size, 0, none⟩)) (by simp)) (hS.at_ (g := w4.heap.size) (x0 := (.bool (ngB x1))) (x1 := (.slice A4 n4 c4)) (x2 := (.int .i64 (s1 : Int))) (by simp)))) (by simp) hSw ?_; intro a ha
  refine line_still ringR 51 51 [] 73 (.agg #[(.bool (ngB k)), (.slice Ac nc cc), (.int .i64 (u : Int))]) [(72, .agg #[(.bool (ngB x1)), (.slice A4 n4 c4), (.int .i64 (s1 : Int))]), (71, .bool true), (3, .pointer (some ⟨w.heap.size, 0, none⟩)), (4, .pointer (some ⟨(w.heap.size + 1), 0, none⟩)), (5, .pointer (some ⟨(w.heap.size + 1 + 1), 0, none⟩))] rfl (by decide) (by decide) (by decide) ha (fun o ho hg => y_of (ringR.wanted hg rfl ha (d := 71) (by simp)) (fun wx hS => e_load ho (ha.ev (i := 5) (v := .pointer (some ⟨(w.heap.size + 1 + 1), 0, none⟩)) (by simp)) (hS.at_ (g := (w.heap.size + 1 + 1)) (x0 := (.bool (ngB k))) (x1 := (.slice Ac nc cc)) (x2 := (.int .i64 (u : Int))) (by simp)))) (by simp) hSw ?_; intro a ha
  refine line_ahead ringR 52 52 [] 53 75 (.agg #[(.bool (ngB i)), (.slice Aa na ca), (.int .i64 (s : Int))]) [(73, .agg #[(.bool (ngB k)), (.slice Ac nc cc), (.int .i64 (u : Int))]), (72, .agg #[(.bool (ngB x1)), (.slice A4 n4 c4), (.int .i64 (s1 : Int))]), (71, .bool true), (3, .pointer (some ⟨w.heap.size, 0, none⟩)), (4, .pointer (some ⟨(w.heap.size + 1), 0, none⟩)), (5, .pointer (some ⟨(w.heap.size + 1 + 1), 0, none⟩))] rfl (by decide) (by decide) (by decide) ha (fun o ho hg => y_of (ringR.wanted hg rfl ha (d := 71) (by simp)) (fun wx hS => e_load ho (ha.ev (i := 3) (v := .pointer (some ⟨w.heap.size, 0, none⟩)) (by simp)) (hS.at_ (g := w.heap.size) (x0 := (.bool (ngB i))) (x1 := (.slice Aa na ca)) (x2 := (.int .i64 (s : Int))) (by simp)))) (by simp) hSw ?_; intro a ha
  refine line_ahead ringR 53 52 [53] 54 76 (.agg #[(.bool (ngB k)), (.slice Ac nc cc), (.int .i64 (u : Int))]) [(75, .agg #[(.bool (ngB i)), (.slice Aa na ca), (.int .i64 (s : Int))]), (73, .agg #[(.bool (ngB k)), (.slice Ac nc cc), (.int .i64 (u : Int))]), (72, .agg #[(.bool (ngB x1)), (.slice A4 n4 c4), (.int .i64 (s1 : Int))]), (71, .bool true), (3, .pointer (some ⟨w.heap.size, 0, none⟩)), (4, .pointer (some ⟨(w.heap.size + 1), 0, none⟩)), (5, .pointer (some ⟨(w.heap.size + 1 + 1), 0, none⟩))] rfl (by decide) (by decide) (by decide) ha (fun o ho hg => y_of (ringR.wanted hg rfl ha (d := 71) (by simp)) (fun wx hS => e_load ho (ha.ev (i := 5) (v := .pointer (some ⟨(w.heap.size + 1 + 1), 0, none⟩)) (by simp)) (hS.at_ (g := (w.heap.size + 1 + 1)) (x0 := (.bool (ngB k))) (x1 := (.slice Ac nc cc)) (x2 := (.int .i64 (u : Int))) (by simp)))) (by simp) hSw ?_; intro a ha
  refine line_ahead ringR 54 52 [54, 53] 56 78 (.agg #[(.bool (ngB j)), (.slice Ab nb cb), (.int .i64 (t : Int))]) [(76, .agg #[(.bool (ngB k)), (.slice Ac nc cc), (.int .i64 (u : Int))]), (75, .agg #[(.bool (ngB i)), (.slice Aa na ca), (.int .i64 (s : Int))]), (73, .agg #[(.bool (ngB k)), (.slice Ac nc cc), (.int .i64 (u : Int))]), (72, .agg #[(.bool (ngB x1)), (.slice A4 n4 c4), (.int .i64 (s1 : Int))]), (71, .bool true), (3, .pointer (some ⟨w.heap.size, 0, none⟩)), (4, .pointer (some ⟨(w.heap.size + 1), 0, none⟩)), (5, .pointer (some ⟨(w.heap.size + 1 + 1), 0, none⟩))] rfl (by decide) (by decide) (by decide) ha (fun o ho hg => y_of (ringR.wanted hg rfl ha (d := 71) (by simp)) (fun wx hS => e_load ho (ha.ev (i := 4) (v := .pointer (some ⟨(w.heap.size + 1), 0, none⟩)) (by simp)) (hS.at_ (g := (w.heap.size + 1)) (x0 := (.bool (ngB j))) (x1 := (.slice Ab nb cb)) (x2 := (.int .i64 (t : Int))) (by simp)))) (by simp) hSw ?_; intro a ha
  refine line_ahead ringR 55 52 [56, 54, 53] 57 79 (.agg #[(.bool (ngB k)), (.slice Ac nc cc), (.int .i64 (u : Int))]) [(78, .agg #[(.bool (ngB j)), (.slice Ab nb cb), (.int .i64 (t : Int))]), (76, .agg #[(.bool (ngB k)), (.slice Ac nc cc), (.int .i64 (u : Int))]), (75, .agg #[(.bool (ngB i)), (.slice Aa na ca), (.int .i64 (s : Int))]), (73, .agg #[(.bool (ngB k)), (.slice Ac nc cc), (.int .i64 (u : Int))]), (72, .agg #[(.bool (ngB x1)), (.slice A4 n4 c4), (.int .i64 (s1 : Int))]), (71, .bool true), (3, .pointer (some ⟨w.heap.size, 0, none⟩)), (4, .pointer (some ⟨(w.heap.size + 1), 0, none⟩))] rfl (by decide) (by decide) (by decide) ha (fun o ho hg => y_of (ringR.wanted hg rfl ha (d := 71) (by simp)) (fun wx hS => e_load ho (ha.ev (i := 5) (v := .pointer (some ⟨(w.heap.size + 1 + 1), 0, none⟩)) (by simp)) (hS.at_ (g := (w.heap.size + 1 + 1)) (x0 := (.bool (ngB k))) (x1 := (.slice Ac nc cc)) (x2 := (.int .i64 (u : Int))) (by simp)))) (by simp) hSw ?_; intro a ha
  refine line_call ringR 56 52 [57, 56, 54, 53] 74 (args := #[.agg #[(.bool (ngB x1)), (.slice A4 n4 c4), (.int .i64 (s1 : Int))], .agg #[(.bool (ngB k)), (.slice Ac nc cc), (.int .i64 (u : Int))]]) [(79, .agg #[(.bool (ngB k)), (.slice Ac nc cc), (.int .i64 (u : Int))]), (78, .agg #[(.bool (ngB j)), (.slice Ab nb cb), (.int .i64 (t : Int))]), (76, .agg #[(.bool (ngB k)), (.slice Ac nc cc), (.int .i64 (u : Int))]), (75, .agg #[(.bool (ngB i)), (.slice Aa na ca), (.int .i64 (s : Int))]), (71, .bool true), (3, .pointer (some ⟨w.heap.size, 0, none⟩)), (4, .pointer (some ⟨(w.heap.size + 1), 0, none⟩))] rfl (by decide) (by decide) (by decide) ha (fun o ho hg => ⟨(ringR.wanted hg rfl ha (d := 71) (by simp)), e_call (by kernel_rfl) ho rfl (by have q0 := ha.ev (i := 72) (v := .agg #[(.bool (ngB x1)), (.slice A4 n4 c4), (.int .i64 (s1 : Int))]) (by simp); have q1 := ha.ev (i := 73) (v := .agg #[(.bool (ngB k)), (.slice Ac nc cc), (.int .i64 (u : Int))]) (by simp); simp only [List.map_toArray, List.map_cons, List.map_nil, ev_const, q0, q1])⟩) (by simp) ?_
  refine (mul_is5 (i := x1) (s := s1) (j := k) (t := u) (St.got E (A := A4) (n := n4) (c := c4) (a := (x1).natAbs) (by simp)) (St.got E (A := Ac) (n := nc) (c := cc) (a := (k).natAbs) (by simp)) (by omega) (by omega) (by omega) (by omega) HS13.out HX13.out).mono ?_; rintro e w22 ⟨A22, n22, c22, rfl, h, hb⟩
  have b22 : n22 ≤ 337 := len_le h HL13.out
  replace E := Lib.hid (St.push E.out hb h)
  clear h hb
  have hSw := St.sb E; refine ⟨_, rfl, hSw, ?_⟩; intro a ha
  refine line_skip [57, 56, 54] (by intro i; simp <;> omega) ?_
  refine line_skip [57, 56] (by intro i; simp <;> omega) ?_
  refine line_call ringR 57 55 [57, 56] 77 (args := #[.agg #[(.bool (ngB i)), (.slice Aa na ca), (.int .i64 (s : Int))], .agg #[(.bool (ngB k)), (.slice Ac nc cc), (.int .i64 (u : Int))]]) [(74, .agg #[.bool (ngB x13), .slice A22 n22 c22, .int .i64 (s13 : Int)]), (79, .agg #[(.bool (ngB k)), (.slice Ac nc cc), (.int .i64 (u : Int))]), (78, .agg #[(.bool (ngB j)), (.slice Ab nb cb), (.int .i64 (t : Int))]), (71, .bool true), (3, .pointer (some ⟨w.heap.size, 0, none⟩)), (4, .pointer (some ⟨(w.heap.size + 1), 0, none⟩))] rfl (by decide) (by decide) (by decide) ha (fun o ho hg => ⟨(ringR.wanted hg rfl ha (d := 71) (by simp)), e_call (by kernel_rfl) ho rfl (by have q0 := ha.ev (i := 75) (v := .agg #[(.bool (ngB i)), (.slice Aa na ca), (.int .i64 (s : Int))]) (by simp); have q1 := ha.ev (i := 76) (v := .agg #[(.bool (ngB k)), (.slice Ac nc cc), (.int .i64 (u : Int))]) (by simp); simp only [List.map_toArray, List.map_cons, List.map_nil, ev_const, q0, q1])⟩) (by simp) ?_
  refine (mul_is5 (i := i) (s := s) (j := k) (t := u) (St.got E (A := Aa) (n := na) (c := ca) (a := (i).natAbs) (by simp)) (St.got E (A := Ac) (n := nc) (c := cc) (a := (k).natAbs) (by simp)) (by omega) (by omega) (by omega) (by omega) HS14.out HX14.out).mono ?_; rintro e w23 ⟨A23, n23, c23, rfl, h, hb⟩
  have b23 : n23 ≤ 336 := len_le h HL14.out
  replace E := Lib.hid (St.push E.out hb h)
  clear h hb
  have hSw := St.sb E; refine ⟨_, rfl, hSw, ?_⟩; intro a ha
  refine line_skip [57] (by intro i; simp <;> omega) ?_
  refine line_skip [] (by intro i; simp <;> omega) ?_
  refine line_call ringR 58 58 [] 80 (args := #[.agg #[(.bool (ngB j)), (.slice Ab nb cb), (.int .i64 (t : Int))], .agg #[(.bool (ngB k)), (.slice Ac nc cc), (.int .i64 (u : Int))]]) [(77, .agg #[.bool (ngB x14), .slice A23 n23 c23, .int .i64 (s14 : Int)]), (74, .agg #[.bool (ngB x13), .slice A22 n22 c22, .int .i64 (s13 : Int)]), (71, .bool true), (3, .pointer (some ⟨w.heap.size, 0, none⟩)), (4, .pointer (some ⟨(w.heap.size + 1), 0, none⟩))] rfl (by decide) (by decide) (by decide) ha (fun o ho hg => ⟨(ringR.wanted hg rfl ha (d := 71) (by simp)), e_call (by kernel_rfl) ho rfl (by have q0 := ha.ev (i := 78) (v := .agg #[(.bool (ngB j)), (.slice Ab nb cb), (.int .i64 (t : Int))]) (by simp); have q1 := ha.ev (i := 79) (v := .agg #[(.bool (ngB k)), (.slice Ac nc cc), (.int .i64 (u : Int))]) (by simp); simp only [List.map_toArray, List.map_cons, List.map_nil, ev_const, q0, q1])⟩) (by simp) ?_
  refine (mul_is5 (i := j) (s := t) (j := k) (t := u) (St.got E (A := Ab) (n := nb) (c := cb) (a := (j).natAbs) (by simp)) (St.got E (A := Ac) (n := nc) (c := cc) (a := (k).natAbs) (by simp)) (by omega) (by omega) (by omega) (by omega) HS15.out HX15.out).mono ?_; rintro e w24 ⟨A24, n24, c24, rfl, h, hb⟩
  have b24 : n24 ≤ 336 := len_le h HL15.out
  replace E := Lib.hid (St.push E.out hb h)
  clear h hb
  have hSw := St.sb E; refine ⟨_, rfl, hSw, ?_⟩; intro a ha
  refine line_call ringR 59 59 [] 81 (args := #[.agg #[.bool (ngB x14), .slice A23 n23 c23, .int .i64 (s14 : Int)], .agg #[.bool (ngB x15), .slice A24 n24 c24, .int .i64 (s15 : Int)]]) [(74, .agg #[.bool (ngB x13), .slice A22 n22 c22, .int .i64 (s13 : Int)]), (71, .bool true), (3, .pointer (some ⟨w.heap.size, 0, none⟩)), (4, .pointer (some ⟨(w.heap.size + 1), 0, none⟩))] rfl (by decide) (by decide) (by decide) ha (fun o ho hg => ⟨(ringR.wanted hg rfl ha (d := 71) (by simp)), e_call (by kernel_rfl) ho rfl (by have q0 := ha.ev (i := 77) (v := .agg #[.bool (ngB x14), .slice A23 n23 c23, .int .i64 (s14 : Int)]) (by simp); have q1 := ha.ev (i := 80) (v := .agg #[.bool (ngB x15), .slice A24 n24 c24, .int .i64 (s15 : Int)]) (by simp); simp only [List.map_toArray, List.map_cons, List.map_nil, ev_const, q0, q1])⟩) (by simp) ?_
  refine (add_is5 (i := x14) (s := s14) (j := x15) (t := s15) (St.got E (A := A23) (n := n23) (c := c23) (a := (x14).natAbs) (by simp)) (St.got E (A := A24) (n := n24) (c := c24) (a := (x15).natAbs) (by simp)) (by omega) (by omega) (by omega) (by omega) HS16.out HX16.out).mono ?_; rintro e w25 ⟨A25, n25, c25, rfl, h, hb⟩
  have b25 : n25 ≤ 337 := len_le h HL16.out
  replace E := Lib.hid (St.push E.out hb h)
  clear h hb
  have hSw := St.sb E; refine ⟨_, rfl, hSw, ?_⟩; intro a ha
  refine line_call ringR 60 60 [] 82 (args := #[.agg #[.bool (ngB x13), .slice A22 n22 c22, .int .i64 (s13 : Int)], .agg #[.bool (ngB x16), .slice A25 n25 c25, .int .i64 (s16 : Int)]]) [(71, .bool true), (3, .pointer (some ⟨w.heap.size, 0, none⟩)), (4, .pointer (some ⟨(w.heap.size + 1), 0, none⟩))] rfl (by decide) (by decide) (by decide) ha (fun o ho hg => ⟨(ringR.wanted hg rfl ha (d := 71) (by simp)), e_call (by kernel_rfl) ho rfl (by have q0 := ha.ev (i := 74) (v := .agg #[.bool (ngB x13), .slice A22 n22 c22, .int .i64 (s13 : Int)]) (by simp); have q1 := ha.ev (i := 81) (v := .agg #[.bool (ngB x16), .slice A25 n25 c25, .int .i64 (s16 : Int)]) (by simp); simp only [List.map_toArray, List.map_cons, List.map_nil, ev_const, q0, q1])⟩) (by simp) ?_
  refine (same_is5 (i := x13) (s := s13) (j := x16) (t := s16) (St.got E (A := A22) (n := n22) (c := c22) (a := (x13).natAbs) (by simp)) (St.got E (A := A25) (n := n25) (c := c25) (a := (x16).natAbs) (by simp)) (by omega) (by omega) (by omega) (by omega) F6.out).mono ?_; rintro e w26 ⟨rfl, hb⟩
  replace E := Lib.hid (St.step E.out hb)
  clear hb
  replace E : Hid (St w w26 [(A4, n4, c4, (x1).natAbs), (Aa, na, ca, (i).natAbs), (Ab, nb, cb, (j).natAbs), (Ac, nc, cc, (k).natAbs)] [(w4.heap.size, (.bool (ngB x1)), (.slice A4 n4 c4), (.int .i64 (s1 : Int))), ((w.heap.size + 1 + 1), (.bool (ngB k)), (.slice Ac nc cc), (.int .i64 (u : Int))), ((w.heap.size + 1), (.bool (ngB j)), (.slice Ab nb cb), (.int .i64 (t : Int))), (w.heap.size, (.bool (ngB i)), (.slice Aa na ca), (.int .i64 (s : Int)))]) := Lib.hid ((E.out).sub (by simp) (by simp))
  have hSw := St.sb E; refine ⟨_, rfl, hSw, ?_⟩; intro a ha
  refine line_still ringR 61 61 [] 83 (.bool true) [(3, .pointer (some ⟨w.heap.size, 0, none⟩)), (4, .pointer (some ⟨(w.heap.size + 1), 0, none⟩))] rfl (by decide) (by decide) (by decide) ha (fun o ho hg => y_of (wanted_none hg) (fun wx hS => e_pick ho (ha.ev (i := 71) (v := .bool true) (by simp)) (ha.ev (i := 82) (v := .bool true) (by simp)) rfl)) (by simp) hSw ?_; intro a ha
  refine line_still ringR 62 62 [] 84 (.bool true) [(3, .pointer (some ⟨w.heap.size, 0, none⟩)), (4, .pointer (some ⟨(w.heap.size + 1), 0, none⟩))] rfl (by decide) (by decide) (by decide) ha (fun o ho hg => y_of (wanted_none hg) (fun wx hS => e_move (.inl ho) (ha.ev (i := 83) (v := .bool true) (by simp)))) (by simp) hSw ?_; intro a ha
  refine line_still ringR 63 63 [] 85 (.agg #[(.bool (ngB i)), (.slice Aa na ca), (.int .i64 (s : Int))]) [(84, .bool true), (4, .pointer (some ⟨(w.heap.size + 1), 0, none⟩))] rfl (by decide) (by decide) (by decide) ha (fun o ho hg => y_of (ringR.wanted hg rfl ha (d := 84) (by simp)) (fun wx hS => e_load ho (ha.ev (i := 3) (v := .pointer (some ⟨w.heap.size, 0, none⟩)) (by simp)) (hS.at_ (g := w.heap.size) (x0 := (.bool (ngB i))) (x1 := (.slice Aa na ca)) (x2 := (.int .i64 (s : Int))) (by simp)))) (by simp) hSw ?_; intro a ha
  refine line_still ringR 64 64 [] 86 (.agg #[(.bool (ngB j)), (.slice Ab nb cb), (.int .i64 (t : Int))]) [(85, .agg #[(.bool (ngB i)), (.slice Aa na ca), (.int .i64 (s : Int))]), (84, .bool true)] rfl (by decide) (by decide) (by decide) ha (fun o ho hg => y_of (ringR.wanted hg rfl ha (d := 84) (by simp)) (fun wx hS => e_load ho (ha.ev (i := 4) (v := .pointer (some ⟨(w.heap.size + 1), 0, none⟩)) (by simp)) (hS.at_ (g := (w.heap.size + 1)) (x0 := (.bool (ngB j))) (x1 := (.slice Ab nb cb)) (x2 := (.int .i64 (t : Int))) (by simp)))) (by simp) hSw ?_; intro a ha
  refine line_call ringR 65 65 [] 87 (args := #[.agg #[(.bool (ngB i)), (.slice Aa na ca), (.int .i64 (s : Int))], .agg #[(.bool (ngB j)), (.slice Ab nb cb), (.int .i64 (t : Int))]]) [(84, .bool true)] rfl (by decide) (by decide) (by decide) ha (fun o ho hg => ⟨(ringR.wanted hg rfl ha (d := 84) (by simp)), e_call (by kernel_rfl) ho rfl (by have q0 := ha.ev (i := 85) (v := .agg #[(.bool (ngB i)), (.slice Aa na ca), (.int .i64 (s : Int))]) (by simp); have q1 := ha.ev (i := 86) (v := .agg #[(.bool (ngB j)), (.slice Ab nb cb), (.int .i64 (t : Int))]) (by simp); simp only [List.map_toArray, List.map_cons, List.map_nil, ev_const, q0, q1])⟩) (by simp) ?_
  refine (mul_is5 (i := i) (s := s) (j := j) (t := t) (St.got E (A := Aa) (n := na) (c := ca) (a := (i).natAbs) (by simp)) (St.got E (A := Ab) (n := nb) (c := cb) (a := (j).natAbs) (by simp)) (by omega) (by omega) (by omega) (by omega) HS17.out HX17.out).mono ?_; rintro e w27 ⟨A27, n27, c27, rfl, h, hb⟩
  have b27 : n27 ≤ 336 := len_le h HL17.out
  replace E := Lib.hid (St.push E.out hb h)
  clear h hb
  have hSw := St.sb E; refine ⟨_, rfl, hSw, ?_⟩; intro a ha
  refine line_call ringR 66 66 [] 88 (args := #[.agg #[.bool (ngB x17), .slice A27 n27 c27, .int .i64 (s17 : Int)]]) [(84, .bool true)] rfl (by decide) (by decide) (by decide) ha (fun o ho hg => ⟨(ringR.wanted hg rfl ha (d := 84) (by simp)), e_call (by kernel_rfl) ho rfl (by have q0 := ha.ev (i := 87) (v := .agg #[.bool (ngB x17), .slice A27 n27 c27, .int .i64 (s17 : Int)]) (by simp); simp only [List.map_toArray, List.map_cons, List.map_nil, ev_const, q0])⟩) (by simp) ?_
  refine (right_is5 (i := x17) (s := s17) (St.got E (A := A27) (n := n27) (c := c27) (a := (x17).natAbs) (by simp))).mono ?_; rintro e w28 ⟨rfl, hb⟩
  replace E := Lib.hid (St.step E.out hb)
  clear hb
  replace E : Hid (St w w28 [(A4, n4, c4, (x1).natAbs), (Aa, na, ca, (i).natAbs), (Ab, nb, cb, (j).natAbs), (Ac, nc, cc, (k).natAbs)] [(w4.heap.size, (.bool (ngB x1)), (.slice A4 n4 c4), (.int .i64 (s1 : Int))), ((w.heap.size + 1 + 1), (.bool (ngB k)), (.slice Ac nc cc), (.int .i64 (u : Int))), ((w.heap.size + 1), (.bool (ngB j)), (.slice Ab nb cb), (.int .i64 (t : Int))), (w.heap.size, (.bool (ngB i)), (.slice Aa na ca), (.int .i64 (s : Int)))]) := Lib.hid ((E.out).sub (by simp) (by simp))
  have hSw := St.sb E; refine ⟨_, rfl, hSw, ?_⟩; intro a ha
  refine line_still ringR 67 67 [] 89 (.bool true) [] rfl (by decide) (by decide) (by decide) ha (fun o ho hg => y_of (wanted_none hg) (fun wx hS => e_pick ho (ha.ev (i := 84) (v := .bool true) (by simp)) (ha.ev (i := 88) (v := .bool true) (by simp)) rfl)) (by simp) hSw ?_; intro a ha
  refine line_still ringR 68 68 [] 90 (.bool true) [] rfl (by decide) (by decide) (by decide) ha (fun o ho hg => y_of (wanted_none hg) (fun wx hS => e_move (.inl ho) (ha.ev (i := 89) (v := .bool true) (by simp)))) (by simp) hSw ?_; intro a ha
  refine line_call ringR 69 69 [] 91 (args := #[]) [(90, .bool true)] rfl (by decide) (by decide) (by decide) ha (fun o ho hg => ⟨(ringR.wanted hg rfl ha (d := 90) (by simp)), e_call (by kernel_rfl) ho rfl (by simp only [List.map_toArray, List.map_cons, List.map_nil, ev_const])⟩) (by simp) ?_
  refine (awake5 _).mono ?_; rintro e w29 ⟨rfl, hb⟩
  replace E := Lib.hid (St.step E.out hb)
  clear hb
  have hSw := St.sb E; refine ⟨_, rfl, hSw, ?_⟩; intro a ha
  refine line_still ringR 70 70 [] 92 (.bool true) [] rfl (by decide) (by decide) (by decide) ha (fun o ho hg => y_of (wanted_none hg) (fun wx hS => e_pick ho (ha.ev (i := 90) (v := .bool true) (by simp)) (ha.ev (i := 91) (v := .bool true) (by simp)) rfl)) (by simp) hSw ?_; intro a ha
  refine line_still ringR 71 71 [] 6 (.bool true) [] rfl (by decide) (by decide) (by decide) ha (fun o ho hg => y_of (wanted_none hg) (fun wx hS => e_move (.inr ho) (ha.ev (i := 92) (v := .bool true) (by simp)))) (by simp) hSw ?_; intro a ha
  refine line_end ringR rfl ?_
  simp only [Exit.then]
  refine hK _ _ ?_
  go_wp2
  exact bodyPost_ret (v := .bool true) (by have := ha.2.2 (6, .bool true) (by simp); simp [results, Try.results4, go_sem, Array.getD_eq_getD_getElem?, this]) ha.2.1 ⟨rfl, E.out.bel⟩

theorem ring5_any (b1 : Bool) (A1 : Option Addr) (n1 c1 : Nat) (xs1 : List Nat) (k1 : Int) (b2 : Bool) (A2 : Option Addr) (n2 c2 : Nat) (xs2 : List Nat) (k2 : Int) (b3 : Bool) (A3 : Option Addr) (n3 c3 : Nat) (xs3 : List Nat) (k3 : Int) (w : World) (h1 : Lim w w.heap.size A1 n1 c1 xs1) (h2 : Lim w w.heap.size A2 n2 c2 xs2) (h3 : Lim w w.heap.size A3 n3 c3 xs3) : Calls Try.prog 4 #[.agg #[.bool b1, .slice A1 n1 c1, .int .i64 k1], .agg #[.bool b2, .slice A2 n2 c2, .int .i64 k2], .agg #[.bool b3, .slice A3 n3 c3, .int .i64 k3]] w (RetVal w (.bool true)) := by
  cases l1 : longB b1 n1 xs1 k1 with
  | true => exact ring_long1 b1 A1 n1 c1 xs1 k1 b2 A2 n2 c2 xs2 k2 b3 A3 n3 c3 xs3 k3 w h1 h2 h3 l1
  | false =>
    cases l2 : longB b2 n2 xs2 k2 with
    | true => exact ring_long2 b1 A1 n1 c1 xs1 k1 b2 A2 n2 c2 xs2 k2 b3 A3 n3 c3 xs3 k3 w h1 h2 h3 l1 l2
    | false =>
      cases l3 : longB b3 n3 xs3 k3 with
      | true => exact ring_long3 b1 A1 n1 c1 xs1 k1 b2 A2 n2 c2 xs2 k2 b3 A3 n3 c3 xs3 k3 w h1 h2 h3 l1 l2 l3
      | false =>
        obtain ⟨i, s, rfl, rfl, rfl, m1, t1⟩ := of_long l1 h1
        obtain ⟨j, t, rfl, rfl, rfl, m2, t2⟩ := of_long l2 h2
        obtain ⟨k, u, rfl, rfl, rfl, m3, t3⟩ := of_long l3 h3
        exact ring_dec A1 n1 c1 s i A2 n2 c2 t j A3 n3 c3 u k w h1 h2 h3 m1 t1 m2 t2 m3 t3

end Go.Proofs.Ytafbkoejobkncaa
