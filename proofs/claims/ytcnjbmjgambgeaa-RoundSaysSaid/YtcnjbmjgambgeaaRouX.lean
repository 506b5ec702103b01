/-
  RoundSays answers true.
-/
import Derived.Test.YtcnjbmjgambgeaaRouG
import Derived.Test.YtcnjbmjgambgeaaRouT
set_option linter.unusedVariables false
set_option linter.unusedSimpArgs false
namespace Go.Proofs.Ytcnjbmjgambgeaa
open Go.RowKit

/-- What a quotient hands back: a decimal, and an error. -/
def RetDecX (W : World) (i : Int) (s : Nat) (er : Int) (e : Ending) (w' : World) : Prop :=
  ∃ A n c, e = .returned (.tuple #[.agg #[.bool (ngB i), .slice A n c, .int .i64 (s : Int)], .int .i64 er]) ∧ Num w' w'.heap.size A n c i.natAbs ∧ Below W.heap.size W w'
section
variable {A A' : Option Addr} {n c n' c' s t S T : Nat} {i j v z er : Int} {w : World}
theorem rdiv_both (h : Num w w.heap.size A n c i.natAbs) (h' : Num w w.heap.size A' n' c' j.natAbs) (hn : n ≤ 1000) (hn' : n' ≤ 1000) (hs : s ≤ 1000) (ht : t ≤ 1000) (hv : max v 0 = (S : Int)) (hS : S ≤ 1000) (hc : j ≠ 0 ∧ divZ i s j t S = z ∧ S = T ∧ er = 0 ∨ j = 0 ∧ z = 0 ∧ T = 0 ∧ er = 4) :
    Calls Try.prog 9 #[.agg #[.bool (ngB i), .slice A n c, .int .i64 (s : Int)], .agg #[.bool (ngB j), .slice A' n' c', .int .i64 (t : Int)], .int .i64 v] w (RetDecX w z T er) := by
  rcases hc with ⟨h0, rfl, rfl, rfl⟩ | ⟨h0, rfl, rfl, rfl⟩
  · exact (rdiv_is h h' hn hn' hs ht hv hS h0 rfl).mono fun _ _ h => h
  · exact (rdiv_zero h h' hn hn' hs ht hv hS h0).mono fun _ _ ⟨he, hb⟩ => ⟨none, 0, 0, he, num_none _ _, hb⟩
theorem refdiv_both (h : Num w w.heap.size A n c i.natAbs) (h' : Num w w.heap.size A' n' c' j.natAbs) (hn : n ≤ 1000) (hn' : n' ≤ 1000) (hs : s ≤ 1000) (ht : t ≤ 1000) (hv : max v 0 = (S : Int)) (hS : S ≤ 1000) (hc : j ≠ 0 ∧ divZ i s j t S = z ∧ S = T ∧ er = 0 ∨ j = 0 ∧ z = 0 ∧ T = 0 ∧ er = 4) :
    Calls Try.prog 10 #[.agg #[.bool (ngB i), .slice A n c, .int .i64 (s : Int)], .agg #[.bool (ngB j), .slice A' n' c', .int .i64 (t : Int)], .int .i64 v] w (RetDecX w z T er) := by
  rcases hc with ⟨h0, rfl, rfl, rfl⟩ | ⟨h0, rfl, rfl, rfl⟩
  · exact (refdiv_is h h' hn hn' hs ht hv hS h0 rfl).mono fun _ _ h => h
  · exact (refdiv_zero h h' hn hn' hs ht hv hS h0).mono fun _ _ ⟨he, hb⟩ => ⟨none, 0, 0, he, num_none _ _, hb⟩
theorem refhalf_at {M : Nat} (w : World) (hv : max v 0 = (S : Int)) (hS : S ≤ 10000) (hM : S + 1 = M) : Calls Try.prog 17 #[.int .i64 v] w (RetDec w 5 M) := by
  subst hM; exact refhalf_is w hv hS
end
section
variable {o : Oper} {ρ : Operand → Value} {x y : Operand} {w : World}
set_option maxRecDepth 100000 in
theorem e_beq6 {a b : Bool} {t' : TypeId} (h : o.op = .binOp .eql 4 x y t') (hx : ρ x = .bool a) (hy : ρ y = .bool b) : (execOp ρ o).run Try.prog w = .ok (.value (.bool (a == b))) w := by
  unfold execOp; rw [h]
  simp only [hx, hy]
  go_simp
end

set_option maxHeartbeats 2000000 in
set_option maxRecDepth 100000 in
theorem says6_long1 (b1 : Bool) (A1 : Option Addr) (n1 c1 : Nat) (xs1 : List Nat) (k1 : Int) (b2 : Bool) (A2 : Option Addr) (n2 c2 : Nat) (xs2 : List Nat) (k2 : Int) (w : World) (h1 : Lim w w.heap.size A1 n1 c1 xs1) (h2 : Lim w w.heap.size A2 n2 c2 xs2) (v : Int) (gv1 : -9223372036854775808 ≤ v) (gv2 : v ≤ 9223372036854775807) (l1 : longB b1 n1 xs1 k1 = true) : Calls Try.prog 3 #[.agg #[.bool b1, .slice A1 n1 c1, .int .i64 k1], .agg #[.bool b2, .slice A2 n2 c2, .int .i64 k2], .int .i64 v] w (RetVal w (.bool true)) := by
  have H1 := Lib.hid h1
  have H2 := Lib.hid h2
  have L1 := Lib.hid l1
  clear h1 h2 l1
  go_enter Try.func3, Try.ntmps3
  go_wp2_with fail
  generalize hW : World.alloc (World.alloc w _) _ = W0
  have E0 : St w W0 [] [((w.heap.size + 1), .bool b2, .slice A2 n2 c2, .int .i64 k2), (w.heap.size, .bool b1, .slice A1 n1 c1, .int .i64 k1)] := by rw [← hW]; exact ((St.start w (l := []) (fun q hq => by cases hq)).lay rfl).lay (by simp)
  have E := Lib.hid E0
  clear hW E0
  refine (long_is (H1.out.on E.out.bel) L1.out).mono ?_; rintro e w1 ⟨rfl, hb⟩; replace E := Lib.hid (St.step E.out hb); clear hb
  go_wp2_with fail
  refine (awake6 _).mono ?_; rintro e w9 ⟨rfl, hb⟩; replace E := Lib.hid (St.step E.out hb); clear hb
  go_wp2_with fail
  go_ret
  exact ⟨rfl, E.out.bel⟩

set_option maxHeartbeats 2000000 in
set_option maxRecDepth 100000 in
theorem says6_long2 (b1 : Bool) (A1 : Option Addr) (n1 c1 : Nat) (xs1 : List Nat) (k1 : Int) (b2 : Bool) (A2 : Option Addr) (n2 c2 : Nat) (xs2 : List Nat) (k2 : Int) (w : World) (h1 : Lim w w.heap.size A1 n1 c1 xs1) (h2 : Lim w w.heap.size A2 n2 c2 xs2) (v : Int) (gv1 : -9223372036854775808 ≤ v) (gv2 : v ≤ 9223372036854775807) (l1 : longB b1 n1 xs1 k1 = false) (l2 : longB b2 n2 xs2 k2 = true) : Calls Try.prog 3 #[.agg #[.bool b1, .slice A1 n1 c1, .int .i64 k1], .agg #[.bool b2, .slice A2 n2 c2, .int .i64 k2], .int .i64 v] w (RetVal w (.bool true)) := by
  have H1 := Lib.hid h1
  have H2 := Lib.hid h2
  have L1 := Lib.hid l1
  have L2 := Lib.hid l2
  clear h1 h2 l1 l2
  go_enter Try.func3, Try.ntmps3
  go_wp2_with fail
  generalize hW : World.alloc (World.alloc w _) _ = W0
  have E0 : St w W0 [] [((w.heap.size + 1), .bool b2, .slice A2 n2 c2, .int .i64 k2), (w.heap.size, .bool b1, .slice A1 n1 c1, .int .i64 k1)] := by rw [← hW]; exact ((St.start w (l := []) (fun q hq => by cases hq)).lay rfl).lay (by simp)
  have E := Lib.hid E0
  clear hW E0
  refine (long_is (H1.out.on E.out.bel) L1.out).mono ?_; rintro e w1 ⟨rfl, hb⟩; replace E := Lib.hid (St.step E.out hb); clear hb
  obtain ⟨p0, p1, p2, pf0, pf1, pf2, plt⟩ := St.at_ (x0 := .bool b2) (x1 := .slice A2 n2 c2) (x2 := .int .i64 k2) (g := (w.heap.size + 1)) E (by simp)
  go_wp2_with fail
  refine (long_is (H2.out.on E.out.bel) L2.out).mono ?_; rintro e w2 ⟨rfl, hb⟩; replace E := Lib.hid (St.step E.out hb); clear hb
  clear p0 p1 p2 pf0 pf1 pf2 plt
  go_wp2_with fail
  refine (awake6 _).mono ?_; rintro e w9 ⟨rfl, hb⟩; replace E := Lib.hid (St.step E.out hb); clear hb
  go_wp2_with fail
  go_ret
  exact ⟨rfl, E.out.bel⟩

set_option maxHeartbeats 2000000 in
set_option maxRecDepth 100000 in
theorem says6_long3 (b1 : Bool) (A1 : Option Addr) (n1 c1 : Nat) (xs1 : List Nat) (k1 : Int) (b2 : Bool) (A2 : Option Addr) (n2 c2 : Nat) (xs2 : List Nat) (k2 : Int) (w : World) (h1 : Lim w w.heap.size A1 n1 c1 xs1) (h2 : Lim w w.heap.size A2 n2 c2 xs2) (v : Int) (gv1 : -9223372036854775808 ≤ v) (gv2 : v ≤ 9223372036854775807) (l1 : longB b1 n1 xs1 k1 = false) (l2 : longB b2 n2 xs2 k2 = false) (h60 : 60 < v) : Calls Try.prog 3 #[.agg #[.bool b1, .slice A1 n1 c1, .int .i64 k1], .agg #[.bool b2, .slice A2 n2 c2, .int .i64 k2], .int .i64 v] w (RetVal w (.bool true)) := by
  have H1 := Lib.hid h1
  have H2 := Lib.hid h2
  have L1 := Lib.hid l1
  have L2 := Lib.hid l2
  clear h1 h2 l1 l2
  go_enter Try.func3, Try.ntmps3
  go_wp2_with fail
  generalize hW : World.alloc (World.alloc w _) _ = W0
  have E0 : St w W0 [] [((w.heap.size + 1), .bool b2, .slice A2 n2 c2, .int .i64 k2), (w.heap.size, .bool b1, .slice A1 n1 c1, .int .i64 k1)] := by rw [← hW]; exact ((St.start w (l := []) (fun q hq => by cases hq)).lay rfl).lay (by simp)
  have E := Lib.hid E0
  clear hW E0
  refine (long_is (H1.out.on E.out.bel) L1.out).mono ?_; rintro e w1 ⟨rfl, hb⟩; replace E := Lib.hid (St.step E.out hb); clear hb
  obtain ⟨p0, p1, p2, pf0, pf1, pf2, plt⟩ := St.at_ (x0 := .bool b2) (x1 := .slice A2 n2 c2) (x2 := .int .i64 k2) (g := (w.heap.size + 1)) E (by simp)
  go_wp2_with fail
  refine (long_is (H2.out.on E.out.bel) L2.out).mono ?_; rintro e w2 ⟨rfl, hb⟩; replace E := Lib.hid (St.step E.out hb); clear hb
  clear p0 p1 p2 pf0 pf1 pf2 plt
  go_wp2_with fail
  refine (awake6 _).mono ?_; rintro e w9 ⟨rfl, hb⟩; replace E := Lib.hid (St.step E.out hb); clear hb
  go_wp2_with fail
  go_ret
  exact ⟨rfl, E.out.bel⟩

def says6T : List Row3 := [(some 36, none, .load 25 (.tmp 3)), (some 37, none, .move (.tmp 2)), (some 38, none, .call { callee := .value (.func 12), args := #[.tmp 36, .tmp 37], argTypes := #[25, 3] }), (some 39, none, .load 25 (.tmp 3)), (some 40, none, .move (.tmp 2)), (some 41, none, .call { callee := .value (.func 13), args := #[.tmp 39, .tmp 40], argTypes := #[25, 3] }), (some 42, none, .call { callee := .value (.func 11), args := #[.tmp 38, .tmp 41], argTypes := #[25, 25] }), (some 43, none, .move (.tmp 42)), (some 44, some (7, true), .load 25 (.tmp 7)), (some 45, some (7, true), .load 25 (.tmp 9)), (some 46, some (7, true), .call { callee := .value (.func 11), args := #[.tmp 44, .tmp 45], argTypes := #[25, 25] }), (some 47, none, .pick (.tmp 43) (.tmp 46) (.const (.bool false))), (some 48, none, .move (.tmp 47)), (some 49, some (12, true), .move (.tmp 8)), (some 50, some (12, true), .move (.tmp 10)), (some 51, some (12, true), .binOp .eql 28 (.tmp 49) (.tmp 50) 28), (some 52, none, .pick (.tmp 48) (.tmp 51) (.const (.bool false))), (some 53, none, .move (.tmp 52)), (some 54, some (17, true), .move (.tmp 2)), (some 55, some (17, true), .call { callee := .value (.func 14), args := #[.tmp 54], argTypes := #[3] }), (some 56, some (17, true), .move (.tmp 2)), (some 57, some (17, true), .call { callee := .value (.func 15), args := #[.tmp 56], argTypes := #[3] }), (some 58, some (17, true), .call { callee := .value (.func 11), args := #[.tmp 55, .tmp 57], argTypes := #[25, 25] }), (some 59, none, .pick (.tmp 53) (.tmp 58) (.const (.bool false))), (some 60, none, .move (.tmp 59)), (some 61, some (24, true), .move (.tmp 2)), (some 62, some (24, true), .call { callee := .value (.func 16), args := #[.tmp 61], argTypes := #[3] }), (some 63, some (24, true), .move (.tmp 2)), (some 64, some (24, true), .call { callee := .value (.func 17), args := #[.tmp 63], argTypes := #[3] }), (some 65, some (24, true), .call { callee := .value (.func 11), args := #[.tmp 62, .tmp 64], argTypes := #[25, 25] }), (some 66, none, .pick (.tmp 60) (.tmp 65) (.const (.bool false))), (some 67, none, .move (.tmp 66)), (some 68, some (31, true), .load 25 (.tmp 3)), (some 69, some (31, true), .move (.tmp 2)), (some 70, some (31, true), .call { callee := .value (.func 18), args := #[.tmp 68, .tmp 69], argTypes := #[25, 3] }), (some 71, some (31, true), .load 25 (.tmp 3)), (some 72, some (31, true), .move (.tmp 2)), (some 73, some (31, true), .call { callee := .value (.func 19), args := #[.tmp 71, .tmp 72], argTypes := #[25, 3] }), (some 74, some (31, true), .binOp .eql 4 (.tmp 70) (.tmp 73) 4), (some 75, none, .pick (.tmp 67) (.tmp 74) (.const (.bool false))), (some 76, none, .move (.tmp 75)), (some 77, some (40, true), .call { callee := .value (.func 8), args := #[], argTypes := #[] }), (some 78, none, .pick (.tmp 76) (.tmp 77) (.const (.bool false))), (some 6, none, .assign (.tmp 78))]
set_option maxRecDepth 100000 in
theorem says6Row : (opsAt Try.prog 3 5).toList.map row3 = says6T := by kernel_rfl
theorem says6Sel : Region.noSelect (opsAt Try.prog 3 5) = true := by kernel_rfl
theorem says6Done : Region.ready .any (opsAt Try.prog 3 5) (upto (opsAt Try.prog 3 5).size (opsAt Try.prog 3 5).size []) = [] := by kernel_rfl
theorem says6still0 : [(0, [], 0), (1, [], 1), (2, [], 3), (2, [3], 4), (7, [], 7), (8, [], 8), (9, [], 9), (11, [], 11), (12, [], 12), (13, [], 13)].all (stillB (opsAt Try.prog 3 5)) = true := by kernel_rfl
theorem says6still1 : [(14, [], 14), (15, [], 15), (16, [], 16), (17, [], 17), (18, [], 18), (19, [], 20), (23, [], 23), (24, [], 24), (25, [], 25), (26, [], 27)].all (stillB (opsAt Try.prog 3 5)) = true := by kernel_rfl
theorem says6still2 : [(30, [], 30), (31, [], 31), (32, [], 32), (33, [], 33), (34, [], 35), (34, [35], 36), (38, [], 38), (39, [], 39), (40, [], 40), (42, [], 42)].all (stillB (opsAt Try.prog 3 5)) = true := by kernel_rfl
theorem says6still3 : [(43, [], 43)].all (stillB (opsAt Try.prog 3 5)) = true := by kernel_rfl
theorem says6sole0 : [(2, [4, 3], 2), (5, [], 5), (6, [], 6), (10, [], 10), (19, [20], 19), (21, [], 21), (22, [], 22), (26, [27], 26), (28, [], 28), (29, [], 29)].all (soleB (opsAt Try.prog 3 5)) = true := by kernel_rfl
theorem says6sole1 : [(34, [36, 35], 34), (37, [], 37), (41, [], 41)].all (soleB (opsAt Try.prog 3 5)) = true := by kernel_rfl
theorem says6R : Reg (opsAt Try.prog 3 5) says6T [(0, [], 0), (1, [], 1), (2, [], 3), (2, [3], 4), (7, [], 7), (8, [], 8), (9, [], 9), (11, [], 11), (12, [], 12), (13, [], 13), (14, [], 14), (15, [], 15), (16, [], 16), (17, [], 17), (18, [], 18), (19, [], 20), (23, [], 23), (24, [], 24), (25, [], 25), (26, [], 27), (30, [], 30), (31, [], 31), (32, [], 32), (33, [], 33), (34, [], 35), (34, [35], 36), (38, [], 38), (39, [], 39), (40, [], 40), (42, [], 42), (43, [], 43)] [(2, [4, 3], 2), (5, [], 5), (6, [], 6), (10, [], 10), (19, [20], 19), (21, [], 21), (22, [], 22), (26, [27], 26), (28, [], 28), (29, [], 29), (34, [36, 35], 34), (37, [], 37), (41, [], 41)] := ⟨says6Row, says6Sel, (all_parts says6still0 (all_parts says6still1 (all_parts says6still2 (all_parts says6still3 (fun k h => by cases h))))), (all_parts says6sole0 (all_parts says6sole1 (fun k h => by cases h))), says6Done⟩

set_option maxHeartbeats 8000000 in
set_option maxRecDepth 100000 in
theorem says6_dec (Aa : Option Addr) (na ca s : Nat) (i : Int) (Ab : Option Addr) (nb cb t : Nat) (j : Int) (w : World) (h1 : Num w w.heap.size Aa na ca i.natAbs) (h2 : Num w w.heap.size Ab nb cb j.natAbs) (m1 : na ≤ 12) (t1 : s ≤ 60) (m2 : nb ≤ 12) (t2 : t ≤ 60) (v : Int) (gv1 : -9223372036854775808 ≤ v) (gv2 : v ≤ 9223372036854775807) (h60 : v ≤ 60) : Calls Try.prog 3 #[.agg #[.bool (ngB i), .slice Aa na ca, .int .i64 (s : Int)], .agg #[.bool (ngB j), .slice Ab nb cb, .int .i64 (t : Int)], .int .i64 v] w (RetVal w (.bool true)) := by
  have N1 : Hid (longB (ngB i) na (dg i.natAbs) (s : Int) = false) := not_long h1 m1 t1
  have N2 : Hid (longB (ngB j) nb (dg j.natAbs) (t : Int) = false) := not_long h2 m2 t2
  obtain ⟨S, hS⟩ : ∃ S : Nat, max v 0 = (S : Int) := ⟨(max v 0).toNat, by omega⟩
  have hS60 : S ≤ 60 := by omega
  have HV := Lib.hid hS
  clear hS
  have hcase : ∃ (z : Int) (T : Nat) (er : Int), (j ≠ 0 ∧ divZ i s j t S = z ∧ S = T ∧ er = 0 ∨ j = 0 ∧ z = 0 ∧ T = 0 ∧ er = 4) := by
    by_cases hj : j = 0
    · exact ⟨0, 0, 4, .inr ⟨hj, rfl, rfl, rfl⟩⟩
    · exact ⟨_, _, _, .inl ⟨hj, rfl, rfl, rfl⟩⟩
  obtain ⟨z, T, er, hzz⟩ := hcase
  have HC := Lib.hid hzz
  clear hzz
  have E1 : Hid ((er == er) = true) := by show _ = _; simp
  obtain ⟨be, hbe⟩ : ∃ be, exactB i s S = be := ⟨_, rfl⟩
  have HBE := Lib.hid hbe
  clear hbe
  have E2 : Hid ((be == be) = true) := by show _ = _; simp
  obtain ⟨u1, hu1⟩ : ∃ u1, S + 1 = u1 := ⟨_, rfl⟩
  have HU1 := Lib.hid hu1
  have hu2 : u1 ≤ 61 := by omega
  clear hu1
  have O1 : Hid ((dg (1 : Int).natAbs).length ≤ 1) := (by show _ ≤ _; exact dg_len_le (by decide))
  have O5 : Hid ((dg (5 : Int).natAbs).length ≤ 1) := (by show _ ≤ _; exact dg_len_le (by decide))
  have z_1 : Sz i s 108 := (Sz.of_len (by have := h1.len; omega : (dg i.natAbs).length ≤ 12))
  have z_2 : Sz j t 108 := (Sz.of_len (by have := h2.len; omega : (dg j.natAbs).length ≤ 12))
  obtain ⟨x1, hx1⟩ : ∃ rr, quantZ i s S = rr := ⟨_, rfl⟩
  have z1 : Sz x1 S 109 := by rw [← hx1]; exact (z_1.quant S).mono (by decide)
  have HL1 : Hid ((dg x1.natAbs).length ≤ 169) := (by show _ ≤ _; have := z1.len; omega)
  have HX1 := Lib.hid hx1
  have H1 := Lib.hid h1
  have H2 := Lib.hid h2
  clear hx1
  clear h1 h2 z_1 z_2 z1
  go_enter Try.func3, Try.ntmps3
  go_wp2_with fail
  generalize hW : World.alloc (World.alloc w _) _ = W0
  have E0 : St w W0 [(Aa, na, ca, (i).natAbs), (Ab, nb, cb, (j).natAbs)] [((w.heap.size + 1), (.bool (ngB j)), (.slice Ab nb cb), (.int .i64 (t : Int))), (w.heap.size, (.bool (ngB i)), (.slice Aa na ca), (.int .i64 (s : Int)))] := by rw [← hW]; exact ((St.start w (l := [(Aa, na, ca, (i).natAbs), (Ab, nb, cb, (j).natAbs)]) (by simp; exact ⟨H1.out, H2.out⟩)).lay rfl).lay (by simp)
  have E := Lib.hid E0
  clear hW E0
  refine (long_is (St.got E (A := Aa) (n := na) (c := ca) (a := (i).natAbs) (by simp)) N1.out).mono ?_; rintro e w1 ⟨rfl, hb⟩
  replace E := Lib.hid (St.step E.out hb)
  clear hb
  obtain ⟨p0a, p0b, p0c, p0d, p0e, p0f, p0g⟩ := St.at_ (x0 := (.bool (ngB j))) (x1 := (.slice Ab nb cb)) (x2 := (.int .i64 (t : Int))) (g := (w.heap.size + 1)) E (by simp)
  go_wp2_with fail
  refine (long_is (St.got E (A := Ab) (n := nb) (c := cb) (a := (j).natAbs) (by simp)) N2.out).mono ?_; rintro e w2 ⟨rfl, hb⟩
  clear p0a p0b p0c p0d p0e p0f p0g
  replace E := Lib.hid (St.step E.out hb)
  clear hb
  obtain ⟨p0a, p0b, p0c, p0d, p0e, p0f, p0g⟩ := St.at_ (x0 := (.bool (ngB j))) (x1 := (.slice Ab nb cb)) (x2 := (.int .i64 (t : Int))) (g := (w.heap.size + 1)) E (by simp)
  obtain ⟨p1a, p1b, p1c, p1d, p1e, p1f, p1g⟩ := St.at_ (x0 := (.bool (ngB i))) (x1 := (.slice Aa na ca)) (x2 := (.int .i64 (s : Int))) (g := w.heap.size) E (by simp)
  go_wp2_with fail
  refine (rdiv_both (i := i) (s := s) (j := j) (t := t) (S := S) (St.got E (A := Aa) (n := na) (c := ca) (a := (i).natAbs) (by simp)) (St.got E (A := Ab) (n := nb) (c := cb) (a := (j).natAbs) (by simp)) (by omega) (by omega) (by omega) (by omega) HV.out (by omega) HC.out).mono ?_; rintro e w3 ⟨Aq0, nq0, cq0, rfl, h, hb⟩
  clear p0a p0b p0c p0d p0e p0f p0g p1a p1b p1c p1d p1e p1f p1g
  replace E := Lib.hid (St.push E.out hb h)
  clear h hb
  obtain ⟨p0a, p0b, p0c, p0d, p0e, p0f, p0g⟩ := St.at_ (x0 := (.bool (ngB j))) (x1 := (.slice Ab nb cb)) (x2 := (.int .i64 (t : Int))) (g := (w.heap.size + 1)) E (by simp)
  obtain ⟨p1a, p1b, p1c, p1d, p1e, p1f, p1g⟩ := St.at_ (x0 := (.bool (ngB i))) (x1 := (.slice Aa na ca)) (x2 := (.int .i64 (s : Int))) (g := w.heap.size) E (by simp)
  go_wp2_with fail
  clear p0a p0b p0c p0d p0e p0f p0g p1a p1b p1c p1d p1e p1f p1g
  replace E := Lib.hid (St.lay (t := 25) (x0 := (.bool (ngB z))) (x1 := (.slice Aq0 nq0 cq0)) (x2 := (.int .i64 (T : Int))) (g := w3.heap.size) E.out rfl)
  generalize hW2 : World.alloc w3 _ = Z0 at E ⊢; clear hW2
  refine (refdiv_both (i := i) (s := s) (j := j) (t := t) (S := S) (St.got E (A := Aa) (n := na) (c := ca) (a := (i).natAbs) (by simp)) (St.got E (A := Ab) (n := nb) (c := cb) (a := (j).natAbs) (by simp)) (by omega) (by omega) (by omega) (by omega) HV.out (by omega) HC.out).mono ?_; rintro e w4 ⟨Aq1, nq1, cq1, rfl, h, hb⟩
  replace E := Lib.hid (St.push E.out hb h)
  clear h hb
  obtain ⟨p0a, p0b, p0c, p0d, p0e, p0f, p0g⟩ := St.at_ (x0 := (.bool (ngB z))) (x1 := (.slice Aq0 nq0 cq0)) (x2 := (.int .i64 (T : Int))) (g := w3.heap.size) E (by simp)
  obtain ⟨p1a, p1b, p1c, p1d, p1e, p1f, p1g⟩ := St.at_ (x0 := (.bool (ngB j))) (x1 := (.slice Ab nb cb)) (x2 := (.int .i64 (t : Int))) (g := (w.heap.size + 1)) E (by simp)
  obtain ⟨p2a, p2b, p2c, p2d, p2e, p2f, p2g⟩ := St.at_ (x0 := (.bool (ngB i))) (x1 := (.slice Aa na ca)) (x2 := (.int .i64 (s : Int))) (g := w.heap.size) E (by simp)
  go_wp2_with fail
  clear p0a p0b p0c p0d p0e p0f p0g p1a p1b p1c p1d p1e p1f p1g p2a p2b p2c p2d p2e p2f p2g
  replace E := Lib.hid (St.lay (t := 25) (x0 := (.bool (ngB z))) (x1 := (.slice Aq1 nq1 cq1)) (x2 := (.int .i64 (T : Int))) (g := w4.heap.size) E.out rfl)
  generalize hW2 : World.alloc w4 _ = Z1 at E ⊢; clear hW2
  replace E := Lib.hid (St.drew E.out)
  rename_i K hK
  refine line_start (ops := opsAt Try.prog 3 5) (S := SB [(w4.heap.size, (.bool (ngB z)), (.slice Aq1 nq1 cq1), (.int .i64 (T : Int))), (w3.heap.size, (.bool (ngB z)), (.slice Aq0 nq0 cq0), (.int .i64 (T : Int))), ((w.heap.size + 1), (.bool (ngB j)), (.slice Ab nb cb), (.int .i64 (t : Int))), (w.heap.size, (.bool (ngB i)), (.slice Aa na ca), (.int .i64 (s : Int)))]) (by kernel_rfl) (by kernel_rfl) (St.sb E) ?_
  have hSw := St.sb E
  generalize hA : Act.mk _ _ = a
  have ha : Fr 79 a [(3, .pointer (some ⟨w.heap.size, 0, none⟩)), (4, .pointer (some ⟨(w.heap.size + 1), 0, none⟩)), (7, .pointer (some ⟨w3.heap.size, 0, none⟩)), (9, .pointer (some ⟨w4.heap.size, 0, none⟩)), (2, .int .i64 v), (8, .int .i64 er), (10, .int .i64 er)] := by rw [← hA]; exact ⟨rfl, rfl, by intro q hq; simp at hq; rcases hq with rfl | rfl | rfl | rfl | rfl | rfl | rfl <;> rfl⟩
  clear hA
  refine line_still says6R 0 0 [] 36 (.agg #[(.bool (ngB i)), (.slice Aa na ca), (.int .i64 (s : Int))]) [(3, .pointer (some ⟨w.heap.size, 0, none⟩)), (7, .pointer (some ⟨w3.heap.size, 0, none⟩)), (9, .pointer (some ⟨w4.heap.size, 0, none⟩)), (2, .int .i64 v), (8, .int .i64 er), (10, .int .i64 er)] rfl (by decide) (by decide) (by decide) ha (fun o ho hg => y_of (wanted_none hg) (fun wx hS => e_load ho (ha.ev (i := 3) (v := .pointer (some ⟨w.heap.size, 0, none⟩)) (by simp)) (hS.at_ (g := w.heap.size) (x0 := (.bool (ngB i))) (x1 := (.slice Aa na ca)) (x2 := (.int .i64 (s : Int))) (by simp)))) (by simp) hSw ?_; intro a ha
  refine line_still says6R 1 1 [] 37 (.int .i64 v) [(36, .agg #[(.bool (ngB i)), (.slice Aa na ca), (.int .i64 (s : Int))]), (3, .pointer (some ⟨w.heap.size, 0, none⟩)), (7, .pointer (some ⟨w3.heap.size, 0, none⟩)), (9, .pointer (some ⟨w4.heap.size, 0, none⟩)), (2, .int .i64 v), (8, .int .i64 er), (10, .int .i64 er)] rfl (by decide) (by decide) (by decide) ha (fun o ho hg => y_of (wanted_none hg) (fun wx hS => e_move (.inl ho) (ha.ev (i := 2) (v := .int .i64 v) (by simp)))) (by simp) hSw ?_; intro a ha
  refine line_ahead says6R 2 2 [] 3 39 (.agg #[(.bool (ngB i)), (.slice Aa na ca), (.int .i64 (s : Int))]) [(37, .int .i64 v), (36, .agg #[(.bool (ngB i)), (.slice Aa na ca), (.int .i64 (s : Int))]), (3, .pointer (some ⟨w.heap.size, 0, none⟩)), (7, .pointer (some ⟨w3.heap.size, 0, none⟩)), (9, .pointer (some ⟨w4.heap.size, 0, none⟩)), (2, .int .i64 v), (8, .int .i64 er), (10, .int .i64 er)] rfl (by decide) (by decide) (by decide) ha (fun o ho hg => y_of (wanted_none hg) (fun wx hS => e_load ho (ha.ev (i := 3) (v := .pointer (some ⟨w.heap.size, 0, none⟩)) (by simp)) (hS.at_ (g := w.heap.size) (x0 := (.bool (ngB i))) (x1 := (.slice Aa na ca)) (x2 := (.int .i64 (s : Int))) (by simp)))) (by simp) hSw ?_; intro a ha
  refine line_ahead says6R 3 2 [3] 4 40 (.int .i64 v) [(39, .agg #[(.bool (ngB i)), (.slice Aa na ca), (.int .i64 (s : Int))]), (37, .int .i64 v), (36, .agg #[(.bool (ngB i)), (.slice Aa na ca), (.int .i64 (s : Int))]), (3, .pointer (some ⟨w.heap.size, 0, none⟩)), (7, .pointer (some ⟨w3.heap.size, 0, none⟩)), (9, .pointer (some ⟨w4.heap.size, 0, none⟩)), (2, .int .i64 v), (8, .int .i64 er), (10, .int .i64 er)] rfl (by decide) (by decide) (by decide) ha (fun o ho hg => y_of (wanted_none hg) (fun wx hS => e_move (.inl ho) (ha.ev (i := 2) (v := .int .i64 v) (by simp)))) (by simp) hSw ?_; intro a ha
  refine line_call says6R 4 2 [4, 3] 38 (args := #[.agg #[(.bool (ngB i)), (.slice Aa na ca), (.int .i64 (s : Int))], .int .i64 v]) [(40, .int .i64 v), (39, .agg #[(.bool (ngB i)), (.slice Aa na ca), (.int .i64 (s : Int))]), (3, .pointer (some ⟨w.heap.size, 0, none⟩)), (7, .pointer (some ⟨w3.heap.size, 0, none⟩)), (9, .pointer (some ⟨w4.heap.size, 0, none⟩)), (2, .int .i64 v), (8, .int .i64 er), (10, .int .i64 er)] rfl (by decide) (by decide) (by decide) ha (fun o ho hg => ⟨(wanted_none hg), e_call (by kernel_rfl) ho rfl (by have q0 := ha.ev (i := 36) (v := .agg #[(.bool (ngB i)), (.slice Aa na ca), (.int .i64 (s : Int))]) (by simp); have q1 := ha.ev (i := 37) (v := .int .i64 v) (by simp); simp only [List.map_toArray, List.map_cons, List.map_nil, ev_const, q0, q1])⟩) (by simp) ?_
  refine (quant_is (i := i) (s := s) (S := S) (St.got E (A := Aa) (n := na) (c := ca) (a := (i).natAbs) (by simp)) (by omega) (by omega) HV.out (by omega) HX1.out).mono ?_; rintro e w5 ⟨A5, n5, c5, rfl, h, hb⟩
  have b5 : n5 ≤ 169 := len_le h HL1.out
  replace E := Lib.hid (St.push E.out hb h)
  clear h hb
  have hSw := St.sb E; refine ⟨_, rfl, hSw, ?_⟩; intro a ha
  refine line_skip [4] (by intro i; simp <;> omega) ?_
  refine line_skip [] (by intro i; simp <;> omega) ?_
  refine line_call says6R 5 5 [] 41 (args := #[.agg #[(.bool (ngB i)), (.slice Aa na ca), (.int .i64 (s : Int))], .int .i64 v]) [(38, .agg #[.bool (ngB x1), .slice A5 n5 c5, .int .i64 (S : Int)]), (3, .pointer (some ⟨w.heap.size, 0, none⟩)), (7, .pointer (some ⟨w3.heap.size, 0, none⟩)), (9, .pointer (some ⟨w4.heap.size, 0, none⟩)), (2, .int .i64 v), (8, .int .i64 er), (10, .int .i64 er)] rfl (by decide) (by decide) (by decide) ha (fun o ho hg => ⟨(wanted_none hg), e_call (by kernel_rfl) ho rfl (by have q0 := ha.ev (i := 39) (v := .agg #[(.bool (ngB i)), (.slice Aa na ca), (.int .i64 (s : Int))]) (by simp); have q1 := ha.ev (i := 40) (v := .int .i64 v) (by simp); simp only [List.map_toArray, List.map_cons, List.map_nil, ev_const, q0, q1])⟩) (by simp) ?_
  refine (refquant_is (i := i) (s := s) (S := S) (St.got E (A := Aa) (n := na) (c := ca) (a := (i).natAbs) (by simp)) (by omega) (by omega) HV.out (by omega) HX1.out).mono ?_; rintro e w6 ⟨A6, n6, c6, rfl, h, hb⟩
  have b6 : n6 ≤ 169 := len_le h HL1.out
  replace E := Lib.hid (St.push E.out hb h)
  clear h hb
  have hSw := St.sb E; refine ⟨_, rfl, hSw, ?_⟩; intro a ha
  refine line_call says6R 6 6 [] 42 (args := #[.agg #[.bool (ngB x1), .slice A5 n5 c5, .int .i64 (S : Int)], .agg #[.bool (ngB x1), .slice A6 n6 c6, .int .i64 (S : Int)]]) [(3, .pointer (some ⟨w.heap.size, 0, none⟩)), (7, .pointer (some ⟨w3.heap.size, 0, none⟩)), (9, .pointer (some ⟨w4.heap.size, 0, none⟩)), (2, .int .i64 v), (8, .int .i64 er), (10, .int .i64 er)] rfl (by decide) (by decide) (by decide) ha (fun o ho hg => ⟨(wanted_none hg), e_call (by kernel_rfl) ho rfl (by have q0 := ha.ev (i := 38) (v := .agg #[.bool (ngB x1), .slice A5 n5 c5, .int .i64 (S : Int)]) (by simp); have q1 := ha.ev (i := 41) (v := .agg #[.bool (ngB x1), .slice A6 n6 c6, .int .i64 (S : Int)]) (by simp); simp only [List.map_toArray, List.map_cons, List.map_nil, ev_const, q0, q1])⟩) (by simp) ?_
  refine (refalike_is5 (i := x1) (j := x1) (s := S) (t := S) (St.got E (A := A5) (n := n5) (c := c5) (a := (x1).natAbs) (by simp)) (St.got E (A := A6) (n := n6) (c := c6) (a := (x1).natAbs) (by simp)) (alike_yes rfl rfl)).mono ?_; rintro e w7 ⟨rfl, hb⟩
  replace E := Lib.hid (St.step E.out hb)
  clear hb
  replace E : Hid (St w w7 [(Aq1, nq1, cq1, (z).natAbs), (Aq0, nq0, cq0, (z).natAbs), (Aa, na, ca, (i).natAbs), (Ab, nb, cb, (j).natAbs)] [(w4.heap.size, (.bool (ngB z)), (.slice Aq1 nq1 cq1), (.int .i64 (T : Int))), (w3.heap.size, (.bool (ngB z)), (.slice Aq0 nq0 cq0), (.int .i64 (T : Int))), ((w.heap.size + 1), (.bool (ngB j)), (.slice Ab nb cb), (.int .i64 (t : Int))), (w.heap.size, (.bool (ngB i)), (.slice Aa na ca), (.int .i64 (s : Int)))]) := Lib.hid ((E.out).sub (by simp) (by simp))
  have hSw := St.sb E; refine ⟨_, rfl, hSw, ?_⟩; intro a ha
  refine line_still says6R 7 7 [] 43 (.bool true) [(3, .pointer (some ⟨w.heap.size, 0, none⟩)), (7, .pointer (some ⟨w3.heap.size, 0, none⟩)), (9, .pointer (some ⟨w4.heap.size, 0, none⟩)), (2, .int .i64 v), (8, .int .i64 er), (10, .int .i64 er)] rfl (by decide) (by decide) (by decide) ha (fun o ho hg => y_of (wanted_none hg) (fun wx hS => e_move (.inl ho) (ha.ev (i := 42) (v := .bool true) (by simp)))) (by simp) hSw ?_; intro a ha
  refine line_still says6R 8 8 [] 44 (.agg #[(.bool (ngB z)), (.slice Aq0 nq0 cq0), (.int .i64 (T : Int))]) [(43, .bool true), (3, .pointer (some ⟨w.heap.size, 0, none⟩)), (9, .pointer (some ⟨w4.heap.size, 0, none⟩)), (2, .int .i64 v), (8, .int .i64 er), (10, .int .i64 er)] rfl (by decide) (by decide) (by decide) ha (fun o ho hg => y_of (says6R.wanted hg rfl ha (d := 43) (by simp)) (fun wx hS => e_load ho (ha.ev (i := 7) (v := .pointer (some ⟨w3.heap.size, 0, none⟩)) (by simp)) (hS.at_ (g := w3.heap.size) (x0 := (.bool (ngB z))) (x1 := (.slice Aq0 nq0 cq0)) (x2 := (.int .i64 (T : Int))) (by simp)))) (by simp) hSw ?_; intro a ha
  refine line_still says6R 9 9 [] 45 (.agg #[(.bool (ngB z)), (.slice Aq1 nq1 cq1), (.int .i64 (T : Int))]) [(44, .agg #[(.bool (ngB z)), (.slice Aq0 nq0 cq0), (.int .i64 (T : Int))]), (43, .bool true), (3, .pointer (some ⟨w.heap.size, 0, none⟩)), (2, .int .i64 v), (8, .int .i64 er), (10, .int .i64 er)] rfl (by decide) (by decide) (by decide) ha (fun o ho hg => y_of (says6R.wanted hg rfl ha (d := 43) (by simp)) (fun wx hS => e_load ho (ha.ev (i := 9) (v := .pointer (some ⟨w4.heap.size, 0, none⟩)) (by simp)) (hS.at_ (g := w4.heap.size) (x0 := (.bool (ngB z))) (x1 := (.slice Aq1 nq1 cq1)) (x2 := (.int .i64 (T : Int))) (by simp)))) (by simp) hSw ?_; intro a ha
  refine line_call says6R 10 10 [] 46 (args := #[.agg #[(.bool (ngB z)), (.slice Aq0 nq0 cq0), (.int .i64 (T : Int))], .agg #[(.bool (ngB z)), (.slice Aq1 nq1 cq1), (.int .i64 (T : Int))]]) [(43, .bool true), (3, .pointer (some ⟨w.heap.size, 0, none⟩)), (2, .int .i64 v), (8, .int .i64 er), (10, .int .i64 er)] rfl (by decide) (by decide) (by decide) ha (fun o ho hg => ⟨(says6R.wanted hg rfl ha (d := 43) (by simp)), e_call (by kernel_rfl) ho rfl (by have q0 := ha.ev (i := 44) (v := .agg #[(.bool (ngB z)), (.slice Aq0 nq0 cq0), (.int .i64 (T : Int))]) (by simp); have q1 := ha.ev (i := 45) (v := .agg #[(.bool (ngB z)), (.slice Aq1 nq1 cq1), (.int .i64 (T : Int))]) (by simp); simp only [List.map_toArray, List.map_cons, List.map_nil, ev_const, q0, q1])⟩) (by simp) ?_
  refine (refalike_is5 (i := z) (j := z) (s := T) (t := T) (St.got E (A := Aq0) (n := nq0) (c := cq0) (a := (z).natAbs) (by simp)) (St.got E (A := Aq1) (n := nq1) (c := cq1) (a := (z).natAbs) (by simp)) (alike_yes rfl rfl)).mono ?_; rintro e w8 ⟨rfl, hb⟩
  replace E := Lib.hid (St.step E.out hb)
  clear hb
  replace E : Hid (St w w8 [(Aa, na, ca, (i).natAbs), (Ab, nb, cb, (j).natAbs)] [(w4.heap.size, (.bool (ngB z)), (.slice Aq1 nq1 cq1), (.int .i64 (T : Int))), (w3.heap.size, (.bool (ngB z)), (.slice Aq0 nq0 cq0), (.int .i64 (T : Int))), ((w.heap.size + 1), (.bool (ngB j)), (.slice Ab nb cb), (.int .i64 (t : Int))), (w.heap.size, (.bool (ngB i)), (.slice Aa na ca), (.int .i64 (s : Int)))]) := Lib.hid ((E.out).sub (by simp) (by simp))
  have hSw := St.sb E; refine ⟨_, rfl, hSw, ?_⟩; intro a ha
  refine line_still says6R 11 11 [] 47 (.bool true) [(3, .pointer (some ⟨w.heap.size, 0, none⟩)), (2, .int .i64 v), (8, .int .i64 er), (10, .int .i64 er)] rfl (by decide) (by decide) (by decide) ha (fun o ho hg => y_of (wanted_none hg) (fun wx hS => e_pick ho (ha.ev (i := 43) (v := .bool true) (by simp)) (ha.ev (i := 46) (v := .bool true) (by simp)) rfl)) (by simp) hSw ?_; intro a ha
  refine line_still says6R 12 12 [] 48 (.bool true) [(3, .pointer (some ⟨w.heap.size, 0, none⟩)), (2, .int .i64 v), (8, .int .i64 er), (10, .int .i64 er)] rfl (by decide) (by decide) (by decide) ha (fun o ho hg => y_of (wanted_none hg) (fun wx hS => e_move (.inl ho) (ha.ev (i := 47) (v := .bool true) (by simp)))) (by simp) hSw ?_; intro a ha
  refine line_still says6R 13 13 [] 49 (.int .i64 er) [(48, .bool true), (3, .pointer (some ⟨w.heap.size, 0, none⟩)), (2, .int .i64 v), (10, .int .i64 er)] rfl (by decide) (by decide) (by decide) ha (fun o ho hg => y_of (says6R.wanted hg rfl ha (d := 48) (by simp)) (fun wx hS => e_move (.inl ho) (ha.ev (i := 8) (v := .int .i64 er) (by simp)))) (by simp) hSw ?_; intro a ha
  refine line_still says6R 14 14 [] 50 (.int .i64 er) [(49, .int .i64 er), (48, .bool true), (3, .pointer (some ⟨w.heap.size, 0, none⟩)), (2, .int .i64 v)] rfl (by decide) (by decide) (by decide) ha (fun o ho hg => y_of (says6R.wanted hg rfl ha (d := 48) (by simp)) (fun wx hS => e_move (.inl ho) (ha.ev (i := 10) (v := .int .i64 er) (by simp)))) (by simp) hSw ?_; intro a ha
  refine line_still says6R 15 15 [] 51 (.bool true) [(48, .bool true), (3, .pointer (some ⟨w.heap.size, 0, none⟩)), (2, .int .i64 v)] rfl (by decide) (by decide) (by decide) ha (fun o ho hg => y_of (says6R.wanted hg rfl ha (d := 48) (by simp)) (fun wx hS => (e_eql ho (ha.ev (i := 49) (v := .int .i64 er) (by simp)) (ha.ev (i := 50) (v := .int .i64 er) (by simp))).trans (by rw [E1.out]))) (by simp) hSw ?_; intro a ha
  refine line_still says6R 16 16 [] 52 (.bool true) [(3, .pointer (some ⟨w.heap.size, 0, none⟩)), (2, .int .i64 v)] rfl (by decide) (by decide) (by decide) ha (fun o ho hg => y_of (wanted_none hg) (fun wx hS => e_pick ho (ha.ev (i := 48) (v := .bool true) (by simp)) (ha.ev (i := 51) (v := .bool true) (by simp)) rfl)) (by simp) hSw ?_; intro a ha
  refine line_still says6R 17 17 [] 53 (.bool true) [(3, .pointer (some ⟨w.heap.size, 0, none⟩)), (2, .int .i64 v)] rfl (by decide) (by decide) (by decide) ha (fun o ho hg => y_of (wanted_none hg) (fun wx hS => e_move (.inl ho) (ha.ev (i := 52) (v := .bool true) (by simp)))) (by simp) hSw ?_; intro a ha
  refine line_still says6R 18 18 [] 54 (.int .i64 v) [(53, .bool true), (3, .pointer (some ⟨w.heap.size, 0, none⟩)), (2, .int .i64 v)] rfl (by decide) (by decide) (by decide) ha (fun o ho hg => y_of (says6R.wanted hg rfl ha (d := 53) (by simp)) (fun wx hS => e_move (.inl ho) (ha.ev (i := 2) (v := .int .i64 v) (by simp)))) (by simp) hSw ?_; intro a ha
  refine line_ahead says6R 19 19 [] 20 56 (.int .i64 v) [(54, .int .i64 v), (53, .bool true), (3, .pointer (some ⟨w.heap.size, 0, none⟩)), (2, .int .i64 v)] rfl (by decide) (by decide) (by decide) ha (fun o ho hg => y_of (says6R.wanted hg rfl ha (d := 53) (by simp)) (fun wx hS => e_move (.inl ho) (ha.ev (i := 2) (v := .int .i64 v) (by simp)))) (by simp) hSw ?_; intro a ha
  refine line_call says6R 20 19 [20] 55 (args := #[.int .i64 v]) [(56, .int .i64 v), (53, .bool true), (3, .pointer (some ⟨w.heap.size, 0, none⟩)), (2, .int .i64 v)] rfl (by decide) (by decide) (by decide) ha (fun o ho hg => ⟨(says6R.wanted hg rfl ha (d := 53) (by simp)), e_call (by kernel_rfl) ho rfl (by have q0 := ha.ev (i := 54) (v := .int .i64 v) (by simp); simp only [List.map_toArray, List.map_cons, List.map_nil, ev_const, q0])⟩) (by simp) ?_
  refine (unit_is (S := S) _ HV.out (by omega)).mono ?_; rintro e w9 ⟨A9, n9, c9, rfl, h, hb⟩
  have b9 : n9 ≤ 1 := len_le h O1.out
  replace E := Lib.hid (St.push E.out hb h)
  clear h hb
  have hSw := St.sb E; refine ⟨_, rfl, hSw, ?_⟩; intro a ha
  refine line_skip [] (by intro i; simp <;> omega) ?_
  refine line_call says6R 21 21 [] 57 (args := #[.int .i64 v]) [(55, .agg #[.bool (ngB (1 : Int)), .slice A9 n9 c9, .int .i64 (S : Int)]), (53, .bool true), (3, .pointer (some ⟨w.heap.size, 0, none⟩)), (2, .int .i64 v)] rfl (by decide) (by decide) (by decide) ha (fun o ho hg => ⟨(says6R.wanted hg rfl ha (d := 53) (by simp)), e_call (by kernel_rfl) ho rfl (by have q0 := ha.ev (i := 56) (v := .int .i64 v) (by simp); simp only [List.map_toArray, List.map_cons, List.map_nil, ev_const, q0])⟩) (by simp) ?_
  refine (refunit_is (S := S) _ HV.out (by omega)).mono ?_; rintro e w10 ⟨A10, n10, c10, rfl, h, hb⟩
  have b10 : n10 ≤ 1 := len_le h O1.out
  replace E := Lib.hid (St.push E.out hb h)
  clear h hb
  have hSw := St.sb E; refine ⟨_, rfl, hSw, ?_⟩; intro a ha
  refine line_call says6R 22 22 [] 58 (args := #[.agg #[.bool (ngB (1 : Int)), .slice A9 n9 c9, .int .i64 (S : Int)], .agg #[.bool (ngB (1 : Int)), .slice A10 n10 c10, .int .i64 (S : Int)]]) [(53, .bool true), (3, .pointer (some ⟨w.heap.size, 0, none⟩)), (2, .int .i64 v)] rfl (by decide) (by decide) (by decide) ha (fun o ho hg => ⟨(says6R.wanted hg rfl ha (d := 53) (by simp)), e_call (by kernel_rfl) ho rfl (by have q0 := ha.ev (i := 55) (v := .agg #[.bool (ngB (1 : Int)), .slice A9 n9 c9, .int .i64 (S : Int)]) (by simp); have q1 := ha.ev (i := 57) (v := .agg #[.bool (ngB (1 : Int)), .slice A10 n10 c10, .int .i64 (S : Int)]) (by simp); simp only [List.map_toArray, List.map_cons, List.map_nil, ev_const, q0, q1])⟩) (by simp) ?_
  refine (refalike_is5 (i := (1 : Int)) (j := (1 : Int)) (s := S) (t := S) (St.got E (A := A9) (n := n9) (c := c9) (a := ((1 : Int)).natAbs) (by simp)) (St.got E (A := A10) (n := n10) (c := c10) (a := ((1 : Int)).natAbs) (by simp)) (alike_yes rfl rfl)).mono ?_; rintro e w11 ⟨rfl, hb⟩
  replace E := Lib.hid (St.step E.out hb)
  clear hb
  replace E : Hid (St w w11 [(Aa, na, ca, (i).natAbs), (Ab, nb, cb, (j).natAbs)] [(w4.heap.size, (.bool (ngB z)), (.slice Aq1 nq1 cq1), (.int .i64 (T : Int))), (w3.heap.size, (.bool (ngB z)), (.slice Aq0 nq0 cq0), (.int .i64 (T : Int))), ((w.heap.size + 1), (.bool (ngB j)), (.slice Ab nb cb), (.int .i64 (t : Int))), (w.heap.size, (.bool (ngB i)), (.slice Aa na ca), (.int .i64 (s : Int)))]) := Lib.hid ((E.out).sub (by simp) (by simp))
  have hSw := St.sb E; refine ⟨_, rfl, hSw, ?_⟩; intro a ha
  refine line_still says6R 23 23 [] 59 (.bool true) [(3, .pointer (some ⟨w.heap.size, 0, none⟩)), (2, .int .i64 v)] rfl (by decide) (by decide) (by decide) ha (fun o ho hg => y_of (wanted_none hg) (fun wx hS => e_pick ho (ha.ev (i := 53) (v := .bool true) (by simp)) (ha.ev (i := 58) (v := .bool true) (by simp)) rfl)) (by simp) hSw ?_; intro a ha
  refine line_still says6R 24 24 [] 60 (.bool true) [(3, .pointer (some ⟨w.heap.size, 0, none⟩)), (2, .int .i64 v)] rfl (by decide) (by decide) (by decide) ha (fun o ho hg => y_of (wanted_none hg) (fun wx hS => e_move (.inl ho) (ha.ev (i := 59) (v := .bool true) (by simp)))) (by simp) hSw ?_; intro a ha
  refine line_still says6R 25 25 [] 61 (.int .i64 v) [(60, .bool true), (3, .pointer (some ⟨w.heap.size, 0, none⟩)), (2, .int .i64 v)] rfl (by decide) (by decide) (by decide) ha (fun o ho hg => y_of (says6R.wanted hg rfl ha (d := 60) (by simp)) (fun wx hS => e_move (.inl ho) (ha.ev (i := 2) (v := .int .i64 v) (by simp)))) (by simp) hSw ?_; intro a ha
  refine line_ahead says6R 26 26 [] 27 63 (.int .i64 v) [(61, .int .i64 v), (60, .bool true), (3, .pointer (some ⟨w.heap.size, 0, none⟩)), (2, .int .i64 v)] rfl (by decide) (by decide) (by decide) ha (fun o ho hg => y_of (says6R.wanted hg rfl ha (d := 60) (by simp)) (fun wx hS => e_move (.inl ho) (ha.ev (i := 2) (v := .int .i64 v) (by simp)))) (by simp) hSw ?_; intro a ha
  refine line_call says6R 27 26 [27] 62 (args := #[.int .i64 v]) [(63, .int .i64 v), (60, .bool true), (3, .pointer (some ⟨w.heap.size, 0, none⟩)), (2, .int .i64 v)] rfl (by decide) (by decide) (by decide) ha (fun o ho hg => ⟨(says6R.wanted hg rfl ha (d := 60) (by simp)), e_call (by kernel_rfl) ho rfl (by have q0 := ha.ev (i := 61) (v := .int .i64 v) (by simp); simp only [List.map_toArray, List.map_cons, List.map_nil, ev_const, q0])⟩) (by simp) ?_
  refine (half_at (S := S) (M := u1) _ HV.out (by omega) HU1.out).mono ?_; rintro e w12 ⟨A12, n12, c12, rfl, h, hb⟩
  have b12 : n12 ≤ 1 := len_le h O5.out
  replace E := Lib.hid (St.push E.out hb h)
  clear h hb
  have hSw := St.sb E; refine ⟨_, rfl, hSw, ?_⟩; intro a ha
  refine line_skip [] (by intro i; simp <;> omega) ?_
  refine line_call says6R 28 28 [] 64 (args := #[.int .i64 v]) [(62, .agg #[.bool (ngB (5 : Int)), .slice A12 n12 c12, .int .i64 (u1 : Int)]), (60, .bool true), (3, .pointer (some ⟨w.heap.size, 0, none⟩)), (2, .int .i64 v)] rfl (by decide) (by decide) (by decide) ha (fun o ho hg => ⟨(says6R.wanted hg rfl ha (d := 60) (by simp)), e_call (by kernel_rfl) ho rfl (by have q0 := ha.ev (i := 63) (v := .int .i64 v) (by simp); simp only [List.map_toArray, List.map_cons, List.map_nil, ev_const, q0])⟩) (by simp) ?_
  refine (refhalf_at (S := S) (M := u1) _ HV.out (by omega) HU1.out).mono ?_; rintro e w13 ⟨A13, n13, c13, rfl, h, hb⟩
  have b13 : n13 ≤ 1 := len_le h O5.out
  replace E := Lib.hid (St.push E.out hb h)
  clear h hb
  have hSw := St.sb E; refine ⟨_, rfl, hSw, ?_⟩; intro a ha
  refine line_call says6R 29 29 [] 65 (args := #[.agg #[.bool (ngB (5 : Int)), .slice A12 n12 c12, .int .i64 (u1 : Int)], .agg #[.bool (ngB (5 : Int)), .slice A13 n13 c13, .int .i64 (u1 : Int)]]) [(60, .bool true), (3, .pointer (some ⟨w.heap.size, 0, none⟩)), (2, .int .i64 v)] rfl (by decide) (by decide) (by decide) ha (fun o ho hg => ⟨(says6R.wanted hg rfl ha (d := 60) (by simp)), e_call (by kernel_rfl) ho rfl (by have q0 := ha.ev (i := 62) (v := .agg #[.bool (ngB (5 : Int)), .slice A12 n12 c12, .int .i64 (u1 : Int)]) (by simp); have q1 := ha.ev (i := 64) (v := .agg #[.bool (ngB (5 : Int)), .slice A13 n13 c13, .int .i64 (u1 : Int)]) (by simp); simp only [List.map_toArray, List.map_cons, List.map_nil, ev_const, q0, q1])⟩) (by simp) ?_
  refine (refalike_is5 (i := (5 : Int)) (j := (5 : Int)) (s := u1) (t := u1) (St.got E (A := A12) (n := n12) (c := c12) (a := ((5 : Int)).natAbs) (by simp)) (St.got E (A := A13) (n := n13) (c := c13) (a := ((5 : Int)).natAbs) (by simp)) (alike_yes rfl rfl)).mono ?_; rintro e w14 ⟨rfl, hb⟩
  replace E := Lib.hid (St.step E.out hb)
  clear hb
  replace E : Hid (St w w14 [(Aa, na, ca, (i).natAbs), (Ab, nb, cb, (j).natAbs)] [(w4.heap.size, (.bool (ngB z)), (.slice Aq1 nq1 cq1), (.int .i64 (T : Int))), (w3.heap.size, (.bool (ngB z)), (.slice Aq0 nq0 cq0), (.int .i64 (T : Int))), ((w.heap.size + 1), (.bool (ngB j)), (.slice Ab nb cb), (.int .i64 (t : Int))), (w.heap.size, (.bool (ngB i)), (.slice Aa na ca), (.int .i64 (s : Int)))]) := Lib.hid ((E.out).sub (by simp) (by simp))
  have hSw := St.sb E; refine ⟨_, rfl, hSw, ?_⟩; intro a ha
  refine line_still says6R 30 30 [] 66 (.bool true) [(3, .pointer (some ⟨w.heap.size, 0, none⟩)), (2, .int .i64 v)] rfl (by decide) (by decide) (by decide) ha (fun o ho hg => y_of (wanted_none hg) (fun wx hS => e_pick ho (ha.ev (i := 60) (v := .bool true) (by simp)) (ha.ev (i := 65) (v := .bool true) (by simp)) rfl)) (by simp) hSw ?_; intro a ha
  refine line_still says6R 31 31 [] 67 (.bool true) [(3, .pointer (some ⟨w.heap.size, 0, none⟩)), (2, .int .i64 v)] rfl (by decide) (by decide) (by decide) ha (fun o ho hg => y_of (wanted_none hg) (fun wx hS => e_move (.inl ho) (ha.ev (i := 66) (v := .bool true) (by simp)))) (by simp) hSw ?_; intro a ha
  refine line_still says6R 32 32 [] 68 (.agg #[(.bool (ngB i)), (.slice Aa na ca), (.int .i64 (s : Int))]) [(67, .bool true), (3, .pointer (some ⟨w.heap.size, 0, none⟩)), (2, .int .i64 v)] rfl (by decide) (by decide) (by decide) ha (fun o ho hg => y_of (says6R.wanted hg rfl ha (d := 67) (by simp)) (fun wx hS => e_load ho (ha.ev (i := 3) (v := .pointer (some ⟨w.heap.size, 0, none⟩)) (by simp)) (hS.at_ (g := w.heap.size) (x0 := (.bool (ngB i))) (x1 := (.slice Aa na ca)) (x2 := (.int .i64 (s : Int))) (by simp)))) (by simp) hSw ?_; intro a ha
  refine line_still says6R 33 33 [] 69 (.int .i64 v) [(68, .agg #[(.bool (ngB i)), (.slice Aa na ca), (.int .i64 (s : Int))]), (67, .bool true), (3, .pointer (some ⟨w.heap.size, 0, none⟩)), (2, .int .i64 v)] rfl (by decide) (by decide) (by decide) ha (fun o ho hg => y_of (says6R.wanted hg rfl ha (d := 67) (by simp)) (fun wx hS => e_move (.inl ho) (ha.ev (i := 2) (v := .int .i64 v) (by simp)))) (by simp) hSw ?_; intro a ha
  refine line_ahead says6R 34 34 [] 35 71 (.agg #[(.bool (ngB i)), (.slice Aa na ca), (.int .i64 (s : Int))]) [(69, .int .i64 v), (68, .agg #[(.bool (ngB i)), (.slice Aa na ca), (.int .i64 (s : Int))]), (67, .bool true), (2, .int .i64 v)] rfl (by decide) (by decide) (by decide) ha (fun o ho hg => y_of (says6R.wanted hg rfl ha (d := 67) (by simp)) (fun wx hS => e_load ho (ha.ev (i := 3) (v := .pointer (some ⟨w.heap.size, 0, none⟩)) (by simp)) (hS.at_ (g := w.heap.size) (x0 := (.bool (ngB i))) (x1 := (.slice Aa na ca)) (x2 := (.int .i64 (s : Int))) (by simp)))) (by simp) hSw ?_; intro a ha
  refine line_ahead says6R 35 34 [35] 36 72 (.int .i64 v) [(71, .agg #[(.bool (ngB i)), (.slice Aa na ca), (.int .i64 (s : Int))]), (69, .int .i64 v), (68, .agg #[(.bool (ngB i)), (.slice Aa na ca), (.int .i64 (s : Int))]), (67, .bool true)] rfl (by decide) (by decide) (by decide) ha (fun o ho hg => y_of (says6R.wanted hg rfl ha (d := 67) (by simp)) (fun wx hS => e_move (.inl ho) (ha.ev (i := 2) (v := .int .i64 v) (by simp)))) (by simp) hSw ?_; intro a ha
  refine line_call says6R 36 34 [36, 35] 70 (args := #[.agg #[(.bool (ngB i)), (.slice Aa na ca), (.int .i64 (s : Int))], .int .i64 v]) [(72, .int .i64 v), (71, .agg #[(.bool (ngB i)), (.slice Aa na ca), (.int .i64 (s : Int))]), (67, .bool true)] rfl (by decide) (by decide) (by decide) ha (fun o ho hg => ⟨(says6R.wanted hg rfl ha (d := 67) (by simp)), e_call (by kernel_rfl) ho rfl (by have q0 := ha.ev (i := 68) (v := .agg #[(.bool (ngB i)), (.slice Aa na ca), (.int .i64 (s : Int))]) (by simp); have q1 := ha.ev (i := 69) (v := .int .i64 v) (by simp); simp only [List.map_toArray, List.map_cons, List.map_nil, ev_const, q0, q1])⟩) (by simp) ?_
  refine (exact_is (i := i) (s := s) (S := S) (St.got E (A := Aa) (n := na) (c := ca) (a := (i).natAbs) (by simp)) (by omega) (by omega) HV.out (by omega) HBE.out).mono ?_; rintro e w15 ⟨rfl, hb⟩
  replace E := Lib.hid (St.step E.out hb)
  clear hb
  have hSw := St.sb E; refine ⟨_, rfl, hSw, ?_⟩; intro a ha
  refine line_skip [36] (by intro i; simp <;> omega) ?_
  refine line_skip [] (by intro i; simp <;> omega) ?_
  refine line_call says6R 37 37 [] 73 (args := #[.agg #[(.bool (ngB i)), (.slice Aa na ca), (.int .i64 (s : Int))], .int .i64 v]) [(70, .bool be), (67, .bool true)] rfl (by decide) (by decide) (by decide) ha (fun o ho hg => ⟨(says6R.wanted hg rfl ha (d := 67) (by simp)), e_call (by kernel_rfl) ho rfl (by have q0 := ha.ev (i := 71) (v := .agg #[(.bool (ngB i)), (.slice Aa na ca), (.int .i64 (s : Int))]) (by simp); have q1 := ha.ev (i := 72) (v := .int .i64 v) (by simp); simp only [List.map_toArray, List.map_cons, List.map_nil, ev_const, q0, q1])⟩) (by simp) ?_
  refine (refexact_is (i := i) (s := s) (S := S) (St.got E (A := Aa) (n := na) (c := ca) (a := (i).natAbs) (by simp)) (by omega) (by omega) HV.out (by omega) HBE.out).mono ?_; rintro e w16 ⟨rfl, hb⟩
  replace E := Lib.hid (St.step E.out hb)
  clear hb
  have hSw := St.sb E; refine ⟨_, rfl, hSw, ?_⟩; intro a ha
  refine line_still says6R 38 38 [] 74 (.bool true) [(67, .bool true)] rfl (by decide) (by decide) (by decide) ha (fun o ho hg => y_of (says6R.wanted hg rfl ha (d := 67) (by simp)) (fun wx hS => (e_beq6 ho (ha.ev (i := 70) (v := .bool be) (by simp)) (ha.ev (i := 73) (v := .bool be) (by simp))).trans (by rw [E2.out]))) (by simp) hSw ?_; intro a ha
  refine line_still says6R 39 39 [] 75 (.bool true) [] rfl (by decide) (by decide) (by decide) ha (fun o ho hg => y_of (wanted_none hg) (fun wx hS => e_pick ho (ha.ev (i := 67) (v := .bool true) (by simp)) (ha.ev (i := 74) (v := .bool true) (by simp)) rfl)) (by simp) hSw ?_; intro a ha
  refine line_still says6R 40 40 [] 76 (.bool true) [] rfl (by decide) (by decide) (by decide) ha (fun o ho hg => y_of (wanted_none hg) (fun wx hS => e_move (.inl ho) (ha.ev (i := 75) (v := .bool true) (by simp)))) (by simp) hSw ?_; intro a ha
  refine line_call says6R 41 41 [] 77 (args := #[]) [(76, .bool true)] rfl (by decide) (by decide) (by decide) ha (fun o ho hg => ⟨(says6R.wanted hg rfl ha (d := 76) (by simp)), e_call (by kernel_rfl) ho rfl (by simp only [List.map_toArray, List.map_cons, List.map_nil, ev_const])⟩) (by simp) ?_
  refine (awake6 _).mono ?_; rintro e w17 ⟨rfl, hb⟩
  replace E := Lib.hid (St.step E.out hb)
  clear hb
  have hSw := St.sb E; refine ⟨_, rfl, hSw, ?_⟩; intro a ha
  refine line_still says6R 42 42 [] 78 (.bool true) [] rfl (by decide) (by decide) (by decide) ha (fun o ho hg => y_of (wanted_none hg) (fun wx hS => e_pick ho (ha.ev (i := 76) (v := .bool true) (by simp)) (ha.ev (i := 77) (v := .bool true) (by simp)) rfl)) (by simp) hSw ?_; intro a ha
  refine line_still says6R 43 43 [] 6 (.bool true) [] rfl (by decide) (by decide) (by decide) ha (fun o ho hg => y_of (wanted_none hg) (fun wx hS => e_move (.inr ho) (ha.ev (i := 78) (v := .bool true) (by simp)))) (by simp) hSw ?_; intro a ha
  refine line_end says6R rfl ?_
  simp only [Exit.then]
  refine hK _ _ ?_
  go_wp2
  exact bodyPost_ret (v := .bool true) (by have := ha.2.2 (6, .bool true) (by simp); simp [results, Try.results3, go_sem, Array.getD_eq_getD_getElem?, this]) ha.2.1 ⟨rfl, E.out.bel⟩

theorem says6_law (b1 : Bool) (A1 : Option Addr) (n1 ca : Nat) (xs1 : List Nat) (k1 : Int) (b2 : Bool) (A2 : Option Addr) (n2 cb : Nat) (xs2 : List Nat) (k2 : Int) (v : Int) (w : World) (h1 : Lim w w.heap.size A1 n1 ca xs1) (h2 : Lim w w.heap.size A2 n2 cb xs2) (gv1 : -9223372036854775808 ≤ v) (gv2 : v ≤ 9223372036854775807) : Calls Try.prog 3 #[.agg #[.bool b1, .slice A1 n1 ca, .int .i64 k1], .agg #[.bool b2, .slice A2 n2 cb, .int .i64 k2], .int .i64 v] w (RetVal w (.bool true)) := by
  cases l1 : longB b1 n1 xs1 k1 with
  | true => exact says6_long1 b1 A1 n1 ca xs1 k1 b2 A2 n2 cb xs2 k2 w h1 h2 v gv1 gv2 l1
  | false =>
    cases l2 : longB b2 n2 xs2 k2 with
    | true => exact says6_long2 b1 A1 n1 ca xs1 k1 b2 A2 n2 cb xs2 k2 w h1 h2 v gv1 gv2 l1 l2
    | false =>
      rcases Int.lt_or_le 60 v with h60 | h60
      · exact says6_long3 b1 A1 n1 ca xs1 k1 b2 A2 n2 cb xs2 k2 w h1 h2 v gv1 gv2 l1 l2 h60
      · obtain ⟨i, s, rfl, rfl, rfl, m1, t1⟩ := of_long l1 h1
        obtain ⟨j, t, rfl, rfl, rfl, m2, t2⟩ := of_long l2 h2
        exact says6_dec A1 n1 ca s i A2 n2 cb t j w h1 h2 m1 t1 m2 t2 v gv1 gv2 h60

end Go.Proofs.Ytcnjbmjgambgeaa
