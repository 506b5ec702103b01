/-
  RoundDivides answers true.
-/
import Derived.Test.YtcnjbmjgambgeaaRouV
import Derived.Test.YtcnjbmjgambgeaaLineF
set_option linter.unusedVariables false
set_option linter.unusedSimpArgs false
namespace Go.Proofs.Ytcnjbmjgambgeaa
open Go.RowKit

set_option maxHeartbeats 2000000 in
set_option maxRecDepth 100000 in
theorem divides_long1 (b1 : Bool) (A1 : Option Addr) (n1 c1 : Nat) (xs1 : List Nat) (k1 : Int) (b2 : Bool) (A2 : Option Addr) (n2 c2 : Nat) (xs2 : List Nat) (k2 : Int) (w : World) (h1 : Lim w w.heap.size A1 n1 c1 xs1) (h2 : Lim w w.heap.size A2 n2 c2 xs2) (x : Int) (h0 : 0 ≤ x) (h255 : x ≤ 255) (l1 : longB b1 n1 xs1 k1 = true) : Calls Try.prog 5 #[.agg #[.bool b1, .slice A1 n1 c1, .int .i64 k1], .agg #[.bool b2, .slice A2 n2 c2, .int .i64 k2], .int .u8 x] w (RetVal w (.bool true)) := by
  have H1 := Lib.hid h1
  have H2 := Lib.hid h2
  have L1 := Lib.hid l1
  clear h1 h2 l1
  go_enter Try.func5, Try.ntmps5
  go_wp2_with fail
  generalize hW : World.alloc (World.alloc w _) _ = W0
  have E0 : St w W0 [] [((w.heap.size + 1), .bool b2, .slice A2 n2 c2, .int .i64 k2), (w.heap.size, .bool b1, .slice A1 n1 c1, .int .i64 k1)] := by rw [← hW]; exact ((St.start w (l := []) (fun q hq => by cases hq)).lay rfl).lay (by simp)
  have E := Lib.hid E0
  clear hW E0
  refine (long_is (H1.out.on E.out.bel) L1.out).mono ?_; rintro e w1 ⟨rfl, hb⟩; replace E := Lib.hid (St.step E.out hb); clear hb
  go_wp2_with fail
  refine (awake6 _).mono ?_; rintro e w9 ⟨rfl, hb⟩; replace E := Lib.hid (St.step E.out hb); clear hb
  go_wp2_with fail
  go_ret
  exact ⟨rfl, E.out.bel⟩

set_option maxHeartbeats 2000000 in
set_option maxRecDepth 100000 in
theorem divides_long2 (b1 : Bool) (A1 : Option Addr) (n1 c1 : Nat) (xs1 : List Nat) (k1 : Int) (b2 : Bool) (A2 : Option Addr) (n2 c2 : Nat) (xs2 : List Nat) (k2 : Int) (w : World) (h1 : Lim w w.heap.size A1 n1 c1 xs1) (h2 : Lim w w.heap.size A2 n2 c2 xs2) (x : Int) (h0 : 0 ≤ x) (h255 : x ≤ 255) (l1 : longB b1 n1 xs1 k1 = false) (l2 : longB b2 n2 xs2 k2 = true) : Calls Try.prog 5 #[.agg #[.bool b1, .slice A1 n1 c1, .int .i64 k1], .agg #[.bool b2, .slice A2 n2 c2, .int .i64 k2], .int .u8 x] w (RetVal w (.bool true)) := by
  have H1 := Lib.hid h1
  have H2 := Lib.hid h2
  have L1 := Lib.hid l1
  have L2 := Lib.hid l2
  clear h1 h2 l1 l2
  go_enter Try.func5, Try.ntmps5
  go_wp2_with fail
  generalize hW : World.alloc (World.alloc w _) _ = W0
  have E0 : St w W0 [] [((w.heap.size + 1), .bool b2, .slice A2 n2 c2, .int .i64 k2), (w.heap.size, .bool b1, .slice A1 n1 c1, .int .i64 k1)] := by rw [← hW]; exact ((St.start w (l := []) (fun q hq => by cases hq)).lay rfl).lay (by simp)
  have E := Lib.hid E0
  clear hW E0
  refine (long_is (H1.out.on E.out.bel) L1.out).mono ?_; rintro e w1 ⟨rfl, hb⟩; replace E := Lib.hid (St.step E.out hb); clear hb
  obtain ⟨p0, p1, p2, pf0, pf1, pf2, plt⟩ := St.at_ (x0 := .bool b2) (x1 := .slice A2 n2 c2) (x2 := .int .i64 k2) (g := (w.heap.size + 1)) E (by simp)
  go_wp2_with fail
  refine (long_is (H2.out.on E.out.bel) L2.out).mono ?_; rintro e w2 ⟨rfl, hb⟩; replace E := Lib.hid (St.step E.out hb); clear hb
  clear p0 p1 p2 pf0 pf1 pf2 plt
  go_wp2_with fail
  refine (awake6 _).mono ?_; rintro e w9 ⟨rfl, hb⟩; replace E := Lib.hid (St.step E.out hb); clear hb
  go_wp2_with fail
  go_ret
  exact ⟨rfl, E.out.bel⟩

set_option maxHeartbeats 4000000 in
set_option maxRecDepth 100000 in
theorem divides_zero (Aa : Option Addr) (na ca s : Nat) (i : Int) (Ab : Option Addr) (nb cb t : Nat) (j : Int) (w : World) (h1 : Num w w.heap.size Aa na ca i.natAbs) (h2 : Num w w.heap.size Ab nb cb j.natAbs) (m1 : na ≤ 12) (t1 : s ≤ 60) (m2 : nb ≤ 12) (t2 : t ≤ 60) (x : Int) (h0 : 0 ≤ x) (h255 : x ≤ 255) (hj : j = 0) : Calls Try.prog 5 #[.agg #[.bool (ngB i), .slice Aa na ca, .int .i64 (s : Int)], .agg #[.bool (ngB j), .slice Ab nb cb, .int .i64 (t : Int)], .int .u8 x] w (RetVal w (.bool true)) := by
  have N1 : Hid (longB (ngB i) na (dg i.natAbs) (s : Int) = false) := not_long h1 m1 t1
  have N2 : Hid (longB (ngB j) nb (dg j.natAbs) (t : Int) = false) := not_long h2 m2 t2
  obtain ⟨S, hS⟩ : ∃ S : Nat, x % 40 = (S : Int) := ⟨(x % 40).toNat, by omega⟩
  have hS39 : S ≤ 39 := by omega
  have HR := Lib.hid hS
  have HV : Hid (max (S : Int) 0 = (S : Int)) := by show _ = _; omega
  have HJ0 := Lib.hid hj
  have HJS : Hid (j.sign = 0) := by show _ = _; rw [hj]; rfl
  have H1 := Lib.hid h1
  have H2 := Lib.hid h2
  clear hS hj h1 h2
  go_enter Try.func5, Try.ntmps5
  go_wp2_with fail
  generalize hW : World.alloc (World.alloc w _) _ = W0
  have E0 : St w W0 [(Aa, na, ca, (i).natAbs), (Ab, nb, cb, (j).natAbs)] [((w.heap.size + 1), (.bool (ngB j)), (.slice Ab nb cb), (.int .i64 (t : Int))), (w.heap.size, (.bool (ngB i)), (.slice Aa na ca), (.int .i64 (s : Int)))] := by rw [← hW]; exact ((St.start w (l := [(Aa, na, ca, (i).natAbs), (Ab, nb, cb, (j).natAbs)]) (by simp; exact ⟨H1.out, H2.out⟩)).lay rfl).lay (by simp)
  have E := Lib.hid E0
  clear hW E0
  refine (long_is (St.got E (A := Aa) (n := na) (c := ca) (a := (i).natAbs) (by simp)) N1.out).mono ?_; rintro e w1 ⟨rfl, hb⟩
  replace E := Lib.hid (St.step E.out hb)
  clear hb
  obtain ⟨p0a, p0b, p0c, p0d, p0e, p0f, p0g⟩ := St.at_ (x0 := (.bool (ngB j))) (x1 := (.slice Ab nb cb)) (x2 := (.int .i64 (t : Int))) (g := (w.heap.size + 1)) E (by simp)
  go_wp2_with fail
  refine (long_is (St.got E (A := Ab) (n := nb) (c := cb) (a := (j).natAbs) (by simp)) N2.out).mono ?_; rintro e w2 ⟨rfl, hb⟩
  clear p0a p0b p0c p0d p0e p0f p0g
  replace E := Lib.hid (St.step E.out hb)
  clear hb
  obtain ⟨p0a, p0b, p0c, p0d, p0e, p0f, p0g⟩ := St.at_ (x0 := (.bool (ngB j))) (x1 := (.slice Ab nb cb)) (x2 := (.int .i64 (t : Int))) (g := (w.heap.size + 1)) E (by simp)
  obtain ⟨p1a, p1b, p1c, p1d, p1e, p1f, p1g⟩ := St.at_ (x0 := (.bool (ngB i))) (x1 := (.slice Aa na ca)) (x2 := (.int .i64 (s : Int))) (g := w.heap.size) E (by simp)
  have hrem := tmod_pos (k := 40) h0
  rw [HR.out] at hrem
  go_wp2_with fail
  refine (rdiv_zero (i := i) (s := s) (j := j) (t := t) (S := S) (St.got E (A := Aa) (n := na) (c := ca) (a := (i).natAbs) (by simp)) (St.got E (A := Ab) (n := nb) (c := cb) (a := (j).natAbs) (by simp)) (by omega) (by omega) (by omega) (by omega) HV.out (by omega) HJ0.out).mono ?_; rintro e w3 ⟨rfl, hb⟩
  clear p0a p0b p0c p0d p0e p0f p0g p1a p1b p1c p1d p1e p1f p1g
  replace E := Lib.hid (St.step E.out hb)
  clear hb
  obtain ⟨p0a, p0b, p0c, p0d, p0e, p0f, p0g⟩ := St.at_ (x0 := (.bool (ngB j))) (x1 := (.slice Ab nb cb)) (x2 := (.int .i64 (t : Int))) (g := (w.heap.size + 1)) E (by simp)
  obtain ⟨p1a, p1b, p1c, p1d, p1e, p1f, p1g⟩ := St.at_ (x0 := (.bool (ngB i))) (x1 := (.slice Aa na ca)) (x2 := (.int .i64 (s : Int))) (g := w.heap.size) E (by simp)
  go_wp2_with fail
  clear p0a p0b p0c p0d p0e p0f p0g p1a p1b p1c p1d p1e p1f p1g
  replace E := Lib.hid (St.alloc E.out (.cells #[.bool false, .slice none 0 0, .int .i64 0] 25))
  generalize hW2 : World.alloc w3 _ = W2 at E ⊢; clear hW2
  refine (sign_is (i := j) (s := t) (St.got E (A := Ab) (n := nb) (c := cb) (a := (j).natAbs) (by simp)) HJS.out).mono ?_; rintro e w4 ⟨rfl, hb⟩
  replace E := Lib.hid (St.step E.out hb)
  clear hb
  go_wp2_with fail
  refine (awake6 _).mono ?_; rintro e w9 ⟨rfl, hb⟩; replace E := Lib.hid (St.step E.out hb); clear hb
  go_wp2_with fail
  go_ret
  exact ⟨rfl, E.out.bel⟩

def dvAT : List Row3 := [(some 36, none, .load 25 (.tmp 7)), (some 37, none, .load 25 (.tmp 4)), (some 38, none, .call { callee := .value (.func 27), args := #[.tmp 36, .tmp 37], argTypes := #[25, 25] }), (some 39, none, .load 25 (.tmp 3)), (some 40, none, .call { callee := .value (.func 21), args := #[.tmp 38, .tmp 39], argTypes := #[25, 25] }), (some 41, none, .call { callee := .value (.func 20), args := #[.tmp 40], argTypes := #[25] }), (some 9, none, .alloc 25), (none, none, .store 25 (.tmp 9) (.tmp 41))]
set_option maxRecDepth 100000 in
theorem dvARow : (opsAt Try.prog 5 6).toList.map row3 = dvAT := by kernel_rfl
theorem dvASel : Region.noSelect (opsAt Try.prog 5 6) = true := by kernel_rfl
theorem dvADone : Region.ready .any (opsAt Try.prog 5 6) (upto (opsAt Try.prog 5 6).size (opsAt Try.prog 5 6).size []) = [] := by kernel_rfl
theorem dvAstill0 : [(0, [], 0), (0, [0], 1), (0, [1, 0], 3)].all (stillB (opsAt Try.prog 5 6)) = true := by kernel_rfl
theorem dvAready0 : [(0, [3, 1, 0], [2, 6]), (0, [2, 3, 1, 0], [4, 6]), (0, [4, 2, 3, 1, 0], [5, 6]), (0, [5, 4, 2, 3, 1, 0], [6]), (0, [6, 5, 4, 2, 3, 1, 0], [7]), (0, [6, 4, 2, 3, 1, 0], [5]), (0, [5, 6, 4, 2, 3, 1, 0], [7]), (0, [6, 2, 3, 1, 0], [4]), (0, [4, 6, 2, 3, 1, 0], [5]), (0, [5, 4, 6, 2, 3, 1, 0], [7])].all (readyB (opsAt Try.prog 5 6)) = true := by kernel_rfl
theorem dvAready1 : [(0, [6, 3, 1, 0], [2]), (0, [2, 6, 3, 1, 0], [4]), (0, [4, 2, 6, 3, 1, 0], [5]), (0, [5, 4, 2, 6, 3, 1, 0], [7])].all (readyB (opsAt Try.prog 5 6)) = true := by kernel_rfl
theorem dvAR : Reg (opsAt Try.prog 5 6) dvAT [(0, [], 0), (0, [0], 1), (0, [1, 0], 3)] [] := ⟨dvARow, dvASel, (all_parts dvAstill0 (fun k h => by cases h)), (fun k h => by cases h), dvADone⟩
theorem dvAB : ∀ q ∈ ([(0, [3, 1, 0], [2, 6]), (0, [2, 3, 1, 0], [4, 6]), (0, [4, 2, 3, 1, 0], [5, 6]), (0, [5, 4, 2, 3, 1, 0], [6]), (0, [6, 5, 4, 2, 3, 1, 0], [7]), (0, [6, 4, 2, 3, 1, 0], [5]), (0, [5, 6, 4, 2, 3, 1, 0], [7]), (0, [6, 2, 3, 1, 0], [4]), (0, [4, 6, 2, 3, 1, 0], [5]), (0, [5, 4, 6, 2, 3, 1, 0], [7]), (0, [6, 3, 1, 0], [2]), (0, [2, 6, 3, 1, 0], [4]), (0, [4, 2, 6, 3, 1, 0], [5]), (0, [5, 4, 2, 6, 3, 1, 0], [7])] : List Spot4), readyB (opsAt Try.prog 5 6) q = true := (all_parts4 dvAready0 (all_parts4 dvAready1 (fun k h => by cases h)))

def dvBT : List Row3 := [(some 43, none, .load 25 (.tmp 3)), (some 44, none, .load 25 (.tmp 4)), (some 45, none, .call { callee := .value (.func 27), args := #[.tmp 43, .tmp 44], argTypes := #[25, 25] }), (some 46, none, .load 25 (.tmp 4)), (some 47, none, .fieldAddr 25 (.tmp 3) 2), (some 48, none, .load 3 (.tmp 47)), (some 49, none, .call { callee := .value (.func 9), args := #[.tmp 45, .tmp 46, .tmp 48], argTypes := #[25, 25, 3] }), (some 42, none, .move (.tmp 49)), (some 50, none, .extract (.tmp 42) 0), (some 51, none, .extract (.tmp 42) 1), (some 10, none, .alloc 25), (none, none, .store 25 (.tmp 10) (.tmp 50)), (some 11, none, .assign (.tmp 51))]
set_option maxRecDepth 100000 in
theorem dvBRow : (opsAt Try.prog 5 7).toList.map row3 = dvBT := by kernel_rfl
theorem dvBSel : Region.noSelect (opsAt Try.prog 5 7) = true := by kernel_rfl
theorem dvBDone : Region.ready .any (opsAt Try.prog 5 7) (upto (opsAt Try.prog 5 7).size (opsAt Try.prog 5 7).size []) = [] := by kernel_rfl
theorem dvBstill0 : [(0, [], 0), (0, [0], 1), (0, [1, 0], 3), (0, [3, 1, 0], 4), (0, [4, 3, 1, 0], 5), (0, [6, 2, 5, 4, 3, 1, 0], 7), (0, [7, 6, 2, 5, 4, 3, 1, 0], 8), (0, [8, 7, 6, 2, 5, 4, 3, 1, 0], 9), (0, [11, 10, 9, 8, 7, 6, 2, 5, 4, 3, 1, 0], 12), (0, [6, 10, 2, 5, 4, 3, 1, 0], 7)].all (stillB (opsAt Try.prog 5 7)) = true := by kernel_rfl
theorem dvBstill1 : [(0, [7, 6, 10, 2, 5, 4, 3, 1, 0], 8), (0, [8, 7, 6, 10, 2, 5, 4, 3, 1, 0], 9), (0, [11, 9, 8, 7, 6, 10, 2, 5, 4, 3, 1, 0], 12), (0, [6, 2, 10, 5, 4, 3, 1, 0], 7), (0, [7, 6, 2, 10, 5, 4, 3, 1, 0], 8), (0, [8, 7, 6, 2, 10, 5, 4, 3, 1, 0], 9), (0, [11, 9, 8, 7, 6, 2, 10, 5, 4, 3, 1, 0], 12)].all (stillB (opsAt Try.prog 5 7)) = true := by kernel_rfl
theorem dvBready0 : [(0, [5, 4, 3, 1, 0], [2, 10]), (0, [2, 5, 4, 3, 1, 0], [6, 10]), (0, [9, 8, 7, 6, 2, 5, 4, 3, 1, 0], [10]), (0, [10, 9, 8, 7, 6, 2, 5, 4, 3, 1, 0], [11]), (0, [10, 2, 5, 4, 3, 1, 0], [6]), (0, [9, 8, 7, 6, 10, 2, 5, 4, 3, 1, 0], [11]), (0, [10, 5, 4, 3, 1, 0], [2]), (0, [2, 10, 5, 4, 3, 1, 0], [6]), (0, [9, 8, 7, 6, 2, 10, 5, 4, 3, 1, 0], [11])].all (readyB (opsAt Try.prog 5 7)) = true := by kernel_rfl
theorem dvBR : Reg (opsAt Try.prog 5 7) dvBT [(0, [], 0), (0, [0], 1), (0, [1, 0], 3), (0, [3, 1, 0], 4), (0, [4, 3, 1, 0], 5), (0, [6, 2, 5, 4, 3, 1, 0], 7), (0, [7, 6, 2, 5, 4, 3, 1, 0], 8), (0, [8, 7, 6, 2, 5, 4, 3, 1, 0], 9), (0, [11, 10, 9, 8, 7, 6, 2, 5, 4, 3, 1, 0], 12), (0, [6, 10, 2, 5, 4, 3, 1, 0], 7), (0, [7, 6, 10, 2, 5, 4, 3, 1, 0], 8), (0, [8, 7, 6, 10, 2, 5, 4, 3, 1, 0], 9), (0, [11, 9, 8, 7, 6, 10, 2, 5, 4, 3, 1, 0], 12), (0, [6, 2, 10, 5, 4, 3, 1, 0], 7), (0, [7, 6, 2, 10, 5, 4, 3, 1, 0], 8), (0, [8, 7, 6, 2, 10, 5, 4, 3, 1, 0], 9), (0, [11, 9, 8, 7, 6, 2, 10, 5, 4, 3, 1, 0], 12)] [] := ⟨dvBRow, dvBSel, (all_parts dvBstill0 (all_parts dvBstill1 (fun k h => by cases h))), (fun k h => by cases h), dvBDone⟩
theorem dvBB : ∀ q ∈ ([(0, [5, 4, 3, 1, 0], [2, 10]), (0, [2, 5, 4, 3, 1, 0], [6, 10]), (0, [9, 8, 7, 6, 2, 5, 4, 3, 1, 0], [10]), (0, [10, 9, 8, 7, 6, 2, 5, 4, 3, 1, 0], [11]), (0, [10, 2, 5, 4, 3, 1, 0], [6]), (0, [9, 8, 7, 6, 10, 2, 5, 4, 3, 1, 0], [11]), (0, [10, 5, 4, 3, 1, 0], [2]), (0, [2, 10, 5, 4, 3, 1, 0], [6]), (0, [9, 8, 7, 6, 2, 10, 5, 4, 3, 1, 0], [11])] : List Spot4), readyB (opsAt Try.prog 5 7) q = true := (all_parts4 dvBready0 (fun k h => by cases h))

def dvCT : List Row3 := [(some 52, none, .move (.tmp 8)), (some 53, none, .binOp .eql 28 (.tmp 52) (.const (.int .i64 0)) 28), (some 54, none, .move (.tmp 53)), (some 55, some (2, true), .fieldAddr 25 (.tmp 7) 2), (some 56, some (2, true), .load 3 (.tmp 55)), (some 57, some (2, true), .move (.tmp 2)), (some 58, some (2, true), .convert 5 3 (.tmp 57)), (some 59, some (2, true), .binOp .rem 3 (.tmp 58) (.const (.int .i64 40)) 3), (some 60, some (2, true), .binOp .eql 3 (.tmp 56) (.tmp 59) 3), (some 61, none, .pick (.tmp 54) (.tmp 60) (.const (.bool false))), (some 62, none, .move (.tmp 61)), (some 63, some (10, true), .load 25 (.tmp 9)), (some 64, some (10, true), .load 25 (.tmp 4)), (some 65, some (10, true), .call { callee := .value (.func 20), args := #[.tmp 64], argTypes := #[25] }), (some 66, some (10, true), .fieldAddr 25 (.tmp 7) 2), (some 67, some (10, true), .load 3 (.tmp 66)), (some 68, some (10, true), .call { callee := .value (.func 16), args := #[.tmp 67], argTypes := #[3] }), (some 69, some (10, true), .call { callee := .value (.func 27), args := #[.tmp 65, .tmp 68], argTypes := #[25, 25] }), (some 70, some (10, true), .call { callee := .value (.func 22), args := #[.tmp 63, .tmp 69], argTypes := #[25, 25] }), (some 71, some (10, true), .binOp .leq 3 (.tmp 70) (.const (.int .i64 0)) 3), (some 72, none, .pick (.tmp 62) (.tmp 71) (.const (.bool false))), (some 73, none, .move (.tmp 72)), (some 74, some (21, true), .move (.tmp 11)), (some 75, some (21, true), .binOp .eql 28 (.tmp 74) (.const (.int .i64 0)) 28), (some 76, none, .pick (.tmp 73) (.tmp 75) (.const (.bool false))), (some 77, none, .move (.tmp 76)), (some 78, some (25, true), .load 25 (.tmp 10)), (some 79, some (25, true), .load 25 (.tmp 3)), (some 80, some (25, true), .call { callee := .value (.func 25), args := #[.tmp 78, .tmp 79], argTypes := #[25, 25] }), (some 81, none, .pick (.tmp 77) (.tmp 80) (.const (.bool false))), (some 82, none, .move (.tmp 81)), (some 83, some (30, true), .call { callee := .value (.func 8), args := #[], argTypes := #[] }), (some 84, none, .pick (.tmp 82) (.tmp 83) (.const (.bool false))), (some 6, none, .assign (.tmp 84))]
set_option maxRecDepth 100000 in
theorem dvCRow : (opsAt Try.prog 5 8).toList.map row3 = dvCT := by kernel_rfl
theorem dvCSel : Region.noSelect (opsAt Try.prog 5 8) = true := by kernel_rfl
theorem dvCDone : Region.ready .any (opsAt Try.prog 5 8) (upto (opsAt Try.prog 5 8).size (opsAt Try.prog 5 8).size []) = [] := by kernel_rfl
theorem dvCstill0 : [(0, [], 0), (1, [], 1), (2, [], 2), (3, [], 3), (4, [], 4), (5, [], 5), (6, [], 6), (7, [], 7), (8, [], 8), (9, [], 9)].all (stillB (opsAt Try.prog 5 8)) = true := by kernel_rfl
theorem dvCstill1 : [(10, [], 10), (11, [], 11), (12, [], 12), (13, [], 14), (13, [14], 15), (19, [], 19), (20, [], 20), (21, [], 21), (22, [], 22), (23, [], 23)].all (stillB (opsAt Try.prog 5 8)) = true := by kernel_rfl
theorem dvCstill2 : [(24, [], 24), (25, [], 25), (26, [], 26), (27, [], 27), (29, [], 29), (30, [], 30), (32, [], 32), (33, [], 33)].all (stillB (opsAt Try.prog 5 8)) = true := by kernel_rfl
theorem dvCsole0 : [(13, [15, 14], 13), (16, [], 16), (17, [], 17), (18, [], 18), (28, [], 28), (31, [], 31)].all (soleB (opsAt Try.prog 5 8)) = true := by kernel_rfl
theorem dvCR : Reg (opsAt Try.prog 5 8) dvCT [(0, [], 0), (1, [], 1), (2, [], 2), (3, [], 3), (4, [], 4), (5, [], 5), (6, [], 6), (7, [], 7), (8, [], 8), (9, [], 9), (10, [], 10), (11, [], 11), (12, [], 12), (13, [], 14), (13, [14], 15), (19, [], 19), (20, [], 20), (21, [], 21), (22, [], 22), (23, [], 23), (24, [], 24), (25, [], 25), (26, [], 26), (27, [], 27), (29, [], 29), (30, [], 30), (32, [], 32), (33, [], 33)] [(13, [15, 14], 13), (16, [], 16), (17, [], 17), (18, [], 18), (28, [], 28), (31, [], 31)] := ⟨dvCRow, dvCSel, (all_parts dvCstill0 (all_parts dvCstill1 (all_parts dvCstill2 (fun k h => by cases h)))), (all_parts dvCsole0 (fun k h => by cases h)), dvCDone⟩

set_option maxHeartbeats 8000000 in
set_option maxRecDepth 100000 in
theorem divides_main (Aa : Option Addr) (na ca s : Nat) (i : Int) (Ab : Option Addr) (nb cb t : Nat) (j : Int) (w : World) (h1 : Num w w.heap.size Aa na ca i.natAbs) (h2 : Num w w.heap.size Ab nb cb j.natAbs) (m1 : na ≤ 12) (t1 : s ≤ 60) (m2 : nb ≤ 12) (t2 : t ≤ 60) (x : Int) (h0 : 0 ≤ x) (h255 : x ≤ 255) (hj : j ≠ 0) : Calls Try.prog 5 #[.agg #[.bool (ngB i), .slice Aa na ca, .int .i64 (s : Int)], .agg #[.bool (ngB j), .slice Ab nb cb, .int .i64 (t : Int)], .int .u8 x] w (RetVal w (.bool true)) := by
  have N1 : Hid (longB (ngB i) na (dg i.natAbs) (s : Int) = false) := not_long h1 m1 t1
  have N2 : Hid (longB (ngB j) nb (dg j.natAbs) (t : Int) = false) := not_long h2 m2 t2
  obtain ⟨S, hS⟩ : ∃ S : Nat, x % 40 = (S : Int) := ⟨(x % 40).toNat, by omega⟩
  have hS39 : S ≤ 39 := by omega
  have HR := Lib.hid hS
  have HV : Hid (max (S : Int) 0 = (S : Int)) := by show _ = _; omega
  have HJ0 := Lib.hid hj
  have z_1 : Sz i s 108 := (Sz.of_len (by have := h1.len; omega : (dg i.natAbs).length ≤ 12))
  have z_2 : Sz j t 108 := (Sz.of_len (by have := h2.len; omega : (dg j.natAbs).length ≤ 12))
  obtain ⟨x1, hx1⟩ : ∃ rr, divZ i s j t S = rr := ⟨_, rfl⟩
  have z1 : Sz x1 S 229 := by rw [← hx1]; exact ((z_1.quot t S hj).mono (show _ ≤ 229 by omega)).mono (by decide)
  have HL1 : Hid ((dg x1.natAbs).length ≤ 268) := (by show _ ≤ _; have := z1.len; omega)
  have HX1 := Lib.hid hx1
  obtain ⟨sj, hsj⟩ : ∃ sj, j.sign = sj := ⟨_, rfl⟩
  have HSJ := Lib.hid hsj
  have hsj0 : (sj == 0) = false := by rw [← hsj]; simpa using hj
  obtain ⟨x2, hx2⟩ : ∃ rr, x1 * j = rr := ⟨_, rfl⟩
  obtain ⟨s2, hs2⟩ : ∃ rr, S + t = rr := ⟨_, rfl⟩
  have z2 : Sz x2 s2 337 := by rw [← hx2, ← hs2]; exact (z1.mul z_2).mono (by decide)
  have u2 : s2 ≤ 99 := by omega
  have HL2 : Hid ((dg x2.natAbs).length ≤ 436) := (by show _ ≤ _; have := z2.len; omega)
  have HX2 := Lib.hid hx2
  have HS2 := Lib.hid hs2
  obtain ⟨x3, hx3⟩ : ∃ rr, subZ x2 s2 i s = rr := ⟨_, rfl⟩
  obtain ⟨s3, hs3⟩ : ∃ rr, max s2 s = rr := ⟨_, rfl⟩
  have z3 : Sz x3 s3 338 := by rw [← hx3, ← hs3]; exact (z2.sub z_1).mono (by decide)
  have u3 : s3 ≤ 99 := by omega
  have HL3 : Hid ((dg x3.natAbs).length ≤ 437) := (by show _ ≤ _; have := z3.len; omega)
  have HX3 := Lib.hid hx3
  have HS3 := Lib.hid hs3
  obtain ⟨x4, hx4⟩ : ∃ rr, (x3.natAbs : Int) = rr := ⟨_, rfl⟩
  have z4 : Sz x4 s3 338 := by rw [← hx4]; exact (z3.abs).mono (by decide)
  have HL4 : Hid ((dg x4.natAbs).length ≤ 437) := (by show _ ≤ _; have := z4.len; omega)
  have HX4 := Lib.hid hx4
  obtain ⟨x5, hx5⟩ : ∃ rr, i * j = rr := ⟨_, rfl⟩
  obtain ⟨s5, hs5⟩ : ∃ rr, s + t = rr := ⟨_, rfl⟩
  have z5 : Sz x5 s5 216 := by rw [← hx5, ← hs5]; exact (z_1.mul z_2).mono (by decide)
  have u5 : s5 ≤ 120 := by omega
  have HL5 : Hid ((dg x5.natAbs).length ≤ 336) := (by show _ ≤ _; have := z5.len; omega)
  have HX5 := Lib.hid hx5
  have HS5 := Lib.hid hs5
  have HB : Hid (divZ x5 s5 j t s = i) := (by show _ = _; subst hs5; subst hx5; subst hx4; subst hs3; subst hx3; subst hs2; subst hx2; subst hx1; exact quot_back s t hj)
  have HVS : Hid (max (s : Int) 0 = (s : Int)) := by show _ = _; omega
  have HLI : Hid ((dg i.natAbs).length ≤ 12) := by show _ ≤ _; have := h1.len; omega
  obtain ⟨x6, hx6⟩ : ∃ rr, (j.natAbs : Int) = rr := ⟨_, rfl⟩
  have z6 : Sz x6 t 108 := by rw [← hx6]; exact (z_2.abs).mono (by decide)
  have HL6 : Hid ((dg x6.natAbs).length ≤ 168) := (by show _ ≤ _; have := z6.len; omega)
  have HX6 := Lib.hid hx6
  obtain ⟨u1, hu1⟩ : ∃ u1, S + 1 = u1 := ⟨_, rfl⟩
  have HU1 := Lib.hid hu1
  have hu2 : u1 ≤ 40 := by omega
  have O5 : Hid ((dg (5 : Int).natAbs).length ≤ 1) := (by show _ ≤ _; exact dg_len_le (by decide))
  have z5x : Sz (5 : Int) u1 1 := (show (5 : Nat) < 10 ^ (1 + u1) from Nat.lt_of_lt_of_le (by decide) (Nat.pow_le_pow_right (by decide) (show 1 ≤ 1 + u1 by omega)))
  obtain ⟨x7, hx7⟩ : ∃ rr, x6 * (5 : Int) = rr := ⟨_, rfl⟩
  obtain ⟨s7, hs7⟩ : ∃ rr, t + u1 = rr := ⟨_, rfl⟩
  have z7 : Sz x7 s7 109 := by rw [← hx7, ← hs7]; exact (z6.mul z5x).mono (by decide)
  have u7 : s7 ≤ 100 := by omega
  have HL7 : Hid ((dg x7.natAbs).length ≤ 209) := (by show _ ≤ _; have := z7.len; omega)
  have HX7 := Lib.hid hx7
  have HS7 := Lib.hid hs7
  obtain ⟨zc, hzc⟩ : ∃ zc, cmpD x4 s3 x7 s7 = zc := ⟨_, rfl⟩
  have HZC := Lib.hid hzc
  have DC : Hid (decide (zc ≤ 0) = true) := (by show _ = _; rw [← hzc]; subst hs7; subst hx7; subst hx6; subst hs5; subst hx5; subst hx4; subst hs3; subst hx3; subst hs2; subst hx2; subst hx1; subst hu1; exact decide_eq_true (quot_half s t S hj))
  have F1 : Hid (alikeB i s i s = true) := (by show _ = _; subst hs7; subst hx7; subst hx6; subst hs5; subst hx5; subst hx4; subst hs3; subst hx3; subst hs2; subst hx2; subst hx1; exact (alike_yes rfl rfl))
  have D3 : Hid (((S : Int) == (S : Int)) = true) := (by show _ = _; simp)
  have H1 := Lib.hid h1
  have H2 := Lib.hid h2
  clear hS hj hsj hu1 hzc z5x
  clear hx1 hx2 hs2 hx3 hs3 hx4 hx5 hs5 hx6 hx7 hs7
  clear h1 h2 z_1 z_2 z1 z2 z3 z4 z5 z6 z7
  go_enter Try.func5, Try.ntmps5
  go_wp2_with fail
  generalize hW : World.alloc (World.alloc w _) _ = W0
  have E0 : St w W0 [(Aa, na, ca, (i).natAbs), (Ab, nb, cb, (j).natAbs)] [((w.heap.size + 1), (.bool (ngB j)), (.slice Ab nb cb), (.int .i64 (t : Int))), (w.heap.size, (.bool (ngB i)), (.slice Aa na ca), (.int .i64 (s : Int)))] := by rw [← hW]; exact ((St.start w (l := [(Aa, na, ca, (i).natAbs), (Ab, nb, cb, (j).natAbs)]) (by simp; exact ⟨H1.out, H2.out⟩)).lay rfl).lay (by simp)
  have E := Lib.hid E0
  clear hW E0
  refine (long_is (St.got E (A := Aa) (n := na) (c := ca) (a := (i).natAbs) (by simp)) N1.out).mono ?_; rintro e w1 ⟨rfl, hb⟩
  replace E := Lib.hid (St.step E.out hb)
  clear hb
  obtain ⟨p0a, p0b, p0c, p0d, p0e, p0f, p0g⟩ := St.at_ (x0 := (.bool (ngB j))) (x1 := (.slice Ab nb cb)) (x2 := (.int .i64 (t : Int))) (g := (w.heap.size + 1)) E (by simp)
  go_wp2_with fail
  refine (long_is (St.got E (A := Ab) (n := nb) (c := cb) (a := (j).natAbs) (by simp)) N2.out).mono ?_; rintro e w2 ⟨rfl, hb⟩
  clear p0a p0b p0c p0d p0e p0f p0g
  replace E := Lib.hid (St.step E.out hb)
  clear hb
  obtain ⟨p0a, p0b, p0c, p0d, p0e, p0f, p0g⟩ := St.at_ (x0 := (.bool (ngB j))) (x1 := (.slice Ab nb cb)) (x2 := (.int .i64 (t : Int))) (g := (w.heap.size + 1)) E (by simp)
  obtain ⟨p1a, p1b, p1c, p1d, p1e, p1f, p1g⟩ := St.at_ (x0 := (.bool (ngB i))) (x1 := (.slice Aa na ca)) (x2 := (.int .i64 (s : Int))) (g := w.heap.size) E (by simp)
  have hrem := tmod_pos (k := 40) h0
  rw [HR.out] at hrem
  go_wp2_with fail
  refine (rdiv_is (i := i) (s := s) (j := j) (t := t) (S := S) (St.got E (A := Aa) (n := na) (c := ca) (a := (i).natAbs) (by simp)) (St.got E (A := Ab) (n := nb) (c := cb) (a := (j).natAbs) (by simp)) (by omega) (by omega) (by omega) (by omega) HV.out (by omega) HJ0.out HX1.out).mono ?_; rintro e w3 ⟨A3, n3, c3, rfl, h, hb⟩
  have b3 : n3 ≤ 268 := len_le h HL1.out
  clear p0a p0b p0c p0d p0e p0f p0g p1a p1b p1c p1d p1e p1f p1g
  replace E := Lib.hid (St.push E.out hb h)
  clear h hb
  obtain ⟨p0a, p0b, p0c, p0d, p0e, p0f, p0g⟩ := St.at_ (x0 := (.bool (ngB j))) (x1 := (.slice Ab nb cb)) (x2 := (.int .i64 (t : Int))) (g := (w.heap.size + 1)) E (by simp)
  obtain ⟨p1a, p1b, p1c, p1d, p1e, p1f, p1g⟩ := St.at_ (x0 := (.bool (ngB i))) (x1 := (.slice Aa na ca)) (x2 := (.int .i64 (s : Int))) (g := w.heap.size) E (by simp)
  go_wp2_with fail
  clear p0a p0b p0c p0d p0e p0f p0g p1a p1b p1c p1d p1e p1f p1g
  replace E := Lib.hid (St.lay (t := 25) (x0 := (.bool (ngB x1))) (x1 := (.slice A3 n3 c3)) (x2 := (.int .i64 (S : Int))) (g := w3.heap.size) E.out rfl)
  generalize hW2 : World.alloc w3 _ = W2 at E ⊢; clear hW2
  refine (sign_is (i := j) (s := t) (St.got E (A := Ab) (n := nb) (c := cb) (a := (j).natAbs) (by simp)) HSJ.out).mono ?_; rintro e w4 ⟨rfl, hb⟩
  replace E := Lib.hid (St.step E.out hb)
  clear hb
  go_wp2_with fail
  clear hsj0
  rename_i K hK
  replace E := Lib.hid (St.drew E.out)
  refine wp_cut (fun a' w' => ∃ (g9 : Nat) (A9 : Option Addr) (n9 c9 : Nat), Fr 85 a' [(2, .int .u8 x), (3, .pointer (some ⟨w.heap.size, 0, none⟩)), (4, .pointer (some ⟨(w.heap.size + 1), 0, none⟩)), (7, .pointer (some ⟨w3.heap.size, 0, none⟩)), (8, .int .i64 0), (9, .pointer (some ⟨g9, 0, none⟩))] ∧ (n9 ≤ 1000) ∧ Hid (St w w' [(A9, n9, c9, (x4).natAbs), (Aa, na, ca, (i).natAbs), (Ab, nb, cb, (j).natAbs), (A3, n3, c3, (x1).natAbs)] [(g9, (.bool (ngB x4)), (.slice A9 n9 c9), (.int .i64 (s3 : Int))), (w3.heap.size, (.bool (ngB x1)), (.slice A3 n3 c3), (.int .i64 (S : Int))), ((w.heap.size + 1), (.bool (ngB j)), (.slice Ab nb cb), (.int .i64 (t : Int))), (w.heap.size, (.bool (ngB i)), (.slice Aa na ca), (.int .i64 (s : Int)))])) ?_ ?_
  · refine line_start (ops := opsAt Try.prog 5 6) (S := SB [(w3.heap.size, (.bool (ngB x1)), (.slice A3 n3 c3), (.int .i64 (S : Int))), ((w.heap.size + 1), (.bool (ngB j)), (.slice Ab nb cb), (.int .i64 (t : Int))), (w.heap.size, (.bool (ngB i)), (.slice Aa na ca), (.int .i64 (s : Int)))]) (by kernel_rfl) (by kernel_rfl) (St.sbOf E (by simp)) ?_
    generalize w4.drew = v0 at E ⊢
    have hSw := St.sbOf (bs' := [(w3.heap.size, (.bool (ngB x1)), (.slice A3 n3 c3), (.int .i64 (S : Int))), ((w.heap.size + 1), (.bool (ngB j)), (.slice Ab nb cb), (.int .i64 (t : Int))), (w.heap.size, (.bool (ngB i)), (.slice Aa na ca), (.int .i64 (s : Int)))]) E (by simp)
    generalize hA : Act.mk _ _ = a
    have ha : Fr 85 a [(2, .int .u8 x), (3, .pointer (some ⟨w.heap.size, 0, none⟩)), (4, .pointer (some ⟨(w.heap.size + 1), 0, none⟩)), (7, .pointer (some ⟨w3.heap.size, 0, none⟩)), (8, .int .i64 0)] := by rw [← hA]; exact ⟨rfl, rfl, by intro q hq; simp at hq; rcases hq with rfl | rfl | rfl | rfl | rfl <;> rfl⟩
    clear hA
    refine line_ahead dvAR 0 0 [] 0 36 (.agg #[(.bool (ngB x1)), (.slice A3 n3 c3), (.int .i64 (S : Int))]) [(2, .int .u8 x), (3, .pointer (some ⟨w.heap.size, 0, none⟩)), (4, .pointer (some ⟨(w.heap.size + 1), 0, none⟩)), (7, .pointer (some ⟨w3.heap.size, 0, none⟩)), (8, .int .i64 0)] rfl (by decide) (by decide) (by decide) ha (fun o ho hg => y_of (wanted_none hg) (fun wx hS => e_load ho (ha.ev (i := 7) (v := .pointer (some ⟨w3.heap.size, 0, none⟩)) (by simp)) (hS.at_ (g := w3.heap.size) (x0 := (.bool (ngB x1))) (x1 := (.slice A3 n3 c3)) (x2 := (.int .i64 (S : Int))) (by simp)))) (by simp) hSw ?_; intro a ha
    refine line_ahead dvAR 1 0 [0] 1 37 (.agg #[(.bool (ngB j)), (.slice Ab nb cb), (.int .i64 (t : Int))]) [(36, .agg #[(.bool (ngB x1)), (.slice A3 n3 c3), (.int .i64 (S : Int))]), (2, .int .u8 x), (3, .pointer (some ⟨w.heap.size, 0, none⟩)), (4, .pointer (some ⟨(w.heap.size + 1), 0, none⟩)), (7, .pointer (some ⟨w3.heap.size, 0, none⟩)), (8, .int .i64 0)] rfl (by decide) (by decide) (by decide) ha (fun o ho hg => y_of (wanted_none hg) (fun wx hS => e_load ho (ha.ev (i := 4) (v := .pointer (some ⟨(w.heap.size + 1), 0, none⟩)) (by simp)) (hS.at_ (g := (w.heap.size + 1)) (x0 := (.bool (ngB j))) (x1 := (.slice Ab nb cb)) (x2 := (.int .i64 (t : Int))) (by simp)))) (by simp) hSw ?_; intro a ha
    refine line_ahead dvAR 2 0 [1, 0] 3 39 (.agg #[(.bool (ngB i)), (.slice Aa na ca), (.int .i64 (s : Int))]) [(37, .agg #[(.bool (ngB j)), (.slice Ab nb cb), (.int .i64 (t : Int))]), (36, .agg #[(.bool (ngB x1)), (.slice A3 n3 c3), (.int .i64 (S : Int))]), (2, .int .u8 x), (3, .pointer (some ⟨w.heap.size, 0, none⟩)), (4, .pointer (some ⟨(w.heap.size + 1), 0, none⟩)), (7, .pointer (some ⟨w3.heap.size, 0, none⟩)), (8, .int .i64 0)] rfl (by decide) (by decide) (by decide) ha (fun o ho hg => y_of (wanted_none hg) (fun wx hS => e_load ho (ha.ev (i := 3) (v := .pointer (some ⟨w.heap.size, 0, none⟩)) (by simp)) (hS.at_ (g := w.heap.size) (x0 := (.bool (ngB i))) (x1 := (.slice Aa na ca)) (x2 := (.int .i64 (s : Int))) (by simp)))) (by simp) hSw ?_; intro a ha
    refine line_all dvAR 3 0 [3, 1, 0] [2, 6] (by decide) (dvAB _ (by decide)) (by simp) ?_
    intro j hj; simp only [List.mem_cons, List.not_mem_nil, or_false] at hj
    rcases hj with rfl | rfl
    ·
      refine turn_call dvAR 3 0 [3, 1, 0] 2 38 (args := #[.agg #[(.bool (ngB x1)), (.slice A3 n3 c3), (.int .i64 (S : Int))], .agg #[(.bool (ngB j)), (.slice Ab nb cb), (.int .i64 (t : Int))]]) [(39, .agg #[(.bool (ngB i)), (.slice Aa na ca), (.int .i64 (s : Int))]), (2, .int .u8 x), (3, .pointer (some ⟨w.heap.size, 0, none⟩)), (4, .pointer (some ⟨(w.heap.size + 1), 0, none⟩)), (7, .pointer (some ⟨w3.heap.size, 0, none⟩)), (8, .int .i64 0)] rfl (by decide) ha (fun o ho hg => ⟨(wanted_none hg), e_call (by kernel_rfl) ho rfl (by have q0 := ha.ev (i := 36) (v := .agg #[(.bool (ngB x1)), (.slice A3 n3 c3), (.int .i64 (S : Int))]) (by simp); have q1 := ha.ev (i := 37) (v := .agg #[(.bool (ngB j)), (.slice Ab nb cb), (.int .i64 (t : Int))]) (by simp); simp only [List.map_toArray, List.map_cons, List.map_nil, ev_const, q0, q1])⟩) (by simp) ?_
      refine (mul_is5 (i := x1) (s := S) (j := j) (t := t) (St.got E (A := A3) (n := n3) (c := c3) (a := (x1).natAbs) (by simp)) (St.got E (A := Ab) (n := nb) (c := cb) (a := (j).natAbs) (by simp)) (by omega) (by omega) (by omega) (by omega) HS2.out HX2.out).mono ?_; rintro e v1 ⟨X1, m1, d1, rfl, h, hb⟩
      have q1 : m1 ≤ 436 := len_le h HL2.out
      replace E := Lib.hid (St.push E.out hb h)
      clear h hb
      have hSw := St.sbOf (bs' := [(w3.heap.size, (.bool (ngB x1)), (.slice A3 n3 c3), (.int .i64 (S : Int))), ((w.heap.size + 1), (.bool (ngB j)), (.slice Ab nb cb), (.int .i64 (t : Int))), (w.heap.size, (.bool (ngB i)), (.slice Aa na ca), (.int .i64 (s : Int)))]) E (by simp); refine ⟨_, rfl, hSw, ?_⟩; intro a ha
      refine line_all dvAR 4 0 [2, 3, 1, 0] [4, 6] (by decide) (dvAB _ (by decide)) (by simp) ?_
      intro j hj; simp only [List.mem_cons, List.not_mem_nil, or_false] at hj
      rcases hj with rfl | rfl
      ·
        refine turn_call dvAR 4 0 [2, 3, 1, 0] 4 40 (args := #[.agg #[.bool (ngB x2), .slice X1 m1 d1, .int .i64 (s2 : Int)], .agg #[(.bool (ngB i)), (.slice Aa na ca), (.int .i64 (s : Int))]]) [(2, .int .u8 x), (3, .pointer (some ⟨w.heap.size, 0, none⟩)), (4, .pointer (some ⟨(w.heap.size + 1), 0, none⟩)), (7, .pointer (some ⟨w3.heap.size, 0, none⟩)), (8, .int .i64 0)] rfl (by decide) ha (fun o ho hg => ⟨(wanted_none hg), e_call (by kernel_rfl) ho rfl (by have q0 := ha.ev (i := 38) (v := .agg #[.bool (ngB x2), .slice X1 m1 d1, .int .i64 (s2 : Int)]) (by simp); have q1 := ha.ev (i := 39) (v := .agg #[(.bool (ngB i)), (.slice Aa na ca), (.int .i64 (s : Int))]) (by simp); simp only [List.map_toArray, List.map_cons, List.map_nil, ev_const, q0, q1])⟩) (by simp) ?_
        refine (sub_is5 (i := x2) (s := s2) (j := i) (t := s) (St.got E (A := X1) (n := m1) (c := d1) (a := (x2).natAbs) (by simp)) (St.got E (A := Aa) (n := na) (c := ca) (a := (i).natAbs) (by simp)) (by omega) (by omega) (by omega) (by omega) HS3.out HX3.out).mono ?_; rintro e v2 ⟨X2, m2, d2, rfl, h, hb⟩
        have q2 : m2 ≤ 437 := len_le h HL3.out
        replace E := Lib.hid (St.push E.out hb h)
        clear h hb
        have hSw := St.sbOf (bs' := [(w3.heap.size, (.bool (ngB x1)), (.slice A3 n3 c3), (.int .i64 (S : Int))), ((w.heap.size + 1), (.bool (ngB j)), (.slice Ab nb cb), (.int .i64 (t : Int))), (w.heap.size, (.bool (ngB i)), (.slice Aa na ca), (.int .i64 (s : Int)))]) E (by simp); refine ⟨_, rfl, hSw, ?_⟩; intro a ha
        refine line_all dvAR 5 0 [4, 2, 3, 1, 0] [5, 6] (by decide) (dvAB _ (by decide)) (by simp) ?_
        intro j hj; simp only [List.mem_cons, List.not_mem_nil, or_false] at hj
        rcases hj with rfl | rfl
        ·
          refine turn_call dvAR 5 0 [4, 2, 3, 1, 0] 5 41 (args := #[.agg #[.bool (ngB x3), .slice X2 m2 d2, .int .i64 (s3 : Int)]]) [(2, .int .u8 x), (3, .pointer (some ⟨w.heap.size, 0, none⟩)), (4, .pointer (some ⟨(w.heap.size + 1), 0, none⟩)), (7, .pointer (some ⟨w3.heap.size, 0, none⟩)), (8, .int .i64 0)] rfl (by decide) ha (fun o ho hg => ⟨(wanted_none hg), e_call (by kernel_rfl) ho rfl (by have q0 := ha.ev (i := 40) (v := .agg #[.bool (ngB x3), .slice X2 m2 d2, .int .i64 (s3 : Int)]) (by simp); simp only [List.map_toArray, List.map_cons, List.map_nil, ev_const, q0])⟩) (by simp) ?_
          refine (abs_is5 (i := x3) (s := s3) (St.got E (A := X2) (n := m2) (c := d2) (a := (x3).natAbs) (by simp)) (by omega) (by omega) HX4.out).mono ?_; rintro e v3 ⟨X3, m3, d3, rfl, h, hb⟩
          have q3 : m3 ≤ 437 := len_le h HL4.out
          replace E := Lib.hid (St.push E.out hb h)
          clear h hb
          have hSw := St.sbOf (bs' := [(w3.heap.size, (.bool (ngB x1)), (.slice A3 n3 c3), (.int .i64 (S : Int))), ((w.heap.size + 1), (.bool (ngB j)), (.slice Ab nb cb), (.int .i64 (t : Int))), (w.heap.size, (.bool (ngB i)), (.slice Aa na ca), (.int .i64 (s : Int)))]) E (by simp); refine ⟨_, rfl, hSw, ?_⟩; intro a ha
          refine line_all dvAR 6 0 [5, 4, 2, 3, 1, 0] [6] (by decide) (dvAB _ (by decide)) (by simp) ?_
          intro j hj; simp only [List.mem_cons, List.not_mem_nil, or_false] at hj
          subst hj
          have lt4_0 := (St.at_ (x0 := (.bool (ngB x1))) (x1 := (.slice A3 n3 c3)) (x2 := (.int .i64 (S : Int))) (g := w3.heap.size) E (by simp)).lt
          have lt4_1 := (St.at_ (x0 := (.bool (ngB j))) (x1 := (.slice Ab nb cb)) (x2 := (.int .i64 (t : Int))) (g := (w.heap.size + 1)) E (by simp)).lt
          have lt4_2 := (St.at_ (x0 := (.bool (ngB i))) (x1 := (.slice Aa na ca)) (x2 := (.int .i64 (s : Int))) (g := w.heap.size) E (by simp)).lt
          refine turn_op dvAR 6 0 [5, 4, 2, 3, 1, 0] 6 9 (v := .pointer (some ⟨v3.heap.size, 0, none⟩)) (w' := v3.alloc (.cells #[.bool false, .slice none 0 0, .int .i64 0] 25)) [(41, .agg #[.bool (ngB x4), .slice X3 m3 d3, .int .i64 (s3 : Int)]), (2, .int .u8 x), (3, .pointer (some ⟨w.heap.size, 0, none⟩)), (4, .pointer (some ⟨(w.heap.size + 1), 0, none⟩)), (7, .pointer (some ⟨w3.heap.size, 0, none⟩)), (8, .int .i64 0)] rfl (by decide) ha (fun o ho hg => ⟨(wanted_none hg), e_alloc ho⟩) (by simp) (St.sbOf (bs' := [(w3.heap.size, (.bool (ngB x1)), (.slice A3 n3 c3), (.int .i64 (S : Int))), ((w.heap.size + 1), (.bool (ngB j)), (.slice Ab nb cb), (.int .i64 (t : Int))), (w.heap.size, (.bool (ngB i)), (.slice Aa na ca), (.int .i64 (s : Int)))]) (Lib.hid (St.alloc E.out _)) (by simp)) ?_; intro a ha
          replace E := Lib.hid (St.lay (t := 25) (x0 := .bool false) (x1 := .slice none 0 0) (x2 := .int .i64 0) (g := v3.heap.size) E.out rfl)
          generalize hW : World.alloc v3 _ = v4 at E ⊢; clear hW
          have hSw := St.sbOf (bs' := [(w3.heap.size, (.bool (ngB x1)), (.slice A3 n3 c3), (.int .i64 (S : Int))), ((w.heap.size + 1), (.bool (ngB j)), (.slice Ab nb cb), (.int .i64 (t : Int))), (w.heap.size, (.bool (ngB i)), (.slice Aa na ca), (.int .i64 (s : Int)))]) E (by simp)
          refine line_all dvAR 7 0 [6, 5, 4, 2, 3, 1, 0] [7] (by decide) (dvAB _ (by decide)) (by simp) ?_
          intro j hj; simp only [List.mem_cons, List.not_mem_nil, or_false] at hj
          subst hj
          have E2 := Lib.hid (St.store E.out (g := v3.heap.size) (x0 := .bool false) (x1 := .slice none 0 0) (x2 := .int .i64 0) (by simp) (noLimb_bool _) (noLimb_slice _ _ _) (noLimb_int _) [(w3.heap.size, (.bool (ngB x1)), (.slice A3 n3 c3), (.int .i64 (S : Int))), ((w.heap.size + 1), (.bool (ngB j)), (.slice Ab nb cb), (.int .i64 (t : Int))), (w.heap.size, (.bool (ngB i)), (.slice Aa na ca), (.int .i64 (s : Int)))] (by simp <;> omega) (.bool (ngB x4)) (.slice X3 m3 d3) (.int .i64 (s3 : Int)))
          refine turn_store dvAR 7 0 [6, 5, 4, 2, 3, 1, 0] 7 (w' := put3 v4 (v3.heap.size) (.bool (ngB x4)) (.slice X3 m3 d3) (.int .i64 (s3 : Int))) rfl ha (fun o ho hg => ⟨(wanted_none hg), e_store ho (ha.ev (i := 9) (v := .pointer (some ⟨v3.heap.size, 0, none⟩)) (by simp)) (ha.ev (i := 41) (v := .agg #[.bool (ngB x4), .slice X3 m3 d3, .int .i64 (s3 : Int)]) (by simp)) (St.at_ (g := v3.heap.size) (x0 := .bool false) (x1 := .slice none 0 0) (x2 := .int .i64 0) E (by simp))⟩) (St.sbOf (bs' := [(w3.heap.size, (.bool (ngB x1)), (.slice A3 n3 c3), (.int .i64 (S : Int))), ((w.heap.size + 1), (.bool (ngB j)), (.slice Ab nb cb), (.int .i64 (t : Int))), (w.heap.size, (.bool (ngB i)), (.slice Aa na ca), (.int .i64 (s : Int)))]) E2 (by simp)) ?_; intro a ha
          replace E := E2; clear E2
          generalize hW : put3 v4 _ _ _ _ = v5 at E ⊢; clear hW
          have hSw := St.sbOf (bs' := [(w3.heap.size, (.bool (ngB x1)), (.slice A3 n3 c3), (.int .i64 (S : Int))), ((w.heap.size + 1), (.bool (ngB j)), (.slice Ab nb cb), (.int .i64 (t : Int))), (w.heap.size, (.bool (ngB i)), (.slice Aa na ca), (.int .i64 (s : Int)))]) E (by simp)
          refine line_end0 dvAR (show ∀ i, i < 8 → i ∈ [7, 6, 5, 4, 2, 3, 1, 0] by decide) ?_
          exact ⟨rfl, v3.heap.size, X3, m3, d3, ha.sub (by simp), by omega, Lib.hid ((E.out).sub (by simp) (by simp))⟩
        ·
          have lt6_0 := (St.at_ (x0 := (.bool (ngB x1))) (x1 := (.slice A3 n3 c3)) (x2 := (.int .i64 (S : Int))) (g := w3.heap.size) E (by simp)).lt
          have lt6_1 := (St.at_ (x0 := (.bool (ngB j))) (x1 := (.slice Ab nb cb)) (x2 := (.int .i64 (t : Int))) (g := (w.heap.size + 1)) E (by simp)).lt
          have lt6_2 := (St.at_ (x0 := (.bool (ngB i))) (x1 := (.slice Aa na ca)) (x2 := (.int .i64 (s : Int))) (g := w.heap.size) E (by simp)).lt
          refine turn_op dvAR 5 0 [4, 2, 3, 1, 0] 6 9 (v := .pointer (some ⟨v2.heap.size, 0, none⟩)) (w' := v2.alloc (.cells #[.bool false, .slice none 0 0, .int .i64 0] 25)) [(40, .agg #[.bool (ngB x3), .slice X2 m2 d2, .int .i64 (s3 : Int)]), (2, .int .u8 x), (3, .pointer (some ⟨w.heap.size, 0, none⟩)), (4, .pointer (some ⟨(w.heap.size + 1), 0, none⟩)), (7, .pointer (some ⟨w3.heap.size, 0, none⟩)), (8, .int .i64 0)] rfl (by decide) ha (fun o ho hg => ⟨(wanted_none hg), e_alloc ho⟩) (by simp) (St.sbOf (bs' := [(w3.heap.size, (.bool (ngB x1)), (.slice A3 n3 c3), (.int .i64 (S : Int))), ((w.heap.size + 1), (.bool (ngB j)), (.slice Ab nb cb), (.int .i64 (t : Int))), (w.heap.size, (.bool (ngB i)), (.slice Aa na ca), (.int .i64 (s : Int)))]) (Lib.hid (St.alloc E.out _)) (by simp)) ?_; intro a ha
          replace E := Lib.hid (St.lay (t := 25) (x0 := .bool false) (x1 := .slice none 0 0) (x2 := .int .i64 0) (g := v2.heap.size) E.out rfl)
          generalize hW : World.alloc v2 _ = v6 at E ⊢; clear hW
          have hSw := St.sbOf (bs' := [(w3.heap.size, (.bool (ngB x1)), (.slice A3 n3 c3), (.int .i64 (S : Int))), ((w.heap.size + 1), (.bool (ngB j)), (.slice Ab nb cb), (.int .i64 (t : Int))), (w.heap.size, (.bool (ngB i)), (.slice Aa na ca), (.int .i64 (s : Int)))]) E (by simp)
          refine line_all dvAR 6 0 [6, 4, 2, 3, 1, 0] [5] (by decide) (dvAB _ (by decide)) (by simp) ?_
          intro j hj; simp only [List.mem_cons, List.not_mem_nil, or_false] at hj
          subst hj
          refine turn_call dvAR 6 0 [6, 4, 2, 3, 1, 0] 5 41 (args := #[.agg #[.bool (ngB x3), .slice X2 m2 d2, .int .i64 (s3 : Int)]]) [(9, .pointer (some ⟨v2.heap.size, 0, none⟩)), (2, .int .u8 x), (3, .pointer (some ⟨w.heap.size, 0, none⟩)), (4, .pointer (some ⟨(w.heap.size + 1), 0, none⟩)), (7, .pointer (some ⟨w3.heap.size, 0, none⟩)), (8, .int .i64 0)] rfl (by decide) ha (fun o ho hg => ⟨(wanted_none hg), e_call (by kernel_rfl) ho rfl (by have q0 := ha.ev (i := 40) (v := .agg #[.bool (ngB x3), .slice X2 m2 d2, .int .i64 (s3 : Int)]) (by simp); simp only [List.map_toArray, List.map_cons, List.map_nil, ev_const, q0])⟩) (by simp) ?_
          refine (abs_is5 (i := x3) (s := s3) (St.got E (A := X2) (n := m2) (c := d2) (a := (x3).natAbs) (by simp)) (by omega) (by omega) HX4.out).mono ?_; rintro e v7 ⟨X7, m7, d7, rfl, h, hb⟩
          have q7 : m7 ≤ 437 := len_le h HL4.out
          replace E := Lib.hid (St.push E.out hb h)
          clear h hb
          have hSw := St.sbOf (bs' := [(w3.heap.size, (.bool (ngB x1)), (.slice A3 n3 c3), (.int .i64 (S : Int))), ((w.heap.size + 1), (.bool (ngB j)), (.slice Ab nb cb), (.int .i64 (t : Int))), (w.heap.size, (.bool (ngB i)), (.slice Aa na ca), (.int .i64 (s : Int)))]) E (by simp); refine ⟨_, rfl, hSw, ?_⟩; intro a ha
          refine line_all dvAR 7 0 [5, 6, 4, 2, 3, 1, 0] [7] (by decide) (dvAB _ (by decide)) (by simp) ?_
          intro j hj; simp only [List.mem_cons, List.not_mem_nil, or_false] at hj
          subst hj
          have E2 := Lib.hid (St.store E.out (g := v2.heap.size) (x0 := .bool false) (x1 := .slice none 0 0) (x2 := .int .i64 0) (by simp) (noLimb_bool _) (noLimb_slice _ _ _) (noLimb_int _) [(w3.heap.size, (.bool (ngB x1)), (.slice A3 n3 c3), (.int .i64 (S : Int))), ((w.heap.size + 1), (.bool (ngB j)), (.slice Ab nb cb), (.int .i64 (t : Int))), (w.heap.size, (.bool (ngB i)), (.slice Aa na ca), (.int .i64 (s : Int)))] (by simp <;> omega) (.bool (ngB x4)) (.slice X7 m7 d7) (.int .i64 (s3 : Int)))
          refine turn_store dvAR 7 0 [5, 6, 4, 2, 3, 1, 0] 7 (w' := put3 v7 (v2.heap.size) (.bool (ngB x4)) (.slice X7 m7 d7) (.int .i64 (s3 : Int))) rfl ha (fun o ho hg => ⟨(wanted_none hg), e_store ho (ha.ev (i := 9) (v := .pointer (some ⟨v2.heap.size, 0, none⟩)) (by simp)) (ha.ev (i := 41) (v := .agg #[.bool (ngB x4), .slice X7 m7 d7, .int .i64 (s3 : Int)]) (by simp)) (St.at_ (g := v2.heap.size) (x0 := .bool false) (x1 := .slice none 0 0) (x2 := .int .i64 0) E (by simp))⟩) (St.sbOf (bs' := [(w3.heap.size, (.bool (ngB x1)), (.slice A3 n3 c3), (.int .i64 (S : Int))), ((w.heap.size + 1), (.bool (ngB j)), (.slice Ab nb cb), (.int .i64 (t : Int))), (w.heap.size, (.bool (ngB i)), (.slice Aa na ca), (.int .i64 (s : Int)))]) E2 (by simp)) ?_; intro a ha
          replace E := E2; clear E2
          generalize hW : put3 v7 _ _ _ _ = v8 at E ⊢; clear hW
          have hSw := St.sbOf (bs' := [(w3.heap.size, (.bool (ngB x1)), (.slice A3 n3 c3), (.int .i64 (S : Int))), ((w.heap.size + 1), (.bool (ngB j)), (.slice Ab nb cb), (.int .i64 (t : Int))), (w.heap.size, (.bool (ngB i)), (.slice Aa na ca), (.int .i64 (s : Int)))]) E (by simp)
          refine line_end0 dvAR (show ∀ i, i < 8 → i ∈ [7, 5, 6, 4, 2, 3, 1, 0] by decide) ?_
          exact ⟨rfl, v2.heap.size, X7, m7, d7, ha.sub (by simp), by omega, Lib.hid ((E.out).sub (by simp) (by simp))⟩
      ·
        have lt9_0 := (St.at_ (x0 := (.bool (ngB x1))) (x1 := (.slice A3 n3 c3)) (x2 := (.int .i64 (S : Int))) (g := w3.heap.size) E (by simp)).lt
        have lt9_1 := (St.at_ (x0 := (.bool (ngB j))) (x1 := (.slice Ab nb cb)) (x2 := (.int .i64 (t : Int))) (g := (w.heap.size + 1)) E (by simp)).lt
        have lt9_2 := (St.at_ (x0 := (.bool (ngB i))) (x1 := (.slice Aa na ca)) (x2 := (.int .i64 (s : Int))) (g := w.heap.size) E (by simp)).lt
        refine turn_op dvAR 4 0 [2, 3, 1, 0] 6 9 (v := .pointer (some ⟨v1.heap.size, 0, none⟩)) (w' := v1.alloc (.cells #[.bool false, .slice none 0 0, .int .i64 0] 25)) [(38, .agg #[.bool (ngB x2), .slice X1 m1 d1, .int .i64 (s2 : Int)]), (39, .agg #[(.bool (ngB i)), (.slice Aa na ca), (.int .i64 (s : Int))]), (2, .int .u8 x), (3, .pointer (some ⟨w.heap.size, 0, none⟩)), (4, .pointer (some ⟨(w.heap.size + 1), 0, none⟩)), (7, .pointer (some ⟨w3.heap.size, 0, none⟩)), (8, .int .i64 0)] rfl (by decide) ha (fun o ho hg => ⟨(wanted_none hg), e_alloc ho⟩) (by simp) (St.sbOf (bs' := [(w3.heap.size, (.bool (ngB x1)), (.slice A3 n3 c3), (.int .i64 (S : Int))), ((w.heap.size + 1), (.bool (ngB j)), (.slice Ab nb cb), (.int .i64 (t : Int))), (w.heap.size, (.bool (ngB i)), (.slice Aa na ca), (.int .i64 (s : Int)))]) (Lib.hid (St.alloc E.out _)) (by simp)) ?_; intro a ha
        replace E := Lib.hid (St.lay (t := 25) (x0 := .bool false) (x1 := .slice none 0 0) (x2 := .int .i64 0) (g := v1.heap.size) E.out rfl)
        generalize hW : World.alloc v1 _ = v9 at E ⊢; clear hW
        have hSw := St.sbOf (bs' := [(w3.heap.size, (.bool (ngB x1)), (.slice A3 n3 c3), (.int .i64 (S : Int))), ((w.heap.size + 1), (.bool (ngB j)), (.slice Ab nb cb), (.int .i64 (t : Int))), (w.heap.size, (.bool (ngB i)), (.slice Aa na ca), (.int .i64 (s : Int)))]) E (by simp)
        refine line_all dvAR 5 0 [6, 2, 3, 1, 0] [4] (by decide) (dvAB _ (by decide)) (by simp) ?_
        intro j hj; simp only [List.mem_cons, List.not_mem_nil, or_false] at hj
        subst hj
        refine turn_call dvAR 5 0 [6, 2, 3, 1, 0] 4 40 (args := #[.agg #[.bool (ngB x2), .slice X1 m1 d1, .int .i64 (s2 : Int)], .agg #[(.bool (ngB i)), (.slice Aa na ca), (.int .i64 (s : Int))]]) [(9, .pointer (some ⟨v1.heap.size, 0, none⟩)), (2, .int .u8 x), (3, .pointer (some ⟨w.heap.size, 0, none⟩)), (4, .pointer (some ⟨(w.heap.size + 1), 0, none⟩)), (7, .pointer (some ⟨w3.heap.size, 0, none⟩)), (8, .int .i64 0)] rfl (by decide) ha (fun o ho hg => ⟨(wanted_none hg), e_call (by kernel_rfl) ho rfl (by have q0 := ha.ev (i := 38) (v := .agg #[.bool (ngB x2), .slice X1 m1 d1, .int .i64 (s2 : Int)]) (by simp); have q1 := ha.ev (i := 39) (v := .agg #[(.bool (ngB i)), (.slice Aa na ca), (.int .i64 (s : Int))]) (by simp); simp only [List.map_toArray, List.map_cons, List.map_nil, ev_const, q0, q1])⟩) (by simp) ?_
        refine (sub_is5 (i := x2) (s := s2) (j := i) (t := s) (St.got E (A := X1) (n := m1) (c := d1) (a := (x2).natAbs) (by simp)) (St.got E (A := Aa) (n := na) (c := ca) (a := (i).natAbs) (by simp)) (by omega) (by omega) (by omega) (by omega) HS3.out HX3.out).mono ?_; rintro e v10 ⟨X10, m10, d10, rfl, h, hb⟩
        have q10 : m10 ≤ 437 := len_le h HL3.out
        replace E := Lib.hid (St.push E.out hb h)
        clear h hb
        have hSw := St.sbOf (bs' := [(w3.heap.size, (.bool (ngB x1)), (.slice A3 n3 c3), (.int .i64 (S : Int))), ((w.heap.size + 1), (.bool (ngB j)), (.slice Ab nb cb), (.int .i64 (t : Int))), (w.heap.size, (.bool (ngB i)), (.slice Aa na ca), (.int .i64 (s : Int)))]) E (by simp); refine ⟨_, rfl, hSw, ?_⟩; intro a ha
        refine line_all dvAR 6 0 [4, 6, 2, 3, 1, 0] [5] (by decide) (dvAB _ (by decide)) (by simp) ?_
        intro j hj; simp only [List.mem_cons, List.not_mem_nil, or_false] at hj
        subst hj
        refine turn_call dvAR 6 0 [4, 6, 2, 3, 1, 0] 5 41 (args := #[.agg #[.bool (ngB x3), .slice X10 m10 d10, .int .i64 (s3 : Int)]]) [(9, .pointer (some ⟨v1.heap.size, 0, none⟩)), (2, .int .u8 x), (3, .pointer (some ⟨w.heap.size, 0, none⟩)), (4, .pointer (some ⟨(w.heap.size + 1), 0, none⟩)), (7, .pointer (some ⟨w3.heap.size, 0, none⟩)), (8, .int .i64 0)] rfl (by decide) ha (fun o ho hg => ⟨(wanted_none hg), e_call (by kernel_rfl) ho rfl (by have q0 := ha.ev (i := 40) (v := .agg #[.bool (ngB x3), .slice X10 m10 d10, .int .i64 (s3 : Int)]) (by simp); simp only [List.map_toArray, List.map_cons, List.map_nil, ev_const, q0])⟩) (by simp) ?_
        refine (abs_is5 (i := x3) (s := s3) (St.got E (A := X10) (n := m10) (c := d10) (a := (x3).natAbs) (by simp)) (by omega) (by omega) HX4.out).mono ?_; rintro e v11 ⟨X11, m11, d11, rfl, h, hb⟩
        have q11 : m11 ≤ 437 := len_le h HL4.out
        replace E := Lib.hid (St.push E.out hb h)
        clear h hb
        have hSw := St.sbOf (bs' := [(w3.heap.size, (.bool (ngB x1)), (.slice A3 n3 c3), (.int .i64 (S : Int))), ((w.heap.size + 1), (.bool (ngB j)), (.slice Ab nb cb), (.int .i64 (t : Int))), (w.heap.size, (.bool (ngB i)), (.slice Aa na ca), (.int .i64 (s : Int)))]) E (by simp); refine ⟨_, rfl, hSw, ?_⟩; intro a ha
        refine line_all dvAR 7 0 [5, 4, 6, 2, 3, 1, 0] [7] (by decide) (dvAB _ (by decide)) (by simp) ?_
        intro j hj; simp only [List.mem_cons, List.not_mem_nil, or_false] at hj
        subst hj
        have E2 := Lib.hid (St.store E.out (g := v1.heap.size) (x0 := .bool false) (x1 := .slice none 0 0) (x2 := .int .i64 0) (by simp) (noLimb_bool _) (noLimb_slice _ _ _) (noLimb_int _) [(w3.heap.size, (.bool (ngB x1)), (.slice A3 n3 c3), (.int .i64 (S : Int))), ((w.heap.size + 1), (.bool (ngB j)), (.slice Ab nb cb), (.int .i64 (t : Int))), (w.heap.size, (.bool (ngB i)), (.slice Aa na ca), (.int .i64 (s : Int)))] (by simp <;> omega) (.bool (ngB x4)) (.slice X11 m11 d11) (.int .i64 (s3 : Int)))
        refine turn_store dvAR 7 0 [5, 4, 6, 2, 3, 1, 0] 7 (w' := put3 v11 (v1.heap.size) (.bool (ngB x4)) (.slice X11 m11 d11) (.int .i64 (s3 : Int))) rfl ha (fun o ho hg => ⟨(wanted_none hg), e_store ho (ha.ev (i := 9) (v := .pointer (some ⟨v1.heap.size, 0, none⟩)) (by simp)) (ha.ev (i := 41) (v := .agg #[.bool (ngB x4), .slice X11 m11 d11, .int .i64 (s3 : Int)]) (by simp)) (St.at_ (g := v1.heap.size) (x0 := .bool false) (x1 := .slice none 0 0) (x2 := .int .i64 0) E (by simp))⟩) (St.sbOf (bs' := [(w3.heap.size, (.bool (ngB x1)), (.slice A3 n3 c3), (.int .i64 (S : Int))), ((w.heap.size + 1), (.bool (ngB j)), (.slice Ab nb cb), (.int .i64 (t : Int))), (w.heap.size, (.bool (ngB i)), (.slice Aa na ca), (.int .i64 (s : Int)))]) E2 (by simp)) ?_; intro a ha
        replace E := E2; clear E2
        generalize hW : put3 v11 _ _ _ _ = v12 at E ⊢; clear hW
        have hSw := St.sbOf (bs' := [(w3.heap.size, (.bool (ngB x1)), (.slice A3 n3 c3), (.int .i64 (S : Int))), ((w.heap.size + 1), (.bool (ngB j)), (.slice Ab nb cb), (.int .i64 (t : Int))), (w.heap.size, (.bool (ngB i)), (.slice Aa na ca), (.int .i64 (s : Int)))]) E (by simp)
        refine line_end0 dvAR (show ∀ i, i < 8 → i ∈ [7, 5, 4, 6, 2, 3, 1, 0] by decide) ?_
        exact ⟨rfl, v1.heap.size, X11, m11, d11, ha.sub (by simp), by omega, Lib.hid ((E.out).sub (by simp) (by simp))⟩
    ·
      have lt13_0 := (St.at_ (x0 := (.bool (ngB x1))) (x1 := (.slice A3 n3 c3)) (x2 := (.int .i64 (S : Int))) (g := w3.heap.size) E (by simp)).lt
      have lt13_1 := (St.at_ (x0 := (.bool (ngB j))) (x1 := (.slice Ab nb cb)) (x2 := (.int .i64 (t : Int))) (g := (w.heap.size + 1)) E (by simp)).lt
      have lt13_2 := (St.at_ (x0 := (.bool (ngB i))) (x1 := (.slice Aa na ca)) (x2 := (.int .i64 (s : Int))) (g := w.heap.size) E (by simp)).lt
      refine turn_op dvAR 3 0 [3, 1, 0] 6 9 (v := .pointer (some ⟨v0.heap.size, 0, none⟩)) (w' := v0.alloc (.cells #[.bool false, .slice none 0 0, .int .i64 0] 25)) [(39, .agg #[(.bool (ngB i)), (.slice Aa na ca), (.int .i64 (s : Int))]), (37, .agg #[(.bool (ngB j)), (.slice Ab nb cb), (.int .i64 (t : Int))]), (36, .agg #[(.bool (ngB x1)), (.slice A3 n3 c3), (.int .i64 (S : Int))]), (2, .int .u8 x), (3, .pointer (some ⟨w.heap.size, 0, none⟩)), (4, .pointer (some ⟨(w.heap.size + 1), 0, none⟩)), (7, .pointer (some ⟨w3.heap.size, 0, none⟩)), (8, .int .i64 0)] rfl (by decide) ha (fun o ho hg => ⟨(wanted_none hg), e_alloc ho⟩) (by simp) (St.sbOf (bs' := [(w3.heap.size, (.bool (ngB x1)), (.slice A3 n3 c3), (.int .i64 (S : Int))), ((w.heap.size + 1), (.bool (ngB j)), (.slice Ab nb cb), (.int .i64 (t : Int))), (w.heap.size, (.bool (ngB i)), (.slice Aa na ca), (.int .i64 (s : Int)))]) (Lib.hid (St.alloc E.out _)) (by simp)) ?_; intro a ha
      replace E := Lib.hid (St.lay (t := 25) (x0 := .bool false) (x1 := .slice none 0 0) (x2 := .int .i64 0) (g := v0.heap.size) E.out rfl)
      generalize hW : World.alloc v0 _ = v13 at E ⊢; clear hW
      have hSw := St.sbOf (bs' := [(w3.heap.size, (.bool (ngB x1)), (.slice A3 n3 c3), (.int .i64 (S : Int))), ((w.heap.size + 1), (.bool (ngB j)), (.slice Ab nb cb), (.int .i64 (t : Int))), (w.heap.size, (.bool (ngB i)), (.slice Aa na ca), (.int .i64 (s : Int)))]) E (by simp)
      refine line_all dvAR 4 0 [6, 3, 1, 0] [2] (by decide) (dvAB _ (by decide)) (by simp) ?_
      intro j hj; simp only [List.mem_cons, List.not_mem_nil, or_false] at hj
      subst hj
      refine turn_call dvAR 4 0 [6, 3, 1, 0] 2 38 (args := #[.agg #[(.bool (ngB x1)), (.slice A3 n3 c3), (.int .i64 (S : Int))], .agg #[(.bool (ngB j)), (.slice Ab nb cb), (.int .i64 (t : Int))]]) [(9, .pointer (some ⟨v0.heap.size, 0, none⟩)), (39, .agg #[(.bool (ngB i)), (.slice Aa na ca), (.int .i64 (s : Int))]), (2, .int .u8 x), (3, .pointer (some ⟨w.heap.size, 0, none⟩)), (4, .pointer (some ⟨(w.heap.size + 1), 0, none⟩)), (7, .pointer (some ⟨w3.heap.size, 0, none⟩)), (8, .int .i64 0)] rfl (by decide) ha (fun o ho hg => ⟨(wanted_none hg), e_call (by kernel_rfl) ho rfl (by have q0 := ha.ev (i := 36) (v := .agg #[(.bool (ngB x1)), (.slice A3 n3 c3), (.int .i64 (S : Int))]) (by simp); have q1 := ha.ev (i := 37) (v := .agg #[(.bool (ngB j)), (.slice Ab nb cb), (.int .i64 (t : Int))]) (by simp); simp only [List.map_toArray, List.map_cons, List.map_nil, ev_const, q0, q1])⟩) (by simp) ?_
      refine (mul_is5 (i := x1) (s := S) (j := j) (t := t) (St.got E (A := A3) (n := n3) (c := c3) (a := (x1).natAbs) (by simp)) (St.got E (A := Ab) (n := nb) (c := cb) (a := (j).natAbs) (by simp)) (by omega) (by omega) (by omega) (by omega) HS2.out HX2.out).mono ?_; rintro e v14 ⟨X14, m14, d14, rfl, h, hb⟩
      have q14 : m14 ≤ 436 := len_le h HL2.out
      replace E := Lib.hid (St.push E.out hb h)
      clear h hb
      have hSw := St.sbOf (bs' := [(w3.heap.size, (.bool (ngB x1)), (.slice A3 n3 c3), (.int .i64 (S : Int))), ((w.heap.size + 1), (.bool (ngB j)), (.slice Ab nb cb), (.int .i64 (t : Int))), (w.heap.size, (.bool (ngB i)), (.slice Aa na ca), (.int .i64 (s : Int)))]) E (by simp); refine ⟨_, rfl, hSw, ?_⟩; intro a ha
      refine line_all dvAR 5 0 [2, 6, 3, 1, 0] [4] (by decide) (dvAB _ (by decide)) (by simp) ?_
      intro j hj; simp only [List.mem_cons, List.not_mem_nil, or_false] at hj
      subst hj
      refine turn_call dvAR 5 0 [2, 6, 3, 1, 0] 4 40 (args := #[.agg #[.bool (ngB x2), .slice X14 m14 d14, .int .i64 (s2 : Int)], .agg #[(.bool (ngB i)), (.slice Aa na ca), (.int .i64 (s : Int))]]) [(9, .pointer (some ⟨v0.heap.size, 0, none⟩)), (2, .int .u8 x), (3, .pointer (some ⟨w.heap.size, 0, none⟩)), (4, .pointer (some ⟨(w.heap.size + 1), 0, none⟩)), (7, .pointer (some ⟨w3.heap.size, 0, none⟩)), (8, .int .i64 0)] rfl (by decide) ha (fun o ho hg => ⟨(wanted_none hg), e_call (by kernel_rfl) ho rfl (by have q0 := ha.ev (i := 38) (v := .agg #[.bool (ngB x2), .slice X14 m14 d14, .int .i64 (s2 : Int)]) (by simp); have q1 := ha.ev (i := 39) (v := .agg #[(.bool (ngB i)), (.slice Aa na ca), (.int .i64 (s : Int))]) (by simp); simp only [List.map_toArray, List.map_cons, List.map_nil, ev_const, q0, q1])⟩) (by simp) ?_
      refine (sub_is5 (i := x2) (s := s2) (j := i) (t := s) (St.got E (A := X14) (n := m14) (c := d14) (a := (x2).natAbs) (by simp)) (St.got E (A := Aa) (n := na) (c := ca) (a := (i).natAbs) (by simp)) (by omega) (by omega) (by omega) (by omega) HS3.out HX3.out).mono ?_; rintro e v15 ⟨X15, m15, d15, rfl, h, hb⟩
      have q15 : m15 ≤ 437 := len_le h HL3.out
      replace E := Lib.hid (St.push E.out hb h)
      clear h hb
      have hSw := St.sbOf (bs' := [(w3.heap.size, (.bool (ngB x1)), (.slice A3 n3 c3), (.int .i64 (S : Int))), ((w.heap.size + 1), (.bool (ngB j)), (.slice Ab nb cb), (.int .i64 (t : Int))), (w.heap.size, (.bool (ngB i)), (.slice Aa na ca), (.int .i64 (s : Int)))]) E (by simp); refine ⟨_, rfl, hSw, ?_⟩; intro a ha
      refine line_all dvAR 6 0 [4, 2, 6, 3, 1, 0] [5] (by decide) (dvAB _ (by decide)) (by simp) ?_
      intro j hj; simp only [List.mem_cons, List.not_mem_nil, or_false] at hj
      subst hj
      refine turn_call dvAR 6 0 [4, 2, 6, 3, 1, 0] 5 41 (args := #[.agg #[.bool (ngB x3), .slice X15 m15 d15, .int .i64 (s3 : Int)]]) [(9, .pointer (some ⟨v0.heap.size, 0, none⟩)), (2, .int .u8 x), (3, .pointer (some ⟨w.heap.size, 0, none⟩)), (4, .pointer (some ⟨(w.heap.size + 1), 0, none⟩)), (7, .pointer (some ⟨w3.heap.size, 0, none⟩)), (8, .int .i64 0)] rfl (by decide) ha (fun o ho hg => ⟨(wanted_none hg), e_call (by kernel_rfl) ho rfl (by have q0 := ha.ev (i := 40) (v := .agg #[.bool (ngB x3), .slice X15 m15 d15, .int .i64 (s3 : Int)]) (by simp); simp only [List.map_toArray, List.map_cons, List.map_nil, ev_const, q0])⟩) (by simp) ?_
      refine (abs_is5 (i := x3) (s := s3) (St.got E (A := X15) (n := m15) (c := d15) (a := (x3).natAbs) (by simp)) (by omega) (by omega) HX4.out).mono ?_; rintro e v16 ⟨X16, m16, d16, rfl, h, hb⟩
      have q16 : m16 ≤ 437 := len_le h HL4.out
      replace E := Lib.hid (St.push E.out hb h)
      clear h hb
      have hSw := St.sbOf (bs' := [(w3.heap.size, (.bool (ngB x1)), (.slice A3 n3 c3), (.int .i64 (S : Int))), ((w.heap.size + 1), (.bool (ngB j)), (.slice Ab nb cb), (.int .i64 (t : Int))), (w.heap.size, (.bool (ngB i)), (.slice Aa na ca), (.int .i64 (s : Int)))]) E (by simp); refine ⟨_, rfl, hSw, ?_⟩; intro a ha
      refine line_all dvAR 7 0 [5, 4, 2, 6, 3, 1, 0] [7] (by decide) (dvAB _ (by decide)) (by simp) ?_
      intro j hj; simp only [List.mem_cons, List.not_mem_nil, or_false] at hj
      subst hj
      have E2 := Lib.hid (St.store E.out (g := v0.heap.size) (x0 := .bool false) (x1 := .slice none 0 0) (x2 := .int .i64 0) (by simp) (noLimb_bool _) (noLimb_slice _ _ _) (noLimb_int _) [(w3.heap.size, (.bool (ngB x1)), (.slice A3 n3 c3), (.int .i64 (S : Int))), ((w.heap.size + 1), (.bool (ngB j)), (.slice Ab nb cb), (.int .i64 (t : Int))), (w.heap.size, (.bool (ngB i)), (.slice Aa na ca), (.int .i64 (s : Int)))] (by simp <;> omega) (.bool (ngB x4)) (.slice X16 m16 d16) (.int .i64 (s3 : Int)))
      refine turn_store dvAR 7 0 [5, 4, 2, 6, 3, 1, 0] 7 (w' := put3 v16 (v0.heap.size) (.bool (ngB x4)) (.slice X16 m16 d16) (.int .i64 (s3 : Int))) rfl ha (fun o ho hg => ⟨(wanted_none hg), e_store ho (ha.ev (i := 9) (v := .pointer (some ⟨v0.heap.size, 0, none⟩)) (by simp)) (ha.ev (i := 41) (v := .agg #[.bool (ngB x4), .slice X16 m16 d16, .int .i64 (s3 : Int)]) (by simp)) (St.at_ (g := v0.heap.size) (x0 := .bool false) (x1 := .slice none 0 0) (x2 := .int .i64 0) E (by simp))⟩) (St.sbOf (bs' := [(w3.heap.size, (.bool (ngB x1)), (.slice A3 n3 c3), (.int .i64 (S : Int))), ((w.heap.size + 1), (.bool (ngB j)), (.slice Ab nb cb), (.int .i64 (t : Int))), (w.heap.size, (.bool (ngB i)), (.slice Aa na ca), (.int .i64 (s : Int)))]) E2 (by simp)) ?_; intro a ha
      replace E := E2; clear E2
      generalize hW : put3 v16 _ _ _ _ = v17 at E ⊢; clear hW
      have hSw := St.sbOf (bs' := [(w3.heap.size, (.bool (ngB x1)), (.slice A3 n3 c3), (.int .i64 (S : Int))), ((w.heap.size + 1), (.bool (ngB j)), (.slice Ab nb cb), (.int .i64 (t : Int))), (w.heap.size, (.bool (ngB i)), (.slice Aa na ca), (.int .i64 (s : Int)))]) E (by simp)
      refine line_end0 dvAR (show ∀ i, i < 8 → i ∈ [7, 5, 4, 2, 6, 3, 1, 0] by decide) ?_
      exact ⟨rfl, v0.heap.size, X16, m16, d16, ha.sub (by simp), by omega, Lib.hid ((E.out).sub (by simp) (by simp))⟩
  clear E
  rintro a wN ⟨g9, A9, n9, c9, ha, hbd, E⟩
  simp only [Exit.then]
  refine hK _ _ ?_
  clear hK K
  refine wp_seq_k (fun K hK => ?_)
  replace E := Lib.hid (St.drew E.out)
  refine wp_cut (fun a' w' => ∃ (g10 : Nat) (A10 : Option Addr) (n10 c10 : Nat), Fr 85 a' [(2, .int .u8 x), (3, .pointer (some ⟨w.heap.size, 0, none⟩)), (4, .pointer (some ⟨(w.heap.size + 1), 0, none⟩)), (7, .pointer (some ⟨w3.heap.size, 0, none⟩)), (8, .int .i64 0), (9, .pointer (some ⟨g9, 0, none⟩)), (10, .pointer (some ⟨g10, 0, none⟩)), (11, .int .i64 0)] ∧ (n10 ≤ 1000) ∧ Hid (St w w' [(A10, n10, c10, (i).natAbs), (A9, n9, c9, (x4).natAbs), (Aa, na, ca, (i).natAbs), (Ab, nb, cb, (j).natAbs), (A3, n3, c3, (x1).natAbs)] [(g10, (.bool (ngB i)), (.slice A10 n10 c10), (.int .i64 (s : Int))), (g9, (.bool (ngB x4)), (.slice A9 n9 c9), (.int .i64 (s3 : Int))), (w3.heap.size, (.bool (ngB x1)), (.slice A3 n3 c3), (.int .i64 (S : Int))), ((w.heap.size + 1), (.bool (ngB j)), (.slice Ab nb cb), (.int .i64 (t : Int))), (w.heap.size, (.bool (ngB i)), (.slice Aa na ca), (.int .i64 (s : Int)))])) ?_ ?_
  · refine line_start (ops := opsAt Try.prog 5 7) (S := SB [(g9, (.bool (ngB x4)), (.slice A9 n9 c9), (.int .i64 (s3 : Int))), (w3.heap.size, (.bool (ngB x1)), (.slice A3 n3 c3), (.int .i64 (S : Int))), ((w.heap.size + 1), (.bool (ngB j)), (.slice Ab nb cb), (.int .i64 (t : Int))), (w.heap.size, (.bool (ngB i)), (.slice Aa na ca), (.int .i64 (s : Int)))]) (by kernel_rfl) (by kernel_rfl) (St.sbOf E (by simp)) ?_
    generalize wN.drew = v0 at E ⊢
    have hSw := St.sbOf (bs' := [(g9, (.bool (ngB x4)), (.slice A9 n9 c9), (.int .i64 (s3 : Int))), (w3.heap.size, (.bool (ngB x1)), (.slice A3 n3 c3), (.int .i64 (S : Int))), ((w.heap.size + 1), (.bool (ngB j)), (.slice Ab nb cb), (.int .i64 (t : Int))), (w.heap.size, (.bool (ngB i)), (.slice Aa na ca), (.int .i64 (s : Int)))]) E (by simp)
    refine line_ahead dvBR 0 0 [] 0 43 (.agg #[(.bool (ngB i)), (.slice Aa na ca), (.int .i64 (s : Int))]) [(2, .int .u8 x), (3, .pointer (some ⟨w.heap.size, 0, none⟩)), (4, .pointer (some ⟨(w.heap.size + 1), 0, none⟩)), (7, .pointer (some ⟨w3.heap.size, 0, none⟩)), (8, .int .i64 0), (9, .pointer (some ⟨g9, 0, none⟩))] rfl (by decide) (by decide) (by decide) ha (fun o ho hg => y_of (wanted_none hg) (fun wx hS => e_load ho (ha.ev (i := 3) (v := .pointer (some ⟨w.heap.size, 0, none⟩)) (by simp)) (hS.at_ (g := w.heap.size) (x0 := (.bool (ngB i))) (x1 := (.slice Aa na ca)) (x2 := (.int .i64 (s : Int))) (by simp)))) (by simp) hSw ?_; intro a ha
    refine line_ahead dvBR 1 0 [0] 1 44 (.agg #[(.bool (ngB j)), (.slice Ab nb cb), (.int .i64 (t : Int))]) [(43, .agg #[(.bool (ngB i)), (.slice Aa na ca), (.int .i64 (s : Int))]), (2, .int .u8 x), (3, .pointer (some ⟨w.heap.size, 0, none⟩)), (4, .pointer (some ⟨(w.heap.size + 1), 0, none⟩)), (7, .pointer (some ⟨w3.heap.size, 0, none⟩)), (8, .int .i64 0), (9, .pointer (some ⟨g9, 0, none⟩))] rfl (by decide) (by decide) (by decide) ha (fun o ho hg => y_of (wanted_none hg) (fun wx hS => e_load ho (ha.ev (i := 4) (v := .pointer (some ⟨(w.heap.size + 1), 0, none⟩)) (by simp)) (hS.at_ (g := (w.heap.size + 1)) (x0 := (.bool (ngB j))) (x1 := (.slice Ab nb cb)) (x2 := (.int .i64 (t : Int))) (by simp)))) (by simp) hSw ?_; intro a ha
    refine line_ahead dvBR 2 0 [1, 0] 3 46 (.agg #[(.bool (ngB j)), (.slice Ab nb cb), (.int .i64 (t : Int))]) [(44, .agg #[(.bool (ngB j)), (.slice Ab nb cb), (.int .i64 (t : Int))]), (43, .agg #[(.bool (ngB i)), (.slice Aa na ca), (.int .i64 (s : Int))]), (2, .int .u8 x), (3, .pointer (some ⟨w.heap.size, 0, none⟩)), (4, .pointer (some ⟨(w.heap.size + 1), 0, none⟩)), (7, .pointer (some ⟨w3.heap.size, 0, none⟩)), (8, .int .i64 0), (9, .pointer (some ⟨g9, 0, none⟩))] rfl (by decide) (by decide) (by decide) ha (fun o ho hg => y_of (wanted_none hg) (fun wx hS => e_load ho (ha.ev (i := 4) (v := .pointer (some ⟨(w.heap.size + 1), 0, none⟩)) (by simp)) (hS.at_ (g := (w.heap.size + 1)) (x0 := (.bool (ngB j))) (x1 := (.slice Ab nb cb)) (x2 := (.int .i64 (t : Int))) (by simp)))) (by simp) hSw ?_; intro a ha
    refine line_ahead dvBR 3 0 [3, 1, 0] 4 47 (.pointer (some ⟨w.heap.size, 2, none⟩)) [(46, .agg #[(.bool (ngB j)), (.slice Ab nb cb), (.int .i64 (t : Int))]), (44, .agg #[(.bool (ngB j)), (.slice Ab nb cb), (.int .i64 (t : Int))]), (43, .agg #[(.bool (ngB i)), (.slice Aa na ca), (.int .i64 (s : Int))]), (2, .int .u8 x), (3, .pointer (some ⟨w.heap.size, 0, none⟩)), (4, .pointer (some ⟨(w.heap.size + 1), 0, none⟩)), (7, .pointer (some ⟨w3.heap.size, 0, none⟩)), (8, .int .i64 0), (9, .pointer (some ⟨g9, 0, none⟩))] rfl (by decide) (by decide) (by decide) ha (fun o ho hg => y_of (wanted_none hg) (fun wx hS => e_field 2 (by simp) ho (ha.ev (i := 3) (v := .pointer (some ⟨w.heap.size, 0, none⟩)) (by simp)))) (by simp) hSw ?_; intro a ha
    refine line_ahead dvBR 4 0 [4, 3, 1, 0] 5 48 ((.int .i64 (s : Int))) [(46, .agg #[(.bool (ngB j)), (.slice Ab nb cb), (.int .i64 (t : Int))]), (44, .agg #[(.bool (ngB j)), (.slice Ab nb cb), (.int .i64 (t : Int))]), (43, .agg #[(.bool (ngB i)), (.slice Aa na ca), (.int .i64 (s : Int))]), (2, .int .u8 x), (3, .pointer (some ⟨w.heap.size, 0, none⟩)), (4, .pointer (some ⟨(w.heap.size + 1), 0, none⟩)), (7, .pointer (some ⟨w3.heap.size, 0, none⟩)), (8, .int .i64 0), (9, .pointer (some ⟨g9, 0, none⟩))] rfl (by decide) (by decide) (by decide) ha (fun o ho hg => y_of (wanted_none hg) (fun wx hS => e_cell (by simp) ho (ha.ev (i := 47) (v := .pointer (some ⟨w.heap.size, 2, none⟩)) (by simp)) (hS.at_ (g := w.heap.size) (x0 := (.bool (ngB i))) (x1 := (.slice Aa na ca)) (x2 := (.int .i64 (s : Int))) (by simp)).c2)) (by simp) hSw ?_; intro a ha
    refine line_all dvBR 5 0 [5, 4, 3, 1, 0] [2, 10] (by decide) (dvBB _ (by decide)) (by simp) ?_
    intro j hj; simp only [List.mem_cons, List.not_mem_nil, or_false] at hj
    rcases hj with rfl | rfl
    ·
      refine turn_call dvBR 5 0 [5, 4, 3, 1, 0] 2 45 (args := #[.agg #[(.bool (ngB i)), (.slice Aa na ca), (.int .i64 (s : Int))], .agg #[(.bool (ngB j)), (.slice Ab nb cb), (.int .i64 (t : Int))]]) [(48, (.int .i64 (s : Int))), (46, .agg #[(.bool (ngB j)), (.slice Ab nb cb), (.int .i64 (t : Int))]), (2, .int .u8 x), (3, .pointer (some ⟨w.heap.size, 0, none⟩)), (4, .pointer (some ⟨(w.heap.size + 1), 0, none⟩)), (7, .pointer (some ⟨w3.heap.size, 0, none⟩)), (8, .int .i64 0), (9, .pointer (some ⟨g9, 0, none⟩))] rfl (by decide) ha (fun o ho hg => ⟨(wanted_none hg), e_call (by kernel_rfl) ho rfl (by have q0 := ha.ev (i := 43) (v := .agg #[(.bool (ngB i)), (.slice Aa na ca), (.int .i64 (s : Int))]) (by simp); have q1 := ha.ev (i := 44) (v := .agg #[(.bool (ngB j)), (.slice Ab nb cb), (.int .i64 (t : Int))]) (by simp); simp only [List.map_toArray, List.map_cons, List.map_nil, ev_const, q0, q1])⟩) (by simp) ?_
      refine (mul_is5 (i := i) (s := s) (j := j) (t := t) (St.got E (A := Aa) (n := na) (c := ca) (a := (i).natAbs) (by simp)) (St.got E (A := Ab) (n := nb) (c := cb) (a := (j).natAbs) (by simp)) (by omega) (by omega) (by omega) (by omega) HS5.out HX5.out).mono ?_; rintro e v1 ⟨X1, m1, d1, rfl, h, hb⟩
      have q1 : m1 ≤ 336 := len_le h HL5.out
      replace E := Lib.hid (St.push E.out hb h)
      clear h hb
      have hSw := St.sbOf (bs' := [(g9, (.bool (ngB x4)), (.slice A9 n9 c9), (.int .i64 (s3 : Int))), (w3.heap.size, (.bool (ngB x1)), (.slice A3 n3 c3), (.int .i64 (S : Int))), ((w.heap.size + 1), (.bool (ngB j)), (.slice Ab nb cb), (.int .i64 (t : Int))), (w.heap.size, (.bool (ngB i)), (.slice Aa na ca), (.int .i64 (s : Int)))]) E (by simp); refine ⟨_, rfl, hSw, ?_⟩; intro a ha
      refine line_all dvBR 6 0 [2, 5, 4, 3, 1, 0] [6, 10] (by decide) (dvBB _ (by decide)) (by simp) ?_
      intro j hj; simp only [List.mem_cons, List.not_mem_nil, or_false] at hj
      rcases hj with rfl | rfl
      ·
        refine turn_call dvBR 6 0 [2, 5, 4, 3, 1, 0] 6 49 (args := #[.agg #[.bool (ngB x5), .slice X1 m1 d1, .int .i64 (s5 : Int)], .agg #[(.bool (ngB j)), (.slice Ab nb cb), (.int .i64 (t : Int))], (.int .i64 (s : Int))]) [(2, .int .u8 x), (3, .pointer (some ⟨w.heap.size, 0, none⟩)), (4, .pointer (some ⟨(w.heap.size + 1), 0, none⟩)), (7, .pointer (some ⟨w3.heap.size, 0, none⟩)), (8, .int .i64 0), (9, .pointer (some ⟨g9, 0, none⟩))] rfl (by decide) ha (fun o ho hg => ⟨(wanted_none hg), e_call (by kernel_rfl) ho rfl (by have q0 := ha.ev (i := 45) (v := .agg #[.bool (ngB x5), .slice X1 m1 d1, .int .i64 (s5 : Int)]) (by simp); have q1 := ha.ev (i := 46) (v := .agg #[(.bool (ngB j)), (.slice Ab nb cb), (.int .i64 (t : Int))]) (by simp); have q2 := ha.ev (i := 48) (v := (.int .i64 (s : Int))) (by simp); simp only [List.map_toArray, List.map_cons, List.map_nil, ev_const, q0, q1, q2])⟩) (by simp) ?_
        refine (rdiv_is (i := x5) (s := s5) (j := j) (t := t) (S := s) (St.got E (A := X1) (n := m1) (c := d1) (a := (x5).natAbs) (by simp)) (St.got E (A := Ab) (n := nb) (c := cb) (a := (j).natAbs) (by simp)) (by omega) (by omega) (by omega) (by omega) HVS.out (by omega) HJ0.out HB.out).mono ?_; rintro e v2 ⟨X2, m2, d2, rfl, h, hb⟩
        have q2 : m2 ≤ 12 := len_le h HLI.out
        replace E := Lib.hid (St.push E.out hb h)
        clear h hb
        have hSw := St.sbOf (bs' := [(g9, (.bool (ngB x4)), (.slice A9 n9 c9), (.int .i64 (s3 : Int))), (w3.heap.size, (.bool (ngB x1)), (.slice A3 n3 c3), (.int .i64 (S : Int))), ((w.heap.size + 1), (.bool (ngB j)), (.slice Ab nb cb), (.int .i64 (t : Int))), (w.heap.size, (.bool (ngB i)), (.slice Aa na ca), (.int .i64 (s : Int)))]) E (by simp); refine ⟨_, rfl, hSw, ?_⟩; intro a ha
        refine line_ahead dvBR 7 0 [6, 2, 5, 4, 3, 1, 0] 7 42 (.tuple #[.agg #[.bool (ngB i), .slice X2 m2 d2, .int .i64 (s : Int)], .int .i64 0]) [(2, .int .u8 x), (3, .pointer (some ⟨w.heap.size, 0, none⟩)), (4, .pointer (some ⟨(w.heap.size + 1), 0, none⟩)), (7, .pointer (some ⟨w3.heap.size, 0, none⟩)), (8, .int .i64 0), (9, .pointer (some ⟨g9, 0, none⟩))] rfl (by decide) (by decide) (by decide) ha (fun o ho hg => y_of (wanted_none hg) (fun wx hS => e_move (.inl ho) (ha.ev (i := 49) (v := .tuple #[.agg #[.bool (ngB i), .slice X2 m2 d2, .int .i64 (s : Int)], .int .i64 0]) (by simp)))) (by simp) hSw ?_; intro a ha
        refine line_ahead dvBR 8 0 [7, 6, 2, 5, 4, 3, 1, 0] 8 50 (.agg #[.bool (ngB i), .slice X2 m2 d2, .int .i64 (s : Int)]) [(42, .tuple #[.agg #[.bool (ngB i), .slice X2 m2 d2, .int .i64 (s : Int)], .int .i64 0]), (2, .int .u8 x), (3, .pointer (some ⟨w.heap.size, 0, none⟩)), (4, .pointer (some ⟨(w.heap.size + 1), 0, none⟩)), (7, .pointer (some ⟨w3.heap.size, 0, none⟩)), (8, .int .i64 0), (9, .pointer (some ⟨g9, 0, none⟩))] rfl (by decide) (by decide) (by decide) ha (fun o ho hg => y_of (wanted_none hg) (fun wx hS => e_extract (k := 0) ho (ha.ev (i := 42) (v := .tuple #[.agg #[.bool (ngB i), .slice X2 m2 d2, .int .i64 (s : Int)], .int .i64 0]) (by simp)) rfl)) (by simp) hSw ?_; intro a ha
        refine line_ahead dvBR 9 0 [8, 7, 6, 2, 5, 4, 3, 1, 0] 9 51 (.int .i64 0) [(50, .agg #[.bool (ngB i), .slice X2 m2 d2, .int .i64 (s : Int)]), (2, .int .u8 x), (3, .pointer (some ⟨w.heap.size, 0, none⟩)), (4, .pointer (some ⟨(w.heap.size + 1), 0, none⟩)), (7, .pointer (some ⟨w3.heap.size, 0, none⟩)), (8, .int .i64 0), (9, .pointer (some ⟨g9, 0, none⟩))] rfl (by decide) (by decide) (by decide) ha (fun o ho hg => y_of (wanted_none hg) (fun wx hS => e_extract (k := 1) ho (ha.ev (i := 42) (v := .tuple #[.agg #[.bool (ngB i), .slice X2 m2 d2, .int .i64 (s : Int)], .int .i64 0]) (by simp)) rfl)) (by simp) hSw ?_; intro a ha
        refine line_all dvBR 10 0 [9, 8, 7, 6, 2, 5, 4, 3, 1, 0] [10] (by decide) (dvBB _ (by decide)) (by simp) ?_
        intro j hj; simp only [List.mem_cons, List.not_mem_nil, or_false] at hj
        subst hj
        have lt3_0 := (St.at_ (x0 := (.bool (ngB x4))) (x1 := (.slice A9 n9 c9)) (x2 := (.int .i64 (s3 : Int))) (g := g9) E (by simp)).lt
        have lt3_1 := (St.at_ (x0 := (.bool (ngB x1))) (x1 := (.slice A3 n3 c3)) (x2 := (.int .i64 (S : Int))) (g := w3.heap.size) E (by simp)).lt
        have lt3_2 := (St.at_ (x0 := (.bool (ngB j))) (x1 := (.slice Ab nb cb)) (x2 := (.int .i64 (t : Int))) (g := (w.heap.size + 1)) E (by simp)).lt
        have lt3_3 := (St.at_ (x0 := (.bool (ngB i))) (x1 := (.slice Aa na ca)) (x2 := (.int .i64 (s : Int))) (g := w.heap.size) E (by simp)).lt
        refine turn_op dvBR 10 0 [9, 8, 7, 6, 2, 5, 4, 3, 1, 0] 10 10 (v := .pointer (some ⟨v2.heap.size, 0, none⟩)) (w' := v2.alloc (.cells #[.bool false, .slice none 0 0, .int .i64 0] 25)) [(51, .int .i64 0), (50, .agg #[.bool (ngB i), .slice X2 m2 d2, .int .i64 (s : Int)]), (2, .int .u8 x), (3, .pointer (some ⟨w.heap.size, 0, none⟩)), (4, .pointer (some ⟨(w.heap.size + 1), 0, none⟩)), (7, .pointer (some ⟨w3.heap.size, 0, none⟩)), (8, .int .i64 0), (9, .pointer (some ⟨g9, 0, none⟩))] rfl (by decide) ha (fun o ho hg => ⟨(wanted_none hg), e_alloc ho⟩) (by simp) (St.sbOf (bs' := [(g9, (.bool (ngB x4)), (.slice A9 n9 c9), (.int .i64 (s3 : Int))), (w3.heap.size, (.bool (ngB x1)), (.slice A3 n3 c3), (.int .i64 (S : Int))), ((w.heap.size + 1), (.bool (ngB j)), (.slice Ab nb cb), (.int .i64 (t : Int))), (w.heap.size, (.bool (ngB i)), (.slice Aa na ca), (.int .i64 (s : Int)))]) (Lib.hid (St.alloc E.out _)) (by simp)) ?_; intro a ha
        replace E := Lib.hid (St.lay (t := 25) (x0 := .bool false) (x1 := .slice none 0 0) (x2 := .int .i64 0) (g := v2.heap.size) E.out rfl)
        generalize hW : World.alloc v2 _ = v3 at E ⊢; clear hW
        have hSw := St.sbOf (bs' := [(g9, (.bool (ngB x4)), (.slice A9 n9 c9), (.int .i64 (s3 : Int))), (w3.heap.size, (.bool (ngB x1)), (.slice A3 n3 c3), (.int .i64 (S : Int))), ((w.heap.size + 1), (.bool (ngB j)), (.slice Ab nb cb), (.int .i64 (t : Int))), (w.heap.size, (.bool (ngB i)), (.slice Aa na ca), (.int .i64 (s : Int)))]) E (by simp)
        refine line_all dvBR 11 0 [10, 9, 8, 7, 6, 2, 5, 4, 3, 1, 0] [11] (by decide) (dvBB _ (by decide)) (by simp) ?_
        intro j hj; simp only [List.mem_cons, List.not_mem_nil, or_false] at hj
        subst hj
        have E2 := Lib.hid (St.store E.out (g := v2.heap.size) (x0 := .bool false) (x1 := .slice none 0 0) (x2 := .int .i64 0) (by simp) (noLimb_bool _) (noLimb_slice _ _ _) (noLimb_int _) [(g9, (.bool (ngB x4)), (.slice A9 n9 c9), (.int .i64 (s3 : Int))), (w3.heap.size, (.bool (ngB x1)), (.slice A3 n3 c3), (.int .i64 (S : Int))), ((w.heap.size + 1), (.bool (ngB j)), (.slice Ab nb cb), (.int .i64 (t : Int))), (w.heap.size, (.bool (ngB i)), (.slice Aa na ca), (.int .i64 (s : Int)))] (by simp <;> omega) (.bool (ngB i)) (.slice X2 m2 d2) (.int .i64 (s : Int)))
        refine turn_store dvBR 11 0 [10, 9, 8, 7, 6, 2, 5, 4, 3, 1, 0] 11 (w' := put3 v3 (v2.heap.size) (.bool (ngB i)) (.slice X2 m2 d2) (.int .i64 (s : Int))) rfl ha (fun o ho hg => ⟨(wanted_none hg), e_store ho (ha.ev (i := 10) (v := .pointer (some ⟨v2.heap.size, 0, none⟩)) (by simp)) (ha.ev (i := 50) (v := .agg #[.bool (ngB i), .slice X2 m2 d2, .int .i64 (s : Int)]) (by simp)) (St.at_ (g := v2.heap.size) (x0 := .bool false) (x1 := .slice none 0 0) (x2 := .int .i64 0) E (by simp))⟩) (St.sbOf (bs' := [(g9, (.bool (ngB x4)), (.slice A9 n9 c9), (.int .i64 (s3 : Int))), (w3.heap.size, (.bool (ngB x1)), (.slice A3 n3 c3), (.int .i64 (S : Int))), ((w.heap.size + 1), (.bool (ngB j)), (.slice Ab nb cb), (.int .i64 (t : Int))), (w.heap.size, (.bool (ngB i)), (.slice Aa na ca), (.int .i64 (s : Int)))]) E2 (by simp)) ?_; intro a ha
        replace E := E2; clear E2
        generalize hW : put3 v3 _ _ _ _ = v4 at E ⊢; clear hW
        have hSw := St.sbOf (bs' := [(g9, (.bool (ngB x4)), (.slice A9 n9 c9), (.int .i64 (s3 : Int))), (w3.heap.size, (.bool (ngB x1)), (.slice A3 n3 c3), (.int .i64 (S : Int))), ((w.heap.size + 1), (.bool (ngB j)), (.slice Ab nb cb), (.int .i64 (t : Int))), (w.heap.size, (.bool (ngB i)), (.slice Aa na ca), (.int .i64 (s : Int)))]) E (by simp)
        refine line_ahead dvBR 12 0 [11, 10, 9, 8, 7, 6, 2, 5, 4, 3, 1, 0] 12 11 (.int .i64 0) [(10, .pointer (some ⟨v2.heap.size, 0, none⟩)), (2, .int .u8 x), (3, .pointer (some ⟨w.heap.size, 0, none⟩)), (4, .pointer (some ⟨(w.heap.size + 1), 0, none⟩)), (7, .pointer (some ⟨w3.heap.size, 0, none⟩)), (8, .int .i64 0), (9, .pointer (some ⟨g9, 0, none⟩))] rfl (by decide) (by decide) (by decide) ha (fun o ho hg => y_of (wanted_none hg) (fun wx hS => e_move (.inr ho) (ha.ev (i := 51) (v := .int .i64 0) (by simp)))) (by simp) hSw ?_; intro a ha
        refine line_end0 dvBR (show ∀ i, i < 13 → i ∈ [12, 11, 10, 9, 8, 7, 6, 2, 5, 4, 3, 1, 0] by decide) ?_
        exact ⟨rfl, v2.heap.size, X2, m2, d2, ha.sub (by simp), by omega, Lib.hid ((E.out).sub (by simp) (by simp))⟩
      ·
        have lt5_0 := (St.at_ (x0 := (.bool (ngB x4))) (x1 := (.slice A9 n9 c9)) (x2 := (.int .i64 (s3 : Int))) (g := g9) E (by simp)).lt
        have lt5_1 := (St.at_ (x0 := (.bool (ngB x1))) (x1 := (.slice A3 n3 c3)) (x2 := (.int .i64 (S : Int))) (g := w3.heap.size) E (by simp)).lt
        have lt5_2 := (St.at_ (x0 := (.bool (ngB j))) (x1 := (.slice Ab nb cb)) (x2 := (.int .i64 (t : Int))) (g := (w.heap.size + 1)) E (by simp)).lt
        have lt5_3 := (St.at_ (x0 := (.bool (ngB i))) (x1 := (.slice Aa na ca)) (x2 := (.int .i64 (s : Int))) (g := w.heap.size) E (by simp)).lt
        refine turn_op dvBR 6 0 [2, 5, 4, 3, 1, 0] 10 10 (v := .pointer (some ⟨v1.heap.size, 0, none⟩)) (w' := v1.alloc (.cells #[.bool false, .slice none 0 0, .int .i64 0] 25)) [(45, .agg #[.bool (ngB x5), .slice X1 m1 d1, .int .i64 (s5 : Int)]), (48, (.int .i64 (s : Int))), (46, .agg #[(.bool (ngB j)), (.slice Ab nb cb), (.int .i64 (t : Int))]), (2, .int .u8 x), (3, .pointer (some ⟨w.heap.size, 0, none⟩)), (4, .pointer (some ⟨(w.heap.size + 1), 0, none⟩)), (7, .pointer (some ⟨w3.heap.size, 0, none⟩)), (8, .int .i64 0), (9, .pointer (some ⟨g9, 0, none⟩))] rfl (by decide) ha (fun o ho hg => ⟨(wanted_none hg), e_alloc ho⟩) (by simp) (St.sbOf (bs' := [(g9, (.bool (ngB x4)), (.slice A9 n9 c9), (.int .i64 (s3 : Int))), (w3.heap.size, (.bool (ngB x1)), (.slice A3 n3 c3), (.int .i64 (S : Int))), ((w.heap.size + 1), (.bool (ngB j)), (.slice Ab nb cb), (.int .i64 (t : Int))), (w.heap.size, (.bool (ngB i)), (.slice Aa na ca), (.int .i64 (s : Int)))]) (Lib.hid (St.alloc E.out _)) (by simp)) ?_; intro a ha
        replace E := Lib.hid (St.lay (t := 25) (x0 := .bool false) (x1 := .slice none 0 0) (x2 := .int .i64 0) (g := v1.heap.size) E.out rfl)
        generalize hW : World.alloc v1 _ = v5 at E ⊢; clear hW
        have hSw := St.sbOf (bs' := [(g9, (.bool (ngB x4)), (.slice A9 n9 c9), (.int .i64 (s3 : Int))), (w3.heap.size, (.bool (ngB x1)), (.slice A3 n3 c3), (.int .i64 (S : Int))), ((w.heap.size + 1), (.bool (ngB j)), (.slice Ab nb cb), (.int .i64 (t : Int))), (w.heap.size, (.bool (ngB i)), (.slice Aa na ca), (.int .i64 (s : Int)))]) E (by simp)
        refine line_all dvBR 7 0 [10, 2, 5, 4, 3, 1, 0] [6] (by decide) (dvBB _ (by decide)) (by simp) ?_
        intro j hj; simp only [List.mem_cons, List.not_mem_nil, or_false] at hj
        subst hj
        refine turn_call dvBR 7 0 [10, 2, 5, 4, 3, 1, 0] 6 49 (args := #[.agg #[.bool (ngB x5), .slice X1 m1 d1, .int .i64 (s5 : Int)], .agg #[(.bool (ngB j)), (.slice Ab nb cb), (.int .i64 (t : Int))], (.int .i64 (s : Int))]) [(10, .pointer (some ⟨v1.heap.size, 0, none⟩)), (2, .int .u8 x), (3, .pointer (some ⟨w.heap.size, 0, none⟩)), (4, .pointer (some ⟨(w.heap.size + 1), 0, none⟩)), (7, .pointer (some ⟨w3.heap.size, 0, none⟩)), (8, .int .i64 0), (9, .pointer (some ⟨g9, 0, none⟩))] rfl (by decide) ha (fun o ho hg => ⟨(wanted_none hg), e_call (by kernel_rfl) ho rfl (by have q0 := ha.ev (i := 45) (v := .agg #[.bool (ngB x5), .slice X1 m1 d1, .int .i64 (s5 : Int)]) (by simp); have q1 := ha.ev (i := 46) (v := .agg #[(.bool (ngB j)), (.slice Ab nb cb), (.int .i64 (t : Int))]) (by simp); have q2 := ha.ev (i := 48) (v := (.int .i64 (s : Int))) (by simp); simp only [List.map_toArray, List.map_cons, List.map_nil, ev_const, q0, q1, q2])⟩) (by simp) ?_
        refine (rdiv_is (i := x5) (s := s5) (j := j) (t := t) (S := s) (St.got E (A := X1) (n := m1) (c := d1) (a := (x5).natAbs) (by simp)) (St.got E (A := Ab) (n := nb) (c := cb) (a := (j).natAbs) (by simp)) (by omega) (by omega) (by omega) (by omega) HVS.out (by omega) HJ0.out HB.out).mono ?_; rintro e v6 ⟨X6, m6, d6, rfl, h, hb⟩
        have q6 : m6 ≤ 12 := len_le h HLI.out
        replace E := Lib.hid (St.push E.out hb h)
        clear h hb
        have hSw := St.sbOf (bs' := [(g9, (.bool (ngB x4)), (.slice A9 n9 c9), (.int .i64 (s3 : Int))), (w3.heap.size, (.bool (ngB x1)), (.slice A3 n3 c3), (.int .i64 (S : Int))), ((w.heap.size + 1), (.bool (ngB j)), (.slice Ab nb cb), (.int .i64 (t : Int))), (w.heap.size, (.bool (ngB i)), (.slice Aa na ca), (.int .i64 (s : Int)))]) E (by simp); refine ⟨_, rfl, hSw, ?_⟩; intro a ha
        refine line_ahead dvBR 8 0 [6, 10, 2, 5, 4, 3, 1, 0] 7 42 (.tuple #[.agg #[.bool (ngB i), .slice X6 m6 d6, .int .i64 (s : Int)], .int .i64 0]) [(10, .pointer (some ⟨v1.heap.size, 0, none⟩)), (2, .int .u8 x), (3, .pointer (some ⟨w.heap.size, 0, none⟩)), (4, .pointer (some ⟨(w.heap.size + 1), 0, none⟩)), (7, .pointer (some ⟨w3.heap.size, 0, none⟩)), (8, .int .i64 0), (9, .pointer (some ⟨g9, 0, none⟩))] rfl (by decide) (by decide) (by decide) ha (fun o ho hg => y_of (wanted_none hg) (fun wx hS => e_move (.inl ho) (ha.ev (i := 49) (v := .tuple #[.agg #[.bool (ngB i), .slice X6 m6 d6, .int .i64 (s : Int)], .int .i64 0]) (by simp)))) (by simp) hSw ?_; intro a ha
        refine line_ahead dvBR 9 0 [7, 6, 10, 2, 5, 4, 3, 1, 0] 8 50 (.agg #[.bool (ngB i), .slice X6 m6 d6, .int .i64 (s : Int)]) [(42, .tuple #[.agg #[.bool (ngB i), .slice X6 m6 d6, .int .i64 (s : Int)], .int .i64 0]), (10, .pointer (some ⟨v1.heap.size, 0, none⟩)), (2, .int .u8 x), (3, .pointer (some ⟨w.heap.size, 0, none⟩)), (4, .pointer (some ⟨(w.heap.size + 1), 0, none⟩)), (7, .pointer (some ⟨w3.heap.size, 0, none⟩)), (8, .int .i64 0), (9, .pointer (some ⟨g9, 0, none⟩))] rfl (by decide) (by decide) (by decide) ha (fun o ho hg => y_of (wanted_none hg) (fun wx hS => e_extract (k := 0) ho (ha.ev (i := 42) (v := .tuple #[.agg #[.bool (ngB i), .slice X6 m6 d6, .int .i64 (s : Int)], .int .i64 0]) (by simp)) rfl)) (by simp) hSw ?_; intro a ha
        refine line_ahead dvBR 10 0 [8, 7, 6, 10, 2, 5, 4, 3, 1, 0] 9 51 (.int .i64 0) [(50, .agg #[.bool (ngB i), .slice X6 m6 d6, .int .i64 (s : Int)]), (10, .pointer (some ⟨v1.heap.size, 0, none⟩)), (2, .int .u8 x), (3, .pointer (some ⟨w.heap.size, 0, none⟩)), (4, .pointer (some ⟨(w.heap.size + 1), 0, none⟩)), (7, .pointer (some ⟨w3.heap.size, 0, none⟩)), (8, .int .i64 0), (9, .pointer (some ⟨g9, 0, none⟩))] rfl (by decide) (by decide) (by decide) ha (fun o ho hg => y_of (wanted_none hg) (fun wx hS => e_extract (k := 1) ho (ha.ev (i := 42) (v := .tuple #[.agg #[.bool (ngB i), .slice X6 m6 d6, .int .i64 (s : Int)], .int .i64 0]) (by simp)) rfl)) (by simp) hSw ?_; intro a ha
        refine line_all dvBR 11 0 [9, 8, 7, 6, 10, 2, 5, 4, 3, 1, 0] [11] (by decide) (dvBB _ (by decide)) (by simp) ?_
        intro j hj; simp only [List.mem_cons, List.not_mem_nil, or_false] at hj
        subst hj
        have E2 := Lib.hid (St.store E.out (g := v1.heap.size) (x0 := .bool false) (x1 := .slice none 0 0) (x2 := .int .i64 0) (by simp) (noLimb_bool _) (noLimb_slice _ _ _) (noLimb_int _) [(g9, (.bool (ngB x4)), (.slice A9 n9 c9), (.int .i64 (s3 : Int))), (w3.heap.size, (.bool (ngB x1)), (.slice A3 n3 c3), (.int .i64 (S : Int))), ((w.heap.size + 1), (.bool (ngB j)), (.slice Ab nb cb), (.int .i64 (t : Int))), (w.heap.size, (.bool (ngB i)), (.slice Aa na ca), (.int .i64 (s : Int)))] (by simp <;> omega) (.bool (ngB i)) (.slice X6 m6 d6) (.int .i64 (s : Int)))
        refine turn_store dvBR 11 0 [9, 8, 7, 6, 10, 2, 5, 4, 3, 1, 0] 11 (w' := put3 v6 (v1.heap.size) (.bool (ngB i)) (.slice X6 m6 d6) (.int .i64 (s : Int))) rfl ha (fun o ho hg => ⟨(wanted_none hg), e_store ho (ha.ev (i := 10) (v := .pointer (some ⟨v1.heap.size, 0, none⟩)) (by simp)) (ha.ev (i := 50) (v := .agg #[.bool (ngB i), .slice X6 m6 d6, .int .i64 (s : Int)]) (by simp)) (St.at_ (g := v1.heap.size) (x0 := .bool false) (x1 := .slice none 0 0) (x2 := .int .i64 0) E (by simp))⟩) (St.sbOf (bs' := [(g9, (.bool (ngB x4)), (.slice A9 n9 c9), (.int .i64 (s3 : Int))), (w3.heap.size, (.bool (ngB x1)), (.slice A3 n3 c3), (.int .i64 (S : Int))), ((w.heap.size + 1), (.bool (ngB j)), (.slice Ab nb cb), (.int .i64 (t : Int))), (w.heap.size, (.bool (ngB i)), (.slice Aa na ca), (.int .i64 (s : Int)))]) E2 (by simp)) ?_; intro a ha
        replace E := E2; clear E2
        generalize hW : put3 v6 _ _ _ _ = v7 at E ⊢; clear hW
        have hSw := St.sbOf (bs' := [(g9, (.bool (ngB x4)), (.slice A9 n9 c9), (.int .i64 (s3 : Int))), (w3.heap.size, (.bool (ngB x1)), (.slice A3 n3 c3), (.int .i64 (S : Int))), ((w.heap.size + 1), (.bool (ngB j)), (.slice Ab nb cb), (.int .i64 (t : Int))), (w.heap.size, (.bool (ngB i)), (.slice Aa na ca), (.int .i64 (s : Int)))]) E (by simp)
        refine line_ahead dvBR 12 0 [11, 9, 8, 7, 6, 10, 2, 5, 4, 3, 1, 0] 12 11 (.int .i64 0) [(10, .pointer (some ⟨v1.heap.size, 0, none⟩)), (2, .int .u8 x), (3, .pointer (some ⟨w.heap.size, 0, none⟩)), (4, .pointer (some ⟨(w.heap.size + 1), 0, none⟩)), (7, .pointer (some ⟨w3.heap.size, 0, none⟩)), (8, .int .i64 0), (9, .pointer (some ⟨g9, 0, none⟩))] rfl (by decide) (by decide) (by decide) ha (fun o ho hg => y_of (wanted_none hg) (fun wx hS => e_move (.inr ho) (ha.ev (i := 51) (v := .int .i64 0) (by simp)))) (by simp) hSw ?_; intro a ha
        refine line_end0 dvBR (show ∀ i, i < 13 → i ∈ [12, 11, 9, 8, 7, 6, 10, 2, 5, 4, 3, 1, 0] by decide) ?_
        exact ⟨rfl, v1.heap.size, X6, m6, d6, ha.sub (by simp), by omega, Lib.hid ((E.out).sub (by simp) (by simp))⟩
    ·
      have lt8_0 := (St.at_ (x0 := (.bool (ngB x4))) (x1 := (.slice A9 n9 c9)) (x2 := (.int .i64 (s3 : Int))) (g := g9) E (by simp)).lt
      have lt8_1 := (St.at_ (x0 := (.bool (ngB x1))) (x1 := (.slice A3 n3 c3)) (x2 := (.int .i64 (S : Int))) (g := w3.heap.size) E (by simp)).lt
      have lt8_2 := (St.at_ (x0 := (.bool (ngB j))) (x1 := (.slice Ab nb cb)) (x2 := (.int .i64 (t : Int))) (g := (w.heap.size + 1)) E (by simp)).lt
      have lt8_3 := (St.at_ (x0 := (.bool (ngB i))) (x1 := (.slice Aa na ca)) (x2 := (.int .i64 (s : Int))) (g := w.heap.size) E (by simp)).lt
      refine turn_op dvBR 5 0 [5, 4, 3, 1, 0] 10 10 (v := .pointer (some ⟨v0.heap.size, 0, none⟩)) (w' := v0.alloc (.cells #[.bool false, .slice none 0 0, .int .i64 0] 25)) [(48, (.int .i64 (s : Int))), (46, .agg #[(.bool (ngB j)), (.slice Ab nb cb), (.int .i64 (t : Int))]), (44, .agg #[(.bool (ngB j)), (.slice Ab nb cb), (.int .i64 (t : Int))]), (43, .agg #[(.bool (ngB i)), (.slice Aa na ca), (.int .i64 (s : Int))]), (2, .int .u8 x), (3, .pointer (some ⟨w.heap.size, 0, none⟩)), (4, .pointer (some ⟨(w.heap.size + 1), 0, none⟩)), (7, .pointer (some ⟨w3.heap.size, 0, none⟩)), (8, .int .i64 0), (9, .pointer (some ⟨g9, 0, none⟩))] rfl (by decide) ha (fun o ho hg => ⟨(wanted_none hg), e_alloc ho⟩) (by simp) (St.sbOf (bs' := [(g9, (.bool (ngB x4)), (.slice A9 n9 c9), (.int .i64 (s3 : Int))), (w3.heap.size, (.bool (ngB x1)), (.slice A3 n3 c3), (.int .i64 (S : Int))), ((w.heap.size + 1), (.bool (ngB j)), (.slice Ab nb cb), (.int .i64 (t : Int))), (w.heap.size, (.bool (ngB i)), (.slice Aa na ca), (.int .i64 (s : Int)))]) (Lib.hid (St.alloc E.out _)) (by simp)) ?_; intro a ha
      replace E := Lib.hid (St.lay (t := 25) (x0 := .bool false) (x1 := .slice none 0 0) (x2 := .int .i64 0) (g := v0.heap.size) E.out rfl)
      generalize hW : World.alloc v0 _ = v8 at E ⊢; clear hW
      have hSw := St.sbOf (bs' := [(g9, (.bool (ngB x4)), (.slice A9 n9 c9), (.int .i64 (s3 : Int))), (w3.heap.size, (.bool (ngB x1)), (.slice A3 n3 c3), (.int .i64 (S : Int))), ((w.heap.size + 1), (.bool (ngB j)), (.slice Ab nb cb), (.int .i64 (t : Int))), (w.heap.size, (.bool (ngB i)), (.slice Aa na ca), (.int .i64 (s : Int)))]) E (by simp)
      refine line_all dvBR 6 0 [10, 5, 4, 3, 1, 0] [2] (by decide) (dvBB _ (by decide)) (by simp) ?_
      intro j hj; simp only [List.mem_cons, List.not_mem_nil, or_false] at hj
      subst hj
      refine turn_call dvBR 6 0 [10, 5, 4, 3, 1, 0] 2 45 (args := #[.agg #[(.bool (ngB i)), (.slice Aa na ca), (.int .i64 (s : Int))], .agg #[(.bool (ngB j)), (.slice Ab nb cb), (.int .i64 (t : Int))]]) [(10, .pointer (some ⟨v0.heap.size, 0, none⟩)), (48, (.int .i64 (s : Int))), (46, .agg #[(.bool (ngB j)), (.slice Ab nb cb), (.int .i64 (t : Int))]), (2, .int .u8 x), (3, .pointer (some ⟨w.heap.size, 0, none⟩)), (4, .pointer (some ⟨(w.heap.size + 1), 0, none⟩)), (7, .pointer (some ⟨w3.heap.size, 0, none⟩)), (8, .int .i64 0), (9, .pointer (some ⟨g9, 0, none⟩))] rfl (by decide) ha (fun o ho hg => ⟨(wanted_none hg), e_call (by kernel_rfl) ho rfl (by have q0 := ha.ev (i := 43) (v := .agg #[(.bool (ngB i)), (.slice Aa na ca), (.int .i64 (s : Int))]) (by simp); have q1 := ha.ev (i := 44) (v := .agg #[(.bool (ngB j)), (.slice Ab nb cb), (.int .i64 (t : Int))]) (by simp); simp only [List.map_toArray, List.map_cons, List.map_nil, ev_const, q0, q1])⟩) (by simp) ?_
      refine (mul_is5 (i := i) (s := s) (j := j) (t := t) (St.got E (A := Aa) (n := na) (c := ca) (a := (i).natAbs) (by simp)) (St.got E (A := Ab) (n := nb) (c := cb) (a := (j).natAbs) (by simp)) (by omega) (by omega) (by omega) (by omega) HS5.out HX5.out).mono ?_; rintro e v9 ⟨X9, m9, d9, rfl, h, hb⟩
      have q9 : m9 ≤ 336 := len_le h HL5.out
      replace E := Lib.hid (St.push E.out hb h)
      clear h hb
      have hSw := St.sbOf (bs' := [(g9, (.bool (ngB x4)), (.slice A9 n9 c9), (.int .i64 (s3 : Int))), (w3.heap.size, (.bool (ngB x1)), (.slice A3 n3 c3), (.int .i64 (S : Int))), ((w.heap.size + 1), (.bool (ngB j)), (.slice Ab nb cb), (.int .i64 (t : Int))), (w.heap.size, (.bool (ngB i)), (.slice Aa na ca), (.int .i64 (s : Int)))]) E (by simp); refine ⟨_, rfl, hSw, ?_⟩; intro a ha
      refine line_all dvBR 7 0 [2, 10, 5, 4, 3, 1, 0] [6] (by decide) (dvBB _ (by decide)) (by simp) ?_
      intro j hj; simp only [List.mem_cons, List.not_mem_nil, or_false] at hj
      subst hj
      refine turn_call dvBR 7 0 [2, 10, 5, 4, 3, 1, 0] 6 49 (args := #[.agg #[.bool (ngB x5), .slice X9 m9 d9, .int .i64 (s5 : Int)], .agg #[(.bool (ngB j)), (.slice Ab nb cb), (.int .i64 (t : Int))], (.int .i64 (s : Int))]) [(10, .pointer (some ⟨v0.heap.size, 0, none⟩)), (2, .int .u8 x), (3, .pointer (some ⟨w.heap.size, 0, none⟩)), (4, .pointer (some ⟨(w.heap.size + 1), 0, none⟩)), (7, .pointer (some ⟨w3.heap.size, 0, none⟩)), (8, .int .i64 0), (9, .pointer (some ⟨g9, 0, none⟩))] rfl (by decide) ha (fun o ho hg => ⟨(wanted_none hg), e_call (by kernel_rfl) ho rfl (by have q0 := ha.ev (i := 45) (v := .agg #[.bool (ngB x5), .slice X9 m9 d9, .int .i64 (s5 : Int)]) (by simp); have q1 := ha.ev (i := 46) (v := .agg #[(.bool (ngB j)), (.slice Ab nb cb), (.int .i64 (t : Int))]) (by simp); have q2 := ha.ev (i := 48) (v := (.int .i64 (s : Int))) (by simp); simp only [List.map_toArray, List.map_cons, List.map_nil, ev_const, q0, q1, q2])⟩) (by simp) ?_
      refine (rdiv_is (i := x5) (s := s5) (j := j) (t := t) (S := s) (St.got E (A := X9) (n := m9) (c := d9) (a := (x5).natAbs) (by simp)) (St.got E (A := Ab) (n := nb) (c := cb) (a := (j).natAbs) (by simp)) (by omega) (by omega) (by omega) (by omega) HVS.out (by omega) HJ0.out HB.out).mono ?_; rintro e v10 ⟨X10, m10, d10, rfl, h, hb⟩
      have q10 : m10 ≤ 12 := len_le h HLI.out
      replace E := Lib.hid (St.push E.out hb h)
      clear h hb
      have hSw := St.sbOf (bs' := [(g9, (.bool (ngB x4)), (.slice A9 n9 c9), (.int .i64 (s3 : Int))), (w3.heap.size, (.bool (ngB x1)), (.slice A3 n3 c3), (.int .i64 (S : Int))), ((w.heap.size + 1), (.bool (ngB j)), (.slice Ab nb cb), (.int .i64 (t : Int))), (w.heap.size, (.bool (ngB i)), (.slice Aa na ca), (.int .i64 (s : Int)))]) E (by simp); refine ⟨_, rfl, hSw, ?_⟩; intro a ha
      refine line_ahead dvBR 8 0 [6, 2, 10, 5, 4, 3, 1, 0] 7 42 (.tuple #[.agg #[.bool (ngB i), .slice X10 m10 d10, .int .i64 (s : Int)], .int .i64 0]) [(10, .pointer (some ⟨v0.heap.size, 0, none⟩)), (2, .int .u8 x), (3, .pointer (some ⟨w.heap.size, 0, none⟩)), (4, .pointer (some ⟨(w.heap.size + 1), 0, none⟩)), (7, .pointer (some ⟨w3.heap.size, 0, none⟩)), (8, .int .i64 0), (9, .pointer (some ⟨g9, 0, none⟩))] rfl (by decide) (by decide) (by decide) ha (fun o ho hg => y_of (wanted_none hg) (fun wx hS => e_move (.inl ho) (ha.ev (i := 49) (v := .tuple #[.agg #[.bool (ngB i), .slice X10 m10 d10, .int .i64 (s : Int)], .int .i64 0]) (by simp)))) (by simp) hSw ?_; intro a ha
      refine line_ahead dvBR 9 0 [7, 6, 2, 10, 5, 4, 3, 1, 0] 8 50 (.agg #[.bool (ngB i), .slice X10 m10 d10, .int .i64 (s : Int)]) [(42, .tuple #[.agg #[.bool (ngB i), .slice X10 m10 d10, .int .i64 (s : Int)], .int .i64 0]), (10, .pointer (some ⟨v0.heap.size, 0, none⟩)), (2, .int .u8 x), (3, .pointer (some ⟨w.heap.size, 0, none⟩)), (4, .pointer (some ⟨(w.heap.size + 1), 0, none⟩)), (7, .pointer (some ⟨w3.heap.size, 0, none⟩)), (8, .int .i64 0), (9, .pointer (some ⟨g9, 0, none⟩))] rfl (by decide) (by decide) (by decide) ha (fun o ho hg => y_of (wanted_none hg) (fun wx hS => e_extract (k := 0) ho (ha.ev (i := 42) (v := .tuple #[.agg #[.bool (ngB i), .slice X10 m10 d10, .int .i64 (s : Int)], .int .i64 0]) (by simp)) rfl)) (by simp) hSw ?_; intro a ha
      refine line_ahead dvBR 10 0 [8, 7, 6, 2, 10, 5, 4, 3, 1, 0] 9 51 (.int .i64 0) [(50, .agg #[.bool (ngB i), .slice X10 m10 d10, .int .i64 (s : Int)]), (10, .pointer (some ⟨v0.heap.size, 0, none⟩)), (2, .int .u8 x), (3, .pointer (some ⟨w.heap.size, 0, none⟩)), (4, .pointer (some ⟨(w.heap.size + 1), 0, none⟩)), (7, .pointer (some ⟨w3.heap.size, 0, none⟩)), (8, .int .i64 0), (9, .pointer (some ⟨g9, 0, none⟩))] rfl (by decide) (by decide) (by decide) ha (fun o ho hg => y_of (wanted_none hg) (fun wx hS => e_extract (k := 1) ho (ha.ev (i := 42) (v := .tuple #[.agg #[.bool (ngB i), .slice X10 m10 d10, .int .i64 (s : Int)], .int .i64 0]) (by simp)) rfl)) (by simp) hSw ?_; intro a ha
      refine line_all dvBR 11 0 [9, 8, 7, 6, 2, 10, 5, 4, 3, 1, 0] [11] (by decide) (dvBB _ (by decide)) (by simp) ?_
      intro j hj; simp only [List.mem_cons, List.not_mem_nil, or_false] at hj
      subst hj
      have E2 := Lib.hid (St.store E.out (g := v0.heap.size) (x0 := .bool false) (x1 := .slice none 0 0) (x2 := .int .i64 0) (by simp) (noLimb_bool _) (noLimb_slice _ _ _) (noLimb_int _) [(g9, (.bool (ngB x4)), (.slice A9 n9 c9), (.int .i64 (s3 : Int))), (w3.heap.size, (.bool (ngB x1)), (.slice A3 n3 c3), (.int .i64 (S : Int))), ((w.heap.size + 1), (.bool (ngB j)), (.slice Ab nb cb), (.int .i64 (t : Int))), (w.heap.size, (.bool (ngB i)), (.slice Aa na ca), (.int .i64 (s : Int)))] (by simp <;> omega) (.bool (ngB i)) (.slice X10 m10 d10) (.int .i64 (s : Int)))
      refine turn_store dvBR 11 0 [9, 8, 7, 6, 2, 10, 5, 4, 3, 1, 0] 11 (w' := put3 v10 (v0.heap.size) (.bool (ngB i)) (.slice X10 m10 d10) (.int .i64 (s : Int))) rfl ha (fun o ho hg => ⟨(wanted_none hg), e_store ho (ha.ev (i := 10) (v := .pointer (some ⟨v0.heap.size, 0, none⟩)) (by simp)) (ha.ev (i := 50) (v := .agg #[.bool (ngB i), .slice X10 m10 d10, .int .i64 (s : Int)]) (by simp)) (St.at_ (g := v0.heap.size) (x0 := .bool false) (x1 := .slice none 0 0) (x2 := .int .i64 0) E (by simp))⟩) (St.sbOf (bs' := [(g9, (.bool (ngB x4)), (.slice A9 n9 c9), (.int .i64 (s3 : Int))), (w3.heap.size, (.bool (ngB x1)), (.slice A3 n3 c3), (.int .i64 (S : Int))), ((w.heap.size + 1), (.bool (ngB j)), (.slice Ab nb cb), (.int .i64 (t : Int))), (w.heap.size, (.bool (ngB i)), (.slice Aa na ca), (.int .i64 (s : Int)))]) E2 (by simp)) ?_; intro a ha
      replace E := E2; clear E2
      generalize hW : put3 v10 _ _ _ _ = v11 at E ⊢; clear hW
      have hSw := St.sbOf (bs' := [(g9, (.bool (ngB x4)), (.slice A9 n9 c9), (.int .i64 (s3 : Int))), (w3.heap.size, (.bool (ngB x1)), (.slice A3 n3 c3), (.int .i64 (S : Int))), ((w.heap.size + 1), (.bool (ngB j)), (.slice Ab nb cb), (.int .i64 (t : Int))), (w.heap.size, (.bool (ngB i)), (.slice Aa na ca), (.int .i64 (s : Int)))]) E (by simp)
      refine line_ahead dvBR 12 0 [11, 9, 8, 7, 6, 2, 10, 5, 4, 3, 1, 0] 12 11 (.int .i64 0) [(10, .pointer (some ⟨v0.heap.size, 0, none⟩)), (2, .int .u8 x), (3, .pointer (some ⟨w.heap.size, 0, none⟩)), (4, .pointer (some ⟨(w.heap.size + 1), 0, none⟩)), (7, .pointer (some ⟨w3.heap.size, 0, none⟩)), (8, .int .i64 0), (9, .pointer (some ⟨g9, 0, none⟩))] rfl (by decide) (by decide) (by decide) ha (fun o ho hg => y_of (wanted_none hg) (fun wx hS => e_move (.inr ho) (ha.ev (i := 51) (v := .int .i64 0) (by simp)))) (by simp) hSw ?_; intro a ha
      refine line_end0 dvBR (show ∀ i, i < 13 → i ∈ [12, 11, 9, 8, 7, 6, 2, 10, 5, 4, 3, 1, 0] by decide) ?_
      exact ⟨rfl, v0.heap.size, X10, m10, d10, ha.sub (by simp), by omega, Lib.hid ((E.out).sub (by simp) (by simp))⟩
  have hbd9 := hbd; clear hbd
  clear E
  rintro a wM ⟨g10, A10, n10, c10, ha, hbd, E⟩
  simp only [Exit.then]
  refine hK _ _ ?_
  clear hK K
  refine wp_seq_k (fun K hK => ?_)
  replace E := Lib.hid (St.drew E.out)
  refine line_start (ops := opsAt Try.prog 5 8) (S := SB [(g10, (.bool (ngB i)), (.slice A10 n10 c10), (.int .i64 (s : Int))), (g9, (.bool (ngB x4)), (.slice A9 n9 c9), (.int .i64 (s3 : Int))), (w3.heap.size, (.bool (ngB x1)), (.slice A3 n3 c3), (.int .i64 (S : Int))), ((w.heap.size + 1), (.bool (ngB j)), (.slice Ab nb cb), (.int .i64 (t : Int))), (w.heap.size, (.bool (ngB i)), (.slice Aa na ca), (.int .i64 (s : Int)))]) (by kernel_rfl) (by kernel_rfl) (St.sb E) ?_
  have hSw := St.sb E
  refine line_still dvCR 0 0 [] 52 (.int .i64 0) [(3, .pointer (some ⟨w.heap.size, 0, none⟩)), (4, .pointer (some ⟨(w.heap.size + 1), 0, none⟩)), (7, .pointer (some ⟨w3.heap.size, 0, none⟩)), (9, .pointer (some ⟨g9, 0, none⟩)), (10, .pointer (some ⟨g10, 0, none⟩)), (2, .int .u8 x), (11, .int .i64 0)] rfl (by decide) (by decide) (by decide) ha (fun o ho hg => y_of (wanted_none hg) (fun wx hS => e_move (.inl ho) (ha.ev (i := 8) (v := .int .i64 0) (by simp)))) (by simp) hSw ?_; intro a ha
  refine line_still dvCR 1 1 [] 53 (.bool true) [(3, .pointer (some ⟨w.heap.size, 0, none⟩)), (4, .pointer (some ⟨(w.heap.size + 1), 0, none⟩)), (7, .pointer (some ⟨w3.heap.size, 0, none⟩)), (9, .pointer (some ⟨g9, 0, none⟩)), (10, .pointer (some ⟨g10, 0, none⟩)), (2, .int .u8 x), (11, .int .i64 0)] rfl (by decide) (by decide) (by decide) ha (fun o ho hg => y_of (wanted_none hg) (fun wx hS => e_eql ho (ha.ev (i := 52) (v := .int .i64 0) (by simp)) rfl)) (by simp) hSw ?_; intro a ha
  refine line_still dvCR 2 2 [] 54 (.bool true) [(3, .pointer (some ⟨w.heap.size, 0, none⟩)), (4, .pointer (some ⟨(w.heap.size + 1), 0, none⟩)), (7, .pointer (some ⟨w3.heap.size, 0, none⟩)), (9, .pointer (some ⟨g9, 0, none⟩)), (10, .pointer (some ⟨g10, 0, none⟩)), (2, .int .u8 x), (11, .int .i64 0)] rfl (by decide) (by decide) (by decide) ha (fun o ho hg => y_of (wanted_none hg) (fun wx hS => e_move (.inl ho) (ha.ev (i := 53) (v := .bool true) (by simp)))) (by simp) hSw ?_; intro a ha
  refine line_still dvCR 3 3 [] 55 (.pointer (some ⟨w3.heap.size, 2, none⟩)) [(54, .bool true), (3, .pointer (some ⟨w.heap.size, 0, none⟩)), (4, .pointer (some ⟨(w.heap.size + 1), 0, none⟩)), (7, .pointer (some ⟨w3.heap.size, 0, none⟩)), (9, .pointer (some ⟨g9, 0, none⟩)), (10, .pointer (some ⟨g10, 0, none⟩)), (2, .int .u8 x), (11, .int .i64 0)] rfl (by decide) (by decide) (by decide) ha (fun o ho hg => y_of (dvCR.wanted hg rfl ha (d := 54) (by simp)) (fun wx hS => e_field 2 (by simp) ho (ha.ev (i := 7) (v := .pointer (some ⟨w3.heap.size, 0, none⟩)) (by simp)))) (by simp) hSw ?_; intro a ha
  refine line_still dvCR 4 4 [] 56 ((.int .i64 (S : Int))) [(54, .bool true), (3, .pointer (some ⟨w.heap.size, 0, none⟩)), (4, .pointer (some ⟨(w.heap.size + 1), 0, none⟩)), (7, .pointer (some ⟨w3.heap.size, 0, none⟩)), (9, .pointer (some ⟨g9, 0, none⟩)), (10, .pointer (some ⟨g10, 0, none⟩)), (2, .int .u8 x), (11, .int .i64 0)] rfl (by decide) (by decide) (by decide) ha (fun o ho hg => y_of (dvCR.wanted hg rfl ha (d := 54) (by simp)) (fun wx hS => e_cell (by simp) ho (ha.ev (i := 55) (v := .pointer (some ⟨w3.heap.size, 2, none⟩)) (by simp)) (hS.at_ (g := w3.heap.size) (x0 := (.bool (ngB x1))) (x1 := (.slice A3 n3 c3)) (x2 := (.int .i64 (S : Int))) (by simp)).c2)) (by simp) hSw ?_; intro a ha
  refine line_still dvCR 5 5 [] 57 (.int .u8 x) [(56, (.int .i64 (S : Int))), (54, .bool true), (3, .pointer (some ⟨w.heap.size, 0, none⟩)), (4, .pointer (some ⟨(w.heap.size + 1), 0, none⟩)), (7, .pointer (some ⟨w3.heap.size, 0, none⟩)), (9, .pointer (some ⟨g9, 0, none⟩)), (10, .pointer (some ⟨g10, 0, none⟩)), (11, .int .i64 0)] rfl (by decide) (by decide) (by decide) ha (fun o ho hg => y_of (dvCR.wanted hg rfl ha (d := 54) (by simp)) (fun wx hS => e_move (.inl ho) (ha.ev (i := 2) (v := .int .u8 x) (by simp)))) (by simp) hSw ?_; intro a ha
  refine line_still dvCR 6 6 [] 58 (.int .i64 x) [(56, (.int .i64 (S : Int))), (54, .bool true), (3, .pointer (some ⟨w.heap.size, 0, none⟩)), (4, .pointer (some ⟨(w.heap.size + 1), 0, none⟩)), (7, .pointer (some ⟨w3.heap.size, 0, none⟩)), (9, .pointer (some ⟨g9, 0, none⟩)), (10, .pointer (some ⟨g10, 0, none⟩)), (11, .int .i64 0)] rfl (by decide) (by decide) (by decide) ha (fun o ho hg => y_of (dvCR.wanted hg rfl ha (d := 54) (by simp)) (fun wx hS => e_conv ho (ha.ev (i := 57) (v := .int .u8 x) (by simp)) h0 h255)) (by simp) hSw ?_; intro a ha
  refine line_still dvCR 7 7 [] 59 (.int .i64 (S : Int)) [(56, (.int .i64 (S : Int))), (54, .bool true), (3, .pointer (some ⟨w.heap.size, 0, none⟩)), (4, .pointer (some ⟨(w.heap.size + 1), 0, none⟩)), (7, .pointer (some ⟨w3.heap.size, 0, none⟩)), (9, .pointer (some ⟨g9, 0, none⟩)), (10, .pointer (some ⟨g10, 0, none⟩)), (11, .int .i64 0)] rfl (by decide) (by decide) (by decide) ha (fun o ho hg => y_of (dvCR.wanted hg rfl ha (d := 54) (by simp)) (fun wx hS => e_rem ho (ha.ev (i := 58) (v := .int .i64 x) (by simp)) rfl h0 h255 (by decide) HR.out (by omega))) (by simp) hSw ?_; intro a ha
  refine line_still dvCR 8 8 [] 60 (.bool true) [(54, .bool true), (3, .pointer (some ⟨w.heap.size, 0, none⟩)), (4, .pointer (some ⟨(w.heap.size + 1), 0, none⟩)), (7, .pointer (some ⟨w3.heap.size, 0, none⟩)), (9, .pointer (some ⟨g9, 0, none⟩)), (10, .pointer (some ⟨g10, 0, none⟩)), (11, .int .i64 0)] rfl (by decide) (by decide) (by decide) ha (fun o ho hg => y_of (dvCR.wanted hg rfl ha (d := 54) (by simp)) (fun wx hS => (e_eql ho (ha.ev (i := 56) (v := (.int .i64 (S : Int))) (by simp)) (ha.ev (i := 59) (v := .int .i64 (S : Int)) (by simp))).trans (by rw [D3.out]))) (by simp) hSw ?_; intro a ha
  refine line_still dvCR 9 9 [] 61 (.bool true) [(3, .pointer (some ⟨w.heap.size, 0, none⟩)), (4, .pointer (some ⟨(w.heap.size + 1), 0, none⟩)), (7, .pointer (some ⟨w3.heap.size, 0, none⟩)), (9, .pointer (some ⟨g9, 0, none⟩)), (10, .pointer (some ⟨g10, 0, none⟩)), (11, .int .i64 0)] rfl (by decide) (by decide) (by decide) ha (fun o ho hg => y_of (wanted_none hg) (fun wx hS => e_pick ho (ha.ev (i := 54) (v := .bool true) (by simp)) (ha.ev (i := 60) (v := .bool true) (by simp)) rfl)) (by simp) hSw ?_; intro a ha
  refine line_still dvCR 10 10 [] 62 (.bool true) [(3, .pointer (some ⟨w.heap.size, 0, none⟩)), (4, .pointer (some ⟨(w.heap.size + 1), 0, none⟩)), (7, .pointer (some ⟨w3.heap.size, 0, none⟩)), (9, .pointer (some ⟨g9, 0, none⟩)), (10, .pointer (some ⟨g10, 0, none⟩)), (11, .int .i64 0)] rfl (by decide) (by decide) (by decide) ha (fun o ho hg => y_of (wanted_none hg) (fun wx hS => e_move (.inl ho) (ha.ev (i := 61) (v := .bool true) (by simp)))) (by simp) hSw ?_; intro a ha
  refine line_still dvCR 11 11 [] 63 (.agg #[(.bool (ngB x4)), (.slice A9 n9 c9), (.int .i64 (s3 : Int))]) [(62, .bool true), (3, .pointer (some ⟨w.heap.size, 0, none⟩)), (4, .pointer (some ⟨(w.heap.size + 1), 0, none⟩)), (7, .pointer (some ⟨w3.heap.size, 0, none⟩)), (10, .pointer (some ⟨g10, 0, none⟩)), (11, .int .i64 0)] rfl (by decide) (by decide) (by decide) ha (fun o ho hg => y_of (dvCR.wanted hg rfl ha (d := 62) (by simp)) (fun wx hS => e_load ho (ha.ev (i := 9) (v := .pointer (some ⟨g9, 0, none⟩)) (by simp)) (hS.at_ (g := g9) (x0 := (.bool (ngB x4))) (x1 := (.slice A9 n9 c9)) (x2 := (.int .i64 (s3 : Int))) (by simp)))) (by simp) hSw ?_; intro a ha
  refine line_still dvCR 12 12 [] 64 (.agg #[(.bool (ngB j)), (.slice Ab nb cb), (.int .i64 (t : Int))]) [(63, .agg #[(.bool (ngB x4)), (.slice A9 n9 c9), (.int .i64 (s3 : Int))]), (62, .bool true), (3, .pointer (some ⟨w.heap.size, 0, none⟩)), (7, .pointer (some ⟨w3.heap.size, 0, none⟩)), (10, .pointer (some ⟨g10, 0, none⟩)), (11, .int .i64 0)] rfl (by decide) (by decide) (by decide) ha (fun o ho hg => y_of (dvCR.wanted hg rfl ha (d := 62) (by simp)) (fun wx hS => e_load ho (ha.ev (i := 4) (v := .pointer (some ⟨(w.heap.size + 1), 0, none⟩)) (by simp)) (hS.at_ (g := (w.heap.size + 1)) (x0 := (.bool (ngB j))) (x1 := (.slice Ab nb cb)) (x2 := (.int .i64 (t : Int))) (by simp)))) (by simp) hSw ?_; intro a ha
  refine line_ahead dvCR 13 13 [] 14 66 (.pointer (some ⟨w3.heap.size, 2, none⟩)) [(64, .agg #[(.bool (ngB j)), (.slice Ab nb cb), (.int .i64 (t : Int))]), (63, .agg #[(.bool (ngB x4)), (.slice A9 n9 c9), (.int .i64 (s3 : Int))]), (62, .bool true), (3, .pointer (some ⟨w.heap.size, 0, none⟩)), (10, .pointer (some ⟨g10, 0, none⟩)), (11, .int .i64 0)] rfl (by decide) (by decide) (by decide) ha (fun o ho hg => y_of (dvCR.wanted hg rfl ha (d := 62) (by simp)) (fun wx hS => e_field 2 (by simp) ho (ha.ev (i := 7) (v := .pointer (some ⟨w3.heap.size, 0, none⟩)) (by simp)))) (by simp) hSw ?_; intro a ha
  refine line_ahead dvCR 14 13 [14] 15 67 ((.int .i64 (S : Int))) [(64, .agg #[(.bool (ngB j)), (.slice Ab nb cb), (.int .i64 (t : Int))]), (63, .agg #[(.bool (ngB x4)), (.slice A9 n9 c9), (.int .i64 (s3 : Int))]), (62, .bool true), (3, .pointer (some ⟨w.heap.size, 0, none⟩)), (10, .pointer (some ⟨g10, 0, none⟩)), (11, .int .i64 0)] rfl (by decide) (by decide) (by decide) ha (fun o ho hg => y_of (dvCR.wanted hg rfl ha (d := 62) (by simp)) (fun wx hS => e_cell (by simp) ho (ha.ev (i := 66) (v := .pointer (some ⟨w3.heap.size, 2, none⟩)) (by simp)) (hS.at_ (g := w3.heap.size) (x0 := (.bool (ngB x1))) (x1 := (.slice A3 n3 c3)) (x2 := (.int .i64 (S : Int))) (by simp)).c2)) (by simp) hSw ?_; intro a ha
  refine line_call dvCR 15 13 [15, 14] 65 (args := #[.agg #[(.bool (ngB j)), (.slice Ab nb cb), (.int .i64 (t : Int))]]) [(67, (.int .i64 (S : Int))), (63, .agg #[(.bool (ngB x4)), (.slice A9 n9 c9), (.int .i64 (s3 : Int))]), (62, .bool true), (3, .pointer (some ⟨w.heap.size, 0, none⟩)), (10, .pointer (some ⟨g10, 0, none⟩)), (11, .int .i64 0)] rfl (by decide) (by decide) (by decide) ha (fun o ho hg => ⟨(dvCR.wanted hg rfl ha (d := 62) (by simp)), e_call (by kernel_rfl) ho rfl (by have q0 := ha.ev (i := 64) (v := .agg #[(.bool (ngB j)), (.slice Ab nb cb), (.int .i64 (t : Int))]) (by simp); simp only [List.map_toArray, List.map_cons, List.map_nil, ev_const, q0])⟩) (by simp) ?_
  refine (abs_is5 (i := j) (s := t) (St.got E (A := Ab) (n := nb) (c := cb) (a := (j).natAbs) (by simp)) (by omega) (by omega) HX6.out).mono ?_; rintro e w61 ⟨A61, n61, c61, rfl, h, hb⟩
  have b61 : n61 ≤ 168 := len_le h HL6.out
  replace E := Lib.hid (St.push E.out hb h)
  clear h hb
  have hSw := St.sb E; refine ⟨_, rfl, hSw, ?_⟩; intro a ha
  refine line_skip [15] (by intro i; simp <;> omega) ?_
  refine line_skip [] (by intro i; simp <;> omega) ?_
  refine line_call dvCR 16 16 [] 68 (args := #[(.int .i64 (S : Int))]) [(65, .agg #[.bool (ngB x6), .slice A61 n61 c61, .int .i64 (t : Int)]), (63, .agg #[(.bool (ngB x4)), (.slice A9 n9 c9), (.int .i64 (s3 : Int))]), (62, .bool true), (3, .pointer (some ⟨w.heap.size, 0, none⟩)), (10, .pointer (some ⟨g10, 0, none⟩)), (11, .int .i64 0)] rfl (by decide) (by decide) (by decide) ha (fun o ho hg => ⟨(dvCR.wanted hg rfl ha (d := 62) (by simp)), e_call (by kernel_rfl) ho rfl (by have q0 := ha.ev (i := 67) (v := (.int .i64 (S : Int))) (by simp); simp only [List.map_toArray, List.map_cons, List.map_nil, ev_const, q0])⟩) (by simp) ?_
  refine (half_at (S := S) (M := u1) _ HV.out (by omega) HU1.out).mono ?_; rintro e w62 ⟨A62, n62, c62, rfl, h, hb⟩
  have b62 : n62 ≤ 1 := len_le h O5.out
  replace E := Lib.hid (St.push E.out hb h)
  clear h hb
  have hSw := St.sb E; refine ⟨_, rfl, hSw, ?_⟩; intro a ha
  refine line_call dvCR 17 17 [] 69 (args := #[.agg #[.bool (ngB x6), .slice A61 n61 c61, .int .i64 (t : Int)], .agg #[.bool (ngB (5 : Int)), .slice A62 n62 c62, .int .i64 (u1 : Int)]]) [(63, .agg #[(.bool (ngB x4)), (.slice A9 n9 c9), (.int .i64 (s3 : Int))]), (62, .bool true), (3, .pointer (some ⟨w.heap.size, 0, none⟩)), (10, .pointer (some ⟨g10, 0, none⟩)), (11, .int .i64 0)] rfl (by decide) (by decide) (by decide) ha (fun o ho hg => ⟨(dvCR.wanted hg rfl ha (d := 62) (by simp)), e_call (by kernel_rfl) ho rfl (by have q0 := ha.ev (i := 65) (v := .agg #[.bool (ngB x6), .slice A61 n61 c61, .int .i64 (t : Int)]) (by simp); have q1 := ha.ev (i := 68) (v := .agg #[.bool (ngB (5 : Int)), .slice A62 n62 c62, .int .i64 (u1 : Int)]) (by simp); simp only [List.map_toArray, List.map_cons, List.map_nil, ev_const, q0, q1])⟩) (by simp) ?_
  refine (mul_is5 (i := x6) (s := t) (j := (5 : Int)) (t := u1) (St.got E (A := A61) (n := n61) (c := c61) (a := (x6).natAbs) (by simp)) (St.got E (A := A62) (n := n62) (c := c62) (a := ((5 : Int)).natAbs) (by simp)) (by omega) (by omega) (by omega) (by omega) HS7.out HX7.out).mono ?_; rintro e w63 ⟨A63, n63, c63, rfl, h, hb⟩
  have b63 : n63 ≤ 209 := len_le h HL7.out
  replace E := Lib.hid (St.push E.out hb h)
  clear h hb
  have hSw := St.sb E; refine ⟨_, rfl, hSw, ?_⟩; intro a ha
  refine line_call dvCR 18 18 [] 70 (args := #[.agg #[(.bool (ngB x4)), (.slice A9 n9 c9), (.int .i64 (s3 : Int))], .agg #[.bool (ngB x7), .slice A63 n63 c63, .int .i64 (s7 : Int)]]) [(62, .bool true), (3, .pointer (some ⟨w.heap.size, 0, none⟩)), (10, .pointer (some ⟨g10, 0, none⟩)), (11, .int .i64 0)] rfl (by decide) (by decide) (by decide) ha (fun o ho hg => ⟨(dvCR.wanted hg rfl ha (d := 62) (by simp)), e_call (by kernel_rfl) ho rfl (by have q0 := ha.ev (i := 63) (v := .agg #[(.bool (ngB x4)), (.slice A9 n9 c9), (.int .i64 (s3 : Int))]) (by simp); have q1 := ha.ev (i := 69) (v := .agg #[.bool (ngB x7), .slice A63 n63 c63, .int .i64 (s7 : Int)]) (by simp); simp only [List.map_toArray, List.map_cons, List.map_nil, ev_const, q0, q1])⟩) (by simp) ?_
  refine (cmp5_is (i := x4) (s := s3) (j := x7) (t := s7) (St.got E (A := A9) (n := n9) (c := c9) (a := (x4).natAbs) (by simp)) (St.got E (A := A63) (n := n63) (c := c63) (a := (x7).natAbs) (by simp)) (by omega) (by omega) (by omega) (by omega) HZC.out).mono ?_; rintro e w64 ⟨rfl, hb⟩
  replace E := Lib.hid (St.step E.out hb)
  clear hb
  replace E : Hid (St w w64 [(A10, n10, c10, (i).natAbs), (A9, n9, c9, (x4).natAbs), (Aa, na, ca, (i).natAbs), (Ab, nb, cb, (j).natAbs), (A3, n3, c3, (x1).natAbs)] [(g10, (.bool (ngB i)), (.slice A10 n10 c10), (.int .i64 (s : Int))), (g9, (.bool (ngB x4)), (.slice A9 n9 c9), (.int .i64 (s3 : Int))), (w3.heap.size, (.bool (ngB x1)), (.slice A3 n3 c3), (.int .i64 (S : Int))), ((w.heap.size + 1), (.bool (ngB j)), (.slice Ab nb cb), (.int .i64 (t : Int))), (w.heap.size, (.bool (ngB i)), (.slice Aa na ca), (.int .i64 (s : Int)))]) := Lib.hid ((E.out).sub (by simp) (by simp))
  have hSw := St.sb E; refine ⟨_, rfl, hSw, ?_⟩; intro a ha
  refine line_still dvCR 19 19 [] 71 (.bool true) [(62, .bool true), (3, .pointer (some ⟨w.heap.size, 0, none⟩)), (10, .pointer (some ⟨g10, 0, none⟩)), (11, .int .i64 0)] rfl (by decide) (by decide) (by decide) ha (fun o ho hg => y_of (dvCR.wanted hg rfl ha (d := 62) (by simp)) (fun wx hS => (e_leq ho (ha.ev (i := 70) (v := .int .i64 zc) (by simp)) rfl).trans (by rw [DC.out]))) (by simp) hSw ?_; intro a ha
  refine line_still dvCR 20 20 [] 72 (.bool true) [(3, .pointer (some ⟨w.heap.size, 0, none⟩)), (10, .pointer (some ⟨g10, 0, none⟩)), (11, .int .i64 0)] rfl (by decide) (by decide) (by decide) ha (fun o ho hg => y_of (wanted_none hg) (fun wx hS => e_pick ho (ha.ev (i := 62) (v := .bool true) (by simp)) (ha.ev (i := 71) (v := .bool true) (by simp)) rfl)) (by simp) hSw ?_; intro a ha
  refine line_still dvCR 21 21 [] 73 (.bool true) [(3, .pointer (some ⟨w.heap.size, 0, none⟩)), (10, .pointer (some ⟨g10, 0, none⟩)), (11, .int .i64 0)] rfl (by decide) (by decide) (by decide) ha (fun o ho hg => y_of (wanted_none hg) (fun wx hS => e_move (.inl ho) (ha.ev (i := 72) (v := .bool true) (by simp)))) (by simp) hSw ?_; intro a ha
  refine line_still dvCR 22 22 [] 74 (.int .i64 0) [(73, .bool true), (3, .pointer (some ⟨w.heap.size, 0, none⟩)), (10, .pointer (some ⟨g10, 0, none⟩))] rfl (by decide) (by decide) (by decide) ha (fun o ho hg => y_of (dvCR.wanted hg rfl ha (d := 73) (by simp)) (fun wx hS => e_move (.inl ho) (ha.ev (i := 11) (v := .int .i64 0) (by simp)))) (by simp) hSw ?_; intro a ha
  refine line_still dvCR 23 23 [] 75 (.bool true) [(73, .bool true), (3, .pointer (some ⟨w.heap.size, 0, none⟩)), (10, .pointer (some ⟨g10, 0, none⟩))] rfl (by decide) (by decide) (by decide) ha (fun o ho hg => y_of (dvCR.wanted hg rfl ha (d := 73) (by simp)) (fun wx hS => e_eql ho (ha.ev (i := 74) (v := .int .i64 0) (by simp)) rfl)) (by simp) hSw ?_; intro a ha
  refine line_still dvCR 24 24 [] 76 (.bool true) [(3, .pointer (some ⟨w.heap.size, 0, none⟩)), (10, .pointer (some ⟨g10, 0, none⟩))] rfl (by decide) (by decide) (by decide) ha (fun o ho hg => y_of (wanted_none hg) (fun wx hS => e_pick ho (ha.ev (i := 73) (v := .bool true) (by simp)) (ha.ev (i := 75) (v := .bool true) (by simp)) rfl)) (by simp) hSw ?_; intro a ha
  refine line_still dvCR 25 25 [] 77 (.bool true) [(3, .pointer (some ⟨w.heap.size, 0, none⟩)), (10, .pointer (some ⟨g10, 0, none⟩))] rfl (by decide) (by decide) (by decide) ha (fun o ho hg => y_of (wanted_none hg) (fun wx hS => e_move (.inl ho) (ha.ev (i := 76) (v := .bool true) (by simp)))) (by simp) hSw ?_; intro a ha
  refine line_still dvCR 26 26 [] 78 (.agg #[(.bool (ngB i)), (.slice A10 n10 c10), (.int .i64 (s : Int))]) [(77, .bool true), (3, .pointer (some ⟨w.heap.size, 0, none⟩))] rfl (by decide) (by decide) (by decide) ha (fun o ho hg => y_of (dvCR.wanted hg rfl ha (d := 77) (by simp)) (fun wx hS => e_load ho (ha.ev (i := 10) (v := .pointer (some ⟨g10, 0, none⟩)) (by simp)) (hS.at_ (g := g10) (x0 := (.bool (ngB i))) (x1 := (.slice A10 n10 c10)) (x2 := (.int .i64 (s : Int))) (by simp)))) (by simp) hSw ?_; intro a ha
  refine line_still dvCR 27 27 [] 79 (.agg #[(.bool (ngB i)), (.slice Aa na ca), (.int .i64 (s : Int))]) [(78, .agg #[(.bool (ngB i)), (.slice A10 n10 c10), (.int .i64 (s : Int))]), (77, .bool true)] rfl (by decide) (by decide) (by decide) ha (fun o ho hg => y_of (dvCR.wanted hg rfl ha (d := 77) (by simp)) (fun wx hS => e_load ho (ha.ev (i := 3) (v := .pointer (some ⟨w.heap.size, 0, none⟩)) (by simp)) (hS.at_ (g := w.heap.size) (x0 := (.bool (ngB i))) (x1 := (.slice Aa na ca)) (x2 := (.int .i64 (s : Int))) (by simp)))) (by simp) hSw ?_; intro a ha
  refine line_call dvCR 28 28 [] 80 (args := #[.agg #[(.bool (ngB i)), (.slice A10 n10 c10), (.int .i64 (s : Int))], .agg #[(.bool (ngB i)), (.slice Aa na ca), (.int .i64 (s : Int))]]) [(77, .bool true)] rfl (by decide) (by decide) (by decide) ha (fun o ho hg => ⟨(dvCR.wanted hg rfl ha (d := 77) (by simp)), e_call (by kernel_rfl) ho rfl (by have q0 := ha.ev (i := 78) (v := .agg #[(.bool (ngB i)), (.slice A10 n10 c10), (.int .i64 (s : Int))]) (by simp); have q1 := ha.ev (i := 79) (v := .agg #[(.bool (ngB i)), (.slice Aa na ca), (.int .i64 (s : Int))]) (by simp); simp only [List.map_toArray, List.map_cons, List.map_nil, ev_const, q0, q1])⟩) (by simp) ?_
  refine (alike_is5 (i := i) (j := i) (s := s) (t := s) (St.got E (A := A10) (n := n10) (c := c10) (a := (i).natAbs) (by simp)) (St.got E (A := Aa) (n := na) (c := ca) (a := (i).natAbs) (by simp)) F1.out).mono ?_; rintro e w65 ⟨rfl, hb⟩
  replace E := Lib.hid (St.step E.out hb)
  clear hb
  have hSw := St.sb E; refine ⟨_, rfl, hSw, ?_⟩; intro a ha
  refine line_still dvCR 29 29 [] 81 (.bool true) [] rfl (by decide) (by decide) (by decide) ha (fun o ho hg => y_of (wanted_none hg) (fun wx hS => e_pick ho (ha.ev (i := 77) (v := .bool true) (by simp)) (ha.ev (i := 80) (v := .bool true) (by simp)) rfl)) (by simp) hSw ?_; intro a ha
  refine line_still dvCR 30 30 [] 82 (.bool true) [] rfl (by decide) (by decide) (by decide) ha (fun o ho hg => y_of (wanted_none hg) (fun wx hS => e_move (.inl ho) (ha.ev (i := 81) (v := .bool true) (by simp)))) (by simp) hSw ?_; intro a ha
  refine line_call dvCR 31 31 [] 83 (args := #[]) [(82, .bool true)] rfl (by decide) (by decide) (by decide) ha (fun o ho hg => ⟨(dvCR.wanted hg rfl ha (d := 82) (by simp)), e_call (by kernel_rfl) ho rfl (by simp only [List.map_toArray, List.map_cons, List.map_nil, ev_const])⟩) (by simp) ?_
  refine (awake6 _).mono ?_; rintro e w66 ⟨rfl, hb⟩
  replace E := Lib.hid (St.step E.out hb)
  clear hb
  have hSw := St.sb E; refine ⟨_, rfl, hSw, ?_⟩; intro a ha
  refine line_still dvCR 32 32 [] 84 (.bool true) [] rfl (by decide) (by decide) (by decide) ha (fun o ho hg => y_of (wanted_none hg) (fun wx hS => e_pick ho (ha.ev (i := 82) (v := .bool true) (by simp)) (ha.ev (i := 83) (v := .bool true) (by simp)) rfl)) (by simp) hSw ?_; intro a ha
  refine line_still dvCR 33 33 [] 6 (.bool true) [] rfl (by decide) (by decide) (by decide) ha (fun o ho hg => y_of (wanted_none hg) (fun wx hS => e_move (.inr ho) (ha.ev (i := 84) (v := .bool true) (by simp)))) (by simp) hSw ?_; intro a ha
  refine line_end dvCR rfl ?_
  simp only [Exit.then]
  refine hK _ _ ?_
  go_wp2
  exact bodyPost_ret (v := .bool true) (by have := ha.2.2 (6, .bool true) (by simp); simp [results, Try.results5, go_sem, Array.getD_eq_getD_getElem?, this]) ha.2.1 ⟨rfl, E.out.bel⟩

theorem divides6_law (b1 : Bool) (A1 : Option Addr) (n1 ca : Nat) (xs1 : List Nat) (k1 : Int) (b2 : Bool) (A2 : Option Addr) (n2 cb : Nat) (xs2 : List Nat) (k2 : Int) (x : Int) (w : World) (h1 : Lim w w.heap.size A1 n1 ca xs1) (h2 : Lim w w.heap.size A2 n2 cb xs2) (h0 : 0 ≤ x) (h255 : x ≤ 255) : Calls Try.prog 5 #[.agg #[.bool b1, .slice A1 n1 ca, .int .i64 k1], .agg #[.bool b2, .slice A2 n2 cb, .int .i64 k2], .int .u8 x] w (RetVal w (.bool true)) := by
  cases l1 : longB b1 n1 xs1 k1 with
  | true => exact divides_long1 b1 A1 n1 ca xs1 k1 b2 A2 n2 cb xs2 k2 w h1 h2 x h0 h255 l1
  | false =>
    cases l2 : longB b2 n2 xs2 k2 with
    | true => exact divides_long2 b1 A1 n1 ca xs1 k1 b2 A2 n2 cb xs2 k2 w h1 h2 x h0 h255 l1 l2
    | false =>
      obtain ⟨i, s, rfl, rfl, rfl, m1, t1⟩ := of_long l1 h1
      obtain ⟨j, t, rfl, rfl, rfl, m2, t2⟩ := of_long l2 h2
      by_cases hj : j = 0
      · exact divides_zero A1 n1 ca s i A2 n2 cb t j w h1 h2 m1 t1 m2 t2 x h0 h255 hj
      · exact divides_main A1 n1 ca s i A2 n2 cb t j w h1 h2 m1 t1 m2 t2 x h0 h255 hj

end Go.Proofs.Ytcnjbmjgambgeaa
