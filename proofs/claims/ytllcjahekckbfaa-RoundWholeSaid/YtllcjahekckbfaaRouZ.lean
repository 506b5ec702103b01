/-
  RoundWhole answers true.
-/
import Derived.Test.YtllcjahekckbfaaRouY
set_option linter.unusedVariables false
set_option linter.unusedSimpArgs false
namespace Go.Proofs.Ytllcjahekckbfaa
open Go.RowKit

set_option maxHeartbeats 2000000 in
set_option maxRecDepth 100000 in
theorem whole_a (b1 : Bool) (A1 : Option Addr) (n1 c1 : Nat) (xs1 : List Nat) (k1 : Int) (A : Option Addr) (n c : Nat) (r : Nat → Rw) (x : Int) (w : World) (h1 : Lim w w.heap.size A1 n1 c1 xs1) (h : Raws w w.heap.size A n c r) (h0 : 0 ≤ x) (h255 : x ≤ 255) (l1 : longB b1 n1 xs1 k1 = true) : Calls Try.prog 3 #[.agg #[.bool b1, .slice A1 n1 c1, .int .i64 k1], .slice A n c, .int .u8 x] w (RetVal w (.bool true)) := by
  have hc := h.cap
  have hm := h.room
  unfold maxLen at hm
  have H1 := Lib.hid h1
  have L1 := Lib.hid l1
  clear h1 h l1
  go_enter Try.func3, Try.ntmps3
  have hrem : x.tmod 12 = x % 12 := Int.tmod_eq_emod_of_nonneg h0
  go_wp2_with fail
  generalize hW : World.alloc w _ = W0
  have E0 : St w W0 [] [(w.heap.size, .bool b1, .slice A1 n1 c1, .int .i64 k1)] := by rw [← hW]; exact (St.start w (l := []) (fun q hq => by cases hq)).lay rfl
  have E := Lib.hid E0
  clear hW E0
  refine (long_is (H1.out.on E.out.bel) L1.out).mono ?_; rintro e w1 ⟨rfl, hb⟩; replace E := Lib.hid (St.step E.out hb); clear hb
  go_wp2_with fail
  refine (awake6 _).mono ?_; rintro e w9 ⟨rfl, hb⟩; replace E := Lib.hid (St.step E.out hb); clear hb
  go_wp2_with fail
  go_ret
  exact ⟨rfl, E.out.bel⟩

set_option maxHeartbeats 2000000 in
set_option maxRecDepth 100000 in
theorem whole_b (b1 : Bool) (A1 : Option Addr) (n1 c1 : Nat) (xs1 : List Nat) (k1 : Int) (A : Option Addr) (n c : Nat) (r : Nat → Rw) (x : Int) (w : World) (h1 : Lim w w.heap.size A1 n1 c1 xs1) (h : Raws w w.heap.size A n c r) (h0 : 0 ≤ x) (h255 : x ≤ 255) (l1 : longB b1 n1 xs1 k1 = false) (hn : 12 < n) : Calls Try.prog 3 #[.agg #[.bool b1, .slice A1 n1 c1, .int .i64 k1], .slice A n c, .int .u8 x] w (RetVal w (.bool true)) := by
  have hc := h.cap
  have hm := h.room
  unfold maxLen at hm
  have H1 := Lib.hid h1
  have L1 := Lib.hid l1
  clear h1 h l1
  go_enter Try.func3, Try.ntmps3
  have hrem : x.tmod 12 = x % 12 := Int.tmod_eq_emod_of_nonneg h0
  go_wp2_with fail
  generalize hW : World.alloc w _ = W0
  have E0 : St w W0 [] [(w.heap.size, .bool b1, .slice A1 n1 c1, .int .i64 k1)] := by rw [← hW]; exact (St.start w (l := []) (fun q hq => by cases hq)).lay rfl
  have E := Lib.hid E0
  clear hW E0
  refine (long_is (H1.out.on E.out.bel) L1.out).mono ?_; rintro e w1 ⟨rfl, hb⟩; replace E := Lib.hid (St.step E.out hb); clear hb
  go_wp2_with fail
  refine (awake6 _).mono ?_; rintro e w9 ⟨rfl, hb⟩; replace E := Lib.hid (St.step E.out hb); clear hb
  go_wp2_with fail
  go_ret
  exact ⟨rfl, E.out.bel⟩

def whAT : List Row3 := [(some 86, none, .load 25 (.tmp 14)), (some 87, none, .load 25 (.tmp 8)), (some 88, none, .call { callee := .value (.func 14), args := #[.tmp 86, .tmp 87], argTypes := #[25, 25] }), (some 89, none, .load 25 (.tmp 3)), (some 90, none, .move (.tmp 1)), (some 91, none, .move (.tmp 13)), (some 92, none, .indexAddr 26 (.tmp 90) (.tmp 91)), (some 93, none, .load 25 (.tmp 92)), (some 94, none, .call { callee := .value (.func 14), args := #[.tmp 89, .tmp 93], argTypes := #[25, 25] }), (some 95, none, .call { callee := .value (.func 13), args := #[.tmp 88, .tmp 94], argTypes := #[25, 25] }), (some 96, none, .call { callee := .value (.func 12), args := #[.tmp 95], argTypes := #[25] }), (some 15, none, .alloc 25), (none, none, .store 25 (.tmp 15) (.tmp 96))]
set_option maxRecDepth 100000 in
theorem whARow : (opsAt Try.prog 3 21).toList.map row3 = whAT := by kernel_rfl
theorem whASel : Region.noSelect (opsAt Try.prog 3 21) = true := by kernel_rfl
theorem whADone : Region.ready .any (opsAt Try.prog 3 21) (upto (opsAt Try.prog 3 21).size (opsAt Try.prog 3 21).size []) = [] := by kernel_rfl
theorem whAstill0 : [(0, [], 0), (0, [0], 1), (0, [1, 0], 3), (0, [3, 1, 0], 4), (0, [4, 3, 1, 0], 5), (0, [5, 4, 3, 1, 0], 6), (0, [6, 5, 4, 3, 1, 0], 7)].all (stillB (opsAt Try.prog 3 21)) = true := by kernel_rfl
theorem whAready0 : [(0, [7, 6, 5, 4, 3, 1, 0], [2, 11]), (0, [2, 7, 6, 5, 4, 3, 1, 0], [8, 11]), (0, [8, 2, 7, 6, 5, 4, 3, 1, 0], [9, 11]), (0, [9, 8, 2, 7, 6, 5, 4, 3, 1, 0], [10, 11]), (0, [10, 9, 8, 2, 7, 6, 5, 4, 3, 1, 0], [11]), (0, [11, 10, 9, 8, 2, 7, 6, 5, 4, 3, 1, 0], [12]), (0, [11, 9, 8, 2, 7, 6, 5, 4, 3, 1, 0], [10]), (0, [10, 11, 9, 8, 2, 7, 6, 5, 4, 3, 1, 0], [12]), (0, [11, 8, 2, 7, 6, 5, 4, 3, 1, 0], [9]), (0, [9, 11, 8, 2, 7, 6, 5, 4, 3, 1, 0], [10])].all (readyB (opsAt Try.prog 3 21)) = true := by kernel_rfl
theorem whAready1 : [(0, [10, 9, 11, 8, 2, 7, 6, 5, 4, 3, 1, 0], [12]), (0, [11, 2, 7, 6, 5, 4, 3, 1, 0], [8]), (0, [8, 11, 2, 7, 6, 5, 4, 3, 1, 0], [9]), (0, [9, 8, 11, 2, 7, 6, 5, 4, 3, 1, 0], [10]), (0, [10, 9, 8, 11, 2, 7, 6, 5, 4, 3, 1, 0], [12]), (0, [11, 7, 6, 5, 4, 3, 1, 0], [2]), (0, [2, 11, 7, 6, 5, 4, 3, 1, 0], [8]), (0, [8, 2, 11, 7, 6, 5, 4, 3, 1, 0], [9]), (0, [9, 8, 2, 11, 7, 6, 5, 4, 3, 1, 0], [10]), (0, [10, 9, 8, 2, 11, 7, 6, 5, 4, 3, 1, 0], [12])].all (readyB (opsAt Try.prog 3 21)) = true := by kernel_rfl
theorem whAR : Reg (opsAt Try.prog 3 21) whAT [(0, [], 0), (0, [0], 1), (0, [1, 0], 3), (0, [3, 1, 0], 4), (0, [4, 3, 1, 0], 5), (0, [5, 4, 3, 1, 0], 6), (0, [6, 5, 4, 3, 1, 0], 7)] [] := ⟨whARow, whASel, (all_parts whAstill0 (fun k h => by cases h)), (fun k h => by cases h), whADone⟩
theorem whAB : ∀ q ∈ ([(0, [7, 6, 5, 4, 3, 1, 0], [2, 11]), (0, [2, 7, 6, 5, 4, 3, 1, 0], [8, 11]), (0, [8, 2, 7, 6, 5, 4, 3, 1, 0], [9, 11]), (0, [9, 8, 2, 7, 6, 5, 4, 3, 1, 0], [10, 11]), (0, [10, 9, 8, 2, 7, 6, 5, 4, 3, 1, 0], [11]), (0, [11, 10, 9, 8, 2, 7, 6, 5, 4, 3, 1, 0], [12]), (0, [11, 9, 8, 2, 7, 6, 5, 4, 3, 1, 0], [10]), (0, [10, 11, 9, 8, 2, 7, 6, 5, 4, 3, 1, 0], [12]), (0, [11, 8, 2, 7, 6, 5, 4, 3, 1, 0], [9]), (0, [9, 11, 8, 2, 7, 6, 5, 4, 3, 1, 0], [10]), (0, [10, 9, 11, 8, 2, 7, 6, 5, 4, 3, 1, 0], [12]), (0, [11, 2, 7, 6, 5, 4, 3, 1, 0], [8]), (0, [8, 11, 2, 7, 6, 5, 4, 3, 1, 0], [9]), (0, [9, 8, 11, 2, 7, 6, 5, 4, 3, 1, 0], [10]), (0, [10, 9, 8, 11, 2, 7, 6, 5, 4, 3, 1, 0], [12]), (0, [11, 7, 6, 5, 4, 3, 1, 0], [2]), (0, [2, 11, 7, 6, 5, 4, 3, 1, 0], [8]), (0, [8, 2, 11, 7, 6, 5, 4, 3, 1, 0], [9]), (0, [9, 8, 2, 11, 7, 6, 5, 4, 3, 1, 0], [10]), (0, [10, 9, 8, 2, 11, 7, 6, 5, 4, 3, 1, 0], [12])] : List Spot4), readyB (opsAt Try.prog 3 21) q = true := (all_parts4 whAready0 (all_parts4 whAready1 (fun k h => by cases h)))

def whCT : List Row3 := [(some 97, none, .fieldAddr 25 (.tmp 14) 2), (some 98, none, .load 3 (.tmp 97)), (some 99, none, .move (.tmp 7)), (some 100, none, .binOp .neq 3 (.tmp 98) (.tmp 99) 3), (some 101, none, .move (.tmp 100)), (some 102, some (4, false), .load 25 (.tmp 15)), (some 103, some (4, false), .load 25 (.tmp 8)), (some 104, some (4, false), .move (.tmp 7)), (some 105, some (4, false), .call { callee := .value (.func 16), args := #[.tmp 104], argTypes := #[3] }), (some 106, some (4, false), .call { callee := .value (.func 14), args := #[.tmp 103, .tmp 105], argTypes := #[25, 25] }), (some 107, some (4, false), .call { callee := .value (.func 15), args := #[.tmp 102, .tmp 106], argTypes := #[25, 25] }), (some 108, some (4, false), .binOp .geq 3 (.tmp 107) (.const (.int .i64 0)) 3), (some 109, none, .pick (.tmp 101) (.const (.bool true)) (.tmp 108)), (some 110, none, .move (.tmp 109)), (some 111, some (13, false), .move (.tmp 1)), (some 112, some (13, false), .move (.tmp 13)), (some 113, some (13, false), .indexAddr 26 (.tmp 111) (.tmp 112)), (some 114, some (13, false), .load 25 (.tmp 113)), (some 115, some (13, false), .call { callee := .value (.func 9), args := #[.tmp 114], argTypes := #[25] }), (some 116, some (13, false), .binOp .eql 3 (.tmp 115) (.const (.int .i64 0)) 3), (some 117, some (13, false), .move (.tmp 116)), (some 118, some (20, true), .load 25 (.tmp 14)), (some 119, some (20, true), .call { callee := .value (.func 9), args := #[.tmp 118], argTypes := #[25] }), (some 120, some (20, true), .binOp .neq 3 (.tmp 119) (.const (.int .i64 0)) 3), (some 121, some (13, false), .pick (.tmp 117) (.tmp 120) (.const (.bool false))), (some 122, none, .pick (.tmp 110) (.const (.bool true)) (.tmp 121))]
set_option maxRecDepth 100000 in
theorem whCRow : (opsAt Try.prog 3 22).toList.map row3 = whCT := by kernel_rfl
theorem whCSel : Region.noSelect (opsAt Try.prog 3 22) = true := by kernel_rfl
theorem whCDone : Region.ready .any (opsAt Try.prog 3 22) (upto (opsAt Try.prog 3 22).size (opsAt Try.prog 3 22).size []) = [] := by kernel_rfl
theorem whCstill0 : [(0, [], 0), (1, [], 1), (2, [], 2), (3, [], 3), (4, [], 4), (5, [], 5), (6, [], 6), (7, [], 7), (11, [], 11), (12, [], 12)].all (stillB (opsAt Try.prog 3 22)) = true := by kernel_rfl
theorem whCstill1 : [(13, [], 13), (14, [], 14), (15, [], 15), (16, [], 16), (17, [], 17), (19, [], 19), (20, [], 20), (21, [], 21), (23, [], 23), (24, [], 24)].all (stillB (opsAt Try.prog 3 22)) = true := by kernel_rfl
theorem whCstill2 : [(25, [], 25)].all (stillB (opsAt Try.prog 3 22)) = true := by kernel_rfl
theorem whCsole0 : [(8, [], 8), (9, [], 9), (10, [], 10), (18, [], 18), (22, [], 22)].all (soleB (opsAt Try.prog 3 22)) = true := by kernel_rfl
theorem whCR : Reg (opsAt Try.prog 3 22) whCT [(0, [], 0), (1, [], 1), (2, [], 2), (3, [], 3), (4, [], 4), (5, [], 5), (6, [], 6), (7, [], 7), (11, [], 11), (12, [], 12), (13, [], 13), (14, [], 14), (15, [], 15), (16, [], 16), (17, [], 17), (19, [], 19), (20, [], 20), (21, [], 21), (23, [], 23), (24, [], 24), (25, [], 25)] [(8, [], 8), (9, [], 9), (10, [], 10), (18, [], 18), (22, [], 22)] := ⟨whCRow, whCSel, (all_parts whCstill0 (all_parts whCstill1 (all_parts whCstill2 (fun k h => by cases h)))), (all_parts whCsole0 (fun k h => by cases h)), whCDone⟩

def whBT : List Row3 := [(some 97, none, .fieldAddr 25 (.tmp 14) 2), (some 98, none, .load 3 (.tmp 97)), (some 99, none, .move (.tmp 7)), (some 100, none, .binOp .neq 3 (.tmp 98) (.tmp 99) 3), (some 101, none, .move (.tmp 100)), (some 102, some (4, false), .load 25 (.tmp 15)), (some 103, some (4, false), .load 25 (.tmp 8)), (some 104, some (4, false), .move (.tmp 7)), (some 105, some (4, false), .call { callee := .value (.func 16), args := #[.tmp 104], argTypes := #[3] }), (some 106, some (4, false), .call { callee := .value (.func 14), args := #[.tmp 103, .tmp 105], argTypes := #[25, 25] }), (some 107, some (4, false), .call { callee := .value (.func 15), args := #[.tmp 102, .tmp 106], argTypes := #[25, 25] }), (some 108, some (4, false), .binOp .geq 3 (.tmp 107) (.const (.int .i64 0)) 3), (some 109, none, .pick (.tmp 101) (.const (.bool true)) (.tmp 108)), (some 110, none, .move (.tmp 109)), (some 111, some (13, false), .move (.tmp 1)), (some 112, some (13, false), .move (.tmp 13)), (some 113, some (13, false), .indexAddr 26 (.tmp 111) (.tmp 112)), (some 114, some (13, false), .load 25 (.tmp 113)), (some 115, some (13, false), .call { callee := .value (.func 9), args := #[.tmp 114], argTypes := #[25] }), (some 116, some (13, false), .binOp .eql 3 (.tmp 115) (.const (.int .i64 0)) 3), (some 117, some (13, false), .move (.tmp 116)), (some 118, some (20, true), .load 25 (.tmp 14)), (some 119, some (20, true), .call { callee := .value (.func 9), args := #[.tmp 118], argTypes := #[25] }), (some 120, some (20, true), .binOp .neq 3 (.tmp 119) (.const (.int .i64 0)) 3), (some 121, some (13, false), .pick (.tmp 117) (.tmp 120) (.const (.bool false))), (some 122, none, .pick (.tmp 110) (.const (.bool true)) (.tmp 121))]
set_option maxRecDepth 100000 in
theorem whBRow : (opsAt Try.prog 3 22).toList.map row3 = whBT := by kernel_rfl
theorem whBSel : Region.noSelect (opsAt Try.prog 3 22) = true := by kernel_rfl
theorem whBDone : Region.ready .any (opsAt Try.prog 3 22) (upto (opsAt Try.prog 3 22).size (opsAt Try.prog 3 22).size []) = [] := by kernel_rfl
theorem whBstill0 : [(0, [], 0), (1, [], 1), (2, [], 2), (3, [], 3), (4, [], 4), (5, [], 5), (6, [], 6), (7, [], 7), (11, [], 11), (12, [], 12)].all (stillB (opsAt Try.prog 3 22)) = true := by kernel_rfl
theorem whBstill1 : [(13, [], 13), (14, [], 14), (15, [], 15), (16, [], 16), (17, [], 17), (19, [], 19), (20, [], 20), (21, [], 21), (23, [], 23), (24, [], 24)].all (stillB (opsAt Try.prog 3 22)) = true := by kernel_rfl
theorem whBstill2 : [(25, [], 25)].all (stillB (opsAt Try.prog 3 22)) = true := by kernel_rfl
theorem whBsole0 : [(8, [], 8), (9, [], 9), (10, [], 10), (18, [], 18), (22, [], 22)].all (soleB (opsAt Try.prog 3 22)) = true := by kernel_rfl
theorem whBR : Reg (opsAt Try.prog 3 22) whBT [(0, [], 0), (1, [], 1), (2, [], 2), (3, [], 3), (4, [], 4), (5, [], 5), (6, [], 6), (7, [], 7), (11, [], 11), (12, [], 12), (13, [], 13), (14, [], 14), (15, [], 15), (16, [], 16), (17, [], 17), (19, [], 19), (20, [], 20), (21, [], 21), (23, [], 23), (24, [], 24), (25, [], 25)] [(8, [], 8), (9, [], 9), (10, [], 10), (18, [], 18), (22, [], 22)] := ⟨whBRow, whBSel, (all_parts whBstill0 (all_parts whBstill1 (all_parts whBstill2 (fun k h => by cases h)))), (all_parts whBsole0 (fun k h => by cases h)), whBDone⟩

set_option maxHeartbeats 16000000 in
set_option maxRecDepth 100000 in
theorem whole_main (Aa : Option Addr) (na ca s : Nat) (i : Int) (A : Option Addr) (n c : Nat) (r : Nat → Rw) (x : Int) (w : World) (h1 : Num w w.heap.size Aa na ca i.natAbs) (m1 : na ≤ 12) (t1 : s ≤ 60) (h : Raws w w.heap.size A n c r) (h0 : 0 ≤ x) (h255 : x ≤ 255) (hn : n ≤ 12) : Calls Try.prog 3 #[.agg #[.bool (ngB i), .slice Aa na ca, .int .i64 (s : Int)], .slice A n c, .int .u8 x] w (RetVal w (.bool true)) := by
  have hc := h.cap
  have hm := h.room
  unfold maxLen at hm
  obtain ⟨k1, hk1, hgood, hend⟩ := first_bad (fun j => longR r j || (r j).b) n
  replace hend : k1 = n ∨ (k1 < n ∧ (longR r k1 || (r k1).b) = true) := by
    rcases Nat.lt_or_ge k1 n with h2 | h2
    · rcases hend with h3 | h3
      · omega
      · exact .inr ⟨h2, h3⟩
    · exact .inl (by omega)
  obtain ⟨d, hD, hd⟩ := (h.take hk1).decs (fun j hj => by have h2 := hgood j hj; simp only [Bool.or_eq_false_iff] at h2; exact h2.1)
  have hneg : ∀ j, j < k1 → 0 ≤ (d j).1 := fun j hj => by
    have h2 := hgood j hj
    simp only [Bool.or_eq_false_iff] at h2
    have h3 := (hd j hj).1
    rw [h2.2] at h3
    have h4 := of_decide_eq_false (show decide ((d j).1 < 0) = false from h3.symm)
    omega
  obtain ⟨S, hS⟩ : ∃ S : Nat, x % 12 = (S : Int) := ⟨(x % 12).toNat, by omega⟩
  have hS11 : S ≤ 11 := by omega
  have HR := Lib.hid hS
  have HV : Hid (max (S : Int) 0 = (S : Int)) := by show _ = _; omega
  obtain ⟨T, hT⟩ : ∃ T, quantZ i s S = T := ⟨_, rfl⟩
  have HZ := Lib.hid hT
  have HTL : Hid ((dg T.natAbs).length ≤ 300) := by
    show _ ≤ _
    have z1 : Sz i s 108 := Sz.of_len (by have := h1.len; omega : (dg i.natAbs).length ≤ 12)
    have z2 := (z1.quant S).len
    rw [hT] at z2
    omega
  have HTQ : Hid (quantZ (T.natAbs : Int) S S = ((T.natAbs : Nat) : Int)) := quant_again _ _
  have HRW := Lib.hid h
  have HD := Lib.hid hD
  have HNEG := Lib.hid hneg
  have HEND := Lib.hid hend
  have H1 := Lib.hid h1
  have N1 : Hid (longB (ngB i) na (dg i.natAbs) (s : Int) = false) := not_long h1 m1 t1
  have SH : Hid (Short d k1) := hD.short
  have HS1 : Hid (∀ k, k ≤ k1 → sumS d k ≤ 60 ∧ (dg (sumI d k).natAbs).length ≤ 170) := fun k hk => SH.out.sum hk (by omega)
  clear hgood hd hneg hend h hD hS h1 hT
  go_enter Try.func3, Try.ntmps3
  have hrem : x.tmod 12 = x % 12 := Int.tmod_eq_emod_of_nonneg h0
  rw [HR.out] at hrem
  go_wp2_with fail
  generalize hW : World.alloc w _ = W0
  have E0 : St w W0 [(Aa, na, ca, (i).natAbs)] [(w.heap.size, (.bool (ngB i)), (.slice Aa na ca), (.int .i64 (s : Int)))] := by rw [← hW]; exact (start_one H1.out).lay rfl
  have E := Lib.hid E0
  clear hW E0
  refine (long_is (St.got E (A := Aa) (n := na) (c := ca) (a := (i).natAbs) (by simp)) N1.out).mono ?_; rintro e w1 ⟨rfl, hb⟩; replace E := Lib.hid (St.step E.out hb); clear hb
  have LT : Hid (w.heap.size < w1.heap.size) := (St.at_ (x0 := (.bool (ngB i))) (x1 := (.slice Aa na ca)) (x2 := (.int .i64 (s : Int))) (g := w.heap.size) E (by simp)).lt
  go_wp2_with fail
  replace E := Lib.hid (St.lay (t := 25) (x0 := .bool false) (x1 := .slice none 0 0) (x2 := .int .i64 0) (g := w1.heap.size) (St.push E.out (Below.refl _ _) (num_none _ _)) rfl)
  generalize hW2 : World.alloc w1 _ = W2 at E ⊢
  clear hW2
  go_loopw [30] (fun iv wr => ∃ (k : Nat) (Aw : Option Addr) (nw cw : Nat), k ≤ k1 ∧ iv = .int .i64 k ∧ St w wr [(Aw, nw, cw, (sumI d k).natAbs), (Aa, na, ca, (i).natAbs)] [(w1.heap.size, .bool (ngB (sumI d k)), .slice Aw nw cw, .int .i64 (sumS d k : Int)), (w.heap.size, (.bool (ngB i)), (.slice Aa na ca), (.int .i64 (s : Int)))]) (fun iv _ => n + 1 - (intOf iv).toNat)
  case atStart => exact ⟨0, none, 0, 0, Nat.zero_le _, rfl, E.out⟩
  case round =>
    obtain ⟨k, Aw, nw, cw, hkk, rfl, hE⟩ := hrel
    clear E
    have E := Lib.hid hE
    clear hE
    have hs60 := (HS1.out k hkk).1
    have hw170 : nw ≤ 170 := len_le (E.out.num (Aw, nw, cw, (sumI d k).natAbs) (by simp)) (HS1.out k hkk).2
    rcases Nat.lt_or_ge k k1 with hlt | hge
    · have hkn : k < n := by omega
      obtain ⟨b, f0, rfl, _, _, _, _⟩ := HRW.out.at_ hkn
      obtain ⟨ik, sk, Ak, nk, ck, hdk, Ck, Nk, mk, tk⟩ := HD.out.spotY hlt
      have hik : 0 ≤ ik := by have h2 := HNEG.out k hlt; rw [hdk] at h2; exact h2
      obtain ⟨a, rfl⟩ : ∃ a : Nat, ik = (a : Int) := ⟨ik.toNat, by omega⟩
      have NL : Hid (longB false nk (dg (a : Int).natAbs) (sk : Int) = false) := by have h2 := not_long Nk mk tk; rw [ng_nat] at h2; exact h2
      have Ck2 := Ck.on E.out.bel
      rw [ng_nat] at Ck2
      obtain ⟨y0, y1, y2, _⟩ := Ck2
      replace E := Lib.hid (E.out.push (Below.refl _ _) (Nk.on E.out.bel))
      obtain ⟨I1, hI1⟩ : ∃ I1, sumI d (k + 1) = I1 := ⟨_, rfl⟩
      obtain ⟨S1, hS1⟩ : ∃ S1, sumS d (k + 1) = S1 := ⟨_, rfl⟩
      have HX : Hid (addZ (sumI d k) (sumS d k) (a : Int) sk = I1) := by
        show _ = _
        rw [← hI1]; show _ = addZ (sumI d k) (sumS d k) (d k).1 (d k).2
        rw [hdk]
      have HM : Hid (max (sumS d k) sk = S1) := by
        show _ = _
        rw [← hS1]; show _ = max (sumS d k) (d k).2
        rw [hdk]
      have HI1 := Lib.hid hI1
      have HS2 := Lib.hid hS1
      obtain ⟨I0, hI0⟩ : ∃ I0, sumI d k = I0 := ⟨_, rfl⟩
      obtain ⟨S0, hS0⟩ : ∃ S0, sumS d k = S0 := ⟨_, rfl⟩
      rw [hI0, hS0] at E HX
      rw [hS0] at HM hs60
      clear Ck Nk hdk hI1 hS1 hI0 hS0
      go_wp2_with fail
      replace E := Lib.hid (St.lay (t := 25) (x0 := .bool false) (x1 := .slice Ak nk ck) (x2 := .int .i64 (sk : Int)) (g := wr.heap.size) E.out rfl)
      refine (long_is (St.got E (A := Ak) (n := nk) (c := ck) (a := (a : Int).natAbs) (by simp)) NL.out).mono ?_; rintro e w2 ⟨rfl, hb⟩; replace E := Lib.hid (St.step E.out hb); clear hb
      clear y0 y1 y2
      obtain ⟨p0, p1, p2, pf0, pf1, pf2, plt⟩ := St.at_ (x0 := .bool false) (x1 := .slice Ak nk ck) (x2 := .int .i64 (sk : Int)) (g := wr.heap.size) E (by simp)
      obtain ⟨q0, q1, q2, qf0, qf1, qf2, qlt⟩ := St.at_ (x0 := .bool (ngB I0)) (x1 := .slice Aw nw cw) (x2 := .int .i64 (S0 : Int)) (g := w1.heap.size) E (by simp)
      go_wp2_with fail
      have AD := add_is5 (i := I0) (s := S0) (j := (a : Int)) (t := sk) (St.got E (A := Aw) (n := nw) (c := cw) (a := I0.natAbs) (by simp)) (St.got E (A := Ak) (n := nk) (c := ck) (a := (a : Int).natAbs) (by simp)) (by omega) (by omega) (by omega) (by omega) HM.out HX.out
      rw [ng_nat] at AD
      refine AD.mono ?_; clear AD; rintro e w3 ⟨A3, n3, c3, rfl, h3, hb⟩
      replace E := Lib.hid (St.push E.out hb h3)
      clear h3 hb p0 p1 p2 pf0 pf1 pf2 plt q0 q1 q2 qf0 qf1 qf2 qlt
      obtain ⟨q0, q1, q2, qf0, qf1, qf2, qlt⟩ := St.at_ (x0 := .bool (ngB I0)) (x1 := .slice Aw nw cw) (x2 := .int .i64 (S0 : Int)) (g := w1.heap.size) E (by simp)
      go_wp2_with fail
      replace E := Lib.hid (St.store E.out (g := w1.heap.size) (x0 := .bool (ngB I0)) (x1 := .slice Aw nw cw) (x2 := .int .i64 (S0 : Int)) (by simp) (noLimb_bool _) (noLimb_slice _ _ _) (noLimb_int _) [(w.heap.size, (.bool (ngB i)), (.slice Aa na ca), (.int .i64 (s : Int)))] (by have := LT.out; simp; omega) (.bool (ngB I1)) (.slice A3 n3 c3) (.int .i64 (S1 : Int)))
      clear q0 q1 q2 qf0 qf1 qf2 qlt
      go_roundw
      case rel =>
        refine ⟨k + 1, A3, n3, c3, by omega, by go_num, ?_⟩
        rw [HI1.out, HS2.out]
        exact E.out.sub (by simp) (by simp)
      case measure => simp [intOf]; omega
    · obtain rfl : k = k1 := by omega
      rcases HEND.out with hkn | ⟨hkn, hbad⟩
      · subst hkn
        obtain ⟨P, hP⟩ : ∃ P, sumI d k = P := ⟨_, rfl⟩
        obtain ⟨t, ht⟩ : ∃ t, sumS d k = t := ⟨_, rfl⟩
        have HPL : Hid ((dg P.natAbs).length ≤ 170) := by show _ ≤ _; rw [← hP]; exact (HS1.out k (Nat.le_refl _)).2
        rw [hP, ht] at E
        rw [ht] at hs60
        have HP := Lib.hid hP
        have HT := Lib.hid ht
        clear hP ht
        obtain ⟨pa, pb, pc, pd, pe, pf, pg⟩ := St.at_ (x0 := (.bool (ngB i))) (x1 := (.slice Aa na ca)) (x2 := (.int .i64 (s : Int))) (g := w.heap.size) E (by simp)
        go_wp2_with fail
        refine (quant_is (St.got E (A := Aa) (n := na) (c := ca) (a := (i).natAbs) (by simp)) (by omega) (by omega) HV.out (by omega) HZ.out).mono ?_; rintro e w4 ⟨At, nt, ct, rfl, h4, hb⟩
        have hnt : nt ≤ 300 := len_le h4 HTL.out
        replace E := Lib.hid (St.push E.out hb h4)
        clear h4 hb
        clear pa pb pc pd pe pf pg
        obtain ⟨pa, pb, pc, pd, pe, pf, pg⟩ := St.at_ (x0 := (.bool (ngB i))) (x1 := (.slice Aa na ca)) (x2 := (.int .i64 (s : Int))) (g := w.heap.size) E (by simp)
        go_wp2_with fail
        replace E := Lib.hid (St.store E.out (g := w.heap.size) (x0 := (.bool (ngB i))) (x1 := (.slice Aa na ca)) (x2 := (.int .i64 (s : Int))) (by simp) (noLimb_bool _) (noLimb_slice _ _ _) (noLimb_int _) [(w1.heap.size, (.bool (ngB P)), (.slice Aw nw cw), (.int .i64 (t : Int)))] (by have := LT.out; simp; omega) (.bool (ngB T)) (.slice At nt ct) (.int .i64 (S : Int)))
        unfold put3 at E
        clear pa pb pc pd pe pf pg
        generalize World.setCell (World.setCell (World.setCell w4 _ _) _ _) _ _ = V4 at E ⊢
        by_cases hp : ∃ j, j < k ∧ 0 < (d j).1
        ·
          have HPO := Lib.hid hp
          clear hp
          have HSG : Hid (P.sign = 1) := by show _ = _; rw [← HP.out]; exact sum_above HNEG.out HPO.out
          have HSM : Hid ((cmpD T S T S == 0) = true) := by show _ = _; rw [cmpD_self]; rfl
          have HWP : Hid (0 < wholeW d k) := whole_pos HNEG.out HPO.out
          have hk0 : 0 < k := by obtain ⟨j, hj, _⟩ := HPO.out; omega
          refine (alloc_any At A nt ct S k c S T.natAbs T (S : Int) d _ _ (St.got E (A := At) (n := nt) (c := ct) (a := (T).natAbs) (by simp)) (by omega) (by omega) (HD.out.on E.out.bel) (by omega) HV.out (by omega) HNEG.out HPO.out (exact_self _ _) HTQ.out HTL.out).mono ?_
          rintro e w5 ⟨zs, K0, g, cs, l, hL, rfl, hll, hmc, hcm, hQ, hdl, hnum, hb⟩
          have LF := Lib.hid hL
          have HLL := Lib.hid hll
          have HCM := Lib.hid hcm
          have HDL := Lib.hid hdl
          have SQ : Hid (Shares w5 g l (shareN T.natAbs d k zs K0) k) := ⟨hQ, hnum⟩
          unfold maxLen at hcm
          replace E := Lib.hid (St.step E.out hb)
          clear hL hll hQ hdl hnum hb
          obtain ⟨pa, pb, pc, pd, pe, pf, pg⟩ := St.at_ (x0 := (.bool (ngB P))) (x1 := (.slice Aw nw cw)) (x2 := (.int .i64 (t : Int))) (g := w1.heap.size) E (by simp)
          go_wp2_with fail
          refine (sign_is (St.got E (A := Aw) (n := nw) (c := cw) (a := (P).natAbs) (by simp)) HSG.out).mono ?_; rintro e w6 ⟨rfl, hb⟩
          replace SQ := Lib.hid (SQ.out.on hb)
          replace E := Lib.hid (St.step E.out hb)
          clear hb
          clear pa pb pc pd pe pf pg
          go_wp2_with fail
          replace SQ := Lib.hid (SQ.out.on (Below.refl _ _).drew)
          replace E := Lib.hid (St.drew E.out)
          go_region_held3 (fun v => v.cell? ⟨w.heap.size, 0, none⟩ = some (.bool (ngB T)) ∧ v.cell? ⟨w.heap.size, 1, none⟩ = some (.slice At nt ct) ∧ v.cell? ⟨w.heap.size, 2, none⟩ = some (.int .i64 (S : Int))) (first | (have X0 := St.at_ (x0 := (.bool (ngB T))) (x1 := (.slice At nt ct)) (x2 := (.int .i64 (S : Int))) (g := w.heap.size) E (by simp); with_reducible exact ⟨X0.c0, X0.c1, X0.c2⟩))
            (first | (go_at_call 11; (with_reducible refine (sum_shares LF.out SQ.out HLL.out hmc HCM.out hk0 HDL.out (by omega) HTL.out).mono ?_); rintro e w7 ⟨A7, n7, c7, rfl, h7, hb7⟩; have b7 : n7 ≤ 300 := len_le h7 HTL.out; replace SQ := Lib.hid (SQ.out.on hb7); replace E := Lib.hid (St.push E.out hb7 h7); clear h7 hb7) | (go_at_call 10; (with_reducible refine (same_is5 (i := T) (s := S) (j := T) (t := S) (St.got E (A := A7) (n := n7) (c := c7) (a := T.natAbs) (by simp)) (St.got E (A := At) (n := nt) (c := ct) (a := (T).natAbs) (by simp)) (by omega) (by omega) (by omega) (by omega) HSM.out).mono ?_); rintro e w8 ⟨rfl, hb8⟩; replace SQ := Lib.hid (SQ.out.on hb8); replace E := Lib.hid (St.step E.out hb8); clear hb8))
          go_wp2_with fail
          have BE : Hid (Below w.heap.size w w8) := E.out.bel
          have BT : Hid (Box w8 w.heap.size (.bool (ngB T)) (.slice At nt ct) (.int .i64 (S : Int))) := St.at_ E (by simp)
          have BP : Hid (Box w8 w1.heap.size (.bool (ngB P)) (.slice Aw nw cw) (.int .i64 (t : Int))) := St.at_ E (by simp)
          have HDW := Lib.hid (HD.out.on E.out.bel)
          have hka : A = none → c = 0 := HDW.out.addr
          have E2 : Hid (St w8 w8 [(At, nt, ct, (T).natAbs), (Aw, nw, cw, (P).natAbs)] []) := ⟨Below.refl _ _, (E.out.sub (l' := [(At, nt, ct, (T).natAbs), (Aw, nw, cw, (P).natAbs)]) (bs' := []) (by simp) (by simp)).num, fun q hq => by cases hq⟩
          clear HD HRW H1 SH N1 HEND HZ HTQ
          refine wp_loop_ghost (fun (R : Nat) (a : Act) (w' : World) => ∃ q : Nat, q ≤ k ∧ R = k - q ∧ Fr 125 a [(1, .slice A k c), (3, .pointer (some ⟨w.heap.size, 0, none⟩)), (7, .int .i64 (S : Int)), (8, .pointer (some ⟨w1.heap.size, 0, none⟩)), (79, .slice (some ⟨g, 0, none⟩) k cs), (80, .int .i64 (k : Int)), (81, .int .i64 (q : Int))] ∧ Hid (St w8 w' [(At, nt, ct, (T).natAbs), (Aw, nw, cw, (P).natAbs)] [])) k ⟨0, Nat.zero_le _, rfl, ⟨rfl, rfl, by intro q hq; simp at hq; rcases hq with rfl | rfl | rfl | rfl | rfl | rfl | rfl <;> first | rfl | simp⟩, E2⟩ ?_
          clear E E2 hka
          rintro R a V ⟨q, hq, rfl, ha, E⟩
          obtain ⟨us, rfl, hu⟩ := ha.listY
          have eu1 : us 1 = .slice A k c := hu (1, .slice A k c) (by simp)
          have eu3 : us 3 = .pointer (some ⟨w.heap.size, 0, none⟩) := hu (3, .pointer (some ⟨w.heap.size, 0, none⟩)) (by simp)
          have eu7 : us 7 = .int .i64 (S : Int) := hu (7, .int .i64 (S : Int)) (by simp)
          have eu8 : us 8 = .pointer (some ⟨w1.heap.size, 0, none⟩) := hu (8, .pointer (some ⟨w1.heap.size, 0, none⟩)) (by simp)
          have eu79 : us 79 = .slice (some ⟨g, 0, none⟩) k cs := hu (79, .slice (some ⟨g, 0, none⟩) k cs) (by simp)
          have eu80 : us 80 = .int .i64 (k : Int) := hu (80, .int .i64 (k : Int)) (by simp)
          have eu81 : us 81 = .int .i64 (q : Int) := hu (81, .int .i64 (q : Int)) (by simp)
          rw [show (List.range 125).map us = [us 0, us 1, us 2, us 3, us 4, us 5, us 6, us 7, us 8, us 9, us 10, us 11, us 12, us 13, us 14, us 15, us 16, us 17, us 18, us 19, us 20, us 21, us 22, us 23, us 24, us 25, us 26, us 27, us 28, us 29, us 30, us 31, us 32, us 33, us 34, us 35, us 36, us 37, us 38, us 39, us 40, us 41, us 42, us 43, us 44, us 45, us 46, us 47, us 48, us 49, us 50, us 51, us 52, us 53, us 54, us 55, us 56, us 57, us 58, us 59, us 60, us 61, us 62, us 63, us 64, us 65, us 66, us 67, us 68, us 69, us 70, us 71, us 72, us 73, us 74, us 75, us 76, us 77, us 78, us 79, us 80, us 81, us 82, us 83, us 84, us 85, us 86, us 87, us 88, us 89, us 90, us 91, us 92, us 93, us 94, us 95, us 96, us 97, us 98, us 99, us 100, us 101, us 102, us 103, us 104, us 105, us 106, us 107, us 108, us 109, us 110, us 111, us 112, us 113, us 114, us 115, us 116, us 117, us 118, us 119, us 120, us 121, us 122, us 123, us 124] from rfl, eu1, eu3, eu7, eu8, eu79, eu80, eu81]
          clear hu ha eu1 eu3 eu7 eu8 eu79 eu80 eu81
          rcases Nat.lt_or_ge q k with hlt | hge
          ·
            obtain ⟨b, f0, rfl, _, _, _, _⟩ := HDW.out.at_ hlt
            obtain ⟨iq, sq, Aq, nq, cq, hdq, Cq, Nq, mq, tq⟩ := HDW.out.spotY hlt
            have HCQ := Lib.hid Cq
            have HNQ := Lib.hid Nq
            have htl : q < l.length := by rw [HLL.out]; exact hlt
            obtain ⟨y, hy⟩ : ∃ y, sgn (ngB T) (shareN T.natAbs d k zs K0 q) = y := ⟨_, rfl⟩
            have DT := HDL.out q hlt
            rw [hy] at DT
            obtain ⟨Ay, ny, cy, PT⟩ : ∃ Ap np cp, pOf l q = (Ap, np, cp) := ⟨_, _, _, rfl⟩
            have NY : Hid (Num w8 w8.heap.size Ay ny cy y.natAbs) := by
              have e := SQ.out.2 q hlt
              rw [PT] at e
              show Num _ _ _ _ _ _
              rw [← hy, abs_sgn]; exact e
            have HYL : Hid ((dg y.natAbs).length ≤ 300) := by show _ ≤ _; rw [← hy, abs_sgn]; exact Nat.le_trans (dg_len_mono (share_le LF.out (Nat.le_refl _) hlt)) HTL.out
            have hny : ny ≤ 300 := len_le NY.out HYL.out
            have HZERO : iq = 0 → y = 0 := fun h2 => by
              rw [← hy, part_none (j := q) LF.out (by rw [hdq]; exact h2)]; exact sgn_zero _
            obtain ⟨y0, y1, y2⟩ := (SQ.out.1.on E.out.bel).spot htl DT PT
            have zy : Sz y S 2700 := Sz.of_len HYL.out
            have zP : Sz P t 1530 := Sz.of_len HPL.out
            have zT : Sz T S 2700 := Sz.of_len HTL.out
            have zq : Sz iq sq 108 := Sz.of_len (by have := Nq.len; omega : (dg iq.natAbs).length ≤ 12)
            obtain ⟨x1, hx1⟩ : ∃ rr, y * P = rr := ⟨_, rfl⟩
            obtain ⟨s1, hs1⟩ : ∃ rr, S + t = rr := ⟨_, rfl⟩
            obtain ⟨x2, hx2⟩ : ∃ rr, T * iq = rr := ⟨_, rfl⟩
            obtain ⟨s2, hs2⟩ : ∃ rr, S + sq = rr := ⟨_, rfl⟩
            obtain ⟨x3, hx3⟩ : ∃ rr, subZ x1 s1 x2 s2 = rr := ⟨_, rfl⟩
            obtain ⟨s3, hs3⟩ : ∃ rr, max s1 s2 = rr := ⟨_, rfl⟩
            obtain ⟨x4, hx4⟩ : ∃ rr : Int, (x3.natAbs : Int) = rr := ⟨_, rfl⟩
            obtain ⟨x5, hx5⟩ : ∃ rr, P * 1 = rr := ⟨_, rfl⟩
            obtain ⟨s5, hs5⟩ : ∃ rr, t + S = rr := ⟨_, rfl⟩
            obtain ⟨zc, hzc⟩ : ∃ rr, cmpD x4 s3 x5 s5 = rr := ⟨_, rfl⟩
            obtain ⟨zs1, hzs⟩ : ∃ rr, iq.sign = rr := ⟨_, rfl⟩
            have z1 : Sz x1 s1 4230 := by rw [← hx1, ← hs1]; exact (zy.mul zP).mono (by decide)
            have z2 : Sz x2 s2 2808 := by rw [← hx2, ← hs2]; exact (zT.mul zq).mono (by decide)
            have z3 : Sz x3 s3 4231 := by rw [← hx3, ← hs3]; exact (z1.sub z2).mono (by decide)
            have z4 : Sz x4 s3 4231 := by rw [← hx4]; exact z3.abs
            have u1 : s1 ≤ 71 := by omega
            have u2 : s2 ≤ 71 := by omega
            have u3 : s3 ≤ 71 := by omega
            have u5 : s5 ≤ 71 := by omega
            have HL1 : Hid ((dg x1.natAbs).length ≤ 4400) := by show _ ≤ _; have := z1.len; omega
            have HL2 : Hid ((dg x2.natAbs).length ≤ 4400) := by show _ ≤ _; have := z2.len; omega
            have HL3 : Hid ((dg x3.natAbs).length ≤ 4400) := by show _ ≤ _; have := z3.len; omega
            have HL4 : Hid ((dg x4.natAbs).length ≤ 4400) := by show _ ≤ _; have := z4.len; omega
            have HL5 : Hid ((dg x5.natAbs).length ≤ 170) := by show _ ≤ _; rw [← hx5, Int.mul_one]; exact HPL.out
            have O1 : Hid ((dg (1 : Int).natAbs).length ≤ 1) := (by show _ ≤ _; exact dg_len_le (by decide))
            have D3 : Hid (((S : Int) != (S : Int)) = false) := by show _ = _; simp
            have DC : Hid (decide (0 ≤ zc) = false) := by
              have e := off_lt (b := ngB T) (n := S) LF.out HNEG.out HWP.out hlt
              rw [hy, sgn_ng, hdq, HP.out, HT.out] at e
              simp only at e
              rw [hx1, hs1, hx2, hs2, hx3, hs3, hx4, hx5, hs5, hzc] at e
              exact decide_eq_false (by omega)
            have HX1 := Lib.hid hx1
            have HX2 := Lib.hid hx2
            have HX3 := Lib.hid hx3
            have HX4 := Lib.hid hx4
            have HX5 := Lib.hid hx5
            have HS1' := Lib.hid hs1
            have HS2' := Lib.hid hs2
            have HS3' := Lib.hid hs3
            have HS5' := Lib.hid hs5
            have HZC := Lib.hid hzc
            have HZS := Lib.hid hzs
            have HKC : Hid (k ≤ c) := HDW.out.cap
            have HCM2 : Hid (c ≤ maxLen) := HDW.out.room
            have HZR := Lib.hid HZERO
            have i1 : (0 : Int) ≤ (q : Int) := by omega
            have i2 : (q : Int) < (k : Int) := by omega
            replace E := Lib.hid ((E.out.push (Below.refl _ _) (HNQ.out.on E.out.bel)).push (Below.refl _ _) (NY.out.on E.out.bel))
            clear hx1 hx2 hx3 hx4 hx5 hs1 hs2 hs3 hs5 hzc hzs zy zP zT zq z1 z2 z3 z4 DT PT hy Cq Nq hdq HZERO
            go_wp2_with fail
            replace E := Lib.hid (St.lay (t := 25) (x0 := (.bool (ngB y))) (x1 := (.slice Ay ny cy)) (x2 := (.int .i64 (S : Int))) (g := V.heap.size) E.out rfl)
            generalize hW : World.alloc V _ = V2 at E ⊢
            clear hW y0 y1 y2 i1 i2
            rename_i KA hKA KB hKB
            replace E := Lib.hid (St.drew E.out)
            refine wp_cut (fun a' w' => ∃ (g15 : Nat) (A9 : Option Addr) (n9 c9 : Nat), Fr 125 a' [(1, .slice (some ⟨b, f0, none⟩) k c), (3, .pointer (some ⟨w.heap.size, 0, none⟩)), (7, .int .i64 (S : Int)), (8, .pointer (some ⟨w1.heap.size, 0, none⟩)), (79, .slice (some ⟨g, 0, none⟩) k cs), (80, .int .i64 (k : Int)), (81, .int .i64 (q : Int)), (13, .int .i64 (q : Int)), (14, .pointer (some ⟨V.heap.size, 0, none⟩)), (15, .pointer (some ⟨g15, 0, none⟩))] ∧ (n9 ≤ 4400) ∧ Hid (St w8 w' [(A9, n9, c9, (x4).natAbs), (Ay, ny, cy, (y).natAbs), (Aq, nq, cq, (iq).natAbs), (At, nt, ct, (T).natAbs), (Aw, nw, cw, (P).natAbs)] [(g15, (.bool (ngB x4)), (.slice A9 n9 c9), (.int .i64 (s3 : Int))), (V.heap.size, (.bool (ngB y)), (.slice Ay ny cy), (.int .i64 (S : Int)))])) ?_ ?_
            ·
              refine line_start (ops := opsAt Try.prog 3 21) (S := SX w8 [(V.heap.size, (.bool (ngB y)), (.slice Ay ny cy), (.int .i64 (S : Int)))]) (by kernel_rfl) (by kernel_rfl) (SX.of E (by simp)) ?_
              generalize V2.drew = v0 at E ⊢
              have hSw := SX.of (bs' := [(V.heap.size, (.bool (ngB y)), (.slice Ay ny cy), (.int .i64 (S : Int)))]) E (by simp)
              generalize hA : Act.mk _ _ = a
              have ha : Fr 125 a [(1, .slice (some ⟨b, f0, none⟩) k c), (3, .pointer (some ⟨w.heap.size, 0, none⟩)), (7, .int .i64 (S : Int)), (8, .pointer (some ⟨w1.heap.size, 0, none⟩)), (79, .slice (some ⟨g, 0, none⟩) k cs), (80, .int .i64 (k : Int)), (81, .int .i64 (q : Int)), (13, .int .i64 (q : Int)), (14, .pointer (some ⟨V.heap.size, 0, none⟩))] := by rw [← hA]; exact ⟨rfl, rfl, by intro q hq; simp at hq; rcases hq with rfl | rfl | rfl | rfl | rfl | rfl | rfl | rfl | rfl <;> rfl⟩
              clear hA
              refine line_ahead whAR 0 0 [] 0 86 (.agg #[(.bool (ngB y)), (.slice Ay ny cy), (.int .i64 (S : Int))]) [(1, .slice (some ⟨b, f0, none⟩) k c), (3, .pointer (some ⟨w.heap.size, 0, none⟩)), (7, .int .i64 (S : Int)), (8, .pointer (some ⟨w1.heap.size, 0, none⟩)), (79, .slice (some ⟨g, 0, none⟩) k cs), (80, .int .i64 (k : Int)), (81, .int .i64 (q : Int)), (13, .int .i64 (q : Int)), (14, .pointer (some ⟨V.heap.size, 0, none⟩))] rfl (by decide) (by decide) (by decide) ha (fun o ho hg => y_of (wanted_none hg) (fun wx hS => e_load ho (ha.ev (i := 14) (v := .pointer (some ⟨V.heap.size, 0, none⟩)) (by simp)) (hS.at_ (g := V.heap.size) (x0 := (.bool (ngB y))) (x1 := (.slice Ay ny cy)) (x2 := (.int .i64 (S : Int))) (by simp)))) (by simp) hSw ?_; intro a ha
              refine line_ahead whAR 1 0 [0] 1 87 (.agg #[(.bool (ngB P)), (.slice Aw nw cw), (.int .i64 (t : Int))]) [(86, .agg #[(.bool (ngB y)), (.slice Ay ny cy), (.int .i64 (S : Int))]), (1, .slice (some ⟨b, f0, none⟩) k c), (3, .pointer (some ⟨w.heap.size, 0, none⟩)), (7, .int .i64 (S : Int)), (8, .pointer (some ⟨w1.heap.size, 0, none⟩)), (79, .slice (some ⟨g, 0, none⟩) k cs), (80, .int .i64 (k : Int)), (81, .int .i64 (q : Int)), (13, .int .i64 (q : Int)), (14, .pointer (some ⟨V.heap.size, 0, none⟩))] rfl (by decide) (by decide) (by decide) ha (fun o ho hg => y_of (wanted_none hg) (fun wx hS => e_load ho (ha.ev (i := 8) (v := .pointer (some ⟨w1.heap.size, 0, none⟩)) (by simp)) (BP.out.on hS.2))) (by simp) hSw ?_; intro a ha
              refine line_ahead whAR 2 0 [1, 0] 3 89 (.agg #[(.bool (ngB T)), (.slice At nt ct), (.int .i64 (S : Int))]) [(87, .agg #[(.bool (ngB P)), (.slice Aw nw cw), (.int .i64 (t : Int))]), (86, .agg #[(.bool (ngB y)), (.slice Ay ny cy), (.int .i64 (S : Int))]), (1, .slice (some ⟨b, f0, none⟩) k c), (3, .pointer (some ⟨w.heap.size, 0, none⟩)), (7, .int .i64 (S : Int)), (8, .pointer (some ⟨w1.heap.size, 0, none⟩)), (79, .slice (some ⟨g, 0, none⟩) k cs), (80, .int .i64 (k : Int)), (81, .int .i64 (q : Int)), (13, .int .i64 (q : Int)), (14, .pointer (some ⟨V.heap.size, 0, none⟩))] rfl (by decide) (by decide) (by decide) ha (fun o ho hg => y_of (wanted_none hg) (fun wx hS => e_load ho (ha.ev (i := 3) (v := .pointer (some ⟨w.heap.size, 0, none⟩)) (by simp)) (BT.out.on hS.2))) (by simp) hSw ?_; intro a ha
              refine line_ahead whAR 3 0 [3, 1, 0] 4 90 (.slice (some ⟨b, f0, none⟩) k c) [(89, .agg #[(.bool (ngB T)), (.slice At nt ct), (.int .i64 (S : Int))]), (87, .agg #[(.bool (ngB P)), (.slice Aw nw cw), (.int .i64 (t : Int))]), (86, .agg #[(.bool (ngB y)), (.slice Ay ny cy), (.int .i64 (S : Int))]), (1, .slice (some ⟨b, f0, none⟩) k c), (3, .pointer (some ⟨w.heap.size, 0, none⟩)), (7, .int .i64 (S : Int)), (8, .pointer (some ⟨w1.heap.size, 0, none⟩)), (79, .slice (some ⟨g, 0, none⟩) k cs), (80, .int .i64 (k : Int)), (81, .int .i64 (q : Int)), (13, .int .i64 (q : Int)), (14, .pointer (some ⟨V.heap.size, 0, none⟩))] rfl (by decide) (by decide) (by decide) ha (fun o ho hg => y_of (wanted_none hg) (fun wx hS => e_move (.inl ho) (ha.ev (i := 1) (v := .slice (some ⟨b, f0, none⟩) k c) (by simp)))) (by simp) hSw ?_; intro a ha
              refine line_ahead whAR 4 0 [4, 3, 1, 0] 5 91 (.int .i64 (q : Int)) [(90, .slice (some ⟨b, f0, none⟩) k c), (89, .agg #[(.bool (ngB T)), (.slice At nt ct), (.int .i64 (S : Int))]), (87, .agg #[(.bool (ngB P)), (.slice Aw nw cw), (.int .i64 (t : Int))]), (86, .agg #[(.bool (ngB y)), (.slice Ay ny cy), (.int .i64 (S : Int))]), (1, .slice (some ⟨b, f0, none⟩) k c), (3, .pointer (some ⟨w.heap.size, 0, none⟩)), (7, .int .i64 (S : Int)), (8, .pointer (some ⟨w1.heap.size, 0, none⟩)), (79, .slice (some ⟨g, 0, none⟩) k cs), (80, .int .i64 (k : Int)), (81, .int .i64 (q : Int)), (13, .int .i64 (q : Int)), (14, .pointer (some ⟨V.heap.size, 0, none⟩))] rfl (by decide) (by decide) (by decide) ha (fun o ho hg => y_of (wanted_none hg) (fun wx hS => e_move (.inl ho) (ha.ev (i := 13) (v := .int .i64 (q : Int)) (by simp)))) (by simp) hSw ?_; intro a ha
              refine line_ahead whAR 5 0 [5, 4, 3, 1, 0] 6 92 (.pointer (some ⟨b, f0 + q * 3, none⟩)) [(89, .agg #[(.bool (ngB T)), (.slice At nt ct), (.int .i64 (S : Int))]), (87, .agg #[(.bool (ngB P)), (.slice Aw nw cw), (.int .i64 (t : Int))]), (86, .agg #[(.bool (ngB y)), (.slice Ay ny cy), (.int .i64 (S : Int))]), (1, .slice (some ⟨b, f0, none⟩) k c), (3, .pointer (some ⟨w.heap.size, 0, none⟩)), (7, .int .i64 (S : Int)), (8, .pointer (some ⟨w1.heap.size, 0, none⟩)), (79, .slice (some ⟨g, 0, none⟩) k cs), (80, .int .i64 (k : Int)), (81, .int .i64 (q : Int)), (13, .int .i64 (q : Int)), (14, .pointer (some ⟨V.heap.size, 0, none⟩))] rfl (by decide) (by decide) (by decide) ha (fun o ho hg => y_of (wanted_none hg) (fun wx hS => e_idxY hlt HKC.out HCM2.out ho (ha.ev (i := 90) (v := .slice (some ⟨b, f0, none⟩) k c) (by simp)) (ha.ev (i := 91) (v := .int .i64 (q : Int)) (by simp)))) (by simp) hSw ?_; intro a ha
              refine line_ahead whAR 6 0 [6, 5, 4, 3, 1, 0] 7 93 (.agg #[(.bool (ngB iq)), (.slice Aq nq cq), (.int .i64 (sq : Int))]) [(89, .agg #[(.bool (ngB T)), (.slice At nt ct), (.int .i64 (S : Int))]), (87, .agg #[(.bool (ngB P)), (.slice Aw nw cw), (.int .i64 (t : Int))]), (86, .agg #[(.bool (ngB y)), (.slice Ay ny cy), (.int .i64 (S : Int))]), (1, .slice (some ⟨b, f0, none⟩) k c), (3, .pointer (some ⟨w.heap.size, 0, none⟩)), (7, .int .i64 (S : Int)), (8, .pointer (some ⟨w1.heap.size, 0, none⟩)), (79, .slice (some ⟨g, 0, none⟩) k cs), (80, .int .i64 (k : Int)), (81, .int .i64 (q : Int)), (13, .int .i64 (q : Int)), (14, .pointer (some ⟨V.heap.size, 0, none⟩))] rfl (by decide) (by decide) (by decide) ha (fun o ho hg => y_of (wanted_none hg) (fun wx hS => e_loadY ho (ha.ev (i := 92) (v := .pointer (some ⟨b, f0 + q * 3, none⟩)) (by simp)) (HCQ.out.on hS.2))) (by simp) hSw ?_; intro a ha
              refine line_all whAR 7 0 [7, 6, 5, 4, 3, 1, 0] [2, 11] (by decide) (whAB _ (by decide)) (by simp) ?_
              intro j hj; simp only [List.mem_cons, List.not_mem_nil, or_false] at hj
              rcases hj with rfl | rfl
              ·
                refine turn_call whAR 7 0 [7, 6, 5, 4, 3, 1, 0] 2 88 (args := #[.agg #[(.bool (ngB y)), (.slice Ay ny cy), (.int .i64 (S : Int))], .agg #[(.bool (ngB P)), (.slice Aw nw cw), (.int .i64 (t : Int))]]) [(93, .agg #[(.bool (ngB iq)), (.slice Aq nq cq), (.int .i64 (sq : Int))]), (89, .agg #[(.bool (ngB T)), (.slice At nt ct), (.int .i64 (S : Int))]), (1, .slice (some ⟨b, f0, none⟩) k c), (3, .pointer (some ⟨w.heap.size, 0, none⟩)), (7, .int .i64 (S : Int)), (8, .pointer (some ⟨w1.heap.size, 0, none⟩)), (79, .slice (some ⟨g, 0, none⟩) k cs), (80, .int .i64 (k : Int)), (81, .int .i64 (q : Int)), (13, .int .i64 (q : Int)), (14, .pointer (some ⟨V.heap.size, 0, none⟩))] rfl (by decide) ha (fun o ho hg => ⟨(wanted_none hg), e_call (by kernel_rfl) ho rfl (by have q0 := ha.ev (i := 86) (v := .agg #[(.bool (ngB y)), (.slice Ay ny cy), (.int .i64 (S : Int))]) (by simp); have q1 := ha.ev (i := 87) (v := .agg #[(.bool (ngB P)), (.slice Aw nw cw), (.int .i64 (t : Int))]) (by simp); simp only [List.map_toArray, List.map_cons, List.map_nil, ev_const, q0, q1])⟩) (by simp) ?_
                refine (mul_is5 (i := y) (s := S) (j := P) (t := t) (St.got E (A := Ay) (n := ny) (c := cy) (a := (y).natAbs) (by simp)) (St.got E (A := Aw) (n := nw) (c := cw) (a := (P).natAbs) (by simp)) (by omega) (by omega) (by omega) (by omega) HS1'.out HX1.out).mono ?_; rintro e v1 ⟨X1, m1, d1, rfl, h, hb⟩
                have q1 : m1 ≤ 4400 := len_le h HL1.out
                replace E := Lib.hid (St.push E.out hb h)
                clear h hb
                have hSw := SX.of (bs' := [(V.heap.size, (.bool (ngB y)), (.slice Ay ny cy), (.int .i64 (S : Int)))]) E (by simp); refine ⟨_, rfl, hSw, ?_⟩; intro a ha
                refine line_all whAR 8 0 [2, 7, 6, 5, 4, 3, 1, 0] [8, 11] (by decide) (whAB _ (by decide)) (by simp) ?_
                intro j hj; simp only [List.mem_cons, List.not_mem_nil, or_false] at hj
                rcases hj with rfl | rfl
                ·
                  refine turn_call whAR 8 0 [2, 7, 6, 5, 4, 3, 1, 0] 8 94 (args := #[.agg #[(.bool (ngB T)), (.slice At nt ct), (.int .i64 (S : Int))], .agg #[(.bool (ngB iq)), (.slice Aq nq cq), (.int .i64 (sq : Int))]]) [(88, .agg #[.bool (ngB x1), .slice X1 m1 d1, .int .i64 (s1 : Int)]), (1, .slice (some ⟨b, f0, none⟩) k c), (3, .pointer (some ⟨w.heap.size, 0, none⟩)), (7, .int .i64 (S : Int)), (8, .pointer (some ⟨w1.heap.size, 0, none⟩)), (79, .slice (some ⟨g, 0, none⟩) k cs), (80, .int .i64 (k : Int)), (81, .int .i64 (q : Int)), (13, .int .i64 (q : Int)), (14, .pointer (some ⟨V.heap.size, 0, none⟩))] rfl (by decide) ha (fun o ho hg => ⟨(wanted_none hg), e_call (by kernel_rfl) ho rfl (by have q0 := ha.ev (i := 89) (v := .agg #[(.bool (ngB T)), (.slice At nt ct), (.int .i64 (S : Int))]) (by simp); have q1 := ha.ev (i := 93) (v := .agg #[(.bool (ngB iq)), (.slice Aq nq cq), (.int .i64 (sq : Int))]) (by simp); simp only [List.map_toArray, List.map_cons, List.map_nil, ev_const, q0, q1])⟩) (by simp) ?_
                  refine (mul_is5 (i := T) (s := S) (j := iq) (t := sq) (St.got E (A := At) (n := nt) (c := ct) (a := (T).natAbs) (by simp)) (St.got E (A := Aq) (n := nq) (c := cq) (a := (iq).natAbs) (by simp)) (by omega) (by omega) (by omega) (by omega) HS2'.out HX2.out).mono ?_; rintro e v2 ⟨X2, m2, d2, rfl, h, hb⟩
                  have q2 : m2 ≤ 4400 := len_le h HL2.out
                  replace E := Lib.hid (St.push E.out hb h)
                  clear h hb
                  have hSw := SX.of (bs' := [(V.heap.size, (.bool (ngB y)), (.slice Ay ny cy), (.int .i64 (S : Int)))]) E (by simp); refine ⟨_, rfl, hSw, ?_⟩; intro a ha
                  refine line_all whAR 9 0 [8, 2, 7, 6, 5, 4, 3, 1, 0] [9, 11] (by decide) (whAB _ (by decide)) (by simp) ?_
                  intro j hj; simp only [List.mem_cons, List.not_mem_nil, or_false] at hj
                  rcases hj with rfl | rfl
                  ·
                    refine turn_call whAR 9 0 [8, 2, 7, 6, 5, 4, 3, 1, 0] 9 95 (args := #[.agg #[.bool (ngB x1), .slice X1 m1 d1, .int .i64 (s1 : Int)], .agg #[.bool (ngB x2), .slice X2 m2 d2, .int .i64 (s2 : Int)]]) [(1, .slice (some ⟨b, f0, none⟩) k c), (3, .pointer (some ⟨w.heap.size, 0, none⟩)), (7, .int .i64 (S : Int)), (8, .pointer (some ⟨w1.heap.size, 0, none⟩)), (79, .slice (some ⟨g, 0, none⟩) k cs), (80, .int .i64 (k : Int)), (81, .int .i64 (q : Int)), (13, .int .i64 (q : Int)), (14, .pointer (some ⟨V.heap.size, 0, none⟩))] rfl (by decide) ha (fun o ho hg => ⟨(wanted_none hg), e_call (by kernel_rfl) ho rfl (by have q0 := ha.ev (i := 88) (v := .agg #[.bool (ngB x1), .slice X1 m1 d1, .int .i64 (s1 : Int)]) (by simp); have q1 := ha.ev (i := 94) (v := .agg #[.bool (ngB x2), .slice X2 m2 d2, .int .i64 (s2 : Int)]) (by simp); simp only [List.map_toArray, List.map_cons, List.map_nil, ev_const, q0, q1])⟩) (by simp) ?_
                    refine (sub_is5 (i := x1) (s := s1) (j := x2) (t := s2) (St.got E (A := X1) (n := m1) (c := d1) (a := (x1).natAbs) (by simp)) (St.got E (A := X2) (n := m2) (c := d2) (a := (x2).natAbs) (by simp)) (by omega) (by omega) (by omega) (by omega) HS3'.out HX3.out).mono ?_; rintro e v3 ⟨X3, m3, d3, rfl, h, hb⟩
                    have q3 : m3 ≤ 4400 := len_le h HL3.out
                    replace E := Lib.hid (St.push E.out hb h)
                    clear h hb
                    have hSw := SX.of (bs' := [(V.heap.size, (.bool (ngB y)), (.slice Ay ny cy), (.int .i64 (S : Int)))]) E (by simp); refine ⟨_, rfl, hSw, ?_⟩; intro a ha
                    refine line_all whAR 10 0 [9, 8, 2, 7, 6, 5, 4, 3, 1, 0] [10, 11] (by decide) (whAB _ (by decide)) (by simp) ?_
                    intro j hj; simp only [List.mem_cons, List.not_mem_nil, or_false] at hj
                    rcases hj with rfl | rfl
                    ·
                      refine turn_call whAR 10 0 [9, 8, 2, 7, 6, 5, 4, 3, 1, 0] 10 96 (args := #[.agg #[.bool (ngB x3), .slice X3 m3 d3, .int .i64 (s3 : Int)]]) [(1, .slice (some ⟨b, f0, none⟩) k c), (3, .pointer (some ⟨w.heap.size, 0, none⟩)), (7, .int .i64 (S : Int)), (8, .pointer (some ⟨w1.heap.size, 0, none⟩)), (79, .slice (some ⟨g, 0, none⟩) k cs), (80, .int .i64 (k : Int)), (81, .int .i64 (q : Int)), (13, .int .i64 (q : Int)), (14, .pointer (some ⟨V.heap.size, 0, none⟩))] rfl (by decide) ha (fun o ho hg => ⟨(wanted_none hg), e_call (by kernel_rfl) ho rfl (by have q0 := ha.ev (i := 95) (v := .agg #[.bool (ngB x3), .slice X3 m3 d3, .int .i64 (s3 : Int)]) (by simp); simp only [List.map_toArray, List.map_cons, List.map_nil, ev_const, q0])⟩) (by simp) ?_
                      refine (abs_is5 (i := x3) (s := s3) (St.got E (A := X3) (n := m3) (c := d3) (a := (x3).natAbs) (by simp)) (by omega) (by omega) HX4.out).mono ?_; rintro e v4 ⟨X4, m4, d4, rfl, h, hb⟩
                      have q4 : m4 ≤ 4400 := len_le h HL4.out
                      replace E := Lib.hid (St.push E.out hb h)
                      clear h hb
                      have hSw := SX.of (bs' := [(V.heap.size, (.bool (ngB y)), (.slice Ay ny cy), (.int .i64 (S : Int)))]) E (by simp); refine ⟨_, rfl, hSw, ?_⟩; intro a ha
                      refine line_all whAR 11 0 [10, 9, 8, 2, 7, 6, 5, 4, 3, 1, 0] [11] (by decide) (whAB _ (by decide)) (by simp) ?_
                      intro j hj; simp only [List.mem_cons, List.not_mem_nil, or_false] at hj
                      subst hj
                      have lt5_0 := (St.at_ (x0 := (.bool (ngB y))) (x1 := (.slice Ay ny cy)) (x2 := (.int .i64 (S : Int))) (g := V.heap.size) E (by simp)).lt
                      refine turn_op whAR 11 0 [10, 9, 8, 2, 7, 6, 5, 4, 3, 1, 0] 11 15 (v := .pointer (some ⟨v4.heap.size, 0, none⟩)) (w' := v4.alloc (.cells #[.bool false, .slice none 0 0, .int .i64 0] 25)) [(96, .agg #[.bool (ngB x4), .slice X4 m4 d4, .int .i64 (s3 : Int)]), (1, .slice (some ⟨b, f0, none⟩) k c), (3, .pointer (some ⟨w.heap.size, 0, none⟩)), (7, .int .i64 (S : Int)), (8, .pointer (some ⟨w1.heap.size, 0, none⟩)), (79, .slice (some ⟨g, 0, none⟩) k cs), (80, .int .i64 (k : Int)), (81, .int .i64 (q : Int)), (13, .int .i64 (q : Int)), (14, .pointer (some ⟨V.heap.size, 0, none⟩))] rfl (by decide) ha (fun o ho hg => ⟨(wanted_none hg), e_alloc ho⟩) (by simp) (SX.of (bs' := [(V.heap.size, (.bool (ngB y)), (.slice Ay ny cy), (.int .i64 (S : Int)))]) (Lib.hid (St.alloc E.out _)) (by simp)) ?_; intro a ha
                      replace E := Lib.hid (St.lay (t := 25) (x0 := .bool false) (x1 := .slice none 0 0) (x2 := .int .i64 0) (g := v4.heap.size) E.out rfl)
                      generalize hW : World.alloc v4 _ = v5 at E ⊢; clear hW
                      have hSw := SX.of (bs' := [(V.heap.size, (.bool (ngB y)), (.slice Ay ny cy), (.int .i64 (S : Int)))]) E (by simp)
                      refine line_all whAR 12 0 [11, 10, 9, 8, 2, 7, 6, 5, 4, 3, 1, 0] [12] (by decide) (whAB _ (by decide)) (by simp) ?_
                      intro j hj; simp only [List.mem_cons, List.not_mem_nil, or_false] at hj
                      subst hj
                      have E2 := Lib.hid (St.store E.out (g := v4.heap.size) (x0 := .bool false) (x1 := .slice none 0 0) (x2 := .int .i64 0) (by simp) (noLimb_bool _) (noLimb_slice _ _ _) (noLimb_int _) [(V.heap.size, (.bool (ngB y)), (.slice Ay ny cy), (.int .i64 (S : Int)))] (by simp <;> omega) (.bool (ngB x4)) (.slice X4 m4 d4) (.int .i64 (s3 : Int)))
                      refine turn_store whAR 12 0 [11, 10, 9, 8, 2, 7, 6, 5, 4, 3, 1, 0] 12 (w' := put3 v5 (v4.heap.size) (.bool (ngB x4)) (.slice X4 m4 d4) (.int .i64 (s3 : Int))) rfl ha (fun o ho hg => ⟨(wanted_none hg), e_store ho (ha.ev (i := 15) (v := .pointer (some ⟨v4.heap.size, 0, none⟩)) (by simp)) (ha.ev (i := 96) (v := .agg #[.bool (ngB x4), .slice X4 m4 d4, .int .i64 (s3 : Int)]) (by simp)) (St.at_ (g := v4.heap.size) (x0 := .bool false) (x1 := .slice none 0 0) (x2 := .int .i64 0) E (by simp))⟩) (SX.of (bs' := [(V.heap.size, (.bool (ngB y)), (.slice Ay ny cy), (.int .i64 (S : Int)))]) E2 (by simp)) ?_; intro a ha
                      replace E := E2; clear E2
                      generalize hW : put3 v5 _ _ _ _ = v6 at E ⊢; clear hW
                      have hSw := SX.of (bs' := [(V.heap.size, (.bool (ngB y)), (.slice Ay ny cy), (.int .i64 (S : Int)))]) E (by simp)
                      refine line_end0 whAR (show ∀ i, i < 13 → i ∈ [12, 11, 10, 9, 8, 2, 7, 6, 5, 4, 3, 1, 0] by decide) ?_
                      exact ⟨rfl, v4.heap.size, X4, m4, d4, ha.sub (by simp), by omega, Lib.hid ((E.out).sub (by simp) (by simp))⟩
                    ·
                      have lt7_0 := (St.at_ (x0 := (.bool (ngB y))) (x1 := (.slice Ay ny cy)) (x2 := (.int .i64 (S : Int))) (g := V.heap.size) E (by simp)).lt
                      refine turn_op whAR 10 0 [9, 8, 2, 7, 6, 5, 4, 3, 1, 0] 11 15 (v := .pointer (some ⟨v3.heap.size, 0, none⟩)) (w' := v3.alloc (.cells #[.bool false, .slice none 0 0, .int .i64 0] 25)) [(95, .agg #[.bool (ngB x3), .slice X3 m3 d3, .int .i64 (s3 : Int)]), (1, .slice (some ⟨b, f0, none⟩) k c), (3, .pointer (some ⟨w.heap.size, 0, none⟩)), (7, .int .i64 (S : Int)), (8, .pointer (some ⟨w1.heap.size, 0, none⟩)), (79, .slice (some ⟨g, 0, none⟩) k cs), (80, .int .i64 (k : Int)), (81, .int .i64 (q : Int)), (13, .int .i64 (q : Int)), (14, .pointer (some ⟨V.heap.size, 0, none⟩))] rfl (by decide) ha (fun o ho hg => ⟨(wanted_none hg), e_alloc ho⟩) (by simp) (SX.of (bs' := [(V.heap.size, (.bool (ngB y)), (.slice Ay ny cy), (.int .i64 (S : Int)))]) (Lib.hid (St.alloc E.out _)) (by simp)) ?_; intro a ha
                      replace E := Lib.hid (St.lay (t := 25) (x0 := .bool false) (x1 := .slice none 0 0) (x2 := .int .i64 0) (g := v3.heap.size) E.out rfl)
                      generalize hW : World.alloc v3 _ = v7 at E ⊢; clear hW
                      have hSw := SX.of (bs' := [(V.heap.size, (.bool (ngB y)), (.slice Ay ny cy), (.int .i64 (S : Int)))]) E (by simp)
                      refine line_all whAR 11 0 [11, 9, 8, 2, 7, 6, 5, 4, 3, 1, 0] [10] (by decide) (whAB _ (by decide)) (by simp) ?_
                      intro j hj; simp only [List.mem_cons, List.not_mem_nil, or_false] at hj
                      subst hj
                      refine turn_call whAR 11 0 [11, 9, 8, 2, 7, 6, 5, 4, 3, 1, 0] 10 96 (args := #[.agg #[.bool (ngB x3), .slice X3 m3 d3, .int .i64 (s3 : Int)]]) [(15, .pointer (some ⟨v3.heap.size, 0, none⟩)), (1, .slice (some ⟨b, f0, none⟩) k c), (3, .pointer (some ⟨w.heap.size, 0, none⟩)), (7, .int .i64 (S : Int)), (8, .pointer (some ⟨w1.heap.size, 0, none⟩)), (79, .slice (some ⟨g, 0, none⟩) k cs), (80, .int .i64 (k : Int)), (81, .int .i64 (q : Int)), (13, .int .i64 (q : Int)), (14, .pointer (some ⟨V.heap.size, 0, none⟩))] rfl (by decide) ha (fun o ho hg => ⟨(wanted_none hg), e_call (by kernel_rfl) ho rfl (by have q0 := ha.ev (i := 95) (v := .agg #[.bool (ngB x3), .slice X3 m3 d3, .int .i64 (s3 : Int)]) (by simp); simp only [List.map_toArray, List.map_cons, List.map_nil, ev_const, q0])⟩) (by simp) ?_
                      refine (abs_is5 (i := x3) (s := s3) (St.got E (A := X3) (n := m3) (c := d3) (a := (x3).natAbs) (by simp)) (by omega) (by omega) HX4.out).mono ?_; rintro e v8 ⟨X8, m8, d8, rfl, h, hb⟩
                      have q8 : m8 ≤ 4400 := len_le h HL4.out
                      replace E := Lib.hid (St.push E.out hb h)
                      clear h hb
                      have hSw := SX.of (bs' := [(V.heap.size, (.bool (ngB y)), (.slice Ay ny cy), (.int .i64 (S : Int)))]) E (by simp); refine ⟨_, rfl, hSw, ?_⟩; intro a ha
                      refine line_all whAR 12 0 [10, 11, 9, 8, 2, 7, 6, 5, 4, 3, 1, 0] [12] (by decide) (whAB _ (by decide)) (by simp) ?_
                      intro j hj; simp only [List.mem_cons, List.not_mem_nil, or_false] at hj
                      subst hj
                      have E2 := Lib.hid (St.store E.out (g := v3.heap.size) (x0 := .bool false) (x1 := .slice none 0 0) (x2 := .int .i64 0) (by simp) (noLimb_bool _) (noLimb_slice _ _ _) (noLimb_int _) [(V.heap.size, (.bool (ngB y)), (.slice Ay ny cy), (.int .i64 (S : Int)))] (by simp <;> omega) (.bool (ngB x4)) (.slice X8 m8 d8) (.int .i64 (s3 : Int)))
                      refine turn_store whAR 12 0 [10, 11, 9, 8, 2, 7, 6, 5, 4, 3, 1, 0] 12 (w' := put3 v8 (v3.heap.size) (.bool (ngB x4)) (.slice X8 m8 d8) (.int .i64 (s3 : Int))) rfl ha (fun o ho hg => ⟨(wanted_none hg), e_store ho (ha.ev (i := 15) (v := .pointer (some ⟨v3.heap.size, 0, none⟩)) (by simp)) (ha.ev (i := 96) (v := .agg #[.bool (ngB x4), .slice X8 m8 d8, .int .i64 (s3 : Int)]) (by simp)) (St.at_ (g := v3.heap.size) (x0 := .bool false) (x1 := .slice none 0 0) (x2 := .int .i64 0) E (by simp))⟩) (SX.of (bs' := [(V.heap.size, (.bool (ngB y)), (.slice Ay ny cy), (.int .i64 (S : Int)))]) E2 (by simp)) ?_; intro a ha
                      replace E := E2; clear E2
                      generalize hW : put3 v8 _ _ _ _ = v9 at E ⊢; clear hW
                      have hSw := SX.of (bs' := [(V.heap.size, (.bool (ngB y)), (.slice Ay ny cy), (.int .i64 (S : Int)))]) E (by simp)
                      refine line_end0 whAR (show ∀ i, i < 13 → i ∈ [12, 10, 11, 9, 8, 2, 7, 6, 5, 4, 3, 1, 0] by decide) ?_
                      exact ⟨rfl, v3.heap.size, X8, m8, d8, ha.sub (by simp), by omega, Lib.hid ((E.out).sub (by simp) (by simp))⟩
                  ·
                    have lt10_0 := (St.at_ (x0 := (.bool (ngB y))) (x1 := (.slice Ay ny cy)) (x2 := (.int .i64 (S : Int))) (g := V.heap.size) E (by simp)).lt
                    refine turn_op whAR 9 0 [8, 2, 7, 6, 5, 4, 3, 1, 0] 11 15 (v := .pointer (some ⟨v2.heap.size, 0, none⟩)) (w' := v2.alloc (.cells #[.bool false, .slice none 0 0, .int .i64 0] 25)) [(94, .agg #[.bool (ngB x2), .slice X2 m2 d2, .int .i64 (s2 : Int)]), (88, .agg #[.bool (ngB x1), .slice X1 m1 d1, .int .i64 (s1 : Int)]), (1, .slice (some ⟨b, f0, none⟩) k c), (3, .pointer (some ⟨w.heap.size, 0, none⟩)), (7, .int .i64 (S : Int)), (8, .pointer (some ⟨w1.heap.size, 0, none⟩)), (79, .slice (some ⟨g, 0, none⟩) k cs), (80, .int .i64 (k : Int)), (81, .int .i64 (q : Int)), (13, .int .i64 (q : Int)), (14, .pointer (some ⟨V.heap.size, 0, none⟩))] rfl (by decide) ha (fun o ho hg => ⟨(wanted_none hg), e_alloc ho⟩) (by simp) (SX.of (bs' := [(V.heap.size, (.bool (ngB y)), (.slice Ay ny cy), (.int .i64 (S : Int)))]) (Lib.hid (St.alloc E.out _)) (by simp)) ?_; intro a ha
                    replace E := Lib.hid (St.lay (t := 25) (x0 := .bool false) (x1 := .slice none 0 0) (x2 := .int .i64 0) (g := v2.heap.size) E.out rfl)
                    generalize hW : World.alloc v2 _ = v10 at E ⊢; clear hW
                    have hSw := SX.of (bs' := [(V.heap.size, (.bool (ngB y)), (.slice Ay ny cy), (.int .i64 (S : Int)))]) E (by simp)
                    refine line_all whAR 10 0 [11, 8, 2, 7, 6, 5, 4, 3, 1, 0] [9] (by decide) (whAB _ (by decide)) (by simp) ?_
                    intro j hj; simp only [List.mem_cons, List.not_mem_nil, or_false] at hj
                    subst hj
                    refine turn_call whAR 10 0 [11, 8, 2, 7, 6, 5, 4, 3, 1, 0] 9 95 (args := #[.agg #[.bool (ngB x1), .slice X1 m1 d1, .int .i64 (s1 : Int)], .agg #[.bool (ngB x2), .slice X2 m2 d2, .int .i64 (s2 : Int)]]) [(15, .pointer (some ⟨v2.heap.size, 0, none⟩)), (1, .slice (some ⟨b, f0, none⟩) k c), (3, .pointer (some ⟨w.heap.size, 0, none⟩)), (7, .int .i64 (S : Int)), (8, .pointer (some ⟨w1.heap.size, 0, none⟩)), (79, .slice (some ⟨g, 0, none⟩) k cs), (80, .int .i64 (k : Int)), (81, .int .i64 (q : Int)), (13, .int .i64 (q : Int)), (14, .pointer (some ⟨V.heap.size, 0, none⟩))] rfl (by decide) ha (fun o ho hg => ⟨(wanted_none hg), e_call (by kernel_rfl) ho rfl (by have q0 := ha.ev (i := 88) (v := .agg #[.bool (ngB x1), .slice X1 m1 d1, .int .i64 (s1 : Int)]) (by simp); have q1 := ha.ev (i := 94) (v := .agg #[.bool (ngB x2), .slice X2 m2 d2, .int .i64 (s2 : Int)]) (by simp); simp only [List.map_toArray, List.map_cons, List.map_nil, ev_const, q0, q1])⟩) (by simp) ?_
                    refine (sub_is5 (i := x1) (s := s1) (j := x2) (t := s2) (St.got E (A := X1) (n := m1) (c := d1) (a := (x1).natAbs) (by simp)) (St.got E (A := X2) (n := m2) (c := d2) (a := (x2).natAbs) (by simp)) (by omega) (by omega) (by omega) (by omega) HS3'.out HX3.out).mono ?_; rintro e v11 ⟨X11, m11, d11, rfl, h, hb⟩
                    have q11 : m11 ≤ 4400 := len_le h HL3.out
                    replace E := Lib.hid (St.push E.out hb h)
                    clear h hb
                    have hSw := SX.of (bs' := [(V.heap.size, (.bool (ngB y)), (.slice Ay ny cy), (.int .i64 (S : Int)))]) E (by simp); refine ⟨_, rfl, hSw, ?_⟩; intro a ha
                    refine line_all whAR 11 0 [9, 11, 8, 2, 7, 6, 5, 4, 3, 1, 0] [10] (by decide) (whAB _ (by decide)) (by simp) ?_
                    intro j hj; simp only [List.mem_cons, List.not_mem_nil, or_false] at hj
                    subst hj
                    refine turn_call whAR 11 0 [9, 11, 8, 2, 7, 6, 5, 4, 3, 1, 0] 10 96 (args := #[.agg #[.bool (ngB x3), .slice X11 m11 d11, .int .i64 (s3 : Int)]]) [(15, .pointer (some ⟨v2.heap.size, 0, none⟩)), (1, .slice (some ⟨b, f0, none⟩) k c), (3, .pointer (some ⟨w.heap.size, 0, none⟩)), (7, .int .i64 (S : Int)), (8, .pointer (some ⟨w1.heap.size, 0, none⟩)), (79, .slice (some ⟨g, 0, none⟩) k cs), (80, .int .i64 (k : Int)), (81, .int .i64 (q : Int)), (13, .int .i64 (q : Int)), (14, .pointer (some ⟨V.heap.size, 0, none⟩))] rfl (by decide) ha (fun o ho hg => ⟨(wanted_none hg), e_call (by kernel_rfl) ho rfl (by have q0 := ha.ev (i := 95) (v := .agg #[.bool (ngB x3), .slice X11 m11 d11, .int .i64 (s3 : Int)]) (by simp); simp only [List.map_toArray, List.map_cons, List.map_nil, ev_const, q0])⟩) (by simp) ?_
                    refine (abs_is5 (i := x3) (s := s3) (St.got E (A := X11) (n := m11) (c := d11) (a := (x3).natAbs) (by simp)) (by omega) (by omega) HX4.out).mono ?_; rintro e v12 ⟨X12, m12, d12, rfl, h, hb⟩
                    have q12 : m12 ≤ 4400 := len_le h HL4.out
                    replace E := Lib.hid (St.push E.out hb h)
                    clear h hb
                    have hSw := SX.of (bs' := [(V.heap.size, (.bool (ngB y)), (.slice Ay ny cy), (.int .i64 (S : Int)))]) E (by simp); refine ⟨_, rfl, hSw, ?_⟩; intro a ha
                    refine line_all whAR 12 0 [10, 9, 11, 8, 2, 7, 6, 5, 4, 3, 1, 0] [12] (by decide) (whAB _ (by decide)) (by simp) ?_
                    intro j hj; simp only [List.mem_cons, List.not_mem_nil, or_false] at hj
                    subst hj
                    have E2 := Lib.hid (St.store E.out (g := v2.heap.size) (x0 := .bool false) (x1 := .slice none 0 0) (x2 := .int .i64 0) (by simp) (noLimb_bool _) (noLimb_slice _ _ _) (noLimb_int _) [(V.heap.size, (.bool (ngB y)), (.slice Ay ny cy), (.int .i64 (S : Int)))] (by simp <;> omega) (.bool (ngB x4)) (.slice X12 m12 d12) (.int .i64 (s3 : Int)))
                    refine turn_store whAR 12 0 [10, 9, 11, 8, 2, 7, 6, 5, 4, 3, 1, 0] 12 (w' := put3 v12 (v2.heap.size) (.bool (ngB x4)) (.slice X12 m12 d12) (.int .i64 (s3 : Int))) rfl ha (fun o ho hg => ⟨(wanted_none hg), e_store ho (ha.ev (i := 15) (v := .pointer (some ⟨v2.heap.size, 0, none⟩)) (by simp)) (ha.ev (i := 96) (v := .agg #[.bool (ngB x4), .slice X12 m12 d12, .int .i64 (s3 : Int)]) (by simp)) (St.at_ (g := v2.heap.size) (x0 := .bool false) (x1 := .slice none 0 0) (x2 := .int .i64 0) E (by simp))⟩) (SX.of (bs' := [(V.heap.size, (.bool (ngB y)), (.slice Ay ny cy), (.int .i64 (S : Int)))]) E2 (by simp)) ?_; intro a ha
                    replace E := E2; clear E2
                    generalize hW : put3 v12 _ _ _ _ = v13 at E ⊢; clear hW
                    have hSw := SX.of (bs' := [(V.heap.size, (.bool (ngB y)), (.slice Ay ny cy), (.int .i64 (S : Int)))]) E (by simp)
                    refine line_end0 whAR (show ∀ i, i < 13 → i ∈ [12, 10, 9, 11, 8, 2, 7, 6, 5, 4, 3, 1, 0] by decide) ?_
                    exact ⟨rfl, v2.heap.size, X12, m12, d12, ha.sub (by simp), by omega, Lib.hid ((E.out).sub (by simp) (by simp))⟩
                ·
                  have lt14_0 := (St.at_ (x0 := (.bool (ngB y))) (x1 := (.slice Ay ny cy)) (x2 := (.int .i64 (S : Int))) (g := V.heap.size) E (by simp)).lt
                  refine turn_op whAR 8 0 [2, 7, 6, 5, 4, 3, 1, 0] 11 15 (v := .pointer (some ⟨v1.heap.size, 0, none⟩)) (w' := v1.alloc (.cells #[.bool false, .slice none 0 0, .int .i64 0] 25)) [(88, .agg #[.bool (ngB x1), .slice X1 m1 d1, .int .i64 (s1 : Int)]), (93, .agg #[(.bool (ngB iq)), (.slice Aq nq cq), (.int .i64 (sq : Int))]), (89, .agg #[(.bool (ngB T)), (.slice At nt ct), (.int .i64 (S : Int))]), (1, .slice (some ⟨b, f0, none⟩) k c), (3, .pointer (some ⟨w.heap.size, 0, none⟩)), (7, .int .i64 (S : Int)), (8, .pointer (some ⟨w1.heap.size, 0, none⟩)), (79, .slice (some ⟨g, 0, none⟩) k cs), (80, .int .i64 (k : Int)), (81, .int .i64 (q : Int)), (13, .int .i64 (q : Int)), (14, .pointer (some ⟨V.heap.size, 0, none⟩))] rfl (by decide) ha (fun o ho hg => ⟨(wanted_none hg), e_alloc ho⟩) (by simp) (SX.of (bs' := [(V.heap.size, (.bool (ngB y)), (.slice Ay ny cy), (.int .i64 (S : Int)))]) (Lib.hid (St.alloc E.out _)) (by simp)) ?_; intro a ha
                  replace E := Lib.hid (St.lay (t := 25) (x0 := .bool false) (x1 := .slice none 0 0) (x2 := .int .i64 0) (g := v1.heap.size) E.out rfl)
                  generalize hW : World.alloc v1 _ = v14 at E ⊢; clear hW
                  have hSw := SX.of (bs' := [(V.heap.size, (.bool (ngB y)), (.slice Ay ny cy), (.int .i64 (S : Int)))]) E (by simp)
                  refine line_all whAR 9 0 [11, 2, 7, 6, 5, 4, 3, 1, 0] [8] (by decide) (whAB _ (by decide)) (by simp) ?_
                  intro j hj; simp only [List.mem_cons, List.not_mem_nil, or_false] at hj
                  subst hj
                  refine turn_call whAR 9 0 [11, 2, 7, 6, 5, 4, 3, 1, 0] 8 94 (args := #[.agg #[(.bool (ngB T)), (.slice At nt ct), (.int .i64 (S : Int))], .agg #[(.bool (ngB iq)), (.slice Aq nq cq), (.int .i64 (sq : Int))]]) [(15, .pointer (some ⟨v1.heap.size, 0, none⟩)), (88, .agg #[.bool (ngB x1), .slice X1 m1 d1, .int .i64 (s1 : Int)]), (1, .slice (some ⟨b, f0, none⟩) k c), (3, .pointer (some ⟨w.heap.size, 0, none⟩)), (7, .int .i64 (S : Int)), (8, .pointer (some ⟨w1.heap.size, 0, none⟩)), (79, .slice (some ⟨g, 0, none⟩) k cs), (80, .int .i64 (k : Int)), (81, .int .i64 (q : Int)), (13, .int .i64 (q : Int)), (14, .pointer (some ⟨V.heap.size, 0, none⟩))] rfl (by decide) ha (fun o ho hg => ⟨(wanted_none hg), e_call (by kernel_rfl) ho rfl (by have q0 := ha.ev (i := 89) (v := .agg #[(.bool (ngB T)), (.slice At nt ct), (.int .i64 (S : Int))]) (by simp); have q1 := ha.ev (i := 93) (v := .agg #[(.bool (ngB iq)), (.slice Aq nq cq), (.int .i64 (sq : Int))]) (by simp); simp only [List.map_toArray, List.map_cons, List.map_nil, ev_const, q0, q1])⟩) (by simp) ?_
                  refine (mul_is5 (i := T) (s := S) (j := iq) (t := sq) (St.got E (A := At) (n := nt) (c := ct) (a := (T).natAbs) (by simp)) (St.got E (A := Aq) (n := nq) (c := cq) (a := (iq).natAbs) (by simp)) (by omega) (by omega) (by omega) (by omega) HS2'.out HX2.out).mono ?_; rintro e v15 ⟨X15, m15, d15, rfl, h, hb⟩
                  have q15 : m15 ≤ 4400 := len_le h HL2.out
                  replace E := Lib.hid (St.push E.out hb h)
                  clear h hb
                  have hSw := SX.of (bs' := [(V.heap.size, (.bool (ngB y)), (.slice Ay ny cy), (.int .i64 (S : Int)))]) E (by simp); refine ⟨_, rfl, hSw, ?_⟩; intro a ha
                  refine line_all whAR 10 0 [8, 11, 2, 7, 6, 5, 4, 3, 1, 0] [9] (by decide) (whAB _ (by decide)) (by simp) ?_
                  intro j hj; simp only [List.mem_cons, List.not_mem_nil, or_false] at hj
                  subst hj
                  refine turn_call whAR 10 0 [8, 11, 2, 7, 6, 5, 4, 3, 1, 0] 9 95 (args := #[.agg #[.bool (ngB x1), .slice X1 m1 d1, .int .i64 (s1 : Int)], .agg #[.bool (ngB x2), .slice X15 m15 d15, .int .i64 (s2 : Int)]]) [(15, .pointer (some ⟨v1.heap.size, 0, none⟩)), (1, .slice (some ⟨b, f0, none⟩) k c), (3, .pointer (some ⟨w.heap.size, 0, none⟩)), (7, .int .i64 (S : Int)), (8, .pointer (some ⟨w1.heap.size, 0, none⟩)), (79, .slice (some ⟨g, 0, none⟩) k cs), (80, .int .i64 (k : Int)), (81, .int .i64 (q : Int)), (13, .int .i64 (q : Int)), (14, .pointer (some ⟨V.heap.size, 0, none⟩))] rfl (by decide) ha (fun o ho hg => ⟨(wanted_none hg), e_call (by kernel_rfl) ho rfl (by have q0 := ha.ev (i := 88) (v := .agg #[.bool (ngB x1), .slice X1 m1 d1, .int .i64 (s1 : Int)]) (by simp); have q1 := ha.ev (i := 94) (v := .agg #[.bool (ngB x2), .slice X15 m15 d15, .int .i64 (s2 : Int)]) (by simp); simp only [List.map_toArray, List.map_cons, List.map_nil, ev_const, q0, q1])⟩) (by simp) ?_
                  refine (sub_is5 (i := x1) (s := s1) (j := x2) (t := s2) (St.got E (A := X1) (n := m1) (c := d1) (a := (x1).natAbs) (by simp)) (St.got E (A := X15) (n := m15) (c := d15) (a := (x2).natAbs) (by simp)) (by omega) (by omega) (by omega) (by omega) HS3'.out HX3.out).mono ?_; rintro e v16 ⟨X16, m16, d16, rfl, h, hb⟩
                  have q16 : m16 ≤ 4400 := len_le h HL3.out
                  replace E := Lib.hid (St.push E.out hb h)
                  clear h hb
                  have hSw := SX.of (bs' := [(V.heap.size, (.bool (ngB y)), (.slice Ay ny cy), (.int .i64 (S : Int)))]) E (by simp); refine ⟨_, rfl, hSw, ?_⟩; intro a ha
                  refine line_all whAR 11 0 [9, 8, 11, 2, 7, 6, 5, 4, 3, 1, 0] [10] (by decide) (whAB _ (by decide)) (by simp) ?_
                  intro j hj; simp only [List.mem_cons, List.not_mem_nil, or_false] at hj
                  subst hj
                  refine turn_call whAR 11 0 [9, 8, 11, 2, 7, 6, 5, 4, 3, 1, 0] 10 96 (args := #[.agg #[.bool (ngB x3), .slice X16 m16 d16, .int .i64 (s3 : Int)]]) [(15, .pointer (some ⟨v1.heap.size, 0, none⟩)), (1, .slice (some ⟨b, f0, none⟩) k c), (3, .pointer (some ⟨w.heap.size, 0, none⟩)), (7, .int .i64 (S : Int)), (8, .pointer (some ⟨w1.heap.size, 0, none⟩)), (79, .slice (some ⟨g, 0, none⟩) k cs), (80, .int .i64 (k : Int)), (81, .int .i64 (q : Int)), (13, .int .i64 (q : Int)), (14, .pointer (some ⟨V.heap.size, 0, none⟩))] rfl (by decide) ha (fun o ho hg => ⟨(wanted_none hg), e_call (by kernel_rfl) ho rfl (by have q0 := ha.ev (i := 95) (v := .agg #[.bool (ngB x3), .slice X16 m16 d16, .int .i64 (s3 : Int)]) (by simp); simp only [List.map_toArray, List.map_cons, List.map_nil, ev_const, q0])⟩) (by simp) ?_
                  refine (abs_is5 (i := x3) (s := s3) (St.got E (A := X16) (n := m16) (c := d16) (a := (x3).natAbs) (by simp)) (by omega) (by omega) HX4.out).mono ?_; rintro e v17 ⟨X17, m17, d17, rfl, h, hb⟩
                  have q17 : m17 ≤ 4400 := len_le h HL4.out
                  replace E := Lib.hid (St.push E.out hb h)
                  clear h hb
                  have hSw := SX.of (bs' := [(V.heap.size, (.bool (ngB y)), (.slice Ay ny cy), (.int .i64 (S : Int)))]) E (by simp); refine ⟨_, rfl, hSw, ?_⟩; intro a ha
                  refine line_all whAR 12 0 [10, 9, 8, 11, 2, 7, 6, 5, 4, 3, 1, 0] [12] (by decide) (whAB _ (by decide)) (by simp) ?_
                  intro j hj; simp only [List.mem_cons, List.not_mem_nil, or_false] at hj
                  subst hj
                  have E2 := Lib.hid (St.store E.out (g := v1.heap.size) (x0 := .bool false) (x1 := .slice none 0 0) (x2 := .int .i64 0) (by simp) (noLimb_bool _) (noLimb_slice _ _ _) (noLimb_int _) [(V.heap.size, (.bool (ngB y)), (.slice Ay ny cy), (.int .i64 (S : Int)))] (by simp <;> omega) (.bool (ngB x4)) (.slice X17 m17 d17) (.int .i64 (s3 : Int)))
                  refine turn_store whAR 12 0 [10, 9, 8, 11, 2, 7, 6, 5, 4, 3, 1, 0] 12 (w' := put3 v17 (v1.heap.size) (.bool (ngB x4)) (.slice X17 m17 d17) (.int .i64 (s3 : Int))) rfl ha (fun o ho hg => ⟨(wanted_none hg), e_store ho (ha.ev (i := 15) (v := .pointer (some ⟨v1.heap.size, 0, none⟩)) (by simp)) (ha.ev (i := 96) (v := .agg #[.bool (ngB x4), .slice X17 m17 d17, .int .i64 (s3 : Int)]) (by simp)) (St.at_ (g := v1.heap.size) (x0 := .bool false) (x1 := .slice none 0 0) (x2 := .int .i64 0) E (by simp))⟩) (SX.of (bs' := [(V.heap.size, (.bool (ngB y)), (.slice Ay ny cy), (.int .i64 (S : Int)))]) E2 (by simp)) ?_; intro a ha
                  replace E := E2; clear E2
                  generalize hW : put3 v17 _ _ _ _ = v18 at E ⊢; clear hW
                  have hSw := SX.of (bs' := [(V.heap.size, (.bool (ngB y)), (.slice Ay ny cy), (.int .i64 (S : Int)))]) E (by simp)
                  refine line_end0 whAR (show ∀ i, i < 13 → i ∈ [12, 10, 9, 8, 11, 2, 7, 6, 5, 4, 3, 1, 0] by decide) ?_
                  exact ⟨rfl, v1.heap.size, X17, m17, d17, ha.sub (by simp), by omega, Lib.hid ((E.out).sub (by simp) (by simp))⟩
              ·
                have lt19_0 := (St.at_ (x0 := (.bool (ngB y))) (x1 := (.slice Ay ny cy)) (x2 := (.int .i64 (S : Int))) (g := V.heap.size) E (by simp)).lt
                refine turn_op whAR 7 0 [7, 6, 5, 4, 3, 1, 0] 11 15 (v := .pointer (some ⟨v0.heap.size, 0, none⟩)) (w' := v0.alloc (.cells #[.bool false, .slice none 0 0, .int .i64 0] 25)) [(93, .agg #[(.bool (ngB iq)), (.slice Aq nq cq), (.int .i64 (sq : Int))]), (89, .agg #[(.bool (ngB T)), (.slice At nt ct), (.int .i64 (S : Int))]), (87, .agg #[(.bool (ngB P)), (.slice Aw nw cw), (.int .i64 (t : Int))]), (86, .agg #[(.bool (ngB y)), (.slice Ay ny cy), (.int .i64 (S : Int))]), (1, .slice (some ⟨b, f0, none⟩) k c), (3, .pointer (some ⟨w.heap.size, 0, none⟩)), (7, .int .i64 (S : Int)), (8, .pointer (some ⟨w1.heap.size, 0, none⟩)), (79, .slice (some ⟨g, 0, none⟩) k cs), (80, .int .i64 (k : Int)), (81, .int .i64 (q : Int)), (13, .int .i64 (q : Int)), (14, .pointer (some ⟨V.heap.size, 0, none⟩))] rfl (by decide) ha (fun o ho hg => ⟨(wanted_none hg), e_alloc ho⟩) (by simp) (SX.of (bs' := [(V.heap.size, (.bool (ngB y)), (.slice Ay ny cy), (.int .i64 (S : Int)))]) (Lib.hid (St.alloc E.out _)) (by simp)) ?_; intro a ha
                replace E := Lib.hid (St.lay (t := 25) (x0 := .bool false) (x1 := .slice none 0 0) (x2 := .int .i64 0) (g := v0.heap.size) E.out rfl)
                generalize hW : World.alloc v0 _ = v19 at E ⊢; clear hW
                have hSw := SX.of (bs' := [(V.heap.size, (.bool (ngB y)), (.slice Ay ny cy), (.int .i64 (S : Int)))]) E (by simp)
                refine line_all whAR 8 0 [11, 7, 6, 5, 4, 3, 1, 0] [2] (by decide) (whAB _ (by decide)) (by simp) ?_
                intro j hj; simp only [List.mem_cons, List.not_mem_nil, or_false] at hj
                subst hj
                refine turn_call whAR 8 0 [11, 7, 6, 5, 4, 3, 1, 0] 2 88 (args := #[.agg #[(.bool (ngB y)), (.slice Ay ny cy), (.int .i64 (S : Int))], .agg #[(.bool (ngB P)), (.slice Aw nw cw), (.int .i64 (t : Int))]]) [(15, .pointer (some ⟨v0.heap.size, 0, none⟩)), (93, .agg #[(.bool (ngB iq)), (.slice Aq nq cq), (.int .i64 (sq : Int))]), (89, .agg #[(.bool (ngB T)), (.slice At nt ct), (.int .i64 (S : Int))]), (1, .slice (some ⟨b, f0, none⟩) k c), (3, .pointer (some ⟨w.heap.size, 0, none⟩)), (7, .int .i64 (S : Int)), (8, .pointer (some ⟨w1.heap.size, 0, none⟩)), (79, .slice (some ⟨g, 0, none⟩) k cs), (80, .int .i64 (k : Int)), (81, .int .i64 (q : Int)), (13, .int .i64 (q : Int)), (14, .pointer (some ⟨V.heap.size, 0, none⟩))] rfl (by decide) ha (fun o ho hg => ⟨(wanted_none hg), e_call (by kernel_rfl) ho rfl (by have q0 := ha.ev (i := 86) (v := .agg #[(.bool (ngB y)), (.slice Ay ny cy), (.int .i64 (S : Int))]) (by simp); have q1 := ha.ev (i := 87) (v := .agg #[(.bool (ngB P)), (.slice Aw nw cw), (.int .i64 (t : Int))]) (by simp); simp only [List.map_toArray, List.map_cons, List.map_nil, ev_const, q0, q1])⟩) (by simp) ?_
                refine (mul_is5 (i := y) (s := S) (j := P) (t := t) (St.got E (A := Ay) (n := ny) (c := cy) (a := (y).natAbs) (by simp)) (St.got E (A := Aw) (n := nw) (c := cw) (a := (P).natAbs) (by simp)) (by omega) (by omega) (by omega) (by omega) HS1'.out HX1.out).mono ?_; rintro e v20 ⟨X20, m20, d20, rfl, h, hb⟩
                have q20 : m20 ≤ 4400 := len_le h HL1.out
                replace E := Lib.hid (St.push E.out hb h)
                clear h hb
                have hSw := SX.of (bs' := [(V.heap.size, (.bool (ngB y)), (.slice Ay ny cy), (.int .i64 (S : Int)))]) E (by simp); refine ⟨_, rfl, hSw, ?_⟩; intro a ha
                refine line_all whAR 9 0 [2, 11, 7, 6, 5, 4, 3, 1, 0] [8] (by decide) (whAB _ (by decide)) (by simp) ?_
                intro j hj; simp only [List.mem_cons, List.not_mem_nil, or_false] at hj
                subst hj
                refine turn_call whAR 9 0 [2, 11, 7, 6, 5, 4, 3, 1, 0] 8 94 (args := #[.agg #[(.bool (ngB T)), (.slice At nt ct), (.int .i64 (S : Int))], .agg #[(.bool (ngB iq)), (.slice Aq nq cq), (.int .i64 (sq : Int))]]) [(88, .agg #[.bool (ngB x1), .slice X20 m20 d20, .int .i64 (s1 : Int)]), (15, .pointer (some ⟨v0.heap.size, 0, none⟩)), (1, .slice (some ⟨b, f0, none⟩) k c), (3, .pointer (some ⟨w.heap.size, 0, none⟩)), (7, .int .i64 (S : Int)), (8, .pointer (some ⟨w1.heap.size, 0, none⟩)), (79, .slice (some ⟨g, 0, none⟩) k cs), (80, .int .i64 (k : Int)), (81, .int .i64 (q : Int)), (13, .int .i64 (q : Int)), (14, .pointer (some ⟨V.heap.size, 0, none⟩))] rfl (by decide) ha (fun o ho hg => ⟨(wanted_none hg), e_call (by kernel_rfl) ho rfl (by have q0 := ha.ev (i := 89) (v := .agg #[(.bool (ngB T)), (.slice At nt ct), (.int .i64 (S : Int))]) (by simp); have q1 := ha.ev (i := 93) (v := .agg #[(.bool (ngB iq)), (.slice Aq nq cq), (.int .i64 (sq : Int))]) (by simp); simp only [List.map_toArray, List.map_cons, List.map_nil, ev_const, q0, q1])⟩) (by simp) ?_
                refine (mul_is5 (i := T) (s := S) (j := iq) (t := sq) (St.got E (A := At) (n := nt) (c := ct) (a := (T).natAbs) (by simp)) (St.got E (A := Aq) (n := nq) (c := cq) (a := (iq).natAbs) (by simp)) (by omega) (by omega) (by omega) (by omega) HS2'.out HX2.out).mono ?_; rintro e v21 ⟨X21, m21, d21, rfl, h, hb⟩
                have q21 : m21 ≤ 4400 := len_le h HL2.out
                replace E := Lib.hid (St.push E.out hb h)
                clear h hb
                have hSw := SX.of (bs' := [(V.heap.size, (.bool (ngB y)), (.slice Ay ny cy), (.int .i64 (S : Int)))]) E (by simp); refine ⟨_, rfl, hSw, ?_⟩; intro a ha
                refine line_all whAR 10 0 [8, 2, 11, 7, 6, 5, 4, 3, 1, 0] [9] (by decide) (whAB _ (by decide)) (by simp) ?_
                intro j hj; simp only [List.mem_cons, List.not_mem_nil, or_false] at hj
                subst hj
                refine turn_call whAR 10 0 [8, 2, 11, 7, 6, 5, 4, 3, 1, 0] 9 95 (args := #[.agg #[.bool (ngB x1), .slice X20 m20 d20, .int .i64 (s1 : Int)], .agg #[.bool (ngB x2), .slice X21 m21 d21, .int .i64 (s2 : Int)]]) [(15, .pointer (some ⟨v0.heap.size, 0, none⟩)), (1, .slice (some ⟨b, f0, none⟩) k c), (3, .pointer (some ⟨w.heap.size, 0, none⟩)), (7, .int .i64 (S : Int)), (8, .pointer (some ⟨w1.heap.size, 0, none⟩)), (79, .slice (some ⟨g, 0, none⟩) k cs), (80, .int .i64 (k : Int)), (81, .int .i64 (q : Int)), (13, .int .i64 (q : Int)), (14, .pointer (some ⟨V.heap.size, 0, none⟩))] rfl (by decide) ha (fun o ho hg => ⟨(wanted_none hg), e_call (by kernel_rfl) ho rfl (by have q0 := ha.ev (i := 88) (v := .agg #[.bool (ngB x1), .slice X20 m20 d20, .int .i64 (s1 : Int)]) (by simp); have q1 := ha.ev (i := 94) (v := .agg #[.bool (ngB x2), .slice X21 m21 d21, .int .i64 (s2 : Int)]) (by simp); simp only [List.map_toArray, List.map_cons, List.map_nil, ev_const, q0, q1])⟩) (by simp) ?_
                refine (sub_is5 (i := x1) (s := s1) (j := x2) (t := s2) (St.got E (A := X20) (n := m20) (c := d20) (a := (x1).natAbs) (by simp)) (St.got E (A := X21) (n := m21) (c := d21) (a := (x2).natAbs) (by simp)) (by omega) (by omega) (by omega) (by omega) HS3'.out HX3.out).mono ?_; rintro e v22 ⟨X22, m22, d22, rfl, h, hb⟩
                have q22 : m22 ≤ 4400 := len_le h HL3.out
                replace E := Lib.hid (St.push E.out hb h)
                clear h hb
                have hSw := SX.of (bs' := [(V.heap.size, (.bool (ngB y)), (.slice Ay ny cy), (.int .i64 (S : Int)))]) E (by simp); refine ⟨_, rfl, hSw, ?_⟩; intro a ha
                refine line_all whAR 11 0 [9, 8, 2, 11, 7, 6, 5, 4, 3, 1, 0] [10] (by decide) (whAB _ (by decide)) (by simp) ?_
                intro j hj; simp only [List.mem_cons, List.not_mem_nil, or_false] at hj
                subst hj
                refine turn_call whAR 11 0 [9, 8, 2, 11, 7, 6, 5, 4, 3, 1, 0] 10 96 (args := #[.agg #[.bool (ngB x3), .slice X22 m22 d22, .int .i64 (s3 : Int)]]) [(15, .pointer (some ⟨v0.heap.size, 0, none⟩)), (1, .slice (some ⟨b, f0, none⟩) k c), (3, .pointer (some ⟨w.heap.size, 0, none⟩)), (7, .int .i64 (S : Int)), (8, .pointer (some ⟨w1.heap.size, 0, none⟩)), (79, .slice (some ⟨g, 0, none⟩) k cs), (80, .int .i64 (k : Int)), (81, .int .i64 (q : Int)), (13, .int .i64 (q : Int)), (14, .pointer (some ⟨V.heap.size, 0, none⟩))] rfl (by decide) ha (fun o ho hg => ⟨(wanted_none hg), e_call (by kernel_rfl) ho rfl (by have q0 := ha.ev (i := 95) (v := .agg #[.bool (ngB x3), .slice X22 m22 d22, .int .i64 (s3 : Int)]) (by simp); simp only [List.map_toArray, List.map_cons, List.map_nil, ev_const, q0])⟩) (by simp) ?_
                refine (abs_is5 (i := x3) (s := s3) (St.got E (A := X22) (n := m22) (c := d22) (a := (x3).natAbs) (by simp)) (by omega) (by omega) HX4.out).mono ?_; rintro e v23 ⟨X23, m23, d23, rfl, h, hb⟩
                have q23 : m23 ≤ 4400 := len_le h HL4.out
                replace E := Lib.hid (St.push E.out hb h)
                clear h hb
                have hSw := SX.of (bs' := [(V.heap.size, (.bool (ngB y)), (.slice Ay ny cy), (.int .i64 (S : Int)))]) E (by simp); refine ⟨_, rfl, hSw, ?_⟩; intro a ha
                refine line_all whAR 12 0 [10, 9, 8, 2, 11, 7, 6, 5, 4, 3, 1, 0] [12] (by decide) (whAB _ (by decide)) (by simp) ?_
                intro j hj; simp only [List.mem_cons, List.not_mem_nil, or_false] at hj
                subst hj
                have E2 := Lib.hid (St.store E.out (g := v0.heap.size) (x0 := .bool false) (x1 := .slice none 0 0) (x2 := .int .i64 0) (by simp) (noLimb_bool _) (noLimb_slice _ _ _) (noLimb_int _) [(V.heap.size, (.bool (ngB y)), (.slice Ay ny cy), (.int .i64 (S : Int)))] (by simp <;> omega) (.bool (ngB x4)) (.slice X23 m23 d23) (.int .i64 (s3 : Int)))
                refine turn_store whAR 12 0 [10, 9, 8, 2, 11, 7, 6, 5, 4, 3, 1, 0] 12 (w' := put3 v23 (v0.heap.size) (.bool (ngB x4)) (.slice X23 m23 d23) (.int .i64 (s3 : Int))) rfl ha (fun o ho hg => ⟨(wanted_none hg), e_store ho (ha.ev (i := 15) (v := .pointer (some ⟨v0.heap.size, 0, none⟩)) (by simp)) (ha.ev (i := 96) (v := .agg #[.bool (ngB x4), .slice X23 m23 d23, .int .i64 (s3 : Int)]) (by simp)) (St.at_ (g := v0.heap.size) (x0 := .bool false) (x1 := .slice none 0 0) (x2 := .int .i64 0) E (by simp))⟩) (SX.of (bs' := [(V.heap.size, (.bool (ngB y)), (.slice Ay ny cy), (.int .i64 (S : Int)))]) E2 (by simp)) ?_; intro a ha
                replace E := E2; clear E2
                generalize hW : put3 v23 _ _ _ _ = v24 at E ⊢; clear hW
                have hSw := SX.of (bs' := [(V.heap.size, (.bool (ngB y)), (.slice Ay ny cy), (.int .i64 (S : Int)))]) E (by simp)
                refine line_end0 whAR (show ∀ i, i < 13 → i ∈ [12, 10, 9, 8, 2, 11, 7, 6, 5, 4, 3, 1, 0] by decide) ?_
                exact ⟨rfl, v0.heap.size, X23, m23, d23, ha.sub (by simp), by omega, Lib.hid ((E.out).sub (by simp) (by simp))⟩
            clear E
            rintro a wN ⟨g15, A9, n9, c9, ha, hbd, E⟩
            simp only [Exit.then]
            refine hKB _ _ ?_
            clear hKB KB
            refine wp_seq_k (fun KB hKB => ?_)
            replace E := Lib.hid (St.drew E.out)
            by_cases hz : iq = 0
            ·
              have HYS : Hid (y.sign = 0) := by show _ = _; rw [HZR.out hz]; rfl
              have HZ2 : Hid (iq.sign = 0) := by show _ = _; rw [hz]; rfl
              clear HZS
              have HZS := HZ2
              clear HZ2 hz
              refine line_start (ops := opsAt Try.prog 3 22) (S := SX w8 [(g15, (.bool (ngB x4)), (.slice A9 n9 c9), (.int .i64 (s3 : Int))), (V.heap.size, (.bool (ngB y)), (.slice Ay ny cy), (.int .i64 (S : Int)))]) (by kernel_rfl) (by kernel_rfl) (SX.of (bs' := [(g15, (.bool (ngB x4)), (.slice A9 n9 c9), (.int .i64 (s3 : Int))), (V.heap.size, (.bool (ngB y)), (.slice Ay ny cy), (.int .i64 (S : Int)))]) E (by simp)) ?_
              have hSw := SX.of (bs' := [(g15, (.bool (ngB x4)), (.slice A9 n9 c9), (.int .i64 (s3 : Int))), (V.heap.size, (.bool (ngB y)), (.slice Ay ny cy), (.int .i64 (S : Int)))]) E (by simp)
              refine line_still whCR 0 0 [] 97 (.pointer (some ⟨V.heap.size, 2, none⟩)) [(14, .pointer (some ⟨V.heap.size, 0, none⟩)), (15, .pointer (some ⟨g15, 0, none⟩)), (1, .slice (some ⟨b, f0, none⟩) k c), (3, .pointer (some ⟨w.heap.size, 0, none⟩)), (7, .int .i64 (S : Int)), (8, .pointer (some ⟨w1.heap.size, 0, none⟩)), (79, .slice (some ⟨g, 0, none⟩) k cs), (80, .int .i64 (k : Int)), (81, .int .i64 (q : Int)), (13, .int .i64 (q : Int))] rfl (by decide) (by decide) (by decide) ha (fun o ho hg => y_of (wanted_none hg) (fun wx hS => e_field 2 (by simp) ho (ha.ev (i := 14) (v := .pointer (some ⟨V.heap.size, 0, none⟩)) (by simp)))) (by simp) hSw ?_; intro a ha
              refine line_still whCR 1 1 [] 98 ((.int .i64 (S : Int))) [(14, .pointer (some ⟨V.heap.size, 0, none⟩)), (15, .pointer (some ⟨g15, 0, none⟩)), (1, .slice (some ⟨b, f0, none⟩) k c), (3, .pointer (some ⟨w.heap.size, 0, none⟩)), (7, .int .i64 (S : Int)), (8, .pointer (some ⟨w1.heap.size, 0, none⟩)), (79, .slice (some ⟨g, 0, none⟩) k cs), (80, .int .i64 (k : Int)), (81, .int .i64 (q : Int)), (13, .int .i64 (q : Int))] rfl (by decide) (by decide) (by decide) ha (fun o ho hg => y_of (wanted_none hg) (fun wx hS => e_cell (by simp) ho (ha.ev (i := 97) (v := .pointer (some ⟨V.heap.size, 2, none⟩)) (by simp)) (hS.at_ (g := V.heap.size) (x0 := (.bool (ngB y))) (x1 := (.slice Ay ny cy)) (x2 := (.int .i64 (S : Int))) (by simp)).c2)) (by simp) hSw ?_; intro a ha
              refine line_still whCR 2 2 [] 99 (.int .i64 (S : Int)) [(98, (.int .i64 (S : Int))), (14, .pointer (some ⟨V.heap.size, 0, none⟩)), (15, .pointer (some ⟨g15, 0, none⟩)), (1, .slice (some ⟨b, f0, none⟩) k c), (3, .pointer (some ⟨w.heap.size, 0, none⟩)), (7, .int .i64 (S : Int)), (8, .pointer (some ⟨w1.heap.size, 0, none⟩)), (79, .slice (some ⟨g, 0, none⟩) k cs), (80, .int .i64 (k : Int)), (81, .int .i64 (q : Int)), (13, .int .i64 (q : Int))] rfl (by decide) (by decide) (by decide) ha (fun o ho hg => y_of (wanted_none hg) (fun wx hS => e_move (.inl ho) (ha.ev (i := 7) (v := .int .i64 (S : Int)) (by simp)))) (by simp) hSw ?_; intro a ha
              refine line_still whCR 3 3 [] 100 (.bool false) [(14, .pointer (some ⟨V.heap.size, 0, none⟩)), (15, .pointer (some ⟨g15, 0, none⟩)), (1, .slice (some ⟨b, f0, none⟩) k c), (3, .pointer (some ⟨w.heap.size, 0, none⟩)), (7, .int .i64 (S : Int)), (8, .pointer (some ⟨w1.heap.size, 0, none⟩)), (79, .slice (some ⟨g, 0, none⟩) k cs), (80, .int .i64 (k : Int)), (81, .int .i64 (q : Int)), (13, .int .i64 (q : Int))] rfl (by decide) (by decide) (by decide) ha (fun o ho hg => y_of (wanted_none hg) (fun wx hS => (e_neq ho (ha.ev (i := 98) (v := (.int .i64 (S : Int))) (by simp)) (ha.ev (i := 99) (v := .int .i64 (S : Int)) (by simp))).trans (by rw [D3.out]))) (by simp) hSw ?_; intro a ha
              refine line_still whCR 4 4 [] 101 (.bool false) [(14, .pointer (some ⟨V.heap.size, 0, none⟩)), (15, .pointer (some ⟨g15, 0, none⟩)), (1, .slice (some ⟨b, f0, none⟩) k c), (3, .pointer (some ⟨w.heap.size, 0, none⟩)), (7, .int .i64 (S : Int)), (8, .pointer (some ⟨w1.heap.size, 0, none⟩)), (79, .slice (some ⟨g, 0, none⟩) k cs), (80, .int .i64 (k : Int)), (81, .int .i64 (q : Int)), (13, .int .i64 (q : Int))] rfl (by decide) (by decide) (by decide) ha (fun o ho hg => y_of (wanted_none hg) (fun wx hS => e_move (.inl ho) (ha.ev (i := 100) (v := .bool false) (by simp)))) (by simp) hSw ?_; intro a ha
              refine line_still whCR 5 5 [] 102 (.agg #[(.bool (ngB x4)), (.slice A9 n9 c9), (.int .i64 (s3 : Int))]) [(101, .bool false), (14, .pointer (some ⟨V.heap.size, 0, none⟩)), (1, .slice (some ⟨b, f0, none⟩) k c), (3, .pointer (some ⟨w.heap.size, 0, none⟩)), (7, .int .i64 (S : Int)), (8, .pointer (some ⟨w1.heap.size, 0, none⟩)), (79, .slice (some ⟨g, 0, none⟩) k cs), (80, .int .i64 (k : Int)), (81, .int .i64 (q : Int)), (13, .int .i64 (q : Int))] rfl (by decide) (by decide) (by decide) ha (fun o ho hg => y_of (whCR.wanted hg rfl ha (d := 101) (by simp)) (fun wx hS => e_load ho (ha.ev (i := 15) (v := .pointer (some ⟨g15, 0, none⟩)) (by simp)) (hS.at_ (g := g15) (x0 := (.bool (ngB x4))) (x1 := (.slice A9 n9 c9)) (x2 := (.int .i64 (s3 : Int))) (by simp)))) (by simp) hSw ?_; intro a ha
              refine line_still whCR 6 6 [] 103 (.agg #[(.bool (ngB P)), (.slice Aw nw cw), (.int .i64 (t : Int))]) [(102, .agg #[(.bool (ngB x4)), (.slice A9 n9 c9), (.int .i64 (s3 : Int))]), (101, .bool false), (14, .pointer (some ⟨V.heap.size, 0, none⟩)), (1, .slice (some ⟨b, f0, none⟩) k c), (3, .pointer (some ⟨w.heap.size, 0, none⟩)), (7, .int .i64 (S : Int)), (8, .pointer (some ⟨w1.heap.size, 0, none⟩)), (79, .slice (some ⟨g, 0, none⟩) k cs), (80, .int .i64 (k : Int)), (81, .int .i64 (q : Int)), (13, .int .i64 (q : Int))] rfl (by decide) (by decide) (by decide) ha (fun o ho hg => y_of (whCR.wanted hg rfl ha (d := 101) (by simp)) (fun wx hS => e_load ho (ha.ev (i := 8) (v := .pointer (some ⟨w1.heap.size, 0, none⟩)) (by simp)) (BP.out.on hS.2))) (by simp) hSw ?_; intro a ha
              refine line_still whCR 7 7 [] 104 (.int .i64 (S : Int)) [(103, .agg #[(.bool (ngB P)), (.slice Aw nw cw), (.int .i64 (t : Int))]), (102, .agg #[(.bool (ngB x4)), (.slice A9 n9 c9), (.int .i64 (s3 : Int))]), (101, .bool false), (14, .pointer (some ⟨V.heap.size, 0, none⟩)), (1, .slice (some ⟨b, f0, none⟩) k c), (3, .pointer (some ⟨w.heap.size, 0, none⟩)), (7, .int .i64 (S : Int)), (8, .pointer (some ⟨w1.heap.size, 0, none⟩)), (79, .slice (some ⟨g, 0, none⟩) k cs), (80, .int .i64 (k : Int)), (81, .int .i64 (q : Int)), (13, .int .i64 (q : Int))] rfl (by decide) (by decide) (by decide) ha (fun o ho hg => y_of (whCR.wanted hg rfl ha (d := 101) (by simp)) (fun wx hS => e_move (.inl ho) (ha.ev (i := 7) (v := .int .i64 (S : Int)) (by simp)))) (by simp) hSw ?_; intro a ha
              refine line_call whCR 8 8 [] 105 (args := #[.int .i64 (S : Int)]) [(103, .agg #[(.bool (ngB P)), (.slice Aw nw cw), (.int .i64 (t : Int))]), (102, .agg #[(.bool (ngB x4)), (.slice A9 n9 c9), (.int .i64 (s3 : Int))]), (101, .bool false), (14, .pointer (some ⟨V.heap.size, 0, none⟩)), (1, .slice (some ⟨b, f0, none⟩) k c), (3, .pointer (some ⟨w.heap.size, 0, none⟩)), (7, .int .i64 (S : Int)), (8, .pointer (some ⟨w1.heap.size, 0, none⟩)), (79, .slice (some ⟨g, 0, none⟩) k cs), (80, .int .i64 (k : Int)), (81, .int .i64 (q : Int)), (13, .int .i64 (q : Int))] rfl (by decide) (by decide) (by decide) ha (fun o ho hg => ⟨(whCR.wanted hg rfl ha (d := 101) (by simp)), e_call (by kernel_rfl) ho rfl (by have q0 := ha.ev (i := 104) (v := .int .i64 (S : Int)) (by simp); simp only [List.map_toArray, List.map_cons, List.map_nil, ev_const, q0])⟩) (by simp) ?_
              refine (unit_is (S := S) _ HV.out (by omega)).mono ?_; rintro e w61 ⟨A61, n61, c61, rfl, h, hb⟩
              have b61 : n61 ≤ 1 := len_le h O1.out
              replace E := Lib.hid (St.push E.out hb h)
              clear h hb
              have hSw := SX.of (bs' := [(g15, (.bool (ngB x4)), (.slice A9 n9 c9), (.int .i64 (s3 : Int))), (V.heap.size, (.bool (ngB y)), (.slice Ay ny cy), (.int .i64 (S : Int)))]) E (by simp); refine ⟨_, rfl, hSw, ?_⟩; intro a ha
              refine line_call whCR 9 9 [] 106 (args := #[.agg #[(.bool (ngB P)), (.slice Aw nw cw), (.int .i64 (t : Int))], .agg #[.bool (ngB (1 : Int)), .slice A61 n61 c61, .int .i64 (S : Int)]]) [(102, .agg #[(.bool (ngB x4)), (.slice A9 n9 c9), (.int .i64 (s3 : Int))]), (101, .bool false), (14, .pointer (some ⟨V.heap.size, 0, none⟩)), (1, .slice (some ⟨b, f0, none⟩) k c), (3, .pointer (some ⟨w.heap.size, 0, none⟩)), (7, .int .i64 (S : Int)), (8, .pointer (some ⟨w1.heap.size, 0, none⟩)), (79, .slice (some ⟨g, 0, none⟩) k cs), (80, .int .i64 (k : Int)), (81, .int .i64 (q : Int)), (13, .int .i64 (q : Int))] rfl (by decide) (by decide) (by decide) ha (fun o ho hg => ⟨(whCR.wanted hg rfl ha (d := 101) (by simp)), e_call (by kernel_rfl) ho rfl (by have q0 := ha.ev (i := 103) (v := .agg #[(.bool (ngB P)), (.slice Aw nw cw), (.int .i64 (t : Int))]) (by simp); have q1 := ha.ev (i := 105) (v := .agg #[.bool (ngB (1 : Int)), .slice A61 n61 c61, .int .i64 (S : Int)]) (by simp); simp only [List.map_toArray, List.map_cons, List.map_nil, ev_const, q0, q1])⟩) (by simp) ?_
              refine (mul_is5 (i := P) (s := t) (j := (1 : Int)) (t := S) (St.got E (A := Aw) (n := nw) (c := cw) (a := (P).natAbs) (by simp)) (St.got E (A := A61) (n := n61) (c := c61) (a := ((1 : Int)).natAbs) (by simp)) (by omega) (by omega) (by omega) (by omega) HS5'.out HX5.out).mono ?_; rintro e w62 ⟨A62, n62, c62, rfl, h, hb⟩
              have b62 : n62 ≤ 170 := len_le h HL5.out
              replace E := Lib.hid (St.push E.out hb h)
              clear h hb
              have hSw := SX.of (bs' := [(g15, (.bool (ngB x4)), (.slice A9 n9 c9), (.int .i64 (s3 : Int))), (V.heap.size, (.bool (ngB y)), (.slice Ay ny cy), (.int .i64 (S : Int)))]) E (by simp); refine ⟨_, rfl, hSw, ?_⟩; intro a ha
              refine line_call whCR 10 10 [] 107 (args := #[.agg #[(.bool (ngB x4)), (.slice A9 n9 c9), (.int .i64 (s3 : Int))], .agg #[.bool (ngB x5), .slice A62 n62 c62, .int .i64 (s5 : Int)]]) [(101, .bool false), (14, .pointer (some ⟨V.heap.size, 0, none⟩)), (1, .slice (some ⟨b, f0, none⟩) k c), (3, .pointer (some ⟨w.heap.size, 0, none⟩)), (7, .int .i64 (S : Int)), (8, .pointer (some ⟨w1.heap.size, 0, none⟩)), (79, .slice (some ⟨g, 0, none⟩) k cs), (80, .int .i64 (k : Int)), (81, .int .i64 (q : Int)), (13, .int .i64 (q : Int))] rfl (by decide) (by decide) (by decide) ha (fun o ho hg => ⟨(whCR.wanted hg rfl ha (d := 101) (by simp)), e_call (by kernel_rfl) ho rfl (by have q0 := ha.ev (i := 102) (v := .agg #[(.bool (ngB x4)), (.slice A9 n9 c9), (.int .i64 (s3 : Int))]) (by simp); have q1 := ha.ev (i := 106) (v := .agg #[.bool (ngB x5), .slice A62 n62 c62, .int .i64 (s5 : Int)]) (by simp); simp only [List.map_toArray, List.map_cons, List.map_nil, ev_const, q0, q1])⟩) (by simp) ?_
              refine (cmp5_is (i := x4) (s := s3) (j := x5) (t := s5) (St.got E (A := A9) (n := n9) (c := c9) (a := (x4).natAbs) (by simp)) (St.got E (A := A62) (n := n62) (c := c62) (a := (x5).natAbs) (by simp)) (by omega) (by omega) (by omega) (by omega) HZC.out).mono ?_; rintro e w63 ⟨rfl, hb⟩
              replace E := Lib.hid (St.step E.out hb)
              clear hb
              have hSw := SX.of (bs' := [(g15, (.bool (ngB x4)), (.slice A9 n9 c9), (.int .i64 (s3 : Int))), (V.heap.size, (.bool (ngB y)), (.slice Ay ny cy), (.int .i64 (S : Int)))]) E (by simp); refine ⟨_, rfl, hSw, ?_⟩; intro a ha
              refine line_still whCR 11 11 [] 108 (.bool false) [(101, .bool false), (14, .pointer (some ⟨V.heap.size, 0, none⟩)), (1, .slice (some ⟨b, f0, none⟩) k c), (3, .pointer (some ⟨w.heap.size, 0, none⟩)), (7, .int .i64 (S : Int)), (8, .pointer (some ⟨w1.heap.size, 0, none⟩)), (79, .slice (some ⟨g, 0, none⟩) k cs), (80, .int .i64 (k : Int)), (81, .int .i64 (q : Int)), (13, .int .i64 (q : Int))] rfl (by decide) (by decide) (by decide) ha (fun o ho hg => y_of (whCR.wanted hg rfl ha (d := 101) (by simp)) (fun wx hS => (e_geq ho (ha.ev (i := 107) (v := .int .i64 zc) (by simp)) rfl).trans (by rw [DC.out]))) (by simp) hSw ?_; intro a ha
              refine line_still whCR 12 12 [] 109 (.bool false) [(14, .pointer (some ⟨V.heap.size, 0, none⟩)), (1, .slice (some ⟨b, f0, none⟩) k c), (3, .pointer (some ⟨w.heap.size, 0, none⟩)), (7, .int .i64 (S : Int)), (8, .pointer (some ⟨w1.heap.size, 0, none⟩)), (79, .slice (some ⟨g, 0, none⟩) k cs), (80, .int .i64 (k : Int)), (81, .int .i64 (q : Int)), (13, .int .i64 (q : Int))] rfl (by decide) (by decide) (by decide) ha (fun o ho hg => y_of (wanted_none hg) (fun wx hS => e_pick ho (ha.ev (i := 101) (v := .bool false) (by simp)) rfl (ha.ev (i := 108) (v := .bool false) (by simp)))) (by simp) hSw ?_; intro a ha
              refine line_still whCR 13 13 [] 110 (.bool false) [(14, .pointer (some ⟨V.heap.size, 0, none⟩)), (1, .slice (some ⟨b, f0, none⟩) k c), (3, .pointer (some ⟨w.heap.size, 0, none⟩)), (7, .int .i64 (S : Int)), (8, .pointer (some ⟨w1.heap.size, 0, none⟩)), (79, .slice (some ⟨g, 0, none⟩) k cs), (80, .int .i64 (k : Int)), (81, .int .i64 (q : Int)), (13, .int .i64 (q : Int))] rfl (by decide) (by decide) (by decide) ha (fun o ho hg => y_of (wanted_none hg) (fun wx hS => e_move (.inl ho) (ha.ev (i := 109) (v := .bool false) (by simp)))) (by simp) hSw ?_; intro a ha
              refine line_still whCR 14 14 [] 111 (.slice (some ⟨b, f0, none⟩) k c) [(110, .bool false), (14, .pointer (some ⟨V.heap.size, 0, none⟩)), (1, .slice (some ⟨b, f0, none⟩) k c), (3, .pointer (some ⟨w.heap.size, 0, none⟩)), (7, .int .i64 (S : Int)), (8, .pointer (some ⟨w1.heap.size, 0, none⟩)), (79, .slice (some ⟨g, 0, none⟩) k cs), (80, .int .i64 (k : Int)), (81, .int .i64 (q : Int)), (13, .int .i64 (q : Int))] rfl (by decide) (by decide) (by decide) ha (fun o ho hg => y_of (whCR.wanted hg rfl ha (d := 110) (by simp)) (fun wx hS => e_move (.inl ho) (ha.ev (i := 1) (v := .slice (some ⟨b, f0, none⟩) k c) (by simp)))) (by simp) hSw ?_; intro a ha
              refine line_still whCR 15 15 [] 112 (.int .i64 (q : Int)) [(111, .slice (some ⟨b, f0, none⟩) k c), (110, .bool false), (14, .pointer (some ⟨V.heap.size, 0, none⟩)), (1, .slice (some ⟨b, f0, none⟩) k c), (3, .pointer (some ⟨w.heap.size, 0, none⟩)), (7, .int .i64 (S : Int)), (8, .pointer (some ⟨w1.heap.size, 0, none⟩)), (79, .slice (some ⟨g, 0, none⟩) k cs), (80, .int .i64 (k : Int)), (81, .int .i64 (q : Int))] rfl (by decide) (by decide) (by decide) ha (fun o ho hg => y_of (whCR.wanted hg rfl ha (d := 110) (by simp)) (fun wx hS => e_move (.inl ho) (ha.ev (i := 13) (v := .int .i64 (q : Int)) (by simp)))) (by simp) hSw ?_; intro a ha
              refine line_still whCR 16 16 [] 113 (.pointer (some ⟨b, f0 + q * 3, none⟩)) [(110, .bool false), (14, .pointer (some ⟨V.heap.size, 0, none⟩)), (1, .slice (some ⟨b, f0, none⟩) k c), (3, .pointer (some ⟨w.heap.size, 0, none⟩)), (7, .int .i64 (S : Int)), (8, .pointer (some ⟨w1.heap.size, 0, none⟩)), (79, .slice (some ⟨g, 0, none⟩) k cs), (80, .int .i64 (k : Int)), (81, .int .i64 (q : Int))] rfl (by decide) (by decide) (by decide) ha (fun o ho hg => y_of (whCR.wanted hg rfl ha (d := 110) (by simp)) (fun wx hS => e_idxY hlt HKC.out HCM2.out ho (ha.ev (i := 111) (v := .slice (some ⟨b, f0, none⟩) k c) (by simp)) (ha.ev (i := 112) (v := .int .i64 (q : Int)) (by simp)))) (by simp) hSw ?_; intro a ha
              refine line_still whCR 17 17 [] 114 (.agg #[(.bool (ngB iq)), (.slice Aq nq cq), (.int .i64 (sq : Int))]) [(110, .bool false), (14, .pointer (some ⟨V.heap.size, 0, none⟩)), (1, .slice (some ⟨b, f0, none⟩) k c), (3, .pointer (some ⟨w.heap.size, 0, none⟩)), (7, .int .i64 (S : Int)), (8, .pointer (some ⟨w1.heap.size, 0, none⟩)), (79, .slice (some ⟨g, 0, none⟩) k cs), (80, .int .i64 (k : Int)), (81, .int .i64 (q : Int))] rfl (by decide) (by decide) (by decide) ha (fun o ho hg => y_of (whCR.wanted hg rfl ha (d := 110) (by simp)) (fun wx hS => e_loadY ho (ha.ev (i := 113) (v := .pointer (some ⟨b, f0 + q * 3, none⟩)) (by simp)) (HCQ.out.on hS.2))) (by simp) hSw ?_; intro a ha
              refine line_call whCR 18 18 [] 115 (args := #[.agg #[(.bool (ngB iq)), (.slice Aq nq cq), (.int .i64 (sq : Int))]]) [(110, .bool false), (14, .pointer (some ⟨V.heap.size, 0, none⟩)), (1, .slice (some ⟨b, f0, none⟩) k c), (3, .pointer (some ⟨w.heap.size, 0, none⟩)), (7, .int .i64 (S : Int)), (8, .pointer (some ⟨w1.heap.size, 0, none⟩)), (79, .slice (some ⟨g, 0, none⟩) k cs), (80, .int .i64 (k : Int)), (81, .int .i64 (q : Int))] rfl (by decide) (by decide) (by decide) ha (fun o ho hg => ⟨(whCR.wanted hg rfl ha (d := 110) (by simp)), e_call (by kernel_rfl) ho rfl (by have q0 := ha.ev (i := 114) (v := .agg #[(.bool (ngB iq)), (.slice Aq nq cq), (.int .i64 (sq : Int))]) (by simp); simp only [List.map_toArray, List.map_cons, List.map_nil, ev_const, q0])⟩) (by simp) ?_
              refine (sign_is (i := iq) (s := sq) (St.got E (A := Aq) (n := nq) (c := cq) (a := (iq).natAbs) (by simp)) HZS.out).mono ?_; rintro e w64 ⟨rfl, hb⟩
              replace E := Lib.hid (St.step E.out hb)
              clear hb
              have hSw := SX.of (bs' := [(g15, (.bool (ngB x4)), (.slice A9 n9 c9), (.int .i64 (s3 : Int))), (V.heap.size, (.bool (ngB y)), (.slice Ay ny cy), (.int .i64 (S : Int)))]) E (by simp); refine ⟨_, rfl, hSw, ?_⟩; intro a ha
              refine line_still whCR 19 19 [] 116 (.bool true) [(110, .bool false), (14, .pointer (some ⟨V.heap.size, 0, none⟩)), (1, .slice (some ⟨b, f0, none⟩) k c), (3, .pointer (some ⟨w.heap.size, 0, none⟩)), (7, .int .i64 (S : Int)), (8, .pointer (some ⟨w1.heap.size, 0, none⟩)), (79, .slice (some ⟨g, 0, none⟩) k cs), (80, .int .i64 (k : Int)), (81, .int .i64 (q : Int))] rfl (by decide) (by decide) (by decide) ha (fun o ho hg => y_of (whCR.wanted hg rfl ha (d := 110) (by simp)) (fun wx hS => e_eql ho (ha.ev (i := 115) (v := .int .i64 0) (by simp)) rfl)) (by simp) hSw ?_; intro a ha
              refine line_still whCR 20 20 [] 117 (.bool true) [(110, .bool false), (14, .pointer (some ⟨V.heap.size, 0, none⟩)), (1, .slice (some ⟨b, f0, none⟩) k c), (3, .pointer (some ⟨w.heap.size, 0, none⟩)), (7, .int .i64 (S : Int)), (8, .pointer (some ⟨w1.heap.size, 0, none⟩)), (79, .slice (some ⟨g, 0, none⟩) k cs), (80, .int .i64 (k : Int)), (81, .int .i64 (q : Int))] rfl (by decide) (by decide) (by decide) ha (fun o ho hg => y_of (whCR.wanted hg rfl ha (d := 110) (by simp)) (fun wx hS => e_move (.inl ho) (ha.ev (i := 116) (v := .bool true) (by simp)))) (by simp) hSw ?_; intro a ha
              refine line_still whCR 21 21 [] 118 (.agg #[(.bool (ngB y)), (.slice Ay ny cy), (.int .i64 (S : Int))]) [(117, .bool true), (110, .bool false), (1, .slice (some ⟨b, f0, none⟩) k c), (3, .pointer (some ⟨w.heap.size, 0, none⟩)), (7, .int .i64 (S : Int)), (8, .pointer (some ⟨w1.heap.size, 0, none⟩)), (79, .slice (some ⟨g, 0, none⟩) k cs), (80, .int .i64 (k : Int)), (81, .int .i64 (q : Int))] rfl (by decide) (by decide) (by decide) ha (fun o ho hg => y_of (whCR.wanted hg rfl ha (d := 117) (by simp)) (fun wx hS => e_load ho (ha.ev (i := 14) (v := .pointer (some ⟨V.heap.size, 0, none⟩)) (by simp)) (hS.at_ (g := V.heap.size) (x0 := (.bool (ngB y))) (x1 := (.slice Ay ny cy)) (x2 := (.int .i64 (S : Int))) (by simp)))) (by simp) hSw ?_; intro a ha
              refine line_call whCR 22 22 [] 119 (args := #[.agg #[(.bool (ngB y)), (.slice Ay ny cy), (.int .i64 (S : Int))]]) [(117, .bool true), (110, .bool false), (1, .slice (some ⟨b, f0, none⟩) k c), (3, .pointer (some ⟨w.heap.size, 0, none⟩)), (7, .int .i64 (S : Int)), (8, .pointer (some ⟨w1.heap.size, 0, none⟩)), (79, .slice (some ⟨g, 0, none⟩) k cs), (80, .int .i64 (k : Int)), (81, .int .i64 (q : Int))] rfl (by decide) (by decide) (by decide) ha (fun o ho hg => ⟨(whCR.wanted hg rfl ha (d := 117) (by simp)), e_call (by kernel_rfl) ho rfl (by have q0 := ha.ev (i := 118) (v := .agg #[(.bool (ngB y)), (.slice Ay ny cy), (.int .i64 (S : Int))]) (by simp); simp only [List.map_toArray, List.map_cons, List.map_nil, ev_const, q0])⟩) (by simp) ?_
              refine (sign_is (i := y) (s := S) (St.got E (A := Ay) (n := ny) (c := cy) (a := (y).natAbs) (by simp)) HYS.out).mono ?_; rintro e w65 ⟨rfl, hb⟩
              replace E := Lib.hid (St.step E.out hb)
              clear hb
              have hSw := SX.of (bs' := [(g15, (.bool (ngB x4)), (.slice A9 n9 c9), (.int .i64 (s3 : Int))), (V.heap.size, (.bool (ngB y)), (.slice Ay ny cy), (.int .i64 (S : Int)))]) E (by simp); refine ⟨_, rfl, hSw, ?_⟩; intro a ha
              refine line_still whCR 23 23 [] 120 (.bool false) [(117, .bool true), (110, .bool false), (1, .slice (some ⟨b, f0, none⟩) k c), (3, .pointer (some ⟨w.heap.size, 0, none⟩)), (7, .int .i64 (S : Int)), (8, .pointer (some ⟨w1.heap.size, 0, none⟩)), (79, .slice (some ⟨g, 0, none⟩) k cs), (80, .int .i64 (k : Int)), (81, .int .i64 (q : Int))] rfl (by decide) (by decide) (by decide) ha (fun o ho hg => y_of (whCR.wanted hg rfl ha (d := 117) (by simp)) (fun wx hS => e_neq ho (ha.ev (i := 119) (v := .int .i64 0) (by simp)) rfl)) (by simp) hSw ?_; intro a ha
              refine line_still whCR 24 24 [] 121 (.bool false) [(110, .bool false), (1, .slice (some ⟨b, f0, none⟩) k c), (3, .pointer (some ⟨w.heap.size, 0, none⟩)), (7, .int .i64 (S : Int)), (8, .pointer (some ⟨w1.heap.size, 0, none⟩)), (79, .slice (some ⟨g, 0, none⟩) k cs), (80, .int .i64 (k : Int)), (81, .int .i64 (q : Int))] rfl (by decide) (by decide) (by decide) ha (fun o ho hg => y_of (whCR.wanted hg rfl ha (d := 110) (by simp)) (fun wx hS => e_pick ho (ha.ev (i := 117) (v := .bool true) (by simp)) (ha.ev (i := 120) (v := .bool false) (by simp)) rfl)) (by simp) hSw ?_; intro a ha
              refine line_still whCR 25 25 [] 122 (.bool false) [(1, .slice (some ⟨b, f0, none⟩) k c), (3, .pointer (some ⟨w.heap.size, 0, none⟩)), (7, .int .i64 (S : Int)), (8, .pointer (some ⟨w1.heap.size, 0, none⟩)), (79, .slice (some ⟨g, 0, none⟩) k cs), (80, .int .i64 (k : Int)), (81, .int .i64 (q : Int))] rfl (by decide) (by decide) (by decide) ha (fun o ho hg => y_of (wanted_none hg) (fun wx hS => e_pick ho (ha.ev (i := 110) (v := .bool false) (by simp)) rfl (ha.ev (i := 121) (v := .bool false) (by simp)))) (by simp) hSw ?_; intro a ha
              refine line_end whCR rfl ?_
              simp only [Exit.then]
              refine hKB _ _ ?_
              refine wp_cond_false (ha.ev (by simp)) ?_
              refine wp_skip ?_
              simp only [Exit.inBlock, Exit.then]
              replace E := Lib.hid (E.out.sub (l' := [(At, nt, ct, (T).natAbs), (Aw, nw, cw, (P).natAbs)]) (bs' := []) (by simp) (by simp))
              refine hKA _ _ ?_
              clear hKA hKB KA KB
              obtain ⟨us, rfl, hu⟩ := ha.listY
              have eu1 : us 1 = .slice (some ⟨b, f0, none⟩) k c := hu (1, .slice (some ⟨b, f0, none⟩) k c) (by simp)
              have eu3 : us 3 = .pointer (some ⟨w.heap.size, 0, none⟩) := hu (3, .pointer (some ⟨w.heap.size, 0, none⟩)) (by simp)
              have eu7 : us 7 = .int .i64 (S : Int) := hu (7, .int .i64 (S : Int)) (by simp)
              have eu8 : us 8 = .pointer (some ⟨w1.heap.size, 0, none⟩) := hu (8, .pointer (some ⟨w1.heap.size, 0, none⟩)) (by simp)
              have eu79 : us 79 = .slice (some ⟨g, 0, none⟩) k cs := hu (79, .slice (some ⟨g, 0, none⟩) k cs) (by simp)
              have eu80 : us 80 = .int .i64 (k : Int) := hu (80, .int .i64 (k : Int)) (by simp)
              have eu81 : us 81 = .int .i64 (q : Int) := hu (81, .int .i64 (q : Int)) (by simp)
              rw [show (List.range 125).map us = [us 0, us 1, us 2, us 3, us 4, us 5, us 6, us 7, us 8, us 9, us 10, us 11, us 12, us 13, us 14, us 15, us 16, us 17, us 18, us 19, us 20, us 21, us 22, us 23, us 24, us 25, us 26, us 27, us 28, us 29, us 30, us 31, us 32, us 33, us 34, us 35, us 36, us 37, us 38, us 39, us 40, us 41, us 42, us 43, us 44, us 45, us 46, us 47, us 48, us 49, us 50, us 51, us 52, us 53, us 54, us 55, us 56, us 57, us 58, us 59, us 60, us 61, us 62, us 63, us 64, us 65, us 66, us 67, us 68, us 69, us 70, us 71, us 72, us 73, us 74, us 75, us 76, us 77, us 78, us 79, us 80, us 81, us 82, us 83, us 84, us 85, us 86, us 87, us 88, us 89, us 90, us 91, us 92, us 93, us 94, us 95, us 96, us 97, us 98, us 99, us 100, us 101, us 102, us 103, us 104, us 105, us 106, us 107, us 108, us 109, us 110, us 111, us 112, us 113, us 114, us 115, us 116, us 117, us 118, us 119, us 120, us 121, us 122, us 123, us 124] from rfl, eu1, eu3, eu7, eu8, eu79, eu80, eu81]
              clear hu ha eu1 eu3 eu7 eu8 eu79 eu80 eu81
              go_wp2_with fail
              exact ⟨k - (q + 1), by omega, q + 1, by omega, rfl, ⟨rfl, rfl, by intro q hq; simp at hq; rcases hq with rfl | rfl | rfl | rfl | rfl | rfl | rfl <;> first | rfl | simp⟩, E⟩
            ·
              have D4 : Hid ((zs1 == (0 : Int)) = false) := by
                show _ = _
                rw [← HZS.out]
                refine beq_false_of_ne fun h2 => hz (Int.sign_eq_zero_iff_zero.1 h2)
              clear hz
              refine line_start (ops := opsAt Try.prog 3 22) (S := SX w8 [(g15, (.bool (ngB x4)), (.slice A9 n9 c9), (.int .i64 (s3 : Int))), (V.heap.size, (.bool (ngB y)), (.slice Ay ny cy), (.int .i64 (S : Int)))]) (by kernel_rfl) (by kernel_rfl) (SX.of (bs' := [(g15, (.bool (ngB x4)), (.slice A9 n9 c9), (.int .i64 (s3 : Int))), (V.heap.size, (.bool (ngB y)), (.slice Ay ny cy), (.int .i64 (S : Int)))]) E (by simp)) ?_
              have hSw := SX.of (bs' := [(g15, (.bool (ngB x4)), (.slice A9 n9 c9), (.int .i64 (s3 : Int))), (V.heap.size, (.bool (ngB y)), (.slice Ay ny cy), (.int .i64 (S : Int)))]) E (by simp)
              refine line_still whBR 0 0 [] 97 (.pointer (some ⟨V.heap.size, 2, none⟩)) [(14, .pointer (some ⟨V.heap.size, 0, none⟩)), (15, .pointer (some ⟨g15, 0, none⟩)), (1, .slice (some ⟨b, f0, none⟩) k c), (3, .pointer (some ⟨w.heap.size, 0, none⟩)), (7, .int .i64 (S : Int)), (8, .pointer (some ⟨w1.heap.size, 0, none⟩)), (79, .slice (some ⟨g, 0, none⟩) k cs), (80, .int .i64 (k : Int)), (81, .int .i64 (q : Int)), (13, .int .i64 (q : Int))] rfl (by decide) (by decide) (by decide) ha (fun o ho hg => y_of (wanted_none hg) (fun wx hS => e_field 2 (by simp) ho (ha.ev (i := 14) (v := .pointer (some ⟨V.heap.size, 0, none⟩)) (by simp)))) (by simp) hSw ?_; intro a ha
              refine line_still whBR 1 1 [] 98 ((.int .i64 (S : Int))) [(14, .pointer (some ⟨V.heap.size, 0, none⟩)), (15, .pointer (some ⟨g15, 0, none⟩)), (1, .slice (some ⟨b, f0, none⟩) k c), (3, .pointer (some ⟨w.heap.size, 0, none⟩)), (7, .int .i64 (S : Int)), (8, .pointer (some ⟨w1.heap.size, 0, none⟩)), (79, .slice (some ⟨g, 0, none⟩) k cs), (80, .int .i64 (k : Int)), (81, .int .i64 (q : Int)), (13, .int .i64 (q : Int))] rfl (by decide) (by decide) (by decide) ha (fun o ho hg => y_of (wanted_none hg) (fun wx hS => e_cell (by simp) ho (ha.ev (i := 97) (v := .pointer (some ⟨V.heap.size, 2, none⟩)) (by simp)) (hS.at_ (g := V.heap.size) (x0 := (.bool (ngB y))) (x1 := (.slice Ay ny cy)) (x2 := (.int .i64 (S : Int))) (by simp)).c2)) (by simp) hSw ?_; intro a ha
              refine line_still whBR 2 2 [] 99 (.int .i64 (S : Int)) [(98, (.int .i64 (S : Int))), (14, .pointer (some ⟨V.heap.size, 0, none⟩)), (15, .pointer (some ⟨g15, 0, none⟩)), (1, .slice (some ⟨b, f0, none⟩) k c), (3, .pointer (some ⟨w.heap.size, 0, none⟩)), (7, .int .i64 (S : Int)), (8, .pointer (some ⟨w1.heap.size, 0, none⟩)), (79, .slice (some ⟨g, 0, none⟩) k cs), (80, .int .i64 (k : Int)), (81, .int .i64 (q : Int)), (13, .int .i64 (q : Int))] rfl (by decide) (by decide) (by decide) ha (fun o ho hg => y_of (wanted_none hg) (fun wx hS => e_move (.inl ho) (ha.ev (i := 7) (v := .int .i64 (S : Int)) (by simp)))) (by simp) hSw ?_; intro a ha
              refine line_still whBR 3 3 [] 100 (.bool false) [(14, .pointer (some ⟨V.heap.size, 0, none⟩)), (15, .pointer (some ⟨g15, 0, none⟩)), (1, .slice (some ⟨b, f0, none⟩) k c), (3, .pointer (some ⟨w.heap.size, 0, none⟩)), (7, .int .i64 (S : Int)), (8, .pointer (some ⟨w1.heap.size, 0, none⟩)), (79, .slice (some ⟨g, 0, none⟩) k cs), (80, .int .i64 (k : Int)), (81, .int .i64 (q : Int)), (13, .int .i64 (q : Int))] rfl (by decide) (by decide) (by decide) ha (fun o ho hg => y_of (wanted_none hg) (fun wx hS => (e_neq ho (ha.ev (i := 98) (v := (.int .i64 (S : Int))) (by simp)) (ha.ev (i := 99) (v := .int .i64 (S : Int)) (by simp))).trans (by rw [D3.out]))) (by simp) hSw ?_; intro a ha
              refine line_still whBR 4 4 [] 101 (.bool false) [(14, .pointer (some ⟨V.heap.size, 0, none⟩)), (15, .pointer (some ⟨g15, 0, none⟩)), (1, .slice (some ⟨b, f0, none⟩) k c), (3, .pointer (some ⟨w.heap.size, 0, none⟩)), (7, .int .i64 (S : Int)), (8, .pointer (some ⟨w1.heap.size, 0, none⟩)), (79, .slice (some ⟨g, 0, none⟩) k cs), (80, .int .i64 (k : Int)), (81, .int .i64 (q : Int)), (13, .int .i64 (q : Int))] rfl (by decide) (by decide) (by decide) ha (fun o ho hg => y_of (wanted_none hg) (fun wx hS => e_move (.inl ho) (ha.ev (i := 100) (v := .bool false) (by simp)))) (by simp) hSw ?_; intro a ha
              refine line_still whBR 5 5 [] 102 (.agg #[(.bool (ngB x4)), (.slice A9 n9 c9), (.int .i64 (s3 : Int))]) [(101, .bool false), (14, .pointer (some ⟨V.heap.size, 0, none⟩)), (1, .slice (some ⟨b, f0, none⟩) k c), (3, .pointer (some ⟨w.heap.size, 0, none⟩)), (7, .int .i64 (S : Int)), (8, .pointer (some ⟨w1.heap.size, 0, none⟩)), (79, .slice (some ⟨g, 0, none⟩) k cs), (80, .int .i64 (k : Int)), (81, .int .i64 (q : Int)), (13, .int .i64 (q : Int))] rfl (by decide) (by decide) (by decide) ha (fun o ho hg => y_of (whBR.wanted hg rfl ha (d := 101) (by simp)) (fun wx hS => e_load ho (ha.ev (i := 15) (v := .pointer (some ⟨g15, 0, none⟩)) (by simp)) (hS.at_ (g := g15) (x0 := (.bool (ngB x4))) (x1 := (.slice A9 n9 c9)) (x2 := (.int .i64 (s3 : Int))) (by simp)))) (by simp) hSw ?_; intro a ha
              refine line_still whBR 6 6 [] 103 (.agg #[(.bool (ngB P)), (.slice Aw nw cw), (.int .i64 (t : Int))]) [(102, .agg #[(.bool (ngB x4)), (.slice A9 n9 c9), (.int .i64 (s3 : Int))]), (101, .bool false), (14, .pointer (some ⟨V.heap.size, 0, none⟩)), (1, .slice (some ⟨b, f0, none⟩) k c), (3, .pointer (some ⟨w.heap.size, 0, none⟩)), (7, .int .i64 (S : Int)), (8, .pointer (some ⟨w1.heap.size, 0, none⟩)), (79, .slice (some ⟨g, 0, none⟩) k cs), (80, .int .i64 (k : Int)), (81, .int .i64 (q : Int)), (13, .int .i64 (q : Int))] rfl (by decide) (by decide) (by decide) ha (fun o ho hg => y_of (whBR.wanted hg rfl ha (d := 101) (by simp)) (fun wx hS => e_load ho (ha.ev (i := 8) (v := .pointer (some ⟨w1.heap.size, 0, none⟩)) (by simp)) (BP.out.on hS.2))) (by simp) hSw ?_; intro a ha
              refine line_still whBR 7 7 [] 104 (.int .i64 (S : Int)) [(103, .agg #[(.bool (ngB P)), (.slice Aw nw cw), (.int .i64 (t : Int))]), (102, .agg #[(.bool (ngB x4)), (.slice A9 n9 c9), (.int .i64 (s3 : Int))]), (101, .bool false), (14, .pointer (some ⟨V.heap.size, 0, none⟩)), (1, .slice (some ⟨b, f0, none⟩) k c), (3, .pointer (some ⟨w.heap.size, 0, none⟩)), (7, .int .i64 (S : Int)), (8, .pointer (some ⟨w1.heap.size, 0, none⟩)), (79, .slice (some ⟨g, 0, none⟩) k cs), (80, .int .i64 (k : Int)), (81, .int .i64 (q : Int)), (13, .int .i64 (q : Int))] rfl (by decide) (by decide) (by decide) ha (fun o ho hg => y_of (whBR.wanted hg rfl ha (d := 101) (by simp)) (fun wx hS => e_move (.inl ho) (ha.ev (i := 7) (v := .int .i64 (S : Int)) (by simp)))) (by simp) hSw ?_; intro a ha
              refine line_call whBR 8 8 [] 105 (args := #[.int .i64 (S : Int)]) [(103, .agg #[(.bool (ngB P)), (.slice Aw nw cw), (.int .i64 (t : Int))]), (102, .agg #[(.bool (ngB x4)), (.slice A9 n9 c9), (.int .i64 (s3 : Int))]), (101, .bool false), (14, .pointer (some ⟨V.heap.size, 0, none⟩)), (1, .slice (some ⟨b, f0, none⟩) k c), (3, .pointer (some ⟨w.heap.size, 0, none⟩)), (7, .int .i64 (S : Int)), (8, .pointer (some ⟨w1.heap.size, 0, none⟩)), (79, .slice (some ⟨g, 0, none⟩) k cs), (80, .int .i64 (k : Int)), (81, .int .i64 (q : Int)), (13, .int .i64 (q : Int))] rfl (by decide) (by decide) (by decide) ha (fun o ho hg => ⟨(whBR.wanted hg rfl ha (d := 101) (by simp)), e_call (by kernel_rfl) ho rfl (by have q0 := ha.ev (i := 104) (v := .int .i64 (S : Int)) (by simp); simp only [List.map_toArray, List.map_cons, List.map_nil, ev_const, q0])⟩) (by simp) ?_
              refine (unit_is (S := S) _ HV.out (by omega)).mono ?_; rintro e w61 ⟨A61, n61, c61, rfl, h, hb⟩
              have b61 : n61 ≤ 1 := len_le h O1.out
              replace E := Lib.hid (St.push E.out hb h)
              clear h hb
              have hSw := SX.of (bs' := [(g15, (.bool (ngB x4)), (.slice A9 n9 c9), (.int .i64 (s3 : Int))), (V.heap.size, (.bool (ngB y)), (.slice Ay ny cy), (.int .i64 (S : Int)))]) E (by simp); refine ⟨_, rfl, hSw, ?_⟩; intro a ha
              refine line_call whBR 9 9 [] 106 (args := #[.agg #[(.bool (ngB P)), (.slice Aw nw cw), (.int .i64 (t : Int))], .agg #[.bool (ngB (1 : Int)), .slice A61 n61 c61, .int .i64 (S : Int)]]) [(102, .agg #[(.bool (ngB x4)), (.slice A9 n9 c9), (.int .i64 (s3 : Int))]), (101, .bool false), (14, .pointer (some ⟨V.heap.size, 0, none⟩)), (1, .slice (some ⟨b, f0, none⟩) k c), (3, .pointer (some ⟨w.heap.size, 0, none⟩)), (7, .int .i64 (S : Int)), (8, .pointer (some ⟨w1.heap.size, 0, none⟩)), (79, .slice (some ⟨g, 0, none⟩) k cs), (80, .int .i64 (k : Int)), (81, .int .i64 (q : Int)), (13, .int .i64 (q : Int))] rfl (by decide) (by decide) (by decide) ha (fun o ho hg => ⟨(whBR.wanted hg rfl ha (d := 101) (by simp)), e_call (by kernel_rfl) ho rfl (by have q0 := ha.ev (i := 103) (v := .agg #[(.bool (ngB P)), (.slice Aw nw cw), (.int .i64 (t : Int))]) (by simp); have q1 := ha.ev (i := 105) (v := .agg #[.bool (ngB (1 : Int)), .slice A61 n61 c61, .int .i64 (S : Int)]) (by simp); simp only [List.map_toArray, List.map_cons, List.map_nil, ev_const, q0, q1])⟩) (by simp) ?_
              refine (mul_is5 (i := P) (s := t) (j := (1 : Int)) (t := S) (St.got E (A := Aw) (n := nw) (c := cw) (a := (P).natAbs) (by simp)) (St.got E (A := A61) (n := n61) (c := c61) (a := ((1 : Int)).natAbs) (by simp)) (by omega) (by omega) (by omega) (by omega) HS5'.out HX5.out).mono ?_; rintro e w62 ⟨A62, n62, c62, rfl, h, hb⟩
              have b62 : n62 ≤ 170 := len_le h HL5.out
              replace E := Lib.hid (St.push E.out hb h)
              clear h hb
              have hSw := SX.of (bs' := [(g15, (.bool (ngB x4)), (.slice A9 n9 c9), (.int .i64 (s3 : Int))), (V.heap.size, (.bool (ngB y)), (.slice Ay ny cy), (.int .i64 (S : Int)))]) E (by simp); refine ⟨_, rfl, hSw, ?_⟩; intro a ha
              refine line_call whBR 10 10 [] 107 (args := #[.agg #[(.bool (ngB x4)), (.slice A9 n9 c9), (.int .i64 (s3 : Int))], .agg #[.bool (ngB x5), .slice A62 n62 c62, .int .i64 (s5 : Int)]]) [(101, .bool false), (14, .pointer (some ⟨V.heap.size, 0, none⟩)), (1, .slice (some ⟨b, f0, none⟩) k c), (3, .pointer (some ⟨w.heap.size, 0, none⟩)), (7, .int .i64 (S : Int)), (8, .pointer (some ⟨w1.heap.size, 0, none⟩)), (79, .slice (some ⟨g, 0, none⟩) k cs), (80, .int .i64 (k : Int)), (81, .int .i64 (q : Int)), (13, .int .i64 (q : Int))] rfl (by decide) (by decide) (by decide) ha (fun o ho hg => ⟨(whBR.wanted hg rfl ha (d := 101) (by simp)), e_call (by kernel_rfl) ho rfl (by have q0 := ha.ev (i := 102) (v := .agg #[(.bool (ngB x4)), (.slice A9 n9 c9), (.int .i64 (s3 : Int))]) (by simp); have q1 := ha.ev (i := 106) (v := .agg #[.bool (ngB x5), .slice A62 n62 c62, .int .i64 (s5 : Int)]) (by simp); simp only [List.map_toArray, List.map_cons, List.map_nil, ev_const, q0, q1])⟩) (by simp) ?_
              refine (cmp5_is (i := x4) (s := s3) (j := x5) (t := s5) (St.got E (A := A9) (n := n9) (c := c9) (a := (x4).natAbs) (by simp)) (St.got E (A := A62) (n := n62) (c := c62) (a := (x5).natAbs) (by simp)) (by omega) (by omega) (by omega) (by omega) HZC.out).mono ?_; rintro e w63 ⟨rfl, hb⟩
              replace E := Lib.hid (St.step E.out hb)
              clear hb
              have hSw := SX.of (bs' := [(g15, (.bool (ngB x4)), (.slice A9 n9 c9), (.int .i64 (s3 : Int))), (V.heap.size, (.bool (ngB y)), (.slice Ay ny cy), (.int .i64 (S : Int)))]) E (by simp); refine ⟨_, rfl, hSw, ?_⟩; intro a ha
              refine line_still whBR 11 11 [] 108 (.bool false) [(101, .bool false), (14, .pointer (some ⟨V.heap.size, 0, none⟩)), (1, .slice (some ⟨b, f0, none⟩) k c), (3, .pointer (some ⟨w.heap.size, 0, none⟩)), (7, .int .i64 (S : Int)), (8, .pointer (some ⟨w1.heap.size, 0, none⟩)), (79, .slice (some ⟨g, 0, none⟩) k cs), (80, .int .i64 (k : Int)), (81, .int .i64 (q : Int)), (13, .int .i64 (q : Int))] rfl (by decide) (by decide) (by decide) ha (fun o ho hg => y_of (whBR.wanted hg rfl ha (d := 101) (by simp)) (fun wx hS => (e_geq ho (ha.ev (i := 107) (v := .int .i64 zc) (by simp)) rfl).trans (by rw [DC.out]))) (by simp) hSw ?_; intro a ha
              refine line_still whBR 12 12 [] 109 (.bool false) [(14, .pointer (some ⟨V.heap.size, 0, none⟩)), (1, .slice (some ⟨b, f0, none⟩) k c), (3, .pointer (some ⟨w.heap.size, 0, none⟩)), (7, .int .i64 (S : Int)), (8, .pointer (some ⟨w1.heap.size, 0, none⟩)), (79, .slice (some ⟨g, 0, none⟩) k cs), (80, .int .i64 (k : Int)), (81, .int .i64 (q : Int)), (13, .int .i64 (q : Int))] rfl (by decide) (by decide) (by decide) ha (fun o ho hg => y_of (wanted_none hg) (fun wx hS => e_pick ho (ha.ev (i := 101) (v := .bool false) (by simp)) rfl (ha.ev (i := 108) (v := .bool false) (by simp)))) (by simp) hSw ?_; intro a ha
              refine line_still whBR 13 13 [] 110 (.bool false) [(14, .pointer (some ⟨V.heap.size, 0, none⟩)), (1, .slice (some ⟨b, f0, none⟩) k c), (3, .pointer (some ⟨w.heap.size, 0, none⟩)), (7, .int .i64 (S : Int)), (8, .pointer (some ⟨w1.heap.size, 0, none⟩)), (79, .slice (some ⟨g, 0, none⟩) k cs), (80, .int .i64 (k : Int)), (81, .int .i64 (q : Int)), (13, .int .i64 (q : Int))] rfl (by decide) (by decide) (by decide) ha (fun o ho hg => y_of (wanted_none hg) (fun wx hS => e_move (.inl ho) (ha.ev (i := 109) (v := .bool false) (by simp)))) (by simp) hSw ?_; intro a ha
              refine line_still whBR 14 14 [] 111 (.slice (some ⟨b, f0, none⟩) k c) [(110, .bool false), (14, .pointer (some ⟨V.heap.size, 0, none⟩)), (1, .slice (some ⟨b, f0, none⟩) k c), (3, .pointer (some ⟨w.heap.size, 0, none⟩)), (7, .int .i64 (S : Int)), (8, .pointer (some ⟨w1.heap.size, 0, none⟩)), (79, .slice (some ⟨g, 0, none⟩) k cs), (80, .int .i64 (k : Int)), (81, .int .i64 (q : Int)), (13, .int .i64 (q : Int))] rfl (by decide) (by decide) (by decide) ha (fun o ho hg => y_of (whBR.wanted hg rfl ha (d := 110) (by simp)) (fun wx hS => e_move (.inl ho) (ha.ev (i := 1) (v := .slice (some ⟨b, f0, none⟩) k c) (by simp)))) (by simp) hSw ?_; intro a ha
              refine line_still whBR 15 15 [] 112 (.int .i64 (q : Int)) [(111, .slice (some ⟨b, f0, none⟩) k c), (110, .bool false), (14, .pointer (some ⟨V.heap.size, 0, none⟩)), (1, .slice (some ⟨b, f0, none⟩) k c), (3, .pointer (some ⟨w.heap.size, 0, none⟩)), (7, .int .i64 (S : Int)), (8, .pointer (some ⟨w1.heap.size, 0, none⟩)), (79, .slice (some ⟨g, 0, none⟩) k cs), (80, .int .i64 (k : Int)), (81, .int .i64 (q : Int))] rfl (by decide) (by decide) (by decide) ha (fun o ho hg => y_of (whBR.wanted hg rfl ha (d := 110) (by simp)) (fun wx hS => e_move (.inl ho) (ha.ev (i := 13) (v := .int .i64 (q : Int)) (by simp)))) (by simp) hSw ?_; intro a ha
              refine line_still whBR 16 16 [] 113 (.pointer (some ⟨b, f0 + q * 3, none⟩)) [(110, .bool false), (14, .pointer (some ⟨V.heap.size, 0, none⟩)), (1, .slice (some ⟨b, f0, none⟩) k c), (3, .pointer (some ⟨w.heap.size, 0, none⟩)), (7, .int .i64 (S : Int)), (8, .pointer (some ⟨w1.heap.size, 0, none⟩)), (79, .slice (some ⟨g, 0, none⟩) k cs), (80, .int .i64 (k : Int)), (81, .int .i64 (q : Int))] rfl (by decide) (by decide) (by decide) ha (fun o ho hg => y_of (whBR.wanted hg rfl ha (d := 110) (by simp)) (fun wx hS => e_idxY hlt HKC.out HCM2.out ho (ha.ev (i := 111) (v := .slice (some ⟨b, f0, none⟩) k c) (by simp)) (ha.ev (i := 112) (v := .int .i64 (q : Int)) (by simp)))) (by simp) hSw ?_; intro a ha
              refine line_still whBR 17 17 [] 114 (.agg #[(.bool (ngB iq)), (.slice Aq nq cq), (.int .i64 (sq : Int))]) [(110, .bool false), (14, .pointer (some ⟨V.heap.size, 0, none⟩)), (1, .slice (some ⟨b, f0, none⟩) k c), (3, .pointer (some ⟨w.heap.size, 0, none⟩)), (7, .int .i64 (S : Int)), (8, .pointer (some ⟨w1.heap.size, 0, none⟩)), (79, .slice (some ⟨g, 0, none⟩) k cs), (80, .int .i64 (k : Int)), (81, .int .i64 (q : Int))] rfl (by decide) (by decide) (by decide) ha (fun o ho hg => y_of (whBR.wanted hg rfl ha (d := 110) (by simp)) (fun wx hS => e_loadY ho (ha.ev (i := 113) (v := .pointer (some ⟨b, f0 + q * 3, none⟩)) (by simp)) (HCQ.out.on hS.2))) (by simp) hSw ?_; intro a ha
              refine line_call whBR 18 18 [] 115 (args := #[.agg #[(.bool (ngB iq)), (.slice Aq nq cq), (.int .i64 (sq : Int))]]) [(110, .bool false), (14, .pointer (some ⟨V.heap.size, 0, none⟩)), (1, .slice (some ⟨b, f0, none⟩) k c), (3, .pointer (some ⟨w.heap.size, 0, none⟩)), (7, .int .i64 (S : Int)), (8, .pointer (some ⟨w1.heap.size, 0, none⟩)), (79, .slice (some ⟨g, 0, none⟩) k cs), (80, .int .i64 (k : Int)), (81, .int .i64 (q : Int))] rfl (by decide) (by decide) (by decide) ha (fun o ho hg => ⟨(whBR.wanted hg rfl ha (d := 110) (by simp)), e_call (by kernel_rfl) ho rfl (by have q0 := ha.ev (i := 114) (v := .agg #[(.bool (ngB iq)), (.slice Aq nq cq), (.int .i64 (sq : Int))]) (by simp); simp only [List.map_toArray, List.map_cons, List.map_nil, ev_const, q0])⟩) (by simp) ?_
              refine (sign_is (i := iq) (s := sq) (St.got E (A := Aq) (n := nq) (c := cq) (a := (iq).natAbs) (by simp)) HZS.out).mono ?_; rintro e w64 ⟨rfl, hb⟩
              replace E := Lib.hid (St.step E.out hb)
              clear hb
              have hSw := SX.of (bs' := [(g15, (.bool (ngB x4)), (.slice A9 n9 c9), (.int .i64 (s3 : Int))), (V.heap.size, (.bool (ngB y)), (.slice Ay ny cy), (.int .i64 (S : Int)))]) E (by simp); refine ⟨_, rfl, hSw, ?_⟩; intro a ha
              refine line_still whBR 19 19 [] 116 (.bool false) [(110, .bool false), (14, .pointer (some ⟨V.heap.size, 0, none⟩)), (1, .slice (some ⟨b, f0, none⟩) k c), (3, .pointer (some ⟨w.heap.size, 0, none⟩)), (7, .int .i64 (S : Int)), (8, .pointer (some ⟨w1.heap.size, 0, none⟩)), (79, .slice (some ⟨g, 0, none⟩) k cs), (80, .int .i64 (k : Int)), (81, .int .i64 (q : Int))] rfl (by decide) (by decide) (by decide) ha (fun o ho hg => y_of (whBR.wanted hg rfl ha (d := 110) (by simp)) (fun wx hS => (e_eql ho (ha.ev (i := 115) (v := .int .i64 zs1) (by simp)) rfl).trans (by rw [D4.out]))) (by simp) hSw ?_; intro a ha
              refine line_still whBR 20 20 [] 117 (.bool false) [(110, .bool false), (14, .pointer (some ⟨V.heap.size, 0, none⟩)), (1, .slice (some ⟨b, f0, none⟩) k c), (3, .pointer (some ⟨w.heap.size, 0, none⟩)), (7, .int .i64 (S : Int)), (8, .pointer (some ⟨w1.heap.size, 0, none⟩)), (79, .slice (some ⟨g, 0, none⟩) k cs), (80, .int .i64 (k : Int)), (81, .int .i64 (q : Int))] rfl (by decide) (by decide) (by decide) ha (fun o ho hg => y_of (whBR.wanted hg rfl ha (d := 110) (by simp)) (fun wx hS => e_move (.inl ho) (ha.ev (i := 116) (v := .bool false) (by simp)))) (by simp) hSw ?_; intro a ha
              refine line_still whBR 21 21 [] 118 undef [(117, .bool false), (110, .bool false), (1, .slice (some ⟨b, f0, none⟩) k c), (3, .pointer (some ⟨w.heap.size, 0, none⟩)), (7, .int .i64 (S : Int)), (8, .pointer (some ⟨w1.heap.size, 0, none⟩)), (79, .slice (some ⟨g, 0, none⟩) k cs), (80, .int .i64 (k : Int)), (81, .int .i64 (q : Int))] rfl (by decide) (by decide) (by decide) ha (fun o ho hg => y_not (whBR.unwanted hg rfl ha (d := 117) (by simp))) (by simp) hSw ?_; intro a ha
              refine line_not whBR 22 22 [] 119 [(117, .bool false), (110, .bool false), (1, .slice (some ⟨b, f0, none⟩) k c), (3, .pointer (some ⟨w.heap.size, 0, none⟩)), (7, .int .i64 (S : Int)), (8, .pointer (some ⟨w1.heap.size, 0, none⟩)), (79, .slice (some ⟨g, 0, none⟩) k cs), (80, .int .i64 (k : Int)), (81, .int .i64 (q : Int))] rfl (by decide) (by decide) (by decide) ha (fun o ho hg => whBR.unwanted hg rfl ha (d := 117) (by simp)) (by simp) hSw ?_; intro a ha
              refine line_still whBR 23 23 [] 120 undef [(117, .bool false), (110, .bool false), (1, .slice (some ⟨b, f0, none⟩) k c), (3, .pointer (some ⟨w.heap.size, 0, none⟩)), (7, .int .i64 (S : Int)), (8, .pointer (some ⟨w1.heap.size, 0, none⟩)), (79, .slice (some ⟨g, 0, none⟩) k cs), (80, .int .i64 (k : Int)), (81, .int .i64 (q : Int))] rfl (by decide) (by decide) (by decide) ha (fun o ho hg => y_not (whBR.unwanted hg rfl ha (d := 117) (by simp))) (by simp) hSw ?_; intro a ha
              refine line_still whBR 24 24 [] 121 (.bool false) [(110, .bool false), (1, .slice (some ⟨b, f0, none⟩) k c), (3, .pointer (some ⟨w.heap.size, 0, none⟩)), (7, .int .i64 (S : Int)), (8, .pointer (some ⟨w1.heap.size, 0, none⟩)), (79, .slice (some ⟨g, 0, none⟩) k cs), (80, .int .i64 (k : Int)), (81, .int .i64 (q : Int))] rfl (by decide) (by decide) (by decide) ha (fun o ho hg => y_of (whBR.wanted hg rfl ha (d := 110) (by simp)) (fun wx hS => e_pick ho (ha.ev (i := 117) (v := .bool false) (by simp)) (ha.ev (i := 120) (v := undef) (by simp)) rfl)) (by simp) hSw ?_; intro a ha
              refine line_still whBR 25 25 [] 122 (.bool false) [(1, .slice (some ⟨b, f0, none⟩) k c), (3, .pointer (some ⟨w.heap.size, 0, none⟩)), (7, .int .i64 (S : Int)), (8, .pointer (some ⟨w1.heap.size, 0, none⟩)), (79, .slice (some ⟨g, 0, none⟩) k cs), (80, .int .i64 (k : Int)), (81, .int .i64 (q : Int))] rfl (by decide) (by decide) (by decide) ha (fun o ho hg => y_of (wanted_none hg) (fun wx hS => e_pick ho (ha.ev (i := 110) (v := .bool false) (by simp)) rfl (ha.ev (i := 121) (v := .bool false) (by simp)))) (by simp) hSw ?_; intro a ha
              refine line_end whBR rfl ?_
              simp only [Exit.then]
              refine hKB _ _ ?_
              refine wp_cond_false (ha.ev (by simp)) ?_
              refine wp_skip ?_
              simp only [Exit.inBlock, Exit.then]
              replace E := Lib.hid (E.out.sub (l' := [(At, nt, ct, (T).natAbs), (Aw, nw, cw, (P).natAbs)]) (bs' := []) (by simp) (by simp))
              refine hKA _ _ ?_
              clear hKA hKB KA KB
              obtain ⟨us, rfl, hu⟩ := ha.listY
              have eu1 : us 1 = .slice (some ⟨b, f0, none⟩) k c := hu (1, .slice (some ⟨b, f0, none⟩) k c) (by simp)
              have eu3 : us 3 = .pointer (some ⟨w.heap.size, 0, none⟩) := hu (3, .pointer (some ⟨w.heap.size, 0, none⟩)) (by simp)
              have eu7 : us 7 = .int .i64 (S : Int) := hu (7, .int .i64 (S : Int)) (by simp)
              have eu8 : us 8 = .pointer (some ⟨w1.heap.size, 0, none⟩) := hu (8, .pointer (some ⟨w1.heap.size, 0, none⟩)) (by simp)
              have eu79 : us 79 = .slice (some ⟨g, 0, none⟩) k cs := hu (79, .slice (some ⟨g, 0, none⟩) k cs) (by simp)
              have eu80 : us 80 = .int .i64 (k : Int) := hu (80, .int .i64 (k : Int)) (by simp)
              have eu81 : us 81 = .int .i64 (q : Int) := hu (81, .int .i64 (q : Int)) (by simp)
              rw [show (List.range 125).map us = [us 0, us 1, us 2, us 3, us 4, us 5, us 6, us 7, us 8, us 9, us 10, us 11, us 12, us 13, us 14, us 15, us 16, us 17, us 18, us 19, us 20, us 21, us 22, us 23, us 24, us 25, us 26, us 27, us 28, us 29, us 30, us 31, us 32, us 33, us 34, us 35, us 36, us 37, us 38, us 39, us 40, us 41, us 42, us 43, us 44, us 45, us 46, us 47, us 48, us 49, us 50, us 51, us 52, us 53, us 54, us 55, us 56, us 57, us 58, us 59, us 60, us 61, us 62, us 63, us 64, us 65, us 66, us 67, us 68, us 69, us 70, us 71, us 72, us 73, us 74, us 75, us 76, us 77, us 78, us 79, us 80, us 81, us 82, us 83, us 84, us 85, us 86, us 87, us 88, us 89, us 90, us 91, us 92, us 93, us 94, us 95, us 96, us 97, us 98, us 99, us 100, us 101, us 102, us 103, us 104, us 105, us 106, us 107, us 108, us 109, us 110, us 111, us 112, us 113, us 114, us 115, us 116, us 117, us 118, us 119, us 120, us 121, us 122, us 123, us 124] from rfl, eu1, eu3, eu7, eu8, eu79, eu80, eu81]
              clear hu ha eu1 eu3 eu7 eu8 eu79 eu80 eu81
              go_wp2_with fail
              exact ⟨k - (q + 1), by omega, q + 1, by omega, rfl, ⟨rfl, rfl, by intro q hq; simp at hq; rcases hq with rfl | rfl | rfl | rfl | rfl | rfl | rfl <;> first | rfl | simp⟩, E⟩
          ·
            obtain rfl : q = k := by omega
            go_wp2_with fail
            refine (awake6 _).mono ?_; rintro e w9 ⟨rfl, hb⟩; replace E := Lib.hid (St.step E.out hb); clear hb
            go_wp2_with fail
            go_ret
            exact ⟨rfl, BE.out.trans (E.out.bel.mono BE.out.size)⟩
        ·
          have hz0 : ∀ j, j < k → (d j).1 = 0 := fun j hj => by
            have h2 := HNEG.out j hj
            refine Decidable.byContradiction fun h3 => hp ⟨j, hj, by omega⟩
          have HSG : Hid (P.sign = 0) := by show _ = _; rw [← HP.out, sum_nought hz0]; rfl
          refine (alloc_none At A nt ct S k c T (S : Int) d _ _ (St.got E (A := At) (n := nt) (c := ct) (a := (T).natAbs) (by simp)) (HD.out.on E.out.bel) hz0).mono ?_
          rintro e w5 ⟨rfl, hb⟩
          replace E := Lib.hid (St.step E.out hb)
          clear hb hp hz0
          obtain ⟨pa, pb, pc, pd, pe, pf, pg⟩ := St.at_ (x0 := (.bool (ngB P))) (x1 := (.slice Aw nw cw)) (x2 := (.int .i64 (t : Int))) (g := w1.heap.size) E (by simp)
          go_wp2_with fail
          refine (sign_is (St.got E (A := Aw) (n := nw) (c := cw) (a := (P).natAbs) (by simp)) HSG.out).mono ?_; rintro e w6 ⟨rfl, hb⟩
          replace E := Lib.hid (St.step E.out hb)
          clear hb
          clear pa pb pc pd pe pf pg
          go_wp2_with fail
          refine (awake6 _).mono ?_; rintro e w9 ⟨rfl, hb⟩; replace E := Lib.hid (St.step E.out hb); clear hb
          go_wp2_with fail
          go_ret
          exact ⟨rfl, E.out.bel⟩
      ·
        obtain ⟨b, f0, rfl, _, y0, y1, y2⟩ := (HRW.out.on E.out.bel).at_ hkn
        have LK := HRW.out.lim k hkn
        unfold longR at hbad
        obtain ⟨⟨bb, Ar, nr, cr, xr, kr⟩, hrk⟩ : ∃ q, r k = q := ⟨_, rfl⟩
        rw [hrk] at y0 y1 y2 LK hbad
        have HLK := Lib.hid LK
        simp only at y0 y1 y2 HLK hbad
        clear LK hrk
        cases hl : longB bb nr xr kr with
        | true =>
          have HL := Lib.hid hl
          clear hl hbad
          go_wp2_with fail
          replace E := Lib.hid (St.lay (t := 25) (x0 := .bool bb) (x1 := .slice Ar nr cr) (x2 := .int .i64 kr) (g := wr.heap.size) E.out rfl)
          refine (long_is (HLK.out.on E.out.bel) HL.out).mono ?_; rintro e w2 ⟨rfl, hb⟩; replace E := Lib.hid (St.step E.out hb); clear hb
          clear y0 y1 y2
          go_wp2_with fail
          refine (awake6 _).mono ?_; rintro e w9 ⟨rfl, hb⟩; replace E := Lib.hid (St.step E.out hb); clear hb
          go_wp2_with fail
          go_ret
          exact ⟨rfl, E.out.bel⟩
        | false =>
          rw [hl, Bool.false_or] at hbad
          subst hbad
          have HL := Lib.hid hl
          clear hl
          go_wp2_with fail
          replace E := Lib.hid (St.lay (t := 25) (x0 := .bool true) (x1 := .slice Ar nr cr) (x2 := .int .i64 kr) (g := wr.heap.size) E.out rfl)
          refine (long_is (HLK.out.on E.out.bel) HL.out).mono ?_; rintro e w2 ⟨rfl, hb⟩; replace E := Lib.hid (St.step E.out hb); clear hb
          clear y0 y1 y2
          obtain ⟨p0, p1, p2, pf0, pf1, pf2, plt⟩ := St.at_ (x0 := .bool true) (x1 := .slice Ar nr cr) (x2 := .int .i64 kr) (g := wr.heap.size) E (by simp)
          go_wp2_with fail
          refine (awake6 _).mono ?_; rintro e w9 ⟨rfl, hb⟩; replace E := Lib.hid (St.step E.out hb); clear hb
          go_wp2_with fail
          go_ret
          exact ⟨rfl, E.out.bel⟩

theorem whole6_law (b1 : Bool) (A1 : Option Addr) (n1 c1 : Nat) (xs1 : List Nat) (k1 : Int) (A : Option Addr) (n c : Nat) (r : Nat → Rw) (x : Int) (w : World) (h1 : Lim w w.heap.size A1 n1 c1 xs1) (h : Raws w w.heap.size A n c r) (h0 : 0 ≤ x) (h255 : x ≤ 255) : Calls Try.prog 3 #[.agg #[.bool b1, .slice A1 n1 c1, .int .i64 k1], .slice A n c, .int .u8 x] w (RetVal w (.bool true)) := by
  cases l1 : longB b1 n1 xs1 k1 with
  | true => exact whole_a b1 A1 n1 c1 xs1 k1 A n c r x w h1 h h0 h255 l1
  | false =>
    rcases Nat.lt_or_ge 12 n with hn | hn
    · exact whole_b b1 A1 n1 c1 xs1 k1 A n c r x w h1 h h0 h255 l1 hn
    · obtain ⟨i, s, rfl, rfl, rfl, m1, t1⟩ := of_long l1 h1
      exact whole_main A1 n1 c1 s i A n c r x w h1 m1 t1 h h0 h255 hn

end Go.Proofs.Ytllcjahekckbfaa
