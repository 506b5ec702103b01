/-
  RoundNear answers true.
-/
import Derived.Test.YtcnjbmjgambgeaaRouT
import Derived.Test.YtcnjbmjgambgeaaRouU
import Derived.Test.YtcnjbmjgambgeaaLineE
set_option linter.unusedVariables false
set_option linter.unusedSimpArgs false
namespace Go.Proofs.Ytcnjbmjgambgeaa
open Go.RowKit

section
variable {o : Oper} {ρ : Operand → Value} {x y : Operand} {w : World}
set_option maxRecDepth 100000 in
theorem e_conv {i : Int} (h : o.op = .convert 5 3 x) (hx : ρ x = .int .u8 i) (h0 : 0 ≤ i) (h1 : i ≤ 255) : (execOp ρ o).run Try.prog w = .ok (.value (.int .i64 i)) w := by
  unfold execOp; rw [h]
  simp only [hx]
  have e : IntKind.i64.wrap i = i := IntWalk.i64_in _ ⟨by omega, by omega⟩
  go_simp
theorem tmod_pos {i k : Int} (h0 : 0 ≤ i) : i.tmod k = i % k := Int.tmod_eq_emod_of_nonneg h0
set_option maxRecDepth 100000 in
theorem e_rem {i k : Int} {S : Nat} (h : o.op = .binOp .rem 3 x y 3) (hx : ρ x = .int .i64 i) (hy : ρ y = .int .i64 k) (h0 : 0 ≤ i) (h1 : i ≤ 255) (hk : 1 ≤ k) (hS : i % k = (S : Int)) (hSb : S ≤ 1000) : (execOp ρ o).run Try.prog w = .ok (.value (.int .i64 (S : Int))) w := by
  have e1 := tmod_pos (k := k) h0
  have e2 : (k == 0) = false := by simp; omega
  have e3 : IntKind.i64.wrap (S : Int) = (S : Int) := IntWalk.i64_in _ ⟨by omega, by omega⟩
  unfold execOp; rw [h]
  simp only [hx, hy]
  go_simp
  omega
end

set_option maxHeartbeats 2000000 in
set_option maxRecDepth 100000 in
theorem near_long (b1 : Bool) (A1 : Option Addr) (n1 c1 : Nat) (xs1 : List Nat) (k1 : Int) (w : World) (h1 : Lim w w.heap.size A1 n1 c1 xs1) (x : Int) (h0 : 0 ≤ x) (h255 : x ≤ 255) (l1 : longB b1 n1 xs1 k1 = true) : Calls Try.prog 4 #[.agg #[.bool b1, .slice A1 n1 c1, .int .i64 k1], .int .u8 x] w (RetVal w (.bool true)) := by
  have H1 := Lib.hid h1
  have L1 := Lib.hid l1
  clear h1 l1
  go_enter Try.func4, Try.ntmps4
  go_wp2_with fail
  generalize hW : World.alloc w _ = W0
  have E0 : St w W0 [] [(w.heap.size, .bool b1, .slice A1 n1 c1, .int .i64 k1)] := by rw [← hW]; exact (St.start w (l := []) (fun q hq => by cases hq)).lay rfl
  have E := Lib.hid E0
  clear hW E0
  refine (long_is (H1.out.on E.out.bel) L1.out).mono ?_; rintro e w1 ⟨rfl, hb⟩; replace E := Lib.hid (St.step E.out hb); clear hb
  go_wp2_with fail
  refine (awake6 _).mono ?_; rintro e w9 ⟨rfl, hb⟩; replace E := Lib.hid (St.step E.out hb); clear hb
  go_wp2_with fail
  go_ret
  exact ⟨rfl, E.out.bel⟩

def nearAT : List Row3 := [(some 20, none, .load 25 (.tmp 6)), (some 21, none, .move (.tmp 1)), (some 22, none, .convert 5 3 (.tmp 21)), (some 23, none, .binOp .rem 3 (.tmp 22) (.const (.int .i64 40)) 3), (some 24, none, .call { callee := .value (.func 16), args := #[.tmp 23], argTypes := #[3] }), (some 25, none, .call { callee := .value (.func 22), args := #[.tmp 20, .tmp 24], argTypes := #[25, 25] }), (some 7, none, .assign (.tmp 25))]
set_option maxRecDepth 100000 in
theorem nearARow : (opsAt Try.prog 4 5).toList.map row3 = nearAT := by kernel_rfl
theorem nearASel : Region.noSelect (opsAt Try.prog 4 5) = true := by kernel_rfl
theorem nearADone : Region.ready .any (opsAt Try.prog 4 5) (upto (opsAt Try.prog 4 5).size (opsAt Try.prog 4 5).size []) = [] := by kernel_rfl
theorem nearAstill0 : [(0, [], 0), (1, [], 1), (2, [], 2), (3, [], 3), (6, [], 6)].all (stillB (opsAt Try.prog 4 5)) = true := by kernel_rfl
theorem nearAsole0 : [(4, [], 4), (5, [], 5)].all (soleB (opsAt Try.prog 4 5)) = true := by kernel_rfl
theorem nearAR : Reg (opsAt Try.prog 4 5) nearAT [(0, [], 0), (1, [], 1), (2, [], 2), (3, [], 3), (6, [], 6)] [(4, [], 4), (5, [], 5)] := ⟨nearARow, nearASel, (all_parts nearAstill0 (fun k h => by cases h)), (all_parts nearAsole0 (fun k h => by cases h)), nearADone⟩

def nearB_ltT : List Row3 := [(some 26, none, .fieldAddr 25 (.tmp 5) 2), (some 27, none, .load 3 (.tmp 26)), (some 28, none, .move (.tmp 1)), (some 29, none, .convert 5 3 (.tmp 28)), (some 30, none, .binOp .rem 3 (.tmp 29) (.const (.int .i64 40)) 3), (some 31, none, .binOp .eql 3 (.tmp 27) (.tmp 30) 3), (some 32, none, .move (.tmp 31)), (some 33, some (6, true), .load 25 (.tmp 5)), (some 34, some (6, true), .call { callee := .value (.func 23), args := #[.tmp 33], argTypes := #[25] }), (some 35, none, .pick (.tmp 32) (.tmp 34) (.const (.bool false))), (some 36, none, .move (.tmp 35)), (some 37, some (10, true), .move (.tmp 7)), (some 38, some (10, true), .binOp .leq 3 (.tmp 37) (.const (.int .i64 0)) 3), (some 39, none, .pick (.tmp 36) (.tmp 38) (.const (.bool false))), (some 40, none, .move (.tmp 39)), (some 41, some (14, true), .move (.tmp 7)), (some 42, some (14, true), .binOp .lss 3 (.tmp 41) (.const (.int .i64 0)) 3), (some 43, some (14, true), .move (.tmp 42)), (some 44, some (17, false), .fieldAddr 25 (.tmp 5) 1), (some 45, some (17, false), .load 23 (.tmp 44)), (some 46, some (17, false), .call { callee := .value (.func 24), args := #[.tmp 45], argTypes := #[23] }), (some 47, some (14, true), .pick (.tmp 43) (.const (.bool true)) (.tmp 46)), (some 48, none, .pick (.tmp 40) (.tmp 47) (.const (.bool false))), (some 49, none, .move (.tmp 48)), (some 50, some (23, true), .load 25 (.tmp 5)), (some 51, some (23, true), .fieldAddr 25 (.tmp 5) 2), (some 52, some (23, true), .load 3 (.tmp 51)), (some 53, some (23, true), .call { callee := .value (.func 12), args := #[.tmp 50, .tmp 52], argTypes := #[25, 3] }), (some 54, some (23, true), .load 25 (.tmp 5)), (some 55, some (23, true), .call { callee := .value (.func 25), args := #[.tmp 53, .tmp 54], argTypes := #[25, 25] }), (some 56, none, .pick (.tmp 49) (.tmp 55) (.const (.bool false))), (some 57, none, .move (.tmp 56)), (some 58, some (31, true), .load 25 (.tmp 2)), (some 59, some (31, true), .fieldAddr 25 (.tmp 5) 2), (some 60, some (31, true), .load 3 (.tmp 59)), (some 61, some (31, true), .call { callee := .value (.func 18), args := #[.tmp 58, .tmp 60], argTypes := #[25, 3] }), (some 62, some (31, true), .load 25 (.tmp 6)), (some 63, some (31, true), .call { callee := .value (.func 26), args := #[.tmp 62], argTypes := #[25] }), (some 64, some (31, true), .binOp .eql 3 (.tmp 63) (.const (.int .i64 0)) 3), (some 65, some (31, true), .binOp .eql 4 (.tmp 61) (.tmp 64) 4), (some 66, none, .pick (.tmp 57) (.tmp 65) (.const (.bool false))), (some 67, none, .move (.tmp 66)), (some 68, some (41, true), .call { callee := .value (.func 8), args := #[], argTypes := #[] }), (some 69, none, .pick (.tmp 67) (.tmp 68) (.const (.bool false))), (some 4, none, .assign (.tmp 69))]
set_option maxRecDepth 100000 in
theorem nearB_ltRow : (opsAt Try.prog 4 6).toList.map row3 = nearB_ltT := by kernel_rfl
theorem nearB_ltSel : Region.noSelect (opsAt Try.prog 4 6) = true := by kernel_rfl
theorem nearB_ltDone : Region.ready .any (opsAt Try.prog 4 6) (upto (opsAt Try.prog 4 6).size (opsAt Try.prog 4 6).size []) = [] := by kernel_rfl
theorem nearB_ltstill0 : [(0, [], 0), (1, [], 1), (2, [], 2), (3, [], 3), (4, [], 4), (5, [], 5), (6, [], 6), (7, [], 7), (9, [], 9), (10, [], 10)].all (stillB (opsAt Try.prog 4 6)) = true := by kernel_rfl
theorem nearB_ltstill1 : [(11, [], 11), (12, [], 12), (13, [], 13), (14, [], 14), (15, [], 15), (16, [], 16), (17, [], 17), (18, [], 18), (19, [], 19), (21, [], 21)].all (stillB (opsAt Try.prog 4 6)) = true := by kernel_rfl
theorem nearB_ltstill2 : [(22, [], 22), (23, [], 23), (24, [], 24), (25, [], 25), (26, [], 26), (27, [], 28), (30, [], 30), (31, [], 31), (32, [], 32), (33, [], 33)].all (stillB (opsAt Try.prog 4 6)) = true := by kernel_rfl
theorem nearB_ltstill3 : [(34, [], 34), (35, [], 36), (38, [], 38), (39, [], 39), (40, [], 40), (41, [], 41), (43, [], 43), (44, [], 44)].all (stillB (opsAt Try.prog 4 6)) = true := by kernel_rfl
theorem nearB_ltsole0 : [(8, [], 8), (20, [], 20), (27, [28], 27), (29, [], 29), (35, [36], 35), (37, [], 37), (42, [], 42)].all (soleB (opsAt Try.prog 4 6)) = true := by kernel_rfl
theorem nearB_ltR : Reg (opsAt Try.prog 4 6) nearB_ltT [(0, [], 0), (1, [], 1), (2, [], 2), (3, [], 3), (4, [], 4), (5, [], 5), (6, [], 6), (7, [], 7), (9, [], 9), (10, [], 10), (11, [], 11), (12, [], 12), (13, [], 13), (14, [], 14), (15, [], 15), (16, [], 16), (17, [], 17), (18, [], 18), (19, [], 19), (21, [], 21), (22, [], 22), (23, [], 23), (24, [], 24), (25, [], 25), (26, [], 26), (27, [], 28), (30, [], 30), (31, [], 31), (32, [], 32), (33, [], 33), (34, [], 34), (35, [], 36), (38, [], 38), (39, [], 39), (40, [], 40), (41, [], 41), (43, [], 43), (44, [], 44)] [(8, [], 8), (20, [], 20), (27, [28], 27), (29, [], 29), (35, [36], 35), (37, [], 37), (42, [], 42)] := ⟨nearB_ltRow, nearB_ltSel, (all_parts nearB_ltstill0 (all_parts nearB_ltstill1 (all_parts nearB_ltstill2 (all_parts nearB_ltstill3 (fun k h => by cases h))))), (all_parts nearB_ltsole0 (fun k h => by cases h)), nearB_ltDone⟩

def nearB_eqT : List Row3 := [(some 26, none, .fieldAddr 25 (.tmp 5) 2), (some 27, none, .load 3 (.tmp 26)), (some 28, none, .move (.tmp 1)), (some 29, none, .convert 5 3 (.tmp 28)), (some 30, none, .binOp .rem 3 (.tmp 29) (.const (.int .i64 40)) 3), (some 31, none, .binOp .eql 3 (.tmp 27) (.tmp 30) 3), (some 32, none, .move (.tmp 31)), (some 33, some (6, true), .load 25 (.tmp 5)), (some 34, some (6, true), .call { callee := .value (.func 23), args := #[.tmp 33], argTypes := #[25] }), (some 35, none, .pick (.tmp 32) (.tmp 34) (.const (.bool false))), (some 36, none, .move (.tmp 35)), (some 37, some (10, true), .move (.tmp 7)), (some 38, some (10, true), .binOp .leq 3 (.tmp 37) (.const (.int .i64 0)) 3), (some 39, none, .pick (.tmp 36) (.tmp 38) (.const (.bool false))), (some 40, none, .move (.tmp 39)), (some 41, some (14, true), .move (.tmp 7)), (some 42, some (14, true), .binOp .lss 3 (.tmp 41) (.const (.int .i64 0)) 3), (some 43, some (14, true), .move (.tmp 42)), (some 44, some (17, false), .fieldAddr 25 (.tmp 5) 1), (some 45, some (17, false), .load 23 (.tmp 44)), (some 46, some (17, false), .call { callee := .value (.func 24), args := #[.tmp 45], argTypes := #[23] }), (some 47, some (14, true), .pick (.tmp 43) (.const (.bool true)) (.tmp 46)), (some 48, none, .pick (.tmp 40) (.tmp 47) (.const (.bool false))), (some 49, none, .move (.tmp 48)), (some 50, some (23, true), .load 25 (.tmp 5)), (some 51, some (23, true), .fieldAddr 25 (.tmp 5) 2), (some 52, some (23, true), .load 3 (.tmp 51)), (some 53, some (23, true), .call { callee := .value (.func 12), args := #[.tmp 50, .tmp 52], argTypes := #[25, 3] }), (some 54, some (23, true), .load 25 (.tmp 5)), (some 55, some (23, true), .call { callee := .value (.func 25), args := #[.tmp 53, .tmp 54], argTypes := #[25, 25] }), (some 56, none, .pick (.tmp 49) (.tmp 55) (.const (.bool false))), (some 57, none, .move (.tmp 56)), (some 58, some (31, true), .load 25 (.tmp 2)), (some 59, some (31, true), .fieldAddr 25 (.tmp 5) 2), (some 60, some (31, true), .load 3 (.tmp 59)), (some 61, some (31, true), .call { callee := .value (.func 18), args := #[.tmp 58, .tmp 60], argTypes := #[25, 3] }), (some 62, some (31, true), .load 25 (.tmp 6)), (some 63, some (31, true), .call { callee := .value (.func 26), args := #[.tmp 62], argTypes := #[25] }), (some 64, some (31, true), .binOp .eql 3 (.tmp 63) (.const (.int .i64 0)) 3), (some 65, some (31, true), .binOp .eql 4 (.tmp 61) (.tmp 64) 4), (some 66, none, .pick (.tmp 57) (.tmp 65) (.const (.bool false))), (some 67, none, .move (.tmp 66)), (some 68, some (41, true), .call { callee := .value (.func 8), args := #[], argTypes := #[] }), (some 69, none, .pick (.tmp 67) (.tmp 68) (.const (.bool false))), (some 4, none, .assign (.tmp 69))]
set_option maxRecDepth 100000 in
theorem nearB_eqRow : (opsAt Try.prog 4 6).toList.map row3 = nearB_eqT := by kernel_rfl
theorem nearB_eqSel : Region.noSelect (opsAt Try.prog 4 6) = true := by kernel_rfl
theorem nearB_eqDone : Region.ready .any (opsAt Try.prog 4 6) (upto (opsAt Try.prog 4 6).size (opsAt Try.prog 4 6).size []) = [] := by kernel_rfl
theorem nearB_eqstill0 : [(0, [], 0), (1, [], 1), (2, [], 2), (3, [], 3), (4, [], 4), (5, [], 5), (6, [], 6), (7, [], 7), (9, [], 9), (10, [], 10)].all (stillB (opsAt Try.prog 4 6)) = true := by kernel_rfl
theorem nearB_eqstill1 : [(11, [], 11), (12, [], 12), (13, [], 13), (14, [], 14), (15, [], 15), (16, [], 16), (17, [], 17), (18, [], 18), (19, [], 19), (21, [], 21)].all (stillB (opsAt Try.prog 4 6)) = true := by kernel_rfl
theorem nearB_eqstill2 : [(22, [], 22), (23, [], 23), (24, [], 24), (25, [], 25), (26, [], 26), (27, [], 28), (30, [], 30), (31, [], 31), (32, [], 32), (33, [], 33)].all (stillB (opsAt Try.prog 4 6)) = true := by kernel_rfl
theorem nearB_eqstill3 : [(34, [], 34), (35, [], 36), (38, [], 38), (39, [], 39), (40, [], 40), (41, [], 41), (43, [], 43), (44, [], 44)].all (stillB (opsAt Try.prog 4 6)) = true := by kernel_rfl
theorem nearB_eqsole0 : [(8, [], 8), (20, [], 20), (27, [28], 27), (29, [], 29), (35, [36], 35), (37, [], 37), (42, [], 42)].all (soleB (opsAt Try.prog 4 6)) = true := by kernel_rfl
theorem nearB_eqR : Reg (opsAt Try.prog 4 6) nearB_eqT [(0, [], 0), (1, [], 1), (2, [], 2), (3, [], 3), (4, [], 4), (5, [], 5), (6, [], 6), (7, [], 7), (9, [], 9), (10, [], 10), (11, [], 11), (12, [], 12), (13, [], 13), (14, [], 14), (15, [], 15), (16, [], 16), (17, [], 17), (18, [], 18), (19, [], 19), (21, [], 21), (22, [], 22), (23, [], 23), (24, [], 24), (25, [], 25), (26, [], 26), (27, [], 28), (30, [], 30), (31, [], 31), (32, [], 32), (33, [], 33), (34, [], 34), (35, [], 36), (38, [], 38), (39, [], 39), (40, [], 40), (41, [], 41), (43, [], 43), (44, [], 44)] [(8, [], 8), (20, [], 20), (27, [28], 27), (29, [], 29), (35, [36], 35), (37, [], 37), (42, [], 42)] := ⟨nearB_eqRow, nearB_eqSel, (all_parts nearB_eqstill0 (all_parts nearB_eqstill1 (all_parts nearB_eqstill2 (all_parts nearB_eqstill3 (fun k h => by cases h))))), (all_parts nearB_eqsole0 (fun k h => by cases h)), nearB_eqDone⟩

set_option maxHeartbeats 8000000 in
set_option maxRecDepth 100000 in
theorem near_lt (Aa : Option Addr) (na ca s : Nat) (i : Int) (w : World) (h1 : Num w w.heap.size Aa na ca i.natAbs) (m1 : na ≤ 12) (t1 : s ≤ 60) (x : Int) (h0 : 0 ≤ x) (h255 : x ≤ 255) (hc : cmpD (((subZ i s (quantZ i s (x % 40).toNat) (x % 40).toNat).natAbs : Nat) : Int) (max s (x % 40).toNat) 5 ((x % 40).toNat + 1) = -1) : Calls Try.prog 4 #[.agg #[.bool (ngB i), .slice Aa na ca, .int .i64 (s : Int)], .int .u8 x] w (RetVal w (.bool true)) := by
  have N1 : Hid (longB (ngB i) na (dg i.natAbs) (s : Int) = false) := not_long h1 m1 t1
  obtain ⟨S, hS⟩ : ∃ S : Nat, x % 40 = (S : Int) := ⟨(x % 40).toNat, by omega⟩
  have hSn : (x % 40).toNat = S := by omega
  rw [hSn] at hc
  clear hSn
  have hS39 : S ≤ 39 := by omega
  have HR := Lib.hid hS
  have HV : Hid (max (S : Int) 0 = (S : Int)) := by show _ = _; omega
  obtain ⟨t1, ht1⟩ : ∃ t1, S + 1 = t1 := ⟨_, rfl⟩
  have HT1 := Lib.hid ht1
  have ht2 : t1 ≤ 40 := by omega
  have O5 : Hid ((dg (5 : Int).natAbs).length ≤ 1) := (by show _ ≤ _; exact dg_len_le (by decide))
  have z_1 : Sz i s 108 := (Sz.of_len (by have := h1.len; omega : (dg i.natAbs).length ≤ 12))
  obtain ⟨x1, hx1⟩ : ∃ rr, quantZ i s S = rr := ⟨_, rfl⟩
  have z1 : Sz x1 S 109 := by rw [← hx1]; exact (z_1.quant S).mono (by decide)
  have HL1 : Hid ((dg x1.natAbs).length ≤ 148) := (by show _ ≤ _; have := z1.len; omega)
  have HX1 := Lib.hid hx1
  obtain ⟨x2, hx2⟩ : ∃ rr, subZ i s x1 S = rr := ⟨_, rfl⟩
  obtain ⟨s2, hs2⟩ : ∃ rr, max s S = rr := ⟨_, rfl⟩
  have z2 : Sz x2 s2 110 := by rw [← hx2, ← hs2]; exact (z_1.sub z1).mono (by decide)
  have u2 : s2 ≤ 60 := by omega
  have HL2 : Hid ((dg x2.natAbs).length ≤ 170) := (by show _ ≤ _; have := z2.len; omega)
  have HX2 := Lib.hid hx2
  have HS2 := Lib.hid hs2
  obtain ⟨x3, hx3⟩ : ∃ rr, (x2.natAbs : Int) = rr := ⟨_, rfl⟩
  have z3 : Sz x3 s2 110 := by rw [← hx3]; exact (z2.abs).mono (by decide)
  have HL3 : Hid ((dg x3.natAbs).length ≤ 170) := (by show _ ≤ _; have := z3.len; omega)
  have HX3 := Lib.hid hx3
  have FC : Hid (cmpD x3 s2 5 t1 = -1) := (by show _ = _; rw [← ht1]; subst hx3; subst hs2; subst hx2; subst hx1; exact hc)
  obtain ⟨x4, hx4⟩ : ∃ rr, quantZ x1 S S = rr := ⟨_, rfl⟩
  have z4 : Sz x4 S 110 := by rw [← hx4]; exact (z1.quant S).mono (by decide)
  have HL4 : Hid ((dg x4.natAbs).length ≤ 149) := (by show _ ≤ _; have := z4.len; omega)
  have HX4 := Lib.hid hx4
  have F1 : Hid (alikeB x4 S x1 S = true) := (by show _ = _; subst hx4; subst hx3; subst hs2; subst hx2; subst hx1; exact (alike_yes (quant_again _ _) rfl))
  obtain ⟨be, hbe⟩ : ∃ be, exactB i s S = be := ⟨_, rfl⟩
  have HBE := Lib.hid hbe
  obtain ⟨sg, hsg⟩ : ∃ sg, x3.sign = sg := ⟨_, rfl⟩
  have HSG := Lib.hid hsg
  have D1 : Hid ((sg == 0) = be) := (by show _ = _; rw [← hsg]; subst hx4; subst hx3; subst hs2; subst hx2; subst hx1; exact quant_exact i s S _ hbe)
  have D2 : Hid ((be == be) = true) := (by show _ = _; simp)
  have D3 : Hid (((S : Int) == (S : Int)) = true) := (by show _ = _; simp)
  have H1 := Lib.hid h1
  clear hS hbe hsg ht1 hc
  clear hx1 hx2 hs2 hx3 hx4
  clear h1 z_1 z1 z2 z3 z4
  go_enter Try.func4, Try.ntmps4
  go_wp2_with fail
  generalize hW : World.alloc w _ = W0
  have E0 : St w W0 [(Aa, na, ca, (i).natAbs)] [(w.heap.size, (.bool (ngB i)), (.slice Aa na ca), (.int .i64 (s : Int)))] := by rw [← hW]; exact (St.start w (l := [(Aa, na, ca, (i).natAbs)]) (by simp; exact H1.out)).lay rfl
  have E := Lib.hid E0
  clear hW E0
  refine (long_is (St.got E (A := Aa) (n := na) (c := ca) (a := (i).natAbs) (by simp)) N1.out).mono ?_; rintro e w1 ⟨rfl, hb⟩
  replace E := Lib.hid (St.step E.out hb)
  clear hb
  obtain ⟨p0a, p0b, p0c, p0d, p0e, p0f, p0g⟩ := St.at_ (x0 := (.bool (ngB i))) (x1 := (.slice Aa na ca)) (x2 := (.int .i64 (s : Int))) (g := w.heap.size) E (by simp)
  have hrem := tmod_pos (k := 40) h0
  rw [HR.out] at hrem
  go_wp2_with fail
  refine (quant_is (i := i) (s := s) (S := S) (St.got E (A := Aa) (n := na) (c := ca) (a := (i).natAbs) (by simp)) (by omega) (by omega) HV.out (by omega) HX1.out).mono ?_; rintro e w2 ⟨A2, n2, c2, rfl, h, hb⟩
  have b2 : n2 ≤ 148 := len_le h HL1.out
  clear p0a p0b p0c p0d p0e p0f p0g
  replace E := Lib.hid (St.push E.out hb h)
  clear h hb
  obtain ⟨p0a, p0b, p0c, p0d, p0e, p0f, p0g⟩ := St.at_ (x0 := (.bool (ngB i))) (x1 := (.slice Aa na ca)) (x2 := (.int .i64 (s : Int))) (g := w.heap.size) E (by simp)
  go_wp2_with fail
  clear p0a p0b p0c p0d p0e p0f p0g
  replace E := Lib.hid (St.lay (t := 25) (x0 := (.bool (ngB x1))) (x1 := (.slice A2 n2 c2)) (x2 := (.int .i64 (S : Int))) (g := w2.heap.size) E.out rfl)
  generalize hW2 : World.alloc w2 _ = W2 at E ⊢
  clear hW2
  refine (sub_is5 (i := i) (s := s) (j := x1) (t := S) (St.got E (A := Aa) (n := na) (c := ca) (a := (i).natAbs) (by simp)) (St.got E (A := A2) (n := n2) (c := c2) (a := (x1).natAbs) (by simp)) (by omega) (by omega) (by omega) (by omega) HS2.out HX2.out).mono ?_; rintro e w3 ⟨A3, n3, c3, rfl, h, hb⟩
  have b3 : n3 ≤ 170 := len_le h HL2.out
  replace E := Lib.hid (St.push E.out hb h)
  clear h hb
  obtain ⟨p0a, p0b, p0c, p0d, p0e, p0f, p0g⟩ := St.at_ (x0 := (.bool (ngB x1))) (x1 := (.slice A2 n2 c2)) (x2 := (.int .i64 (S : Int))) (g := w2.heap.size) E (by simp)
  obtain ⟨p1a, p1b, p1c, p1d, p1e, p1f, p1g⟩ := St.at_ (x0 := (.bool (ngB i))) (x1 := (.slice Aa na ca)) (x2 := (.int .i64 (s : Int))) (g := w.heap.size) E (by simp)
  go_wp2_with fail
  clear p0a p0b p0c p0d p0e p0f p0g p1a p1b p1c p1d p1e p1f p1g
  refine (abs_is5 (i := x2) (s := s2) (St.got E (A := A3) (n := n3) (c := c3) (a := (x2).natAbs) (by simp)) (by omega) (by omega) HX3.out).mono ?_; rintro e w4 ⟨A4, n4, c4, rfl, h, hb⟩
  have b4 : n4 ≤ 170 := len_le h HL3.out
  replace E := Lib.hid (St.push E.out hb h)
  clear h hb
  obtain ⟨p0a, p0b, p0c, p0d, p0e, p0f, p0g⟩ := St.at_ (x0 := (.bool (ngB x1))) (x1 := (.slice A2 n2 c2)) (x2 := (.int .i64 (S : Int))) (g := w2.heap.size) E (by simp)
  obtain ⟨p1a, p1b, p1c, p1d, p1e, p1f, p1g⟩ := St.at_ (x0 := (.bool (ngB i))) (x1 := (.slice Aa na ca)) (x2 := (.int .i64 (s : Int))) (g := w.heap.size) E (by simp)
  go_wp2_with fail
  clear p0a p0b p0c p0d p0e p0f p0g p1a p1b p1c p1d p1e p1f p1g
  replace E := Lib.hid (St.lay (t := 25) (x0 := (.bool (ngB x3))) (x1 := (.slice A4 n4 c4)) (x2 := (.int .i64 (s2 : Int))) (g := w4.heap.size) E.out rfl)
  generalize hW2 : World.alloc w4 _ = W3 at E ⊢
  clear hW2
  replace E := Lib.hid (St.drew E.out)
  rename_i K hK
  refine line_start (ops := opsAt Try.prog 4 5) (S := SB [(w4.heap.size, (.bool (ngB x3)), (.slice A4 n4 c4), (.int .i64 (s2 : Int))), (w2.heap.size, (.bool (ngB x1)), (.slice A2 n2 c2), (.int .i64 (S : Int))), (w.heap.size, (.bool (ngB i)), (.slice Aa na ca), (.int .i64 (s : Int)))]) (by kernel_rfl) (by kernel_rfl) (St.sb E) ?_
  have hSw := St.sb E
  generalize hA : Act.mk _ _ = a
  have ha : Fr 70 a [(2, .pointer (some ⟨w.heap.size, 0, none⟩)), (5, .pointer (some ⟨w2.heap.size, 0, none⟩)), (6, .pointer (some ⟨w4.heap.size, 0, none⟩)), (1, .int .u8 x)] := by rw [← hA]; exact ⟨rfl, rfl, by intro q hq; simp at hq; rcases hq with rfl | rfl | rfl | rfl <;> rfl⟩
  clear hA
  refine line_still nearAR 0 0 [] 20 (.agg #[(.bool (ngB x3)), (.slice A4 n4 c4), (.int .i64 (s2 : Int))]) [(2, .pointer (some ⟨w.heap.size, 0, none⟩)), (5, .pointer (some ⟨w2.heap.size, 0, none⟩)), (6, .pointer (some ⟨w4.heap.size, 0, none⟩)), (1, .int .u8 x)] rfl (by decide) (by decide) (by decide) ha (fun o ho hg => y_of (wanted_none hg) (fun wx hS => e_load ho (ha.ev (i := 6) (v := .pointer (some ⟨w4.heap.size, 0, none⟩)) (by simp)) (hS.at_ (g := w4.heap.size) (x0 := (.bool (ngB x3))) (x1 := (.slice A4 n4 c4)) (x2 := (.int .i64 (s2 : Int))) (by simp)))) (by simp) hSw ?_; intro a ha
  refine line_still nearAR 1 1 [] 21 (.int .u8 x) [(20, .agg #[(.bool (ngB x3)), (.slice A4 n4 c4), (.int .i64 (s2 : Int))]), (2, .pointer (some ⟨w.heap.size, 0, none⟩)), (5, .pointer (some ⟨w2.heap.size, 0, none⟩)), (6, .pointer (some ⟨w4.heap.size, 0, none⟩)), (1, .int .u8 x)] rfl (by decide) (by decide) (by decide) ha (fun o ho hg => y_of (wanted_none hg) (fun wx hS => e_move (.inl ho) (ha.ev (i := 1) (v := .int .u8 x) (by simp)))) (by simp) hSw ?_; intro a ha
  refine line_still nearAR 2 2 [] 22 (.int .i64 x) [(20, .agg #[(.bool (ngB x3)), (.slice A4 n4 c4), (.int .i64 (s2 : Int))]), (2, .pointer (some ⟨w.heap.size, 0, none⟩)), (5, .pointer (some ⟨w2.heap.size, 0, none⟩)), (6, .pointer (some ⟨w4.heap.size, 0, none⟩)), (1, .int .u8 x)] rfl (by decide) (by decide) (by decide) ha (fun o ho hg => y_of (wanted_none hg) (fun wx hS => e_conv ho (ha.ev (i := 21) (v := .int .u8 x) (by simp)) h0 h255)) (by simp) hSw ?_; intro a ha
  refine line_still nearAR 3 3 [] 23 (.int .i64 (S : Int)) [(20, .agg #[(.bool (ngB x3)), (.slice A4 n4 c4), (.int .i64 (s2 : Int))]), (2, .pointer (some ⟨w.heap.size, 0, none⟩)), (5, .pointer (some ⟨w2.heap.size, 0, none⟩)), (6, .pointer (some ⟨w4.heap.size, 0, none⟩)), (1, .int .u8 x)] rfl (by decide) (by decide) (by decide) ha (fun o ho hg => y_of (wanted_none hg) (fun wx hS => e_rem ho (ha.ev (i := 22) (v := .int .i64 x) (by simp)) rfl h0 h255 (by decide) HR.out (by omega))) (by simp) hSw ?_; intro a ha
  refine line_call nearAR 4 4 [] 24 (args := #[.int .i64 (S : Int)]) [(20, .agg #[(.bool (ngB x3)), (.slice A4 n4 c4), (.int .i64 (s2 : Int))]), (2, .pointer (some ⟨w.heap.size, 0, none⟩)), (5, .pointer (some ⟨w2.heap.size, 0, none⟩)), (6, .pointer (some ⟨w4.heap.size, 0, none⟩)), (1, .int .u8 x)] rfl (by decide) (by decide) (by decide) ha (fun o ho hg => ⟨(wanted_none hg), e_call (by kernel_rfl) ho rfl (by have q0 := ha.ev (i := 23) (v := .int .i64 (S : Int)) (by simp); simp only [List.map_toArray, List.map_cons, List.map_nil, ev_const, q0])⟩) (by simp) ?_
  refine (half_at (S := S) (M := t1) _ HV.out (by omega) HT1.out).mono ?_; rintro e w5 ⟨A5, n5, c5, rfl, h, hb⟩
  have b5 : n5 ≤ 1 := len_le h O5.out
  replace E := Lib.hid (St.push E.out hb h)
  clear h hb
  have hSw := St.sb E; refine ⟨_, rfl, hSw, ?_⟩; intro a ha
  refine line_call nearAR 5 5 [] 25 (args := #[.agg #[(.bool (ngB x3)), (.slice A4 n4 c4), (.int .i64 (s2 : Int))], .agg #[.bool (ngB (5 : Int)), .slice A5 n5 c5, .int .i64 (t1 : Int)]]) [(2, .pointer (some ⟨w.heap.size, 0, none⟩)), (5, .pointer (some ⟨w2.heap.size, 0, none⟩)), (6, .pointer (some ⟨w4.heap.size, 0, none⟩)), (1, .int .u8 x)] rfl (by decide) (by decide) (by decide) ha (fun o ho hg => ⟨(wanted_none hg), e_call (by kernel_rfl) ho rfl (by have q0 := ha.ev (i := 20) (v := .agg #[(.bool (ngB x3)), (.slice A4 n4 c4), (.int .i64 (s2 : Int))]) (by simp); have q1 := ha.ev (i := 24) (v := .agg #[.bool (ngB (5 : Int)), .slice A5 n5 c5, .int .i64 (t1 : Int)]) (by simp); simp only [List.map_toArray, List.map_cons, List.map_nil, ev_const, q0, q1])⟩) (by simp) ?_
  refine (cmp5_is (i := x3) (s := s2) (j := 5) (t := t1) (St.got E (A := A4) (n := n4) (c := c4) (a := (x3).natAbs) (by simp)) (St.got E (A := A5) (n := n5) (c := c5) (a := ((5 : Int)).natAbs) (by simp)) (by omega) (by omega) (by omega) (by omega) FC.out).mono ?_; rintro e w6 ⟨rfl, hb⟩
  replace E := Lib.hid (St.step E.out hb)
  clear hb
  replace E : Hid (St w w6 [(A4, n4, c4, (x3).natAbs), (A3, n3, c3, (x2).natAbs), (A2, n2, c2, (x1).natAbs), (Aa, na, ca, (i).natAbs)] [(w4.heap.size, (.bool (ngB x3)), (.slice A4 n4 c4), (.int .i64 (s2 : Int))), (w2.heap.size, (.bool (ngB x1)), (.slice A2 n2 c2), (.int .i64 (S : Int))), (w.heap.size, (.bool (ngB i)), (.slice Aa na ca), (.int .i64 (s : Int)))]) := Lib.hid ((E.out).sub (by simp) (by simp))
  have hSw := St.sb E; refine ⟨_, rfl, hSw, ?_⟩; intro a ha
  refine line_still nearAR 6 6 [] 7 (.int .i64 (-1)) [(2, .pointer (some ⟨w.heap.size, 0, none⟩)), (5, .pointer (some ⟨w2.heap.size, 0, none⟩)), (6, .pointer (some ⟨w4.heap.size, 0, none⟩)), (1, .int .u8 x)] rfl (by decide) (by decide) (by decide) ha (fun o ho hg => y_of (wanted_none hg) (fun wx hS => e_move (.inr ho) (ha.ev (i := 25) (v := .int .i64 (-1)) (by simp)))) (by simp) hSw ?_; intro a ha
  refine line_end nearAR rfl ?_
  simp only [Exit.then]
  refine hK _ _ ?_
  clear hK K
  refine wp_seq_k (fun K hK => ?_)
  replace E := Lib.hid (St.drew E.out)
  refine line_start (ops := opsAt Try.prog 4 6) (S := SB [(w4.heap.size, (.bool (ngB x3)), (.slice A4 n4 c4), (.int .i64 (s2 : Int))), (w2.heap.size, (.bool (ngB x1)), (.slice A2 n2 c2), (.int .i64 (S : Int))), (w.heap.size, (.bool (ngB i)), (.slice Aa na ca), (.int .i64 (s : Int)))]) (by kernel_rfl) (by kernel_rfl) (St.sb E) ?_
  have hSw := St.sb E
  refine line_still nearB_ltR 0 0 [] 26 (.pointer (some ⟨w2.heap.size, 2, none⟩)) [(2, .pointer (some ⟨w.heap.size, 0, none⟩)), (5, .pointer (some ⟨w2.heap.size, 0, none⟩)), (6, .pointer (some ⟨w4.heap.size, 0, none⟩)), (1, .int .u8 x), (7, .int .i64 (-1))] rfl (by decide) (by decide) (by decide) ha (fun o ho hg => y_of (wanted_none hg) (fun wx hS => e_field 2 (by simp) ho (ha.ev (i := 5) (v := .pointer (some ⟨w2.heap.size, 0, none⟩)) (by simp)))) (by simp) hSw ?_; intro a ha
  refine line_still nearB_ltR 1 1 [] 27 ((.int .i64 (S : Int))) [(2, .pointer (some ⟨w.heap.size, 0, none⟩)), (5, .pointer (some ⟨w2.heap.size, 0, none⟩)), (6, .pointer (some ⟨w4.heap.size, 0, none⟩)), (1, .int .u8 x), (7, .int .i64 (-1))] rfl (by decide) (by decide) (by decide) ha (fun o ho hg => y_of (wanted_none hg) (fun wx hS => e_cell (by simp) ho (ha.ev (i := 26) (v := .pointer (some ⟨w2.heap.size, 2, none⟩)) (by simp)) (hS.at_ (g := w2.heap.size) (x0 := (.bool (ngB x1))) (x1 := (.slice A2 n2 c2)) (x2 := (.int .i64 (S : Int))) (by simp)).c2)) (by simp) hSw ?_; intro a ha
  refine line_still nearB_ltR 2 2 [] 28 (.int .u8 x) [(27, (.int .i64 (S : Int))), (2, .pointer (some ⟨w.heap.size, 0, none⟩)), (5, .pointer (some ⟨w2.heap.size, 0, none⟩)), (6, .pointer (some ⟨w4.heap.size, 0, none⟩)), (7, .int .i64 (-1))] rfl (by decide) (by decide) (by decide) ha (fun o ho hg => y_of (wanted_none hg) (fun wx hS => e_move (.inl ho) (ha.ev (i := 1) (v := .int .u8 x) (by simp)))) (by simp) hSw ?_; intro a ha
  refine line_still nearB_ltR 3 3 [] 29 (.int .i64 x) [(27, (.int .i64 (S : Int))), (2, .pointer (some ⟨w.heap.size, 0, none⟩)), (5, .pointer (some ⟨w2.heap.size, 0, none⟩)), (6, .pointer (some ⟨w4.heap.size, 0, none⟩)), (7, .int .i64 (-1))] rfl (by decide) (by decide) (by decide) ha (fun o ho hg => y_of (wanted_none hg) (fun wx hS => e_conv ho (ha.ev (i := 28) (v := .int .u8 x) (by simp)) h0 h255)) (by simp) hSw ?_; intro a ha
  refine line_still nearB_ltR 4 4 [] 30 (.int .i64 (S : Int)) [(27, (.int .i64 (S : Int))), (2, .pointer (some ⟨w.heap.size, 0, none⟩)), (5, .pointer (some ⟨w2.heap.size, 0, none⟩)), (6, .pointer (some ⟨w4.heap.size, 0, none⟩)), (7, .int .i64 (-1))] rfl (by decide) (by decide) (by decide) ha (fun o ho hg => y_of (wanted_none hg) (fun wx hS => e_rem ho (ha.ev (i := 29) (v := .int .i64 x) (by simp)) rfl h0 h255 (by decide) HR.out (by omega))) (by simp) hSw ?_; intro a ha
  refine line_still nearB_ltR 5 5 [] 31 (.bool true) [(2, .pointer (some ⟨w.heap.size, 0, none⟩)), (5, .pointer (some ⟨w2.heap.size, 0, none⟩)), (6, .pointer (some ⟨w4.heap.size, 0, none⟩)), (7, .int .i64 (-1))] rfl (by decide) (by decide) (by decide) ha (fun o ho hg => y_of (wanted_none hg) (fun wx hS => (e_eql ho (ha.ev (i := 27) (v := (.int .i64 (S : Int))) (by simp)) (ha.ev (i := 30) (v := .int .i64 (S : Int)) (by simp))).trans (by rw [D3.out]))) (by simp) hSw ?_; intro a ha
  refine line_still nearB_ltR 6 6 [] 32 (.bool true) [(2, .pointer (some ⟨w.heap.size, 0, none⟩)), (5, .pointer (some ⟨w2.heap.size, 0, none⟩)), (6, .pointer (some ⟨w4.heap.size, 0, none⟩)), (7, .int .i64 (-1))] rfl (by decide) (by decide) (by decide) ha (fun o ho hg => y_of (wanted_none hg) (fun wx hS => e_move (.inl ho) (ha.ev (i := 31) (v := .bool true) (by simp)))) (by simp) hSw ?_; intro a ha
  refine line_still nearB_ltR 7 7 [] 33 (.agg #[(.bool (ngB x1)), (.slice A2 n2 c2), (.int .i64 (S : Int))]) [(32, .bool true), (2, .pointer (some ⟨w.heap.size, 0, none⟩)), (5, .pointer (some ⟨w2.heap.size, 0, none⟩)), (6, .pointer (some ⟨w4.heap.size, 0, none⟩)), (7, .int .i64 (-1))] rfl (by decide) (by decide) (by decide) ha (fun o ho hg => y_of (nearB_ltR.wanted hg rfl ha (d := 32) (by simp)) (fun wx hS => e_load ho (ha.ev (i := 5) (v := .pointer (some ⟨w2.heap.size, 0, none⟩)) (by simp)) (hS.at_ (g := w2.heap.size) (x0 := (.bool (ngB x1))) (x1 := (.slice A2 n2 c2)) (x2 := (.int .i64 (S : Int))) (by simp)))) (by simp) hSw ?_; intro a ha
  refine line_call nearB_ltR 8 8 [] 34 (args := #[.agg #[(.bool (ngB x1)), (.slice A2 n2 c2), (.int .i64 (S : Int))]]) [(32, .bool true), (2, .pointer (some ⟨w.heap.size, 0, none⟩)), (5, .pointer (some ⟨w2.heap.size, 0, none⟩)), (6, .pointer (some ⟨w4.heap.size, 0, none⟩)), (7, .int .i64 (-1))] rfl (by decide) (by decide) (by decide) ha (fun o ho hg => ⟨(nearB_ltR.wanted hg rfl ha (d := 32) (by simp)), e_call (by kernel_rfl) ho rfl (by have q0 := ha.ev (i := 33) (v := .agg #[(.bool (ngB x1)), (.slice A2 n2 c2), (.int .i64 (S : Int))]) (by simp); simp only [List.map_toArray, List.map_cons, List.map_nil, ev_const, q0])⟩) (by simp) ?_
  refine (right_is5 (i := x1) (s := S) (St.got E (A := A2) (n := n2) (c := c2) (a := (x1).natAbs) (by simp))).mono ?_; rintro e w7 ⟨rfl, hb⟩
  replace E := Lib.hid (St.step E.out hb)
  clear hb
  have hSw := St.sb E; refine ⟨_, rfl, hSw, ?_⟩; intro a ha
  refine line_still nearB_ltR 9 9 [] 35 (.bool true) [(2, .pointer (some ⟨w.heap.size, 0, none⟩)), (5, .pointer (some ⟨w2.heap.size, 0, none⟩)), (6, .pointer (some ⟨w4.heap.size, 0, none⟩)), (7, .int .i64 (-1))] rfl (by decide) (by decide) (by decide) ha (fun o ho hg => y_of (wanted_none hg) (fun wx hS => e_pick ho (ha.ev (i := 32) (v := .bool true) (by simp)) (ha.ev (i := 34) (v := .bool true) (by simp)) rfl)) (by simp) hSw ?_; intro a ha
  refine line_still nearB_ltR 10 10 [] 36 (.bool true) [(2, .pointer (some ⟨w.heap.size, 0, none⟩)), (5, .pointer (some ⟨w2.heap.size, 0, none⟩)), (6, .pointer (some ⟨w4.heap.size, 0, none⟩)), (7, .int .i64 (-1))] rfl (by decide) (by decide) (by decide) ha (fun o ho hg => y_of (wanted_none hg) (fun wx hS => e_move (.inl ho) (ha.ev (i := 35) (v := .bool true) (by simp)))) (by simp) hSw ?_; intro a ha
  refine line_still nearB_ltR 11 11 [] 37 (.int .i64 (-1)) [(36, .bool true), (2, .pointer (some ⟨w.heap.size, 0, none⟩)), (5, .pointer (some ⟨w2.heap.size, 0, none⟩)), (6, .pointer (some ⟨w4.heap.size, 0, none⟩)), (7, .int .i64 (-1))] rfl (by decide) (by decide) (by decide) ha (fun o ho hg => y_of (nearB_ltR.wanted hg rfl ha (d := 36) (by simp)) (fun wx hS => e_move (.inl ho) (ha.ev (i := 7) (v := .int .i64 (-1)) (by simp)))) (by simp) hSw ?_; intro a ha
  refine line_still nearB_ltR 12 12 [] 38 (.bool true) [(36, .bool true), (2, .pointer (some ⟨w.heap.size, 0, none⟩)), (5, .pointer (some ⟨w2.heap.size, 0, none⟩)), (6, .pointer (some ⟨w4.heap.size, 0, none⟩)), (7, .int .i64 (-1))] rfl (by decide) (by decide) (by decide) ha (fun o ho hg => y_of (nearB_ltR.wanted hg rfl ha (d := 36) (by simp)) (fun wx hS => e_leq ho (ha.ev (i := 37) (v := .int .i64 (-1)) (by simp)) rfl)) (by simp) hSw ?_; intro a ha
  refine line_still nearB_ltR 13 13 [] 39 (.bool true) [(2, .pointer (some ⟨w.heap.size, 0, none⟩)), (5, .pointer (some ⟨w2.heap.size, 0, none⟩)), (6, .pointer (some ⟨w4.heap.size, 0, none⟩)), (7, .int .i64 (-1))] rfl (by decide) (by decide) (by decide) ha (fun o ho hg => y_of (wanted_none hg) (fun wx hS => e_pick ho (ha.ev (i := 36) (v := .bool true) (by simp)) (ha.ev (i := 38) (v := .bool true) (by simp)) rfl)) (by simp) hSw ?_; intro a ha
  refine line_still nearB_ltR 14 14 [] 40 (.bool true) [(2, .pointer (some ⟨w.heap.size, 0, none⟩)), (5, .pointer (some ⟨w2.heap.size, 0, none⟩)), (6, .pointer (some ⟨w4.heap.size, 0, none⟩)), (7, .int .i64 (-1))] rfl (by decide) (by decide) (by decide) ha (fun o ho hg => y_of (wanted_none hg) (fun wx hS => e_move (.inl ho) (ha.ev (i := 39) (v := .bool true) (by simp)))) (by simp) hSw ?_; intro a ha
  refine line_still nearB_ltR 15 15 [] 41 (.int .i64 (-1)) [(40, .bool true), (2, .pointer (some ⟨w.heap.size, 0, none⟩)), (5, .pointer (some ⟨w2.heap.size, 0, none⟩)), (6, .pointer (some ⟨w4.heap.size, 0, none⟩))] rfl (by decide) (by decide) (by decide) ha (fun o ho hg => y_of (nearB_ltR.wanted hg rfl ha (d := 40) (by simp)) (fun wx hS => e_move (.inl ho) (ha.ev (i := 7) (v := .int .i64 (-1)) (by simp)))) (by simp) hSw ?_; intro a ha
  refine line_still nearB_ltR 16 16 [] 42 (.bool true) [(40, .bool true), (2, .pointer (some ⟨w.heap.size, 0, none⟩)), (5, .pointer (some ⟨w2.heap.size, 0, none⟩)), (6, .pointer (some ⟨w4.heap.size, 0, none⟩))] rfl (by decide) (by decide) (by decide) ha (fun o ho hg => y_of (nearB_ltR.wanted hg rfl ha (d := 40) (by simp)) (fun wx hS => e_lss ho (ha.ev (i := 41) (v := .int .i64 (-1)) (by simp)) rfl)) (by simp) hSw ?_; intro a ha
  refine line_still nearB_ltR 17 17 [] 43 (.bool true) [(40, .bool true), (2, .pointer (some ⟨w.heap.size, 0, none⟩)), (5, .pointer (some ⟨w2.heap.size, 0, none⟩)), (6, .pointer (some ⟨w4.heap.size, 0, none⟩))] rfl (by decide) (by decide) (by decide) ha (fun o ho hg => y_of (nearB_ltR.wanted hg rfl ha (d := 40) (by simp)) (fun wx hS => e_move (.inl ho) (ha.ev (i := 42) (v := .bool true) (by simp)))) (by simp) hSw ?_; intro a ha
  refine line_still nearB_ltR 18 18 [] 44 undef [(43, .bool true), (40, .bool true), (2, .pointer (some ⟨w.heap.size, 0, none⟩)), (5, .pointer (some ⟨w2.heap.size, 0, none⟩)), (6, .pointer (some ⟨w4.heap.size, 0, none⟩))] rfl (by decide) (by decide) (by decide) ha (fun o ho hg => y_not (nearB_ltR.unwanted hg rfl ha (d := 43) (by simp))) (by simp) hSw ?_; intro a ha
  refine line_still nearB_ltR 19 19 [] 45 undef [(43, .bool true), (40, .bool true), (2, .pointer (some ⟨w.heap.size, 0, none⟩)), (5, .pointer (some ⟨w2.heap.size, 0, none⟩)), (6, .pointer (some ⟨w4.heap.size, 0, none⟩))] rfl (by decide) (by decide) (by decide) ha (fun o ho hg => y_not (nearB_ltR.unwanted hg rfl ha (d := 43) (by simp))) (by simp) hSw ?_; intro a ha
  refine line_not nearB_ltR 20 20 [] 46 [(43, .bool true), (40, .bool true), (2, .pointer (some ⟨w.heap.size, 0, none⟩)), (5, .pointer (some ⟨w2.heap.size, 0, none⟩)), (6, .pointer (some ⟨w4.heap.size, 0, none⟩))] rfl (by decide) (by decide) (by decide) ha (fun o ho hg => nearB_ltR.unwanted hg rfl ha (d := 43) (by simp)) (by simp) hSw ?_; intro a ha
  refine line_still nearB_ltR 21 21 [] 47 (.bool true) [(40, .bool true), (2, .pointer (some ⟨w.heap.size, 0, none⟩)), (5, .pointer (some ⟨w2.heap.size, 0, none⟩)), (6, .pointer (some ⟨w4.heap.size, 0, none⟩))] rfl (by decide) (by decide) (by decide) ha (fun o ho hg => y_of (nearB_ltR.wanted hg rfl ha (d := 40) (by simp)) (fun wx hS => e_pick ho (ha.ev (i := 43) (v := .bool true) (by simp)) rfl (ha.ev (i := 46) (v := undef) (by simp)))) (by simp) hSw ?_; intro a ha
  refine line_still nearB_ltR 22 22 [] 48 (.bool true) [(2, .pointer (some ⟨w.heap.size, 0, none⟩)), (5, .pointer (some ⟨w2.heap.size, 0, none⟩)), (6, .pointer (some ⟨w4.heap.size, 0, none⟩))] rfl (by decide) (by decide) (by decide) ha (fun o ho hg => y_of (wanted_none hg) (fun wx hS => e_pick ho (ha.ev (i := 40) (v := .bool true) (by simp)) (ha.ev (i := 47) (v := .bool true) (by simp)) rfl)) (by simp) hSw ?_; intro a ha
  refine line_still nearB_ltR 23 23 [] 49 (.bool true) [(2, .pointer (some ⟨w.heap.size, 0, none⟩)), (5, .pointer (some ⟨w2.heap.size, 0, none⟩)), (6, .pointer (some ⟨w4.heap.size, 0, none⟩))] rfl (by decide) (by decide) (by decide) ha (fun o ho hg => y_of (wanted_none hg) (fun wx hS => e_move (.inl ho) (ha.ev (i := 48) (v := .bool true) (by simp)))) (by simp) hSw ?_; intro a ha
  refine line_still nearB_ltR 24 24 [] 50 (.agg #[(.bool (ngB x1)), (.slice A2 n2 c2), (.int .i64 (S : Int))]) [(49, .bool true), (2, .pointer (some ⟨w.heap.size, 0, none⟩)), (5, .pointer (some ⟨w2.heap.size, 0, none⟩)), (6, .pointer (some ⟨w4.heap.size, 0, none⟩))] rfl (by decide) (by decide) (by decide) ha (fun o ho hg => y_of (nearB_ltR.wanted hg rfl ha (d := 49) (by simp)) (fun wx hS => e_load ho (ha.ev (i := 5) (v := .pointer (some ⟨w2.heap.size, 0, none⟩)) (by simp)) (hS.at_ (g := w2.heap.size) (x0 := (.bool (ngB x1))) (x1 := (.slice A2 n2 c2)) (x2 := (.int .i64 (S : Int))) (by simp)))) (by simp) hSw ?_; intro a ha
  refine line_still nearB_ltR 25 25 [] 51 (.pointer (some ⟨w2.heap.size, 2, none⟩)) [(50, .agg #[(.bool (ngB x1)), (.slice A2 n2 c2), (.int .i64 (S : Int))]), (49, .bool true), (2, .pointer (some ⟨w.heap.size, 0, none⟩)), (5, .pointer (some ⟨w2.heap.size, 0, none⟩)), (6, .pointer (some ⟨w4.heap.size, 0, none⟩))] rfl (by decide) (by decide) (by decide) ha (fun o ho hg => y_of (nearB_ltR.wanted hg rfl ha (d := 49) (by simp)) (fun wx hS => e_field 2 (by simp) ho (ha.ev (i := 5) (v := .pointer (some ⟨w2.heap.size, 0, none⟩)) (by simp)))) (by simp) hSw ?_; intro a ha
  refine line_still nearB_ltR 26 26 [] 52 ((.int .i64 (S : Int))) [(50, .agg #[(.bool (ngB x1)), (.slice A2 n2 c2), (.int .i64 (S : Int))]), (49, .bool true), (2, .pointer (some ⟨w.heap.size, 0, none⟩)), (5, .pointer (some ⟨w2.heap.size, 0, none⟩)), (6, .pointer (some ⟨w4.heap.size, 0, none⟩))] rfl (by decide) (by decide) (by decide) ha (fun o ho hg => y_of (nearB_ltR.wanted hg rfl ha (d := 49) (by simp)) (fun wx hS => e_cell (by simp) ho (ha.ev (i := 51) (v := .pointer (some ⟨w2.heap.size, 2, none⟩)) (by simp)) (hS.at_ (g := w2.heap.size) (x0 := (.bool (ngB x1))) (x1 := (.slice A2 n2 c2)) (x2 := (.int .i64 (S : Int))) (by simp)).c2)) (by simp) hSw ?_; intro a ha
  refine line_ahead nearB_ltR 27 27 [] 28 54 (.agg #[(.bool (ngB x1)), (.slice A2 n2 c2), (.int .i64 (S : Int))]) [(52, (.int .i64 (S : Int))), (50, .agg #[(.bool (ngB x1)), (.slice A2 n2 c2), (.int .i64 (S : Int))]), (49, .bool true), (2, .pointer (some ⟨w.heap.size, 0, none⟩)), (5, .pointer (some ⟨w2.heap.size, 0, none⟩)), (6, .pointer (some ⟨w4.heap.size, 0, none⟩))] rfl (by decide) (by decide) (by decide) ha (fun o ho hg => y_of (nearB_ltR.wanted hg rfl ha (d := 49) (by simp)) (fun wx hS => e_load ho (ha.ev (i := 5) (v := .pointer (some ⟨w2.heap.size, 0, none⟩)) (by simp)) (hS.at_ (g := w2.heap.size) (x0 := (.bool (ngB x1))) (x1 := (.slice A2 n2 c2)) (x2 := (.int .i64 (S : Int))) (by simp)))) (by simp) hSw ?_; intro a ha
  refine line_call nearB_ltR 28 27 [28] 53 (args := #[.agg #[(.bool (ngB x1)), (.slice A2 n2 c2), (.int .i64 (S : Int))], (.int .i64 (S : Int))]) [(54, .agg #[(.bool (ngB x1)), (.slice A2 n2 c2), (.int .i64 (S : Int))]), (49, .bool true), (2, .pointer (some ⟨w.heap.size, 0, none⟩)), (5, .pointer (some ⟨w2.heap.size, 0, none⟩)), (6, .pointer (some ⟨w4.heap.size, 0, none⟩))] rfl (by decide) (by decide) (by decide) ha (fun o ho hg => ⟨(nearB_ltR.wanted hg rfl ha (d := 49) (by simp)), e_call (by kernel_rfl) ho rfl (by have q0 := ha.ev (i := 50) (v := .agg #[(.bool (ngB x1)), (.slice A2 n2 c2), (.int .i64 (S : Int))]) (by simp); have q1 := ha.ev (i := 52) (v := (.int .i64 (S : Int))) (by simp); simp only [List.map_toArray, List.map_cons, List.map_nil, ev_const, q0, q1])⟩) (by simp) ?_
  refine (quant_is (i := x1) (s := S) (S := S) (St.got E (A := A2) (n := n2) (c := c2) (a := (x1).natAbs) (by simp)) (by omega) (by omega) HV.out (by omega) HX4.out).mono ?_; rintro e w8 ⟨A8, n8, c8, rfl, h, hb⟩
  have b8 : n8 ≤ 149 := len_le h HL4.out
  replace E := Lib.hid (St.push E.out hb h)
  clear h hb
  have hSw := St.sb E; refine ⟨_, rfl, hSw, ?_⟩; intro a ha
  refine line_skip [] (by intro i; simp <;> omega) ?_
  refine line_call nearB_ltR 29 29 [] 55 (args := #[.agg #[.bool (ngB x4), .slice A8 n8 c8, .int .i64 (S : Int)], .agg #[(.bool (ngB x1)), (.slice A2 n2 c2), (.int .i64 (S : Int))]]) [(49, .bool true), (2, .pointer (some ⟨w.heap.size, 0, none⟩)), (5, .pointer (some ⟨w2.heap.size, 0, none⟩)), (6, .pointer (some ⟨w4.heap.size, 0, none⟩))] rfl (by decide) (by decide) (by decide) ha (fun o ho hg => ⟨(nearB_ltR.wanted hg rfl ha (d := 49) (by simp)), e_call (by kernel_rfl) ho rfl (by have q0 := ha.ev (i := 53) (v := .agg #[.bool (ngB x4), .slice A8 n8 c8, .int .i64 (S : Int)]) (by simp); have q1 := ha.ev (i := 54) (v := .agg #[(.bool (ngB x1)), (.slice A2 n2 c2), (.int .i64 (S : Int))]) (by simp); simp only [List.map_toArray, List.map_cons, List.map_nil, ev_const, q0, q1])⟩) (by simp) ?_
  refine (alike_is5 (i := x4) (j := x1) (s := S) (t := S) (St.got E (A := A8) (n := n8) (c := c8) (a := (x4).natAbs) (by simp)) (St.got E (A := A2) (n := n2) (c := c2) (a := (x1).natAbs) (by simp)) F1.out).mono ?_; rintro e w9 ⟨rfl, hb⟩
  replace E := Lib.hid (St.step E.out hb)
  clear hb
  replace E : Hid (St w w9 [(A4, n4, c4, (x3).natAbs), (A3, n3, c3, (x2).natAbs), (A2, n2, c2, (x1).natAbs), (Aa, na, ca, (i).natAbs)] [(w4.heap.size, (.bool (ngB x3)), (.slice A4 n4 c4), (.int .i64 (s2 : Int))), (w2.heap.size, (.bool (ngB x1)), (.slice A2 n2 c2), (.int .i64 (S : Int))), (w.heap.size, (.bool (ngB i)), (.slice Aa na ca), (.int .i64 (s : Int)))]) := Lib.hid ((E.out).sub (by simp) (by simp))
  have hSw := St.sb E; refine ⟨_, rfl, hSw, ?_⟩; intro a ha
  refine line_still nearB_ltR 30 30 [] 56 (.bool true) [(2, .pointer (some ⟨w.heap.size, 0, none⟩)), (5, .pointer (some ⟨w2.heap.size, 0, none⟩)), (6, .pointer (some ⟨w4.heap.size, 0, none⟩))] rfl (by decide) (by decide) (by decide) ha (fun o ho hg => y_of (wanted_none hg) (fun wx hS => e_pick ho (ha.ev (i := 49) (v := .bool true) (by simp)) (ha.ev (i := 55) (v := .bool true) (by simp)) rfl)) (by simp) hSw ?_; intro a ha
  refine line_still nearB_ltR 31 31 [] 57 (.bool true) [(2, .pointer (some ⟨w.heap.size, 0, none⟩)), (5, .pointer (some ⟨w2.heap.size, 0, none⟩)), (6, .pointer (some ⟨w4.heap.size, 0, none⟩))] rfl (by decide) (by decide) (by decide) ha (fun o ho hg => y_of (wanted_none hg) (fun wx hS => e_move (.inl ho) (ha.ev (i := 56) (v := .bool true) (by simp)))) (by simp) hSw ?_; intro a ha
  refine line_still nearB_ltR 32 32 [] 58 (.agg #[(.bool (ngB i)), (.slice Aa na ca), (.int .i64 (s : Int))]) [(57, .bool true), (5, .pointer (some ⟨w2.heap.size, 0, none⟩)), (6, .pointer (some ⟨w4.heap.size, 0, none⟩))] rfl (by decide) (by decide) (by decide) ha (fun o ho hg => y_of (nearB_ltR.wanted hg rfl ha (d := 57) (by simp)) (fun wx hS => e_load ho (ha.ev (i := 2) (v := .pointer (some ⟨w.heap.size, 0, none⟩)) (by simp)) (hS.at_ (g := w.heap.size) (x0 := (.bool (ngB i))) (x1 := (.slice Aa na ca)) (x2 := (.int .i64 (s : Int))) (by simp)))) (by simp) hSw ?_; intro a ha
  refine line_still nearB_ltR 33 33 [] 59 (.pointer (some ⟨w2.heap.size, 2, none⟩)) [(58, .agg #[(.bool (ngB i)), (.slice Aa na ca), (.int .i64 (s : Int))]), (57, .bool true), (6, .pointer (some ⟨w4.heap.size, 0, none⟩))] rfl (by decide) (by decide) (by decide) ha (fun o ho hg => y_of (nearB_ltR.wanted hg rfl ha (d := 57) (by simp)) (fun wx hS => e_field 2 (by simp) ho (ha.ev (i := 5) (v := .pointer (some ⟨w2.heap.size, 0, none⟩)) (by simp)))) (by simp) hSw ?_; intro a ha
  refine line_still nearB_ltR 34 34 [] 60 ((.int .i64 (S : Int))) [(58, .agg #[(.bool (ngB i)), (.slice Aa na ca), (.int .i64 (s : Int))]), (57, .bool true), (6, .pointer (some ⟨w4.heap.size, 0, none⟩))] rfl (by decide) (by decide) (by decide) ha (fun o ho hg => y_of (nearB_ltR.wanted hg rfl ha (d := 57) (by simp)) (fun wx hS => e_cell (by simp) ho (ha.ev (i := 59) (v := .pointer (some ⟨w2.heap.size, 2, none⟩)) (by simp)) (hS.at_ (g := w2.heap.size) (x0 := (.bool (ngB x1))) (x1 := (.slice A2 n2 c2)) (x2 := (.int .i64 (S : Int))) (by simp)).c2)) (by simp) hSw ?_; intro a ha
  refine line_ahead nearB_ltR 35 35 [] 36 62 (.agg #[(.bool (ngB x3)), (.slice A4 n4 c4), (.int .i64 (s2 : Int))]) [(60, (.int .i64 (S : Int))), (58, .agg #[(.bool (ngB i)), (.slice Aa na ca), (.int .i64 (s : Int))]), (57, .bool true)] rfl (by decide) (by decide) (by decide) ha (fun o ho hg => y_of (nearB_ltR.wanted hg rfl ha (d := 57) (by simp)) (fun wx hS => e_load ho (ha.ev (i := 6) (v := .pointer (some ⟨w4.heap.size, 0, none⟩)) (by simp)) (hS.at_ (g := w4.heap.size) (x0 := (.bool (ngB x3))) (x1 := (.slice A4 n4 c4)) (x2 := (.int .i64 (s2 : Int))) (by simp)))) (by simp) hSw ?_; intro a ha
  refine line_call nearB_ltR 36 35 [36] 61 (args := #[.agg #[(.bool (ngB i)), (.slice Aa na ca), (.int .i64 (s : Int))], (.int .i64 (S : Int))]) [(62, .agg #[(.bool (ngB x3)), (.slice A4 n4 c4), (.int .i64 (s2 : Int))]), (57, .bool true)] rfl (by decide) (by decide) (by decide) ha (fun o ho hg => ⟨(nearB_ltR.wanted hg rfl ha (d := 57) (by simp)), e_call (by kernel_rfl) ho rfl (by have q0 := ha.ev (i := 58) (v := .agg #[(.bool (ngB i)), (.slice Aa na ca), (.int .i64 (s : Int))]) (by simp); have q1 := ha.ev (i := 60) (v := (.int .i64 (S : Int))) (by simp); simp only [List.map_toArray, List.map_cons, List.map_nil, ev_const, q0, q1])⟩) (by simp) ?_
  refine (exact_is (i := i) (s := s) (S := S) (St.got E (A := Aa) (n := na) (c := ca) (a := (i).natAbs) (by simp)) (by omega) (by omega) HV.out (by omega) HBE.out).mono ?_; rintro e w10 ⟨rfl, hb⟩
  replace E := Lib.hid (St.step E.out hb)
  clear hb
  have hSw := St.sb E; refine ⟨_, rfl, hSw, ?_⟩; intro a ha
  refine line_skip [] (by intro i; simp <;> omega) ?_
  refine line_call nearB_ltR 37 37 [] 63 (args := #[.agg #[(.bool (ngB x3)), (.slice A4 n4 c4), (.int .i64 (s2 : Int))]]) [(61, .bool be), (57, .bool true)] rfl (by decide) (by decide) (by decide) ha (fun o ho hg => ⟨(nearB_ltR.wanted hg rfl ha (d := 57) (by simp)), e_call (by kernel_rfl) ho rfl (by have q0 := ha.ev (i := 62) (v := .agg #[(.bool (ngB x3)), (.slice A4 n4 c4), (.int .i64 (s2 : Int))]) (by simp); simp only [List.map_toArray, List.map_cons, List.map_nil, ev_const, q0])⟩) (by simp) ?_
  refine (sign_is (i := x3) (s := s2) (St.got E (A := A4) (n := n4) (c := c4) (a := (x3).natAbs) (by simp)) HSG.out).mono ?_; rintro e w11 ⟨rfl, hb⟩
  replace E := Lib.hid (St.step E.out hb)
  clear hb
  have hSw := St.sb E; refine ⟨_, rfl, hSw, ?_⟩; intro a ha
  refine line_still nearB_ltR 38 38 [] 64 (.bool be) [(61, .bool be), (57, .bool true)] rfl (by decide) (by decide) (by decide) ha (fun o ho hg => y_of (nearB_ltR.wanted hg rfl ha (d := 57) (by simp)) (fun wx hS => (e_eql ho (ha.ev (i := 63) (v := .int .i64 sg) (by simp)) rfl).trans (by rw [D1.out]))) (by simp) hSw ?_; intro a ha
  refine line_still nearB_ltR 39 39 [] 65 (.bool true) [(57, .bool true)] rfl (by decide) (by decide) (by decide) ha (fun o ho hg => y_of (nearB_ltR.wanted hg rfl ha (d := 57) (by simp)) (fun wx hS => (e_beq ho (ha.ev (i := 61) (v := .bool be) (by simp)) (ha.ev (i := 64) (v := .bool be) (by simp))).trans (by rw [D2.out]))) (by simp) hSw ?_; intro a ha
  refine line_still nearB_ltR 40 40 [] 66 (.bool true) [] rfl (by decide) (by decide) (by decide) ha (fun o ho hg => y_of (wanted_none hg) (fun wx hS => e_pick ho (ha.ev (i := 57) (v := .bool true) (by simp)) (ha.ev (i := 65) (v := .bool true) (by simp)) rfl)) (by simp) hSw ?_; intro a ha
  refine line_still nearB_ltR 41 41 [] 67 (.bool true) [] rfl (by decide) (by decide) (by decide) ha (fun o ho hg => y_of (wanted_none hg) (fun wx hS => e_move (.inl ho) (ha.ev (i := 66) (v := .bool true) (by simp)))) (by simp) hSw ?_; intro a ha
  refine line_call nearB_ltR 42 42 [] 68 (args := #[]) [(67, .bool true)] rfl (by decide) (by decide) (by decide) ha (fun o ho hg => ⟨(nearB_ltR.wanted hg rfl ha (d := 67) (by simp)), e_call (by kernel_rfl) ho rfl (by simp only [List.map_toArray, List.map_cons, List.map_nil, ev_const])⟩) (by simp) ?_
  refine (awake6 _).mono ?_; rintro e w12 ⟨rfl, hb⟩
  replace E := Lib.hid (St.step E.out hb)
  clear hb
  have hSw := St.sb E; refine ⟨_, rfl, hSw, ?_⟩; intro a ha
  refine line_still nearB_ltR 43 43 [] 69 (.bool true) [] rfl (by decide) (by decide) (by decide) ha (fun o ho hg => y_of (wanted_none hg) (fun wx hS => e_pick ho (ha.ev (i := 67) (v := .bool true) (by simp)) (ha.ev (i := 68) (v := .bool true) (by simp)) rfl)) (by simp) hSw ?_; intro a ha
  refine line_still nearB_ltR 44 44 [] 4 (.bool true) [] rfl (by decide) (by decide) (by decide) ha (fun o ho hg => y_of (wanted_none hg) (fun wx hS => e_move (.inr ho) (ha.ev (i := 69) (v := .bool true) (by simp)))) (by simp) hSw ?_; intro a ha
  refine line_end nearB_ltR rfl ?_
  simp only [Exit.then]
  refine hK _ _ ?_
  go_wp2
  exact bodyPost_ret (v := .bool true) (by have := ha.2.2 (4, .bool true) (by simp); simp [results, Try.results4, go_sem, Array.getD_eq_getD_getElem?, this]) ha.2.1 ⟨rfl, E.out.bel⟩

set_option maxHeartbeats 8000000 in
set_option maxRecDepth 100000 in
theorem near_eq (Aa : Option Addr) (na ca s : Nat) (i : Int) (w : World) (h1 : Num w w.heap.size Aa na ca i.natAbs) (m1 : na ≤ 12) (t1 : s ≤ 60) (x : Int) (h0 : 0 ≤ x) (h255 : x ≤ 255) (hc : cmpD (((subZ i s (quantZ i s (x % 40).toNat) (x % 40).toNat).natAbs : Nat) : Int) (max s (x % 40).toNat) 5 ((x % 40).toNat + 1) = 0) (he : (quantZ i s (x % 40).toNat).natAbs % 2 = 0) : Calls Try.prog 4 #[.agg #[.bool (ngB i), .slice Aa na ca, .int .i64 (s : Int)], .int .u8 x] w (RetVal w (.bool true)) := by
  have N1 : Hid (longB (ngB i) na (dg i.natAbs) (s : Int) = false) := not_long h1 m1 t1
  obtain ⟨S, hS⟩ : ∃ S : Nat, x % 40 = (S : Int) := ⟨(x % 40).toNat, by omega⟩
  have hSn : (x % 40).toNat = S := by omega
  rw [hSn] at hc he
  clear hSn
  have hS39 : S ≤ 39 := by omega
  have HR := Lib.hid hS
  have HV : Hid (max (S : Int) 0 = (S : Int)) := by show _ = _; omega
  obtain ⟨t1, ht1⟩ : ∃ t1, S + 1 = t1 := ⟨_, rfl⟩
  have HT1 := Lib.hid ht1
  have ht2 : t1 ≤ 40 := by omega
  have O5 : Hid ((dg (5 : Int).natAbs).length ≤ 1) := (by show _ ≤ _; exact dg_len_le (by decide))
  have z_1 : Sz i s 108 := (Sz.of_len (by have := h1.len; omega : (dg i.natAbs).length ≤ 12))
  obtain ⟨x1, hx1⟩ : ∃ rr, quantZ i s S = rr := ⟨_, rfl⟩
  have z1 : Sz x1 S 109 := by rw [← hx1]; exact (z_1.quant S).mono (by decide)
  have HL1 : Hid ((dg x1.natAbs).length ≤ 148) := (by show _ ≤ _; have := z1.len; omega)
  have HX1 := Lib.hid hx1
  obtain ⟨x2, hx2⟩ : ∃ rr, subZ i s x1 S = rr := ⟨_, rfl⟩
  obtain ⟨s2, hs2⟩ : ∃ rr, max s S = rr := ⟨_, rfl⟩
  have z2 : Sz x2 s2 110 := by rw [← hx2, ← hs2]; exact (z_1.sub z1).mono (by decide)
  have u2 : s2 ≤ 60 := by omega
  have HL2 : Hid ((dg x2.natAbs).length ≤ 170) := (by show _ ≤ _; have := z2.len; omega)
  have HX2 := Lib.hid hx2
  have HS2 := Lib.hid hs2
  obtain ⟨x3, hx3⟩ : ∃ rr, (x2.natAbs : Int) = rr := ⟨_, rfl⟩
  have z3 : Sz x3 s2 110 := by rw [← hx3]; exact (z2.abs).mono (by decide)
  have HL3 : Hid ((dg x3.natAbs).length ≤ 170) := (by show _ ≤ _; have := z3.len; omega)
  have HX3 := Lib.hid hx3
  have FC : Hid (cmpD x3 s2 5 t1 = 0) := (by show _ = _; rw [← ht1]; subst hx3; subst hs2; subst hx2; subst hx1; exact hc)
  have FE : Hid (decide (x1.natAbs % 2 = 0) = true) := (by show _ = _; subst hx3; subst hs2; subst hx2; subst hx1; exact decide_eq_true he)
  obtain ⟨x4, hx4⟩ : ∃ rr, quantZ x1 S S = rr := ⟨_, rfl⟩
  have z4 : Sz x4 S 110 := by rw [← hx4]; exact (z1.quant S).mono (by decide)
  have HL4 : Hid ((dg x4.natAbs).length ≤ 149) := (by show _ ≤ _; have := z4.len; omega)
  have HX4 := Lib.hid hx4
  have F1 : Hid (alikeB x4 S x1 S = true) := (by show _ = _; subst hx4; subst hx3; subst hs2; subst hx2; subst hx1; exact (alike_yes (quant_again _ _) rfl))
  obtain ⟨be, hbe⟩ : ∃ be, exactB i s S = be := ⟨_, rfl⟩
  have HBE := Lib.hid hbe
  obtain ⟨sg, hsg⟩ : ∃ sg, x3.sign = sg := ⟨_, rfl⟩
  have HSG := Lib.hid hsg
  have D1 : Hid ((sg == 0) = be) := (by show _ = _; rw [← hsg]; subst hx4; subst hx3; subst hs2; subst hx2; subst hx1; exact quant_exact i s S _ hbe)
  have D2 : Hid ((be == be) = true) := (by show _ = _; simp)
  have D3 : Hid (((S : Int) == (S : Int)) = true) := (by show _ = _; simp)
  have H1 := Lib.hid h1
  clear hS hbe hsg ht1 hc he
  clear hx1 hx2 hs2 hx3 hx4
  clear h1 z_1 z1 z2 z3 z4
  go_enter Try.func4, Try.ntmps4
  go_wp2_with fail
  generalize hW : World.alloc w _ = W0
  have E0 : St w W0 [(Aa, na, ca, (i).natAbs)] [(w.heap.size, (.bool (ngB i)), (.slice Aa na ca), (.int .i64 (s : Int)))] := by rw [← hW]; exact (St.start w (l := [(Aa, na, ca, (i).natAbs)]) (by simp; exact H1.out)).lay rfl
  have E := Lib.hid E0
  clear hW E0
  refine (long_is (St.got E (A := Aa) (n := na) (c := ca) (a := (i).natAbs) (by simp)) N1.out).mono ?_; rintro e w1 ⟨rfl, hb⟩
  replace E := Lib.hid (St.step E.out hb)
  clear hb
  obtain ⟨p0a, p0b, p0c, p0d, p0e, p0f, p0g⟩ := St.at_ (x0 := (.bool (ngB i))) (x1 := (.slice Aa na ca)) (x2 := (.int .i64 (s : Int))) (g := w.heap.size) E (by simp)
  have hrem := tmod_pos (k := 40) h0
  rw [HR.out] at hrem
  go_wp2_with fail
  refine (quant_is (i := i) (s := s) (S := S) (St.got E (A := Aa) (n := na) (c := ca) (a := (i).natAbs) (by simp)) (by omega) (by omega) HV.out (by omega) HX1.out).mono ?_; rintro e w2 ⟨A2, n2, c2, rfl, h, hb⟩
  have b2 : n2 ≤ 148 := len_le h HL1.out
  clear p0a p0b p0c p0d p0e p0f p0g
  replace E := Lib.hid (St.push E.out hb h)
  clear h hb
  obtain ⟨p0a, p0b, p0c, p0d, p0e, p0f, p0g⟩ := St.at_ (x0 := (.bool (ngB i))) (x1 := (.slice Aa na ca)) (x2 := (.int .i64 (s : Int))) (g := w.heap.size) E (by simp)
  go_wp2_with fail
  clear p0a p0b p0c p0d p0e p0f p0g
  replace E := Lib.hid (St.lay (t := 25) (x0 := (.bool (ngB x1))) (x1 := (.slice A2 n2 c2)) (x2 := (.int .i64 (S : Int))) (g := w2.heap.size) E.out rfl)
  generalize hW2 : World.alloc w2 _ = W2 at E ⊢
  clear hW2
  refine (sub_is5 (i := i) (s := s) (j := x1) (t := S) (St.got E (A := Aa) (n := na) (c := ca) (a := (i).natAbs) (by simp)) (St.got E (A := A2) (n := n2) (c := c2) (a := (x1).natAbs) (by simp)) (by omega) (by omega) (by omega) (by omega) HS2.out HX2.out).mono ?_; rintro e w3 ⟨A3, n3, c3, rfl, h, hb⟩
  have b3 : n3 ≤ 170 := len_le h HL2.out
  replace E := Lib.hid (St.push E.out hb h)
  clear h hb
  obtain ⟨p0a, p0b, p0c, p0d, p0e, p0f, p0g⟩ := St.at_ (x0 := (.bool (ngB x1))) (x1 := (.slice A2 n2 c2)) (x2 := (.int .i64 (S : Int))) (g := w2.heap.size) E (by simp)
  obtain ⟨p1a, p1b, p1c, p1d, p1e, p1f, p1g⟩ := St.at_ (x0 := (.bool (ngB i))) (x1 := (.slice Aa na ca)) (x2 := (.int .i64 (s : Int))) (g := w.heap.size) E (by simp)
  go_wp2_with fail
  clear p0a p0b p0c p0d p0e p0f p0g p1a p1b p1c p1d p1e p1f p1g
  refine (abs_is5 (i := x2) (s := s2) (St.got E (A := A3) (n := n3) (c := c3) (a := (x2).natAbs) (by simp)) (by omega) (by omega) HX3.out).mono ?_; rintro e w4 ⟨A4, n4, c4, rfl, h, hb⟩
  have b4 : n4 ≤ 170 := len_le h HL3.out
  replace E := Lib.hid (St.push E.out hb h)
  clear h hb
  obtain ⟨p0a, p0b, p0c, p0d, p0e, p0f, p0g⟩ := St.at_ (x0 := (.bool (ngB x1))) (x1 := (.slice A2 n2 c2)) (x2 := (.int .i64 (S : Int))) (g := w2.heap.size) E (by simp)
  obtain ⟨p1a, p1b, p1c, p1d, p1e, p1f, p1g⟩ := St.at_ (x0 := (.bool (ngB i))) (x1 := (.slice Aa na ca)) (x2 := (.int .i64 (s : Int))) (g := w.heap.size) E (by simp)
  go_wp2_with fail
  clear p0a p0b p0c p0d p0e p0f p0g p1a p1b p1c p1d p1e p1f p1g
  replace E := Lib.hid (St.lay (t := 25) (x0 := (.bool (ngB x3))) (x1 := (.slice A4 n4 c4)) (x2 := (.int .i64 (s2 : Int))) (g := w4.heap.size) E.out rfl)
  generalize hW2 : World.alloc w4 _ = W3 at E ⊢
  clear hW2
  replace E := Lib.hid (St.drew E.out)
  rename_i K hK
  refine line_start (ops := opsAt Try.prog 4 5) (S := SB [(w4.heap.size, (.bool (ngB x3)), (.slice A4 n4 c4), (.int .i64 (s2 : Int))), (w2.heap.size, (.bool (ngB x1)), (.slice A2 n2 c2), (.int .i64 (S : Int))), (w.heap.size, (.bool (ngB i)), (.slice Aa na ca), (.int .i64 (s : Int)))]) (by kernel_rfl) (by kernel_rfl) (St.sb E) ?_
  have hSw := St.sb E
  generalize hA : Act.mk _ _ = a
  have ha : Fr 70 a [(2, .pointer (some ⟨w.heap.size, 0, none⟩)), (5, .pointer (some ⟨w2.heap.size, 0, none⟩)), (6, .pointer (some ⟨w4.heap.size, 0, none⟩)), (1, .int .u8 x)] := by rw [← hA]; exact ⟨rfl, rfl, by intro q hq; simp at hq; rcases hq with rfl | rfl | rfl | rfl <;> rfl⟩
  clear hA
  refine line_still nearAR 0 0 [] 20 (.agg #[(.bool (ngB x3)), (.slice A4 n4 c4), (.int .i64 (s2 : Int))]) [(2, .pointer (some ⟨w.heap.size, 0, none⟩)), (5, .pointer (some ⟨w2.heap.size, 0, none⟩)), (6, .pointer (some ⟨w4.heap.size, 0, none⟩)), (1, .int .u8 x)] rfl (by decide) (by decide) (by decide) ha (fun o ho hg => y_of (wanted_none hg) (fun wx hS => e_load ho (ha.ev (i := 6) (v := .pointer (some ⟨w4.heap.size, 0, none⟩)) (by simp)) (hS.at_ (g := w4.heap.size) (x0 := (.bool (ngB x3))) (x1 := (.slice A4 n4 c4)) (x2 := (.int .i64 (s2 : Int))) (by simp)))) (by simp) hSw ?_; intro a ha
  refine line_still nearAR 1 1 [] 21 (.int .u8 x) [(20, .agg #[(.bool (ngB x3)), (.slice A4 n4 c4), (.int .i64 (s2 : Int))]), (2, .pointer (some ⟨w.heap.size, 0, none⟩)), (5, .pointer (some ⟨w2.heap.size, 0, none⟩)), (6, .pointer (some ⟨w4.heap.size, 0, none⟩)), (1, .int .u8 x)] rfl (by decide) (by decide) (by decide) ha (fun o ho hg => y_of (wanted_none hg) (fun wx hS => e_move (.inl ho) (ha.ev (i := 1) (v := .int .u8 x) (by simp)))) (by simp) hSw ?_; intro a ha
  refine line_still nearAR 2 2 [] 22 (.int .i64 x) [(20, .agg #[(.bool (ngB x3)), (.slice A4 n4 c4), (.int .i64 (s2 : Int))]), (2, .pointer (some ⟨w.heap.size, 0, none⟩)), (5, .pointer (some ⟨w2.heap.size, 0, none⟩)), (6, .pointer (some ⟨w4.heap.size, 0, none⟩)), (1, .int .u8 x)] rfl (by decide) (by decide) (by decide) ha (fun o ho hg => y_of (wanted_none hg) (fun wx hS => e_conv ho (ha.ev (i := 21) (v := .int .u8 x) (by simp)) h0 h255)) (by simp) hSw ?_; intro a ha
  refine line_still nearAR 3 3 [] 23 (.int .i64 (S : Int)) [(20, .agg #[(.bool (ngB x3)), (.slice A4 n4 c4), (.int .i64 (s2 : Int))]), (2, .pointer (some ⟨w.heap.size, 0, none⟩)), (5, .pointer (some ⟨w2.heap.size, 0, none⟩)), (6, .pointer (some ⟨w4.heap.size, 0, none⟩)), (1, .int .u8 x)] rfl (by decide) (by decide) (by decide) ha (fun o ho hg => y_of (wanted_none hg) (fun wx hS => e_rem ho (ha.ev (i := 22) (v := .int .i64 x) (by simp)) rfl h0 h255 (by decide) HR.out (by omega))) (by simp) hSw ?_; intro a ha
  refine line_call nearAR 4 4 [] 24 (args := #[.int .i64 (S : Int)]) [(20, .agg #[(.bool (ngB x3)), (.slice A4 n4 c4), (.int .i64 (s2 : Int))]), (2, .pointer (some ⟨w.heap.size, 0, none⟩)), (5, .pointer (some ⟨w2.heap.size, 0, none⟩)), (6, .pointer (some ⟨w4.heap.size, 0, none⟩)), (1, .int .u8 x)] rfl (by decide) (by decide) (by decide) ha (fun o ho hg => ⟨(wanted_none hg), e_call (by kernel_rfl) ho rfl (by have q0 := ha.ev (i := 23) (v := .int .i64 (S : Int)) (by simp); simp only [List.map_toArray, List.map_cons, List.map_nil, ev_const, q0])⟩) (by simp) ?_
  refine (half_at (S := S) (M := t1) _ HV.out (by omega) HT1.out).mono ?_; rintro e w5 ⟨A5, n5, c5, rfl, h, hb⟩
  have b5 : n5 ≤ 1 := len_le h O5.out
  replace E := Lib.hid (St.push E.out hb h)
  clear h hb
  have hSw := St.sb E; refine ⟨_, rfl, hSw, ?_⟩; intro a ha
  refine line_call nearAR 5 5 [] 25 (args := #[.agg #[(.bool (ngB x3)), (.slice A4 n4 c4), (.int .i64 (s2 : Int))], .agg #[.bool (ngB (5 : Int)), .slice A5 n5 c5, .int .i64 (t1 : Int)]]) [(2, .pointer (some ⟨w.heap.size, 0, none⟩)), (5, .pointer (some ⟨w2.heap.size, 0, none⟩)), (6, .pointer (some ⟨w4.heap.size, 0, none⟩)), (1, .int .u8 x)] rfl (by decide) (by decide) (by decide) ha (fun o ho hg => ⟨(wanted_none hg), e_call (by kernel_rfl) ho rfl (by have q0 := ha.ev (i := 20) (v := .agg #[(.bool (ngB x3)), (.slice A4 n4 c4), (.int .i64 (s2 : Int))]) (by simp); have q1 := ha.ev (i := 24) (v := .agg #[.bool (ngB (5 : Int)), .slice A5 n5 c5, .int .i64 (t1 : Int)]) (by simp); simp only [List.map_toArray, List.map_cons, List.map_nil, ev_const, q0, q1])⟩) (by simp) ?_
  refine (cmp5_is (i := x3) (s := s2) (j := 5) (t := t1) (St.got E (A := A4) (n := n4) (c := c4) (a := (x3).natAbs) (by simp)) (St.got E (A := A5) (n := n5) (c := c5) (a := ((5 : Int)).natAbs) (by simp)) (by omega) (by omega) (by omega) (by omega) FC.out).mono ?_; rintro e w6 ⟨rfl, hb⟩
  replace E := Lib.hid (St.step E.out hb)
  clear hb
  replace E : Hid (St w w6 [(A4, n4, c4, (x3).natAbs), (A3, n3, c3, (x2).natAbs), (A2, n2, c2, (x1).natAbs), (Aa, na, ca, (i).natAbs)] [(w4.heap.size, (.bool (ngB x3)), (.slice A4 n4 c4), (.int .i64 (s2 : Int))), (w2.heap.size, (.bool (ngB x1)), (.slice A2 n2 c2), (.int .i64 (S : Int))), (w.heap.size, (.bool (ngB i)), (.slice Aa na ca), (.int .i64 (s : Int)))]) := Lib.hid ((E.out).sub (by simp) (by simp))
  have hSw := St.sb E; refine ⟨_, rfl, hSw, ?_⟩; intro a ha
  refine line_still nearAR 6 6 [] 7 (.int .i64 (0)) [(2, .pointer (some ⟨w.heap.size, 0, none⟩)), (5, .pointer (some ⟨w2.heap.size, 0, none⟩)), (6, .pointer (some ⟨w4.heap.size, 0, none⟩)), (1, .int .u8 x)] rfl (by decide) (by decide) (by decide) ha (fun o ho hg => y_of (wanted_none hg) (fun wx hS => e_move (.inr ho) (ha.ev (i := 25) (v := .int .i64 (0)) (by simp)))) (by simp) hSw ?_; intro a ha
  refine line_end nearAR rfl ?_
  simp only [Exit.then]
  refine hK _ _ ?_
  clear hK K
  refine wp_seq_k (fun K hK => ?_)
  replace E := Lib.hid (St.drew E.out)
  refine line_start (ops := opsAt Try.prog 4 6) (S := SB [(w4.heap.size, (.bool (ngB x3)), (.slice A4 n4 c4), (.int .i64 (s2 : Int))), (w2.heap.size, (.bool (ngB x1)), (.slice A2 n2 c2), (.int .i64 (S : Int))), (w.heap.size, (.bool (ngB i)), (.slice Aa na ca), (.int .i64 (s : Int)))]) (by kernel_rfl) (by kernel_rfl) (St.sb E) ?_
  have hSw := St.sb E
  refine line_still nearB_eqR 0 0 [] 26 (.pointer (some ⟨w2.heap.size, 2, none⟩)) [(2, .pointer (some ⟨w.heap.size, 0, none⟩)), (5, .pointer (some ⟨w2.heap.size, 0, none⟩)), (6, .pointer (some ⟨w4.heap.size, 0, none⟩)), (1, .int .u8 x), (7, .int .i64 (0))] rfl (by decide) (by decide) (by decide) ha (fun o ho hg => y_of (wanted_none hg) (fun wx hS => e_field 2 (by simp) ho (ha.ev (i := 5) (v := .pointer (some ⟨w2.heap.size, 0, none⟩)) (by simp)))) (by simp) hSw ?_; intro a ha
  refine line_still nearB_eqR 1 1 [] 27 ((.int .i64 (S : Int))) [(2, .pointer (some ⟨w.heap.size, 0, none⟩)), (5, .pointer (some ⟨w2.heap.size, 0, none⟩)), (6, .pointer (some ⟨w4.heap.size, 0, none⟩)), (1, .int .u8 x), (7, .int .i64 (0))] rfl (by decide) (by decide) (by decide) ha (fun o ho hg => y_of (wanted_none hg) (fun wx hS => e_cell (by simp) ho (ha.ev (i := 26) (v := .pointer (some ⟨w2.heap.size, 2, none⟩)) (by simp)) (hS.at_ (g := w2.heap.size) (x0 := (.bool (ngB x1))) (x1 := (.slice A2 n2 c2)) (x2 := (.int .i64 (S : Int))) (by simp)).c2)) (by simp) hSw ?_; intro a ha
  refine line_still nearB_eqR 2 2 [] 28 (.int .u8 x) [(27, (.int .i64 (S : Int))), (2, .pointer (some ⟨w.heap.size, 0, none⟩)), (5, .pointer (some ⟨w2.heap.size, 0, none⟩)), (6, .pointer (some ⟨w4.heap.size, 0, none⟩)), (7, .int .i64 (0))] rfl (by decide) (by decide) (by decide) ha (fun o ho hg => y_of (wanted_none hg) (fun wx hS => e_move (.inl ho) (ha.ev (i := 1) (v := .int .u8 x) (by simp)))) (by simp) hSw ?_; intro a ha
  refine line_still nearB_eqR 3 3 [] 29 (.int .i64 x) [(27, (.int .i64 (S : Int))), (2, .pointer (some ⟨w.heap.size, 0, none⟩)), (5, .pointer (some ⟨w2.heap.size, 0, none⟩)), (6, .pointer (some ⟨w4.heap.size, 0, none⟩)), (7, .int .i64 (0))] rfl (by decide) (by decide) (by decide) ha (fun o ho hg => y_of (wanted_none hg) (fun wx hS => e_conv ho (ha.ev (i := 28) (v := .int .u8 x) (by simp)) h0 h255)) (by simp) hSw ?_; intro a ha
  refine line_still nearB_eqR 4 4 [] 30 (.int .i64 (S : Int)) [(27, (.int .i64 (S : Int))), (2, .pointer (some ⟨w.heap.size, 0, none⟩)), (5, .pointer (some ⟨w2.heap.size, 0, none⟩)), (6, .pointer (some ⟨w4.heap.size, 0, none⟩)), (7, .int .i64 (0))] rfl (by decide) (by decide) (by decide) ha (fun o ho hg => y_of (wanted_none hg) (fun wx hS => e_rem ho (ha.ev (i := 29) (v := .int .i64 x) (by simp)) rfl h0 h255 (by decide) HR.out (by omega))) (by simp) hSw ?_; intro a ha
  refine line_still nearB_eqR 5 5 [] 31 (.bool true) [(2, .pointer (some ⟨w.heap.size, 0, none⟩)), (5, .pointer (some ⟨w2.heap.size, 0, none⟩)), (6, .pointer (some ⟨w4.heap.size, 0, none⟩)), (7, .int .i64 (0))] rfl (by decide) (by decide) (by decide) ha (fun o ho hg => y_of (wanted_none hg) (fun wx hS => (e_eql ho (ha.ev (i := 27) (v := (.int .i64 (S : Int))) (by simp)) (ha.ev (i := 30) (v := .int .i64 (S : Int)) (by simp))).trans (by rw [D3.out]))) (by simp) hSw ?_; intro a ha
  refine line_still nearB_eqR 6 6 [] 32 (.bool true) [(2, .pointer (some ⟨w.heap.size, 0, none⟩)), (5, .pointer (some ⟨w2.heap.size, 0, none⟩)), (6, .pointer (some ⟨w4.heap.size, 0, none⟩)), (7, .int .i64 (0))] rfl (by decide) (by decide) (by decide) ha (fun o ho hg => y_of (wanted_none hg) (fun wx hS => e_move (.inl ho) (ha.ev (i := 31) (v := .bool true) (by simp)))) (by simp) hSw ?_; intro a ha
  refine line_still nearB_eqR 7 7 [] 33 (.agg #[(.bool (ngB x1)), (.slice A2 n2 c2), (.int .i64 (S : Int))]) [(32, .bool true), (2, .pointer (some ⟨w.heap.size, 0, none⟩)), (5, .pointer (some ⟨w2.heap.size, 0, none⟩)), (6, .pointer (some ⟨w4.heap.size, 0, none⟩)), (7, .int .i64 (0))] rfl (by decide) (by decide) (by decide) ha (fun o ho hg => y_of (nearB_eqR.wanted hg rfl ha (d := 32) (by simp)) (fun wx hS => e_load ho (ha.ev (i := 5) (v := .pointer (some ⟨w2.heap.size, 0, none⟩)) (by simp)) (hS.at_ (g := w2.heap.size) (x0 := (.bool (ngB x1))) (x1 := (.slice A2 n2 c2)) (x2 := (.int .i64 (S : Int))) (by simp)))) (by simp) hSw ?_; intro a ha
  refine line_call nearB_eqR 8 8 [] 34 (args := #[.agg #[(.bool (ngB x1)), (.slice A2 n2 c2), (.int .i64 (S : Int))]]) [(32, .bool true), (2, .pointer (some ⟨w.heap.size, 0, none⟩)), (5, .pointer (some ⟨w2.heap.size, 0, none⟩)), (6, .pointer (some ⟨w4.heap.size, 0, none⟩)), (7, .int .i64 (0))] rfl (by decide) (by decide) (by decide) ha (fun o ho hg => ⟨(nearB_eqR.wanted hg rfl ha (d := 32) (by simp)), e_call (by kernel_rfl) ho rfl (by have q0 := ha.ev (i := 33) (v := .agg #[(.bool (ngB x1)), (.slice A2 n2 c2), (.int .i64 (S : Int))]) (by simp); simp only [List.map_toArray, List.map_cons, List.map_nil, ev_const, q0])⟩) (by simp) ?_
  refine (right_is5 (i := x1) (s := S) (St.got E (A := A2) (n := n2) (c := c2) (a := (x1).natAbs) (by simp))).mono ?_; rintro e w7 ⟨rfl, hb⟩
  replace E := Lib.hid (St.step E.out hb)
  clear hb
  have hSw := St.sb E; refine ⟨_, rfl, hSw, ?_⟩; intro a ha
  refine line_still nearB_eqR 9 9 [] 35 (.bool true) [(2, .pointer (some ⟨w.heap.size, 0, none⟩)), (5, .pointer (some ⟨w2.heap.size, 0, none⟩)), (6, .pointer (some ⟨w4.heap.size, 0, none⟩)), (7, .int .i64 (0))] rfl (by decide) (by decide) (by decide) ha (fun o ho hg => y_of (wanted_none hg) (fun wx hS => e_pick ho (ha.ev (i := 32) (v := .bool true) (by simp)) (ha.ev (i := 34) (v := .bool true) (by simp)) rfl)) (by simp) hSw ?_; intro a ha
  refine line_still nearB_eqR 10 10 [] 36 (.bool true) [(2, .pointer (some ⟨w.heap.size, 0, none⟩)), (5, .pointer (some ⟨w2.heap.size, 0, none⟩)), (6, .pointer (some ⟨w4.heap.size, 0, none⟩)), (7, .int .i64 (0))] rfl (by decide) (by decide) (by decide) ha (fun o ho hg => y_of (wanted_none hg) (fun wx hS => e_move (.inl ho) (ha.ev (i := 35) (v := .bool true) (by simp)))) (by simp) hSw ?_; intro a ha
  refine line_still nearB_eqR 11 11 [] 37 (.int .i64 (0)) [(36, .bool true), (2, .pointer (some ⟨w.heap.size, 0, none⟩)), (5, .pointer (some ⟨w2.heap.size, 0, none⟩)), (6, .pointer (some ⟨w4.heap.size, 0, none⟩)), (7, .int .i64 (0))] rfl (by decide) (by decide) (by decide) ha (fun o ho hg => y_of (nearB_eqR.wanted hg rfl ha (d := 36) (by simp)) (fun wx hS => e_move (.inl ho) (ha.ev (i := 7) (v := .int .i64 (0)) (by simp)))) (by simp) hSw ?_; intro a ha
  refine line_still nearB_eqR 12 12 [] 38 (.bool true) [(36, .bool true), (2, .pointer (some ⟨w.heap.size, 0, none⟩)), (5, .pointer (some ⟨w2.heap.size, 0, none⟩)), (6, .pointer (some ⟨w4.heap.size, 0, none⟩)), (7, .int .i64 (0))] rfl (by decide) (by decide) (by decide) ha (fun o ho hg => y_of (nearB_eqR.wanted hg rfl ha (d := 36) (by simp)) (fun wx hS => e_leq ho (ha.ev (i := 37) (v := .int .i64 (0)) (by simp)) rfl)) (by simp) hSw ?_; intro a ha
  refine line_still nearB_eqR 13 13 [] 39 (.bool true) [(2, .pointer (some ⟨w.heap.size, 0, none⟩)), (5, .pointer (some ⟨w2.heap.size, 0, none⟩)), (6, .pointer (some ⟨w4.heap.size, 0, none⟩)), (7, .int .i64 (0))] rfl (by decide) (by decide) (by decide) ha (fun o ho hg => y_of (wanted_none hg) (fun wx hS => e_pick ho (ha.ev (i := 36) (v := .bool true) (by simp)) (ha.ev (i := 38) (v := .bool true) (by simp)) rfl)) (by simp) hSw ?_; intro a ha
  refine line_still nearB_eqR 14 14 [] 40 (.bool true) [(2, .pointer (some ⟨w.heap.size, 0, none⟩)), (5, .pointer (some ⟨w2.heap.size, 0, none⟩)), (6, .pointer (some ⟨w4.heap.size, 0, none⟩)), (7, .int .i64 (0))] rfl (by decide) (by decide) (by decide) ha (fun o ho hg => y_of (wanted_none hg) (fun wx hS => e_move (.inl ho) (ha.ev (i := 39) (v := .bool true) (by simp)))) (by simp) hSw ?_; intro a ha
  refine line_still nearB_eqR 15 15 [] 41 (.int .i64 (0)) [(40, .bool true), (2, .pointer (some ⟨w.heap.size, 0, none⟩)), (5, .pointer (some ⟨w2.heap.size, 0, none⟩)), (6, .pointer (some ⟨w4.heap.size, 0, none⟩))] rfl (by decide) (by decide) (by decide) ha (fun o ho hg => y_of (nearB_eqR.wanted hg rfl ha (d := 40) (by simp)) (fun wx hS => e_move (.inl ho) (ha.ev (i := 7) (v := .int .i64 (0)) (by simp)))) (by simp) hSw ?_; intro a ha
  refine line_still nearB_eqR 16 16 [] 42 (.bool false) [(40, .bool true), (2, .pointer (some ⟨w.heap.size, 0, none⟩)), (5, .pointer (some ⟨w2.heap.size, 0, none⟩)), (6, .pointer (some ⟨w4.heap.size, 0, none⟩))] rfl (by decide) (by decide) (by decide) ha (fun o ho hg => y_of (nearB_eqR.wanted hg rfl ha (d := 40) (by simp)) (fun wx hS => e_lss ho (ha.ev (i := 41) (v := .int .i64 (0)) (by simp)) rfl)) (by simp) hSw ?_; intro a ha
  refine line_still nearB_eqR 17 17 [] 43 (.bool false) [(40, .bool true), (2, .pointer (some ⟨w.heap.size, 0, none⟩)), (5, .pointer (some ⟨w2.heap.size, 0, none⟩)), (6, .pointer (some ⟨w4.heap.size, 0, none⟩))] rfl (by decide) (by decide) (by decide) ha (fun o ho hg => y_of (nearB_eqR.wanted hg rfl ha (d := 40) (by simp)) (fun wx hS => e_move (.inl ho) (ha.ev (i := 42) (v := .bool false) (by simp)))) (by simp) hSw ?_; intro a ha
  refine line_still nearB_eqR 18 18 [] 44 (.pointer (some ⟨w2.heap.size, 1, none⟩)) [(43, .bool false), (40, .bool true), (2, .pointer (some ⟨w.heap.size, 0, none⟩)), (5, .pointer (some ⟨w2.heap.size, 0, none⟩)), (6, .pointer (some ⟨w4.heap.size, 0, none⟩))] rfl (by decide) (by decide) (by decide) ha (fun o ho hg => y_of (nearB_eqR.wanted hg rfl ha (d := 43) (by simp)) (fun wx hS => e_field 1 (by simp) ho (ha.ev (i := 5) (v := .pointer (some ⟨w2.heap.size, 0, none⟩)) (by simp)))) (by simp) hSw ?_; intro a ha
  refine line_still nearB_eqR 19 19 [] 45 ((.slice A2 n2 c2)) [(43, .bool false), (40, .bool true), (2, .pointer (some ⟨w.heap.size, 0, none⟩)), (5, .pointer (some ⟨w2.heap.size, 0, none⟩)), (6, .pointer (some ⟨w4.heap.size, 0, none⟩))] rfl (by decide) (by decide) (by decide) ha (fun o ho hg => y_of (nearB_eqR.wanted hg rfl ha (d := 43) (by simp)) (fun wx hS => e_cell (by simp) ho (ha.ev (i := 44) (v := .pointer (some ⟨w2.heap.size, 1, none⟩)) (by simp)) (hS.at_ (g := w2.heap.size) (x0 := (.bool (ngB x1))) (x1 := (.slice A2 n2 c2)) (x2 := (.int .i64 (S : Int))) (by simp)).c1)) (by simp) hSw ?_; intro a ha
  refine line_call nearB_eqR 20 20 [] 46 (args := #[(.slice A2 n2 c2)]) [(43, .bool false), (40, .bool true), (2, .pointer (some ⟨w.heap.size, 0, none⟩)), (5, .pointer (some ⟨w2.heap.size, 0, none⟩)), (6, .pointer (some ⟨w4.heap.size, 0, none⟩))] rfl (by decide) (by decide) (by decide) ha (fun o ho hg => ⟨(nearB_eqR.wanted hg rfl ha (d := 43) (by simp)), e_call (by kernel_rfl) ho rfl (by have q0 := ha.ev (i := 45) (v := (.slice A2 n2 c2)) (by simp); simp only [List.map_toArray, List.map_cons, List.map_nil, ev_const, q0])⟩) (by simp) ?_
  refine (even_is (St.got E (A := A2) (n := n2) (c := c2) (a := (x1).natAbs) (by simp)) FE.out).mono ?_; rintro e w8 ⟨rfl, rfl⟩
  skip
  have hSw := St.sb E; refine ⟨_, rfl, hSw, ?_⟩; intro a ha
  refine line_still nearB_eqR 21 21 [] 47 (.bool true) [(40, .bool true), (2, .pointer (some ⟨w.heap.size, 0, none⟩)), (5, .pointer (some ⟨w2.heap.size, 0, none⟩)), (6, .pointer (some ⟨w4.heap.size, 0, none⟩))] rfl (by decide) (by decide) (by decide) ha (fun o ho hg => y_of (nearB_eqR.wanted hg rfl ha (d := 40) (by simp)) (fun wx hS => e_pick ho (ha.ev (i := 43) (v := .bool false) (by simp)) rfl (ha.ev (i := 46) (v := .bool true) (by simp)))) (by simp) hSw ?_; intro a ha
  refine line_still nearB_eqR 22 22 [] 48 (.bool true) [(2, .pointer (some ⟨w.heap.size, 0, none⟩)), (5, .pointer (some ⟨w2.heap.size, 0, none⟩)), (6, .pointer (some ⟨w4.heap.size, 0, none⟩))] rfl (by decide) (by decide) (by decide) ha (fun o ho hg => y_of (wanted_none hg) (fun wx hS => e_pick ho (ha.ev (i := 40) (v := .bool true) (by simp)) (ha.ev (i := 47) (v := .bool true) (by simp)) rfl)) (by simp) hSw ?_; intro a ha
  refine line_still nearB_eqR 23 23 [] 49 (.bool true) [(2, .pointer (some ⟨w.heap.size, 0, none⟩)), (5, .pointer (some ⟨w2.heap.size, 0, none⟩)), (6, .pointer (some ⟨w4.heap.size, 0, none⟩))] rfl (by decide) (by decide) (by decide) ha (fun o ho hg => y_of (wanted_none hg) (fun wx hS => e_move (.inl ho) (ha.ev (i := 48) (v := .bool true) (by simp)))) (by simp) hSw ?_; intro a ha
  refine line_still nearB_eqR 24 24 [] 50 (.agg #[(.bool (ngB x1)), (.slice A2 n2 c2), (.int .i64 (S : Int))]) [(49, .bool true), (2, .pointer (some ⟨w.heap.size, 0, none⟩)), (5, .pointer (some ⟨w2.heap.size, 0, none⟩)), (6, .pointer (some ⟨w4.heap.size, 0, none⟩))] rfl (by decide) (by decide) (by decide) ha (fun o ho hg => y_of (nearB_eqR.wanted hg rfl ha (d := 49) (by simp)) (fun wx hS => e_load ho (ha.ev (i := 5) (v := .pointer (some ⟨w2.heap.size, 0, none⟩)) (by simp)) (hS.at_ (g := w2.heap.size) (x0 := (.bool (ngB x1))) (x1 := (.slice A2 n2 c2)) (x2 := (.int .i64 (S : Int))) (by simp)))) (by simp) hSw ?_; intro a ha
  refine line_still nearB_eqR 25 25 [] 51 (.pointer (some ⟨w2.heap.size, 2, none⟩)) [(50, .agg #[(.bool (ngB x1)), (.slice A2 n2 c2), (.int .i64 (S : Int))]), (49, .bool true), (2, .pointer (some ⟨w.heap.size, 0, none⟩)), (5, .pointer (some ⟨w2.heap.size, 0, none⟩)), (6, .pointer (some ⟨w4.heap.size, 0, none⟩))] rfl (by decide) (by decide) (by decide) ha (fun o ho hg => y_of (nearB_eqR.wanted hg rfl ha (d := 49) (by simp)) (fun wx hS => e_field 2 (by simp) ho (ha.ev (i := 5) (v := .pointer (some ⟨w2.heap.size, 0, none⟩)) (by simp)))) (by simp) hSw ?_; intro a ha
  refine line_still nearB_eqR 26 26 [] 52 ((.int .i64 (S : Int))) [(50, .agg #[(.bool (ngB x1)), (.slice A2 n2 c2), (.int .i64 (S : Int))]), (49, .bool true), (2, .pointer (some ⟨w.heap.size, 0, none⟩)), (5, .pointer (some ⟨w2.heap.size, 0, none⟩)), (6, .pointer (some ⟨w4.heap.size, 0, none⟩))] rfl (by decide) (by decide) (by decide) ha (fun o ho hg => y_of (nearB_eqR.wanted hg rfl ha (d := 49) (by simp)) (fun wx hS => e_cell (by simp) ho (ha.ev (i := 51) (v := .pointer (some ⟨w2.heap.size, 2, none⟩)) (by simp)) (hS.at_ (g := w2.heap.size) (x0 := (.bool (ngB x1))) (x1 := (.slice A2 n2 c2)) (x2 := (.int .i64 (S : Int))) (by simp)).c2)) (by simp) hSw ?_; intro a ha
  refine line_ahead nearB_eqR 27 27 [] 28 54 (.agg #[(.bool (ngB x1)), (.slice A2 n2 c2), (.int .i64 (S : Int))]) [(52, (.int .i64 (S : Int))), (50, .agg #[(.bool (ngB x1)), (.slice A2 n2 c2), (.int .i64 (S : Int))]), (49, .bool true), (2, .pointer (some ⟨w.heap.size, 0, none⟩)), (5, .pointer (some ⟨w2.heap.size, 0, none⟩)), (6, .pointer (some ⟨w4.heap.size, 0, none⟩))] rfl (by decide) (by decide) (by decide) ha (fun o ho hg => y_of (nearB_eqR.wanted hg rfl ha (d := 49) (by simp)) (fun wx hS => e_load ho (ha.ev (i := 5) (v := .pointer (some ⟨w2.heap.size, 0, none⟩)) (by simp)) (hS.at_ (g := w2.heap.size) (x0 := (.bool (ngB x1))) (x1 := (.slice A2 n2 c2)) (x2 := (.int .i64 (S : Int))) (by simp)))) (by simp) hSw ?_; intro a ha
  refine line_call nearB_eqR 28 27 [28] 53 (args := #[.agg #[(.bool (ngB x1)), (.slice A2 n2 c2), (.int .i64 (S : Int))], (.int .i64 (S : Int))]) [(54, .agg #[(.bool (ngB x1)), (.slice A2 n2 c2), (.int .i64 (S : Int))]), (49, .bool true), (2, .pointer (some ⟨w.heap.size, 0, none⟩)), (5, .pointer (some ⟨w2.heap.size, 0, none⟩)), (6, .pointer (some ⟨w4.heap.size, 0, none⟩))] rfl (by decide) (by decide) (by decide) ha (fun o ho hg => ⟨(nearB_eqR.wanted hg rfl ha (d := 49) (by simp)), e_call (by kernel_rfl) ho rfl (by have q0 := ha.ev (i := 50) (v := .agg #[(.bool (ngB x1)), (.slice A2 n2 c2), (.int .i64 (S : Int))]) (by simp); have q1 := ha.ev (i := 52) (v := (.int .i64 (S : Int))) (by simp); simp only [List.map_toArray, List.map_cons, List.map_nil, ev_const, q0, q1])⟩) (by simp) ?_
  refine (quant_is (i := x1) (s := S) (S := S) (St.got E (A := A2) (n := n2) (c := c2) (a := (x1).natAbs) (by simp)) (by omega) (by omega) HV.out (by omega) HX4.out).mono ?_; rintro e w8 ⟨A8, n8, c8, rfl, h, hb⟩
  have b8 : n8 ≤ 149 := len_le h HL4.out
  replace E := Lib.hid (St.push E.out hb h)
  clear h hb
  have hSw := St.sb E; refine ⟨_, rfl, hSw, ?_⟩; intro a ha
  refine line_skip [] (by intro i; simp <;> omega) ?_
  refine line_call nearB_eqR 29 29 [] 55 (args := #[.agg #[.bool (ngB x4), .slice A8 n8 c8, .int .i64 (S : Int)], .agg #[(.bool (ngB x1)), (.slice A2 n2 c2), (.int .i64 (S : Int))]]) [(49, .bool true), (2, .pointer (some ⟨w.heap.size, 0, none⟩)), (5, .pointer (some ⟨w2.heap.size, 0, none⟩)), (6, .pointer (some ⟨w4.heap.size, 0, none⟩))] rfl (by decide) (by decide) (by decide) ha (fun o ho hg => ⟨(nearB_eqR.wanted hg rfl ha (d := 49) (by simp)), e_call (by kernel_rfl) ho rfl (by have q0 := ha.ev (i := 53) (v := .agg #[.bool (ngB x4), .slice A8 n8 c8, .int .i64 (S : Int)]) (by simp); have q1 := ha.ev (i := 54) (v := .agg #[(.bool (ngB x1)), (.slice A2 n2 c2), (.int .i64 (S : Int))]) (by simp); simp only [List.map_toArray, List.map_cons, List.map_nil, ev_const, q0, q1])⟩) (by simp) ?_
  refine (alike_is5 (i := x4) (j := x1) (s := S) (t := S) (St.got E (A := A8) (n := n8) (c := c8) (a := (x4).natAbs) (by simp)) (St.got E (A := A2) (n := n2) (c := c2) (a := (x1).natAbs) (by simp)) F1.out).mono ?_; rintro e w9 ⟨rfl, hb⟩
  replace E := Lib.hid (St.step E.out hb)
  clear hb
  replace E : Hid (St w w9 [(A4, n4, c4, (x3).natAbs), (A3, n3, c3, (x2).natAbs), (A2, n2, c2, (x1).natAbs), (Aa, na, ca, (i).natAbs)] [(w4.heap.size, (.bool (ngB x3)), (.slice A4 n4 c4), (.int .i64 (s2 : Int))), (w2.heap.size, (.bool (ngB x1)), (.slice A2 n2 c2), (.int .i64 (S : Int))), (w.heap.size, (.bool (ngB i)), (.slice Aa na ca), (.int .i64 (s : Int)))]) := Lib.hid ((E.out).sub (by simp) (by simp))
  have hSw := St.sb E; refine ⟨_, rfl, hSw, ?_⟩; intro a ha
  refine line_still nearB_eqR 30 30 [] 56 (.bool true) [(2, .pointer (some ⟨w.heap.size, 0, none⟩)), (5, .pointer (some ⟨w2.heap.size, 0, none⟩)), (6, .pointer (some ⟨w4.heap.size, 0, none⟩))] rfl (by decide) (by decide) (by decide) ha (fun o ho hg => y_of (wanted_none hg) (fun wx hS => e_pick ho (ha.ev (i := 49) (v := .bool true) (by simp)) (ha.ev (i := 55) (v := .bool true) (by simp)) rfl)) (by simp) hSw ?_; intro a ha
  refine line_still nearB_eqR 31 31 [] 57 (.bool true) [(2, .pointer (some ⟨w.heap.size, 0, none⟩)), (5, .pointer (some ⟨w2.heap.size, 0, none⟩)), (6, .pointer (some ⟨w4.heap.size, 0, none⟩))] rfl (by decide) (by decide) (by decide) ha (fun o ho hg => y_of (wanted_none hg) (fun wx hS => e_move (.inl ho) (ha.ev (i := 56) (v := .bool true) (by simp)))) (by simp) hSw ?_; intro a ha
  refine line_still nearB_eqR 32 32 [] 58 (.agg #[(.bool (ngB i)), (.slice Aa na ca), (.int .i64 (s : Int))]) [(57, .bool true), (5, .pointer (some ⟨w2.heap.size, 0, none⟩)), (6, .pointer (some ⟨w4.heap.size, 0, none⟩))] rfl (by decide) (by decide) (by decide) ha (fun o ho hg => y_of (nearB_eqR.wanted hg rfl ha (d := 57) (by simp)) (fun wx hS => e_load ho (ha.ev (i := 2) (v := .pointer (some ⟨w.heap.size, 0, none⟩)) (by simp)) (hS.at_ (g := w.heap.size) (x0 := (.bool (ngB i))) (x1 := (.slice Aa na ca)) (x2 := (.int .i64 (s : Int))) (by simp)))) (by simp) hSw ?_; intro a ha
  refine line_still nearB_eqR 33 33 [] 59 (.pointer (some ⟨w2.heap.size, 2, none⟩)) [(58, .agg #[(.bool (ngB i)), (.slice Aa na ca), (.int .i64 (s : Int))]), (57, .bool true), (6, .pointer (some ⟨w4.heap.size, 0, none⟩))] rfl (by decide) (by decide) (by decide) ha (fun o ho hg => y_of (nearB_eqR.wanted hg rfl ha (d := 57) (by simp)) (fun wx hS => e_field 2 (by simp) ho (ha.ev (i := 5) (v := .pointer (some ⟨w2.heap.size, 0, none⟩)) (by simp)))) (by simp) hSw ?_; intro a ha
  refine line_still nearB_eqR 34 34 [] 60 ((.int .i64 (S : Int))) [(58, .agg #[(.bool (ngB i)), (.slice Aa na ca), (.int .i64 (s : Int))]), (57, .bool true), (6, .pointer (some ⟨w4.heap.size, 0, none⟩))] rfl (by decide) (by decide) (by decide) ha (fun o ho hg => y_of (nearB_eqR.wanted hg rfl ha (d := 57) (by simp)) (fun wx hS => e_cell (by simp) ho (ha.ev (i := 59) (v := .pointer (some ⟨w2.heap.size, 2, none⟩)) (by simp)) (hS.at_ (g := w2.heap.size) (x0 := (.bool (ngB x1))) (x1 := (.slice A2 n2 c2)) (x2 := (.int .i64 (S : Int))) (by simp)).c2)) (by simp) hSw ?_; intro a ha
  refine line_ahead nearB_eqR 35 35 [] 36 62 (.agg #[(.bool (ngB x3)), (.slice A4 n4 c4), (.int .i64 (s2 : Int))]) [(60, (.int .i64 (S : Int))), (58, .agg #[(.bool (ngB i)), (.slice Aa na ca), (.int .i64 (s : Int))]), (57, .bool true)] rfl (by decide) (by decide) (by decide) ha (fun o ho hg => y_of (nearB_eqR.wanted hg rfl ha (d := 57) (by simp)) (fun wx hS => e_load ho (ha.ev (i := 6) (v := .pointer (some ⟨w4.heap.size, 0, none⟩)) (by simp)) (hS.at_ (g := w4.heap.size) (x0 := (.bool (ngB x3))) (x1 := (.slice A4 n4 c4)) (x2 := (.int .i64 (s2 : Int))) (by simp)))) (by simp) hSw ?_; intro a ha
  refine line_call nearB_eqR 36 35 [36] 61 (args := #[.agg #[(.bool (ngB i)), (.slice Aa na ca), (.int .i64 (s : Int))], (.int .i64 (S : Int))]) [(62, .agg #[(.bool (ngB x3)), (.slice A4 n4 c4), (.int .i64 (s2 : Int))]), (57, .bool true)] rfl (by decide) (by decide) (by decide) ha (fun o ho hg => ⟨(nearB_eqR.wanted hg rfl ha (d := 57) (by simp)), e_call (by kernel_rfl) ho rfl (by have q0 := ha.ev (i := 58) (v := .agg #[(.bool (ngB i)), (.slice Aa na ca), (.int .i64 (s : Int))]) (by simp); have q1 := ha.ev (i := 60) (v := (.int .i64 (S : Int))) (by simp); simp only [List.map_toArray, List.map_cons, List.map_nil, ev_const, q0, q1])⟩) (by simp) ?_
  refine (exact_is (i := i) (s := s) (S := S) (St.got E (A := Aa) (n := na) (c := ca) (a := (i).natAbs) (by simp)) (by omega) (by omega) HV.out (by omega) HBE.out).mono ?_; rintro e w10 ⟨rfl, hb⟩
  replace E := Lib.hid (St.step E.out hb)
  clear hb
  have hSw := St.sb E; refine ⟨_, rfl, hSw, ?_⟩; intro a ha
  refine line_skip [] (by intro i; simp <;> omega) ?_
  refine line_call nearB_eqR 37 37 [] 63 (args := #[.agg #[(.bool (ngB x3)), (.slice A4 n4 c4), (.int .i64 (s2 : Int))]]) [(61, .bool be), (57, .bool true)] rfl (by decide) (by decide) (by decide) ha (fun o ho hg => ⟨(nearB_eqR.wanted hg rfl ha (d := 57) (by simp)), e_call (by kernel_rfl) ho rfl (by have q0 := ha.ev (i := 62) (v := .agg #[(.bool (ngB x3)), (.slice A4 n4 c4), (.int .i64 (s2 : Int))]) (by simp); simp only [List.map_toArray, List.map_cons, List.map_nil, ev_const, q0])⟩) (by simp) ?_
  refine (sign_is (i := x3) (s := s2) (St.got E (A := A4) (n := n4) (c := c4) (a := (x3).natAbs) (by simp)) HSG.out).mono ?_; rintro e w11 ⟨rfl, hb⟩
  replace E := Lib.hid (St.step E.out hb)
  clear hb
  have hSw := St.sb E; refine ⟨_, rfl, hSw, ?_⟩; intro a ha
  refine line_still nearB_eqR 38 38 [] 64 (.bool be) [(61, .bool be), (57, .bool true)] rfl (by decide) (by decide) (by decide) ha (fun o ho hg => y_of (nearB_eqR.wanted hg rfl ha (d := 57) (by simp)) (fun wx hS => (e_eql ho (ha.ev (i := 63) (v := .int .i64 sg) (by simp)) rfl).trans (by rw [D1.out]))) (by simp) hSw ?_; intro a ha
  refine line_still nearB_eqR 39 39 [] 65 (.bool true) [(57, .bool true)] rfl (by decide) (by decide) (by decide) ha (fun o ho hg => y_of (nearB_eqR.wanted hg rfl ha (d := 57) (by simp)) (fun wx hS => (e_beq ho (ha.ev (i := 61) (v := .bool be) (by simp)) (ha.ev (i := 64) (v := .bool be) (by simp))).trans (by rw [D2.out]))) (by simp) hSw ?_; intro a ha
  refine line_still nearB_eqR 40 40 [] 66 (.bool true) [] rfl (by decide) (by decide) (by decide) ha (fun o ho hg => y_of (wanted_none hg) (fun wx hS => e_pick ho (ha.ev (i := 57) (v := .bool true) (by simp)) (ha.ev (i := 65) (v := .bool true) (by simp)) rfl)) (by simp) hSw ?_; intro a ha
  refine line_still nearB_eqR 41 41 [] 67 (.bool true) [] rfl (by decide) (by decide) (by decide) ha (fun o ho hg => y_of (wanted_none hg) (fun wx hS => e_move (.inl ho) (ha.ev (i := 66) (v := .bool true) (by simp)))) (by simp) hSw ?_; intro a ha
  refine line_call nearB_eqR 42 42 [] 68 (args := #[]) [(67, .bool true)] rfl (by decide) (by decide) (by decide) ha (fun o ho hg => ⟨(nearB_eqR.wanted hg rfl ha (d := 67) (by simp)), e_call (by kernel_rfl) ho rfl (by simp only [List.map_toArray, List.map_cons, List.map_nil, ev_const])⟩) (by simp) ?_
  refine (awake6 _).mono ?_; rintro e w12 ⟨rfl, hb⟩
  replace E := Lib.hid (St.step E.out hb)
  clear hb
  have hSw := St.sb E; refine ⟨_, rfl, hSw, ?_⟩; intro a ha
  refine line_still nearB_eqR 43 43 [] 69 (.bool true) [] rfl (by decide) (by decide) (by decide) ha (fun o ho hg => y_of (wanted_none hg) (fun wx hS => e_pick ho (ha.ev (i := 67) (v := .bool true) (by simp)) (ha.ev (i := 68) (v := .bool true) (by simp)) rfl)) (by simp) hSw ?_; intro a ha
  refine line_still nearB_eqR 44 44 [] 4 (.bool true) [] rfl (by decide) (by decide) (by decide) ha (fun o ho hg => y_of (wanted_none hg) (fun wx hS => e_move (.inr ho) (ha.ev (i := 69) (v := .bool true) (by simp)))) (by simp) hSw ?_; intro a ha
  refine line_end nearB_eqR rfl ?_
  simp only [Exit.then]
  refine hK _ _ ?_
  go_wp2
  exact bodyPost_ret (v := .bool true) (by have := ha.2.2 (4, .bool true) (by simp); simp [results, Try.results4, go_sem, Array.getD_eq_getD_getElem?, this]) ha.2.1 ⟨rfl, E.out.bel⟩

theorem near6_any (b1 : Bool) (A1 : Option Addr) (n1 ca : Nat) (xs1 : List Nat) (k1 : Int) (w : World) (h1 : Lim w w.heap.size A1 n1 ca xs1) (x : Int) (h0 : 0 ≤ x) (h255 : x ≤ 255) : Calls Try.prog 4 #[.agg #[.bool b1, .slice A1 n1 ca, .int .i64 k1], .int .u8 x] w (RetVal w (.bool true)) := by
  cases l1 : longB b1 n1 xs1 k1 with
  | true => exact near_long b1 A1 n1 ca xs1 k1 w h1 x h0 h255 l1
  | false =>
    obtain ⟨i, s, rfl, rfl, rfl, m1, t1⟩ := of_long l1 h1
    obtain ⟨c1, c2⟩ := quant_half i s (x % 40).toNat
    have c3 := cmpZ_bounds (up (((subZ i s (quantZ i s (x % 40).toNat) (x % 40).toNat).natAbs : Nat) : Int) (max s (x % 40).toNat) (max (max s (x % 40).toNat) ((x % 40).toNat + 1))) (up 5 ((x % 40).toNat + 1) (max (max s (x % 40).toNat) ((x % 40).toNat + 1)))
    by_cases c4 : cmpD (((subZ i s (quantZ i s (x % 40).toNat) (x % 40).toNat).natAbs : Nat) : Int) (max s (x % 40).toNat) 5 ((x % 40).toNat + 1) = 0
    · exact near_eq A1 n1 ca s i w h1 m1 t1 x h0 h255 c4 (c2 c4)
    · exact near_lt A1 n1 ca s i w h1 m1 t1 x h0 h255 (by unfold cmpD at *; omega)

theorem near6_law (b1 : Bool) (A1 : Option Addr) (n1 ca : Nat) (xs1 : List Nat) (k1 : Int) (x : Int) (w : World) (h1 : Lim w w.heap.size A1 n1 ca xs1) (h0 : 0 ≤ x) (h255 : x ≤ 255) : Calls Try.prog 4 #[.agg #[.bool b1, .slice A1 n1 ca, .int .i64 k1], .int .u8 x] w (RetVal w (.bool true)) := near6_any b1 A1 n1 ca xs1 k1 w h1 x h0 h255

end Go.Proofs.Ytcnjbmjgambgeaa
