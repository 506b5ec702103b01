/-
  DateOrder answers true.
-/
import Derived.Test.YtnndamhilbcdfaaDoorDatU
import Derived.Sort.Walk0
set_option linter.unusedVariables false
set_option linter.unusedSimpArgs false
namespace Go.Proofs.YtnndamhilbcdfaaDoor
open Go.RowKit

theorem less_dg {i j : Nat} (hi : i < 10) (hj : j < 10) (u v : List UInt8) : Op.bytesLess (dg8 i :: u) (dg8 j :: v) = (decide (i < j) || (decide (i = j) && Op.bytesLess u v)) := by
  have h1 : decide (dg8 i < dg8 j) = decide (i < j) := (by decide : ∀ a b : Fin 10, decide (dg8 a.val < dg8 b.val) = decide (a.val < b.val)) ⟨i, hi⟩ ⟨j, hj⟩
  have h2 : (dg8 i == dg8 j) = decide (i = j) := (by decide : ∀ a b : Fin 10, (dg8 a.val == dg8 b.val) = decide (a.val = b.val)) ⟨i, hi⟩ ⟨j, hj⟩
  rw [Op.bytesLess, h1, h2]
theorem less_same (c : UInt8) (u v : List UInt8) : Op.bytesLess (c :: u) (c :: v) = Op.bytesLess u v := by
  rw [Op.bytesLess, beq_self_eq_true]
  have : decide (c < c) = false := decide_eq_false (UInt8.lt_irrefl c)
  rw [this]; rfl
theorem less_self : ∀ l : List UInt8, Op.bytesLess l l = false
  | [] => rfl
  | c :: l => by rw [less_same]; exact less_self l
theorem less_two {a b : Nat} (ha : a < 100) (hb : b < 100) (u v : List UInt8) : Op.bytesLess (two8 a ++ u) (two8 b ++ v) = (decide (a < b) || (decide (a = b) && Op.bytesLess u v)) := by
  unfold two8
  simp only [List.cons_append, List.nil_append]
  rw [less_dg (by omega) (by omega), less_dg (by omega) (by omega)]
  rw [Bool.eq_iff_iff]
  by_cases hp : Op.bytesLess u v = true
  · simp [hp]; omega
  · rw [Bool.not_eq_true] at hp; simp [hp]; omega
theorem four_two {a : Nat} (ha : a < 10000) : four8 a = two8 (a / 100) ++ two8 (a % 100) := by
  unfold four8 two8
  rw [show a / 100 / 10 % 10 = a / 1000 % 10 by omega, show a % 100 / 10 % 10 = a / 10 % 10 by omega, show a % 100 % 10 = a % 10 by omega]; rfl
theorem less_four {a b : Nat} (ha : a < 10000) (hb : b < 10000) (u v : List UInt8) : Op.bytesLess (four8 a ++ u) (four8 b ++ v) = (decide (a < b) || (decide (a = b) && Op.bytesLess u v)) := by
  rw [four_two ha, four_two hb, List.append_assoc, List.append_assoc, less_two (by omega) (by omega), less_two (by omega) (by omega)]
  rw [Bool.eq_iff_iff]
  by_cases hp : Op.bytesLess u v = true
  · simp [hp]; omega
  · rw [Bool.not_eq_true] at hp; simp [hp]; omega
theorem less_txt {y m d y' m' d' : Nat} (hy : y < 10000) (hm : m < 100) (hd : d < 100) (hy' : y' < 10000) (hm' : m' < 100) (hd' : d' < 100) :
    Op.bytesLess (txt8 y m d).toList (txt8 y' m' d').toList = (decide (y < y') || (decide (y = y') && (decide (m < m') || (decide (m = m') && decide (d < d'))))) := by
  rw [Lib.toList_data, Lib.toList_data]
  show Op.bytesLess (four8 y ++ (45 :: (two8 m ++ (45 :: two8 d)))) (four8 y' ++ (45 :: (two8 m' ++ (45 :: two8 d')))) = _
  rw [less_four hy hy', less_same, less_two hm hm', less_same]
  have := less_two hd hd' [] []
  rw [List.append_nil, List.append_nil] at this
  rw [this]
  rw [show Op.bytesLess [] [] = false from rfl, Bool.and_false, Bool.or_false]
/-- Texts stand in the order of their days. -/
theorem less_day {y m d y' m' d' : Int} (h : ok8 y m d = true) (h' : ok8 y' m' d' = true) : Op.bytesLess (text8 y m d).toList (text8 y' m' d').toList = decide (cmp8 y m d y' m' d' = -1) := by
  obtain ⟨h1, h2, h3, h4, h5, h6⟩ := ok8_iff.1 h
  obtain ⟨g1, g2, g3, g4, g5, g6⟩ := ok8_iff.1 h'
  have hl := len8_bd y m
  have hl' := len8_bd y' m'
  rw [text8_ok h, text8_ok h', less_txt (by omega) (by omega) (by omega) (by omega) (by omega) (by omega)]
  rw [Bool.eq_iff_iff, decide_eq_true_iff, cmp8_neg]
  simp
  omega
section
variable {o : Oper} {ρ : Operand → Value} {x y : Operand} {w : World}
set_option maxRecDepth 100000 in
theorem e_slss8 {s t : ByteArray} {b : Bool} (hb : Op.bytesLess s.toList t.toList = b) (h : o.op = .binOp .lss 9 x y 9) (hx : ρ x = .string s) (hy : ρ y = .string t) : (execOp ρ o).run Tryd.prog w = .ok (.value (.bool b)) w := by
  subst hb
  unfold execOp; rw [h]
  simp only [hx, hy]
  go_simp
end

set_option maxHeartbeats 4000000 in
set_option maxRecDepth 100000 in
theorem order8_no0 (y m d y' m' d' : Int) (hr : ok8 y m d = false)  (w : World) (hT : Tabs w) : Calls Tryd.prog 5 #[.agg #[.int .i64 y, .int .i64 m, .int .i64 d], .agg #[.int .i64 y', .int .i64 m', .int .i64 d']] w (Ret8 w (.bool true)) := by
  have HT := Lib.hid hT
  clear hT
  have HR := Lib.hid hr
  clear hr
  go_enter Tryd.func5, Tryd.ntmps5
  go_wp2_with fail
  generalize hW : World.alloc (World.alloc w _) _ = W0
  have E0 : S8 w W0 [(w.heap.size + 1, .int .i64 y', .int .i64 m', .int .i64 d'), (w.heap.size, .int .i64 y, .int .i64 m, .int .i64 d)] := by rw [← hW]; exact (((S8.start w HT.out).lay rfl).lay (by simp))
  have E := Lib.hid E0
  clear hW E0
  obtain ⟨p0, p1, p2, pf0, pf1, pf2, plt⟩ := (S8.at_ (x0 := .int .i64 y') (x1 := .int .i64 m') (x2 := .int .i64 d') (g := w.heap.size + 1) E (by simp))
  obtain ⟨q0, q1, q2, qf0, qf1, qf2, qlt⟩ := (S8.at_ (x0 := .int .i64 y) (x1 := .int .i64 m) (x2 := .int .i64 d) (g := w.heap.size) E (by simp))
  go_wp2_with fail
  refine (right_is E.out.tab HR.out).mono ?_; rintro e w1 ⟨rfl, hb⟩; replace E := Lib.hid (S8.step E.out hb); clear hb
  clear p0 p1 p2 pf0 pf1 pf2 plt q0 q1 q2 qf0 qf1 qf2 qlt
  obtain ⟨p0, p1, p2, pf0, pf1, pf2, plt⟩ := (S8.at_ (x0 := .int .i64 y') (x1 := .int .i64 m') (x2 := .int .i64 d') (g := w.heap.size + 1) E (by simp))
  obtain ⟨q0, q1, q2, qf0, qf1, qf2, qlt⟩ := (S8.at_ (x0 := .int .i64 y) (x1 := .int .i64 m) (x2 := .int .i64 d) (g := w.heap.size) E (by simp))
  go_wp2_with fail
  refine (awake8 _ E.out.tab).mono ?_; rintro e w2 ⟨rfl, hb⟩; replace E := Lib.hid (S8.step E.out hb); clear hb
  clear p0 p1 p2 pf0 pf1 pf2 plt q0 q1 q2 qf0 qf1 qf2 qlt
  go_wp2_with fail
  go_ret
  exact ⟨rfl, E.out.bel⟩

set_option maxHeartbeats 4000000 in
set_option maxRecDepth 100000 in
theorem order8_no1 (y m d y' m' d' : Int) (hr : ok8 y m d = true) (hr' : ok8 y' m' d' = false)  (w : World) (hT : Tabs w) : Calls Tryd.prog 5 #[.agg #[.int .i64 y, .int .i64 m, .int .i64 d], .agg #[.int .i64 y', .int .i64 m', .int .i64 d']] w (Ret8 w (.bool true)) := by
  have HT := Lib.hid hT
  clear hT
  have HR := Lib.hid hr
  clear hr
  have HR' := Lib.hid hr'
  clear hr'
  go_enter Tryd.func5, Tryd.ntmps5
  go_wp2_with fail
  generalize hW : World.alloc (World.alloc w _) _ = W0
  have E0 : S8 w W0 [(w.heap.size + 1, .int .i64 y', .int .i64 m', .int .i64 d'), (w.heap.size, .int .i64 y, .int .i64 m, .int .i64 d)] := by rw [← hW]; exact (((S8.start w HT.out).lay rfl).lay (by simp))
  have E := Lib.hid E0
  clear hW E0
  obtain ⟨p0, p1, p2, pf0, pf1, pf2, plt⟩ := (S8.at_ (x0 := .int .i64 y') (x1 := .int .i64 m') (x2 := .int .i64 d') (g := w.heap.size + 1) E (by simp))
  obtain ⟨q0, q1, q2, qf0, qf1, qf2, qlt⟩ := (S8.at_ (x0 := .int .i64 y) (x1 := .int .i64 m) (x2 := .int .i64 d) (g := w.heap.size) E (by simp))
  go_wp2_with fail
  refine (right_is E.out.tab HR.out).mono ?_; rintro e w1 ⟨rfl, hb⟩; replace E := Lib.hid (S8.step E.out hb); clear hb
  clear p0 p1 p2 pf0 pf1 pf2 plt q0 q1 q2 qf0 qf1 qf2 qlt
  obtain ⟨p0, p1, p2, pf0, pf1, pf2, plt⟩ := (S8.at_ (x0 := .int .i64 y') (x1 := .int .i64 m') (x2 := .int .i64 d') (g := w.heap.size + 1) E (by simp))
  obtain ⟨q0, q1, q2, qf0, qf1, qf2, qlt⟩ := (S8.at_ (x0 := .int .i64 y) (x1 := .int .i64 m) (x2 := .int .i64 d) (g := w.heap.size) E (by simp))
  go_wp2_with fail
  refine (right_is E.out.tab HR'.out).mono ?_; rintro e w2 ⟨rfl, hb⟩; replace E := Lib.hid (S8.step E.out hb); clear hb
  clear p0 p1 p2 pf0 pf1 pf2 plt q0 q1 q2 qf0 qf1 qf2 qlt
  go_wp2_with fail
  refine (awake8 _ E.out.tab).mono ?_; rintro e w3 ⟨rfl, hb⟩; replace E := Lib.hid (S8.step E.out hb); clear hb
  go_wp2_with fail
  go_ret
  exact ⟨rfl, E.out.bel⟩

def or8ltT : List Row3 := [(some 18, none, .move (.tmp 5)), (some 19, none, .binOp .lss 3 (.tmp 18) (.const (.int .i64 0)) 3), (some 20, none, .load 23 (.tmp 2)), (some 21, none, .call { callee := .value (.func 23), args := #[.tmp 20], argTypes := #[23] }), (some 22, none, .load 23 (.tmp 3)), (some 23, none, .call { callee := .value (.func 23), args := #[.tmp 22], argTypes := #[23] }), (some 24, none, .binOp .lss 3 (.tmp 21) (.tmp 23) 3), (some 25, none, .binOp .eql 4 (.tmp 19) (.tmp 24) 4), (some 26, none, .move (.tmp 25)), (some 27, some (8, true), .move (.tmp 5)), (some 28, some (8, true), .binOp .eql 3 (.tmp 27) (.const (.int .i64 0)) 3), (some 29, some (8, true), .load 23 (.tmp 2)), (some 30, some (8, true), .load 23 (.tmp 3)), (some 31, some (8, true), .binOp .eql 23 (.tmp 29) (.tmp 30) 23), (some 32, some (8, true), .binOp .eql 4 (.tmp 28) (.tmp 31) 4), (some 33, none, .pick (.tmp 26) (.tmp 32) (.const (.bool false))), (some 34, none, .move (.tmp 33)), (some 35, some (16, true), .move (.tmp 5)), (some 36, some (16, true), .binOp .lss 3 (.tmp 35) (.const (.int .i64 0)) 3), (some 37, some (16, true), .load 23 (.tmp 2)), (some 38, some (16, true), .call { callee := .value (.func 25), args := #[.tmp 37], argTypes := #[23] }), (some 39, some (16, true), .load 23 (.tmp 3)), (some 40, some (16, true), .call { callee := .value (.func 25), args := #[.tmp 39], argTypes := #[23] }), (some 41, some (16, true), .binOp .lss 9 (.tmp 38) (.tmp 40) 9), (some 42, some (16, true), .binOp .eql 4 (.tmp 36) (.tmp 41) 4), (some 43, none, .pick (.tmp 34) (.tmp 42) (.const (.bool false))), (some 44, none, .move (.tmp 43)), (some 45, some (26, true), .move (.tmp 5)), (some 46, some (26, true), .load 23 (.tmp 3)), (some 47, some (26, true), .load 23 (.tmp 2)), (some 48, some (26, true), .call { callee := .value (.func 21), args := #[.tmp 46, .tmp 47], argTypes := #[23, 23] }), (some 49, some (26, true), .unOp .neg 3 (.tmp 48)), (some 50, some (26, true), .binOp .eql 3 (.tmp 45) (.tmp 49) 3), (some 51, none, .pick (.tmp 44) (.tmp 50) (.const (.bool false))), (some 52, none, .move (.tmp 51)), (some 53, some (34, true), .call { callee := .value (.func 8), args := #[], argTypes := #[] }), (some 54, none, .pick (.tmp 52) (.tmp 53) (.const (.bool false))), (some 4, none, .assign (.tmp 54))]
set_option maxRecDepth 100000 in
theorem or8ltRow : (opsAt Tryd.prog 5 4).toList.map row3 = or8ltT := by kernel_rfl
theorem or8ltSel : Region.noSelect (opsAt Tryd.prog 5 4) = true := by kernel_rfl
theorem or8ltDone : Region.ready .any (opsAt Tryd.prog 5 4) (upto (opsAt Tryd.prog 5 4).size (opsAt Tryd.prog 5 4).size []) = [] := by kernel_rfl
theorem or8ltstill0 : [(0, [], 0), (1, [], 1), (2, [], 2), (3, [], 4), (6, [], 6), (7, [], 7), (8, [], 8), (9, [], 9), (10, [], 10), (11, [], 11)].all (stillB (opsAt Tryd.prog 5 4)) = true := by kernel_rfl
theorem or8ltstill1 : [(12, [], 12), (13, [], 13), (14, [], 14), (15, [], 15), (16, [], 16), (17, [], 17), (18, [], 18), (19, [], 19), (20, [], 21), (23, [], 23)].all (stillB (opsAt Tryd.prog 5 4)) = true := by kernel_rfl
theorem or8ltstill2 : [(24, [], 24), (25, [], 25), (26, [], 26), (27, [], 27), (28, [], 28), (29, [], 29), (31, [], 31), (32, [], 32), (33, [], 33), (34, [], 34)].all (stillB (opsAt Tryd.prog 5 4)) = true := by kernel_rfl
theorem or8ltstill3 : [(36, [], 36), (37, [], 37)].all (stillB (opsAt Tryd.prog 5 4)) = true := by kernel_rfl
theorem or8ltsole0 : [(3, [4], 3), (5, [], 5), (20, [21], 20), (22, [], 22), (30, [], 30), (35, [], 35)].all (soleB (opsAt Tryd.prog 5 4)) = true := by kernel_rfl
theorem or8ltR : Reg (opsAt Tryd.prog 5 4) or8ltT [(0, [], 0), (1, [], 1), (2, [], 2), (3, [], 4), (6, [], 6), (7, [], 7), (8, [], 8), (9, [], 9), (10, [], 10), (11, [], 11), (12, [], 12), (13, [], 13), (14, [], 14), (15, [], 15), (16, [], 16), (17, [], 17), (18, [], 18), (19, [], 19), (20, [], 21), (23, [], 23), (24, [], 24), (25, [], 25), (26, [], 26), (27, [], 27), (28, [], 28), (29, [], 29), (31, [], 31), (32, [], 32), (33, [], 33), (34, [], 34), (36, [], 36), (37, [], 37)] [(3, [4], 3), (5, [], 5), (20, [21], 20), (22, [], 22), (30, [], 30), (35, [], 35)] := ⟨or8ltRow, or8ltSel, (all_parts or8ltstill0 (all_parts or8ltstill1 (all_parts or8ltstill2 (all_parts or8ltstill3 (fun k h => by cases h))))), (all_parts or8ltsole0 (fun k h => by cases h)), or8ltDone⟩

set_option maxHeartbeats 4000000 in
set_option maxRecDepth 100000 in
theorem order8_lt (y m d y' m' d' : Int) (hr : ok8 y m d = true) (hr' : ok8 y' m' d' = true) (hc : cmp8 y m d y' m' d' = -1)  (w : World) (hT : Tabs w) : Calls Tryd.prog 5 #[.agg #[.int .i64 y, .int .i64 m, .int .i64 d], .agg #[.int .i64 y', .int .i64 m', .int .i64 d']] w (Ret8 w (.bool true)) := by
  have HT := Lib.hid hT
  clear hT
  obtain ⟨na, hna⟩ : ∃ n, days8 y m d = n := ⟨_, rfl⟩
  obtain ⟨nb, hnb⟩ : ∃ n, days8 y' m' d' = n := ⟨_, rfl⟩
  obtain ⟨S, hS⟩ : ∃ S, text8 y m d = S := ⟨_, rfl⟩
  obtain ⟨S', hS'⟩ : ∃ S, text8 y' m' d' = S := ⟨_, rfl⟩
  have HLN : Hid (decide (na < nb) = true) := by show _ = _; rw [← hna, ← hnb, days8_ok hr, days8_ok hr']; exact decide_eq_true (num8_lt hr hr' hc)
  have HLS : Hid (Op.bytesLess S.toList S'.toList = true) := by show _ = _; rw [← hS, ← hS', less_day hr hr', hc]; rfl
  have HNE : Hid ((y == y' && (m == m' && d == d')) = false) := by
    show _ = _
    rw [Bool.eq_false_iff]; intro h; simp at h; obtain ⟨rfl, rfl, rfl⟩ := h; rw [cmp8_same] at hc; omega
  have HTU : Hid (cmp8 y' m' d' y m d = 1) := by show _ = _; rw [cmp8_turn, hc] <;> rfl
  have HR := Lib.hid hr
  have HR' := Lib.hid hr'
  have HC := Lib.hid hc
  have HB := Lib.hid hnb
  have HS' := Lib.hid hS'
  have HA := Lib.hid hna
  have HS := Lib.hid hS
  clear hr hna hS hr' hc hnb hS'
  go_enter Tryd.func5, Tryd.ntmps5
  go_wp2_with fail
  generalize hW : World.alloc (World.alloc w _) _ = W0
  have E0 : S8 w W0 [(w.heap.size + 1, .int .i64 y', .int .i64 m', .int .i64 d'), (w.heap.size, .int .i64 y, .int .i64 m, .int .i64 d)] := by rw [← hW]; exact (((S8.start w HT.out).lay rfl).lay (by simp))
  have E := Lib.hid E0
  clear hW E0
  obtain ⟨p0, p1, p2, pf0, pf1, pf2, plt⟩ := (S8.at_ (x0 := .int .i64 y') (x1 := .int .i64 m') (x2 := .int .i64 d') (g := w.heap.size + 1) E (by simp))
  obtain ⟨q0, q1, q2, qf0, qf1, qf2, qlt⟩ := (S8.at_ (x0 := .int .i64 y) (x1 := .int .i64 m) (x2 := .int .i64 d) (g := w.heap.size) E (by simp))
  go_wp2_with fail
  refine (right_is E.out.tab HR.out).mono ?_; rintro e w1 ⟨rfl, hb⟩; replace E := Lib.hid (S8.step E.out hb); clear hb
  clear p0 p1 p2 pf0 pf1 pf2 plt q0 q1 q2 qf0 qf1 qf2 qlt
  obtain ⟨p0, p1, p2, pf0, pf1, pf2, plt⟩ := (S8.at_ (x0 := .int .i64 y') (x1 := .int .i64 m') (x2 := .int .i64 d') (g := w.heap.size + 1) E (by simp))
  obtain ⟨q0, q1, q2, qf0, qf1, qf2, qlt⟩ := (S8.at_ (x0 := .int .i64 y) (x1 := .int .i64 m) (x2 := .int .i64 d) (g := w.heap.size) E (by simp))
  go_wp2_with fail
  refine (right_is E.out.tab HR'.out).mono ?_; rintro e w2 ⟨rfl, hb⟩; replace E := Lib.hid (S8.step E.out hb); clear hb
  clear p0 p1 p2 pf0 pf1 pf2 plt q0 q1 q2 qf0 qf1 qf2 qlt
  obtain ⟨p0, p1, p2, pf0, pf1, pf2, plt⟩ := (S8.at_ (x0 := .int .i64 y') (x1 := .int .i64 m') (x2 := .int .i64 d') (g := w.heap.size + 1) E (by simp))
  obtain ⟨q0, q1, q2, qf0, qf1, qf2, qlt⟩ := (S8.at_ (x0 := .int .i64 y) (x1 := .int .i64 m) (x2 := .int .i64 d) (g := w.heap.size) E (by simp))
  go_wp2_with fail
  refine (cmp_is E.out.tab HC.out).mono ?_; rintro e w3 ⟨rfl, hb⟩; replace E := Lib.hid (S8.step E.out hb); clear hb
  clear p0 p1 p2 pf0 pf1 pf2 plt q0 q1 q2 qf0 qf1 qf2 qlt
  go_wp2_with fail
  replace E := Lib.hid (S8.drew E.out)
  rename_i K hK
  refine line_start (ops := opsAt Tryd.prog 5 4) (S := SB8 [(w.heap.size + 1, .int .i64 y', .int .i64 m', .int .i64 d'), (w.heap.size, .int .i64 y, .int .i64 m, .int .i64 d)]) (by kernel_rfl) (by kernel_rfl) (S8.sb E) ?_
  have hSw := S8.sb E
  generalize hA : Act.mk _ _ = a
  have ha : Fr 55 a [(2, .pointer (some ⟨w.heap.size, 0, none⟩)), (3, .pointer (some ⟨w.heap.size + 1, 0, none⟩)), (5, .int .i64 (-1))] := by rw [← hA]; exact ⟨rfl, rfl, by intro q hq; simp at hq; rcases hq with rfl | rfl | rfl <;> rfl⟩
  clear hA
  refine line_still or8ltR 0 0 [] 18 (.int .i64 (-1)) [(2, .pointer (some ⟨w.heap.size, 0, none⟩)), (3, .pointer (some ⟨w.heap.size + 1, 0, none⟩)), (5, .int .i64 (-1))] rfl (by decide) (by decide) (by decide) ha (fun o ho hg => y_of (wanted_none hg) (fun wx hS => e_move (.inl ho) (ha.ev (i := 5) (v := .int .i64 (-1)) (by simp)))) (by simp) hSw ?_; intro a ha
  refine line_still or8ltR 1 1 [] 19 (.bool true) [(2, .pointer (some ⟨w.heap.size, 0, none⟩)), (3, .pointer (some ⟨w.heap.size + 1, 0, none⟩)), (5, .int .i64 (-1))] rfl (by decide) (by decide) (by decide) ha (fun o ho hg => y_of (wanted_none hg) (fun wx hS => e_lss8 ho (ha.ev (i := 18) (v := .int .i64 (-1)) (by simp)) rfl)) (by simp) hSw ?_; intro a ha
  refine line_still or8ltR 2 2 [] 20 (.agg #[.int .i64 y, .int .i64 m, .int .i64 d]) [(19, .bool true), (2, .pointer (some ⟨w.heap.size, 0, none⟩)), (3, .pointer (some ⟨w.heap.size + 1, 0, none⟩)), (5, .int .i64 (-1))] rfl (by decide) (by decide) (by decide) ha (fun o ho hg => y_of (wanted_none hg) (fun wx hS => e_load8 ho (ha.ev (i := 2) (v := .pointer (some ⟨w.heap.size, 0, none⟩)) (by simp)) (hS.at_ (g := w.heap.size) (x0 := .int .i64 y) (x1 := .int .i64 m) (x2 := .int .i64 d) (by simp)))) (by simp) hSw ?_; intro a ha
  refine line_ahead or8ltR 3 3 [] 4 22 (.agg #[.int .i64 y', .int .i64 m', .int .i64 d']) [(20, .agg #[.int .i64 y, .int .i64 m, .int .i64 d]), (19, .bool true), (2, .pointer (some ⟨w.heap.size, 0, none⟩)), (3, .pointer (some ⟨w.heap.size + 1, 0, none⟩)), (5, .int .i64 (-1))] rfl (by decide) (by decide) (by decide) ha (fun o ho hg => y_of (wanted_none hg) (fun wx hS => e_load8 ho (ha.ev (i := 3) (v := .pointer (some ⟨w.heap.size + 1, 0, none⟩)) (by simp)) (hS.at_ (g := w.heap.size + 1) (x0 := .int .i64 y') (x1 := .int .i64 m') (x2 := .int .i64 d') (by simp)))) (by simp) hSw ?_; intro a ha
  refine line_call or8ltR 4 3 [4] 21 (args := #[.agg #[.int .i64 y, .int .i64 m, .int .i64 d]]) [(22, .agg #[.int .i64 y', .int .i64 m', .int .i64 d']), (19, .bool true), (2, .pointer (some ⟨w.heap.size, 0, none⟩)), (3, .pointer (some ⟨w.heap.size + 1, 0, none⟩)), (5, .int .i64 (-1))] rfl (by decide) (by decide) (by decide) ha (fun o ho hg => ⟨(wanted_none hg), e_call8 (by kernel_rfl) ho rfl (by have q0 := ha.ev (i := 20) (v := .agg #[.int .i64 y, .int .i64 m, .int .i64 d]) (by simp); simp only [List.map_toArray, List.map_cons, List.map_nil, ev_const, q0])⟩) (by simp) ?_
  refine (days_is E.out.tab HA.out).mono ?_; rintro e w4 ⟨rfl, hb⟩
  replace E := Lib.hid (S8.step E.out hb)
  clear hb
  have hSw := S8.sb E; refine ⟨_, rfl, hSw, ?_⟩; intro a ha
  refine line_skip [] (by intro i; simp <;> omega) ?_
  refine line_call or8ltR 5 5 [] 23 (args := #[.agg #[.int .i64 y', .int .i64 m', .int .i64 d']]) [(21, .int .i64 na), (19, .bool true), (2, .pointer (some ⟨w.heap.size, 0, none⟩)), (3, .pointer (some ⟨w.heap.size + 1, 0, none⟩)), (5, .int .i64 (-1))] rfl (by decide) (by decide) (by decide) ha (fun o ho hg => ⟨(wanted_none hg), e_call8 (by kernel_rfl) ho rfl (by have q0 := ha.ev (i := 22) (v := .agg #[.int .i64 y', .int .i64 m', .int .i64 d']) (by simp); simp only [List.map_toArray, List.map_cons, List.map_nil, ev_const, q0])⟩) (by simp) ?_
  refine (days_is E.out.tab HB.out).mono ?_; rintro e w5 ⟨rfl, hb⟩
  replace E := Lib.hid (S8.step E.out hb)
  clear hb
  have hSw := S8.sb E; refine ⟨_, rfl, hSw, ?_⟩; intro a ha
  refine line_still or8ltR 6 6 [] 24 (.bool true) [(19, .bool true), (2, .pointer (some ⟨w.heap.size, 0, none⟩)), (3, .pointer (some ⟨w.heap.size + 1, 0, none⟩)), (5, .int .i64 (-1))] rfl (by decide) (by decide) (by decide) ha (fun o ho hg => y_of (wanted_none hg) (fun wx hS => (e_lss8 ho (ha.ev (i := 21) (v := .int .i64 na) (by simp)) (ha.ev (i := 23) (v := .int .i64 nb) (by simp))).trans (by rw [HLN.out]))) (by simp) hSw ?_; intro a ha
  refine line_still or8ltR 7 7 [] 25 (.bool true) [(2, .pointer (some ⟨w.heap.size, 0, none⟩)), (3, .pointer (some ⟨w.heap.size + 1, 0, none⟩)), (5, .int .i64 (-1))] rfl (by decide) (by decide) (by decide) ha (fun o ho hg => y_of (wanted_none hg) (fun wx hS => (e_beq8 ho (ha.ev (i := 19) (v := .bool true) (by simp)) (ha.ev (i := 24) (v := .bool true) (by simp))).trans (by rw [beq_self_eq_true]))) (by simp) hSw ?_; intro a ha
  refine line_still or8ltR 8 8 [] 26 (.bool true) [(2, .pointer (some ⟨w.heap.size, 0, none⟩)), (3, .pointer (some ⟨w.heap.size + 1, 0, none⟩)), (5, .int .i64 (-1))] rfl (by decide) (by decide) (by decide) ha (fun o ho hg => y_of (wanted_none hg) (fun wx hS => e_move (.inl ho) (ha.ev (i := 25) (v := .bool true) (by simp)))) (by simp) hSw ?_; intro a ha
  refine line_still or8ltR 9 9 [] 27 (.int .i64 (-1)) [(26, .bool true), (2, .pointer (some ⟨w.heap.size, 0, none⟩)), (3, .pointer (some ⟨w.heap.size + 1, 0, none⟩)), (5, .int .i64 (-1))] rfl (by decide) (by decide) (by decide) ha (fun o ho hg => y_of (or8ltR.wanted hg rfl ha (d := 26) (by simp)) (fun wx hS => e_move (.inl ho) (ha.ev (i := 5) (v := .int .i64 (-1)) (by simp)))) (by simp) hSw ?_; intro a ha
  refine line_still or8ltR 10 10 [] 28 (.bool false) [(26, .bool true), (2, .pointer (some ⟨w.heap.size, 0, none⟩)), (3, .pointer (some ⟨w.heap.size + 1, 0, none⟩)), (5, .int .i64 (-1))] rfl (by decide) (by decide) (by decide) ha (fun o ho hg => y_of (or8ltR.wanted hg rfl ha (d := 26) (by simp)) (fun wx hS => e_eql8 ho (ha.ev (i := 27) (v := .int .i64 (-1)) (by simp)) rfl)) (by simp) hSw ?_; intro a ha
  refine line_still or8ltR 11 11 [] 29 (.agg #[.int .i64 y, .int .i64 m, .int .i64 d]) [(28, .bool false), (26, .bool true), (2, .pointer (some ⟨w.heap.size, 0, none⟩)), (3, .pointer (some ⟨w.heap.size + 1, 0, none⟩)), (5, .int .i64 (-1))] rfl (by decide) (by decide) (by decide) ha (fun o ho hg => y_of (or8ltR.wanted hg rfl ha (d := 26) (by simp)) (fun wx hS => e_load8 ho (ha.ev (i := 2) (v := .pointer (some ⟨w.heap.size, 0, none⟩)) (by simp)) (hS.at_ (g := w.heap.size) (x0 := .int .i64 y) (x1 := .int .i64 m) (x2 := .int .i64 d) (by simp)))) (by simp) hSw ?_; intro a ha
  refine line_still or8ltR 12 12 [] 30 (.agg #[.int .i64 y', .int .i64 m', .int .i64 d']) [(29, .agg #[.int .i64 y, .int .i64 m, .int .i64 d]), (28, .bool false), (26, .bool true), (2, .pointer (some ⟨w.heap.size, 0, none⟩)), (3, .pointer (some ⟨w.heap.size + 1, 0, none⟩)), (5, .int .i64 (-1))] rfl (by decide) (by decide) (by decide) ha (fun o ho hg => y_of (or8ltR.wanted hg rfl ha (d := 26) (by simp)) (fun wx hS => e_load8 ho (ha.ev (i := 3) (v := .pointer (some ⟨w.heap.size + 1, 0, none⟩)) (by simp)) (hS.at_ (g := w.heap.size + 1) (x0 := .int .i64 y') (x1 := .int .i64 m') (x2 := .int .i64 d') (by simp)))) (by simp) hSw ?_; intro a ha
  refine line_still or8ltR 13 13 [] 31 (.bool false) [(28, .bool false), (26, .bool true), (2, .pointer (some ⟨w.heap.size, 0, none⟩)), (3, .pointer (some ⟨w.heap.size + 1, 0, none⟩)), (5, .int .i64 (-1))] rfl (by decide) (by decide) (by decide) ha (fun o ho hg => y_of (or8ltR.wanted hg rfl ha (d := 26) (by simp)) (fun wx hS => e_dif8 HNE.out ho (ha.ev (i := 29) (v := .agg #[.int .i64 y, .int .i64 m, .int .i64 d]) (by simp)) (ha.ev (i := 30) (v := .agg #[.int .i64 y', .int .i64 m', .int .i64 d']) (by simp)))) (by simp) hSw ?_; intro a ha
  refine line_still or8ltR 14 14 [] 32 (.bool true) [(26, .bool true), (2, .pointer (some ⟨w.heap.size, 0, none⟩)), (3, .pointer (some ⟨w.heap.size + 1, 0, none⟩)), (5, .int .i64 (-1))] rfl (by decide) (by decide) (by decide) ha (fun o ho hg => y_of (or8ltR.wanted hg rfl ha (d := 26) (by simp)) (fun wx hS => (e_beq8 ho (ha.ev (i := 28) (v := .bool false) (by simp)) (ha.ev (i := 31) (v := .bool false) (by simp))).trans (by rw [beq_self_eq_true]))) (by simp) hSw ?_; intro a ha
  refine line_still or8ltR 15 15 [] 33 (.bool true) [(2, .pointer (some ⟨w.heap.size, 0, none⟩)), (3, .pointer (some ⟨w.heap.size + 1, 0, none⟩)), (5, .int .i64 (-1))] rfl (by decide) (by decide) (by decide) ha (fun o ho hg => y_of (wanted_none hg) (fun wx hS => e_pick ho (ha.ev (i := 26) (v := .bool true) (by simp)) (ha.ev (i := 32) (v := .bool true) (by simp)) rfl)) (by simp) hSw ?_; intro a ha
  refine line_still or8ltR 16 16 [] 34 (.bool true) [(2, .pointer (some ⟨w.heap.size, 0, none⟩)), (3, .pointer (some ⟨w.heap.size + 1, 0, none⟩)), (5, .int .i64 (-1))] rfl (by decide) (by decide) (by decide) ha (fun o ho hg => y_of (wanted_none hg) (fun wx hS => e_move (.inl ho) (ha.ev (i := 33) (v := .bool true) (by simp)))) (by simp) hSw ?_; intro a ha
  refine line_still or8ltR 17 17 [] 35 (.int .i64 (-1)) [(34, .bool true), (2, .pointer (some ⟨w.heap.size, 0, none⟩)), (3, .pointer (some ⟨w.heap.size + 1, 0, none⟩)), (5, .int .i64 (-1))] rfl (by decide) (by decide) (by decide) ha (fun o ho hg => y_of (or8ltR.wanted hg rfl ha (d := 34) (by simp)) (fun wx hS => e_move (.inl ho) (ha.ev (i := 5) (v := .int .i64 (-1)) (by simp)))) (by simp) hSw ?_; intro a ha
  refine line_still or8ltR 18 18 [] 36 (.bool true) [(34, .bool true), (2, .pointer (some ⟨w.heap.size, 0, none⟩)), (3, .pointer (some ⟨w.heap.size + 1, 0, none⟩)), (5, .int .i64 (-1))] rfl (by decide) (by decide) (by decide) ha (fun o ho hg => y_of (or8ltR.wanted hg rfl ha (d := 34) (by simp)) (fun wx hS => e_lss8 ho (ha.ev (i := 35) (v := .int .i64 (-1)) (by simp)) rfl)) (by simp) hSw ?_; intro a ha
  refine line_still or8ltR 19 19 [] 37 (.agg #[.int .i64 y, .int .i64 m, .int .i64 d]) [(36, .bool true), (34, .bool true), (2, .pointer (some ⟨w.heap.size, 0, none⟩)), (3, .pointer (some ⟨w.heap.size + 1, 0, none⟩)), (5, .int .i64 (-1))] rfl (by decide) (by decide) (by decide) ha (fun o ho hg => y_of (or8ltR.wanted hg rfl ha (d := 34) (by simp)) (fun wx hS => e_load8 ho (ha.ev (i := 2) (v := .pointer (some ⟨w.heap.size, 0, none⟩)) (by simp)) (hS.at_ (g := w.heap.size) (x0 := .int .i64 y) (x1 := .int .i64 m) (x2 := .int .i64 d) (by simp)))) (by simp) hSw ?_; intro a ha
  refine line_ahead or8ltR 20 20 [] 21 39 (.agg #[.int .i64 y', .int .i64 m', .int .i64 d']) [(37, .agg #[.int .i64 y, .int .i64 m, .int .i64 d]), (36, .bool true), (34, .bool true), (2, .pointer (some ⟨w.heap.size, 0, none⟩)), (3, .pointer (some ⟨w.heap.size + 1, 0, none⟩)), (5, .int .i64 (-1))] rfl (by decide) (by decide) (by decide) ha (fun o ho hg => y_of (or8ltR.wanted hg rfl ha (d := 34) (by simp)) (fun wx hS => e_load8 ho (ha.ev (i := 3) (v := .pointer (some ⟨w.heap.size + 1, 0, none⟩)) (by simp)) (hS.at_ (g := w.heap.size + 1) (x0 := .int .i64 y') (x1 := .int .i64 m') (x2 := .int .i64 d') (by simp)))) (by simp) hSw ?_; intro a ha
  refine line_call or8ltR 21 20 [21] 38 (args := #[.agg #[.int .i64 y, .int .i64 m, .int .i64 d]]) [(39, .agg #[.int .i64 y', .int .i64 m', .int .i64 d']), (36, .bool true), (34, .bool true), (2, .pointer (some ⟨w.heap.size, 0, none⟩)), (3, .pointer (some ⟨w.heap.size + 1, 0, none⟩)), (5, .int .i64 (-1))] rfl (by decide) (by decide) (by decide) ha (fun o ho hg => ⟨(or8ltR.wanted hg rfl ha (d := 34) (by simp)), e_call8 (by kernel_rfl) ho rfl (by have q0 := ha.ev (i := 37) (v := .agg #[.int .i64 y, .int .i64 m, .int .i64 d]) (by simp); simp only [List.map_toArray, List.map_cons, List.map_nil, ev_const, q0])⟩) (by simp) ?_
  refine (text_is E.out.tab HS.out).mono ?_; rintro e w6 ⟨rfl, hb⟩
  replace E := Lib.hid (S8.step E.out hb)
  clear hb
  have hSw := S8.sb E; refine ⟨_, rfl, hSw, ?_⟩; intro a ha
  refine line_skip [] (by intro i; simp <;> omega) ?_
  refine line_call or8ltR 22 22 [] 40 (args := #[.agg #[.int .i64 y', .int .i64 m', .int .i64 d']]) [(38, .string S), (36, .bool true), (34, .bool true), (2, .pointer (some ⟨w.heap.size, 0, none⟩)), (3, .pointer (some ⟨w.heap.size + 1, 0, none⟩)), (5, .int .i64 (-1))] rfl (by decide) (by decide) (by decide) ha (fun o ho hg => ⟨(or8ltR.wanted hg rfl ha (d := 34) (by simp)), e_call8 (by kernel_rfl) ho rfl (by have q0 := ha.ev (i := 39) (v := .agg #[.int .i64 y', .int .i64 m', .int .i64 d']) (by simp); simp only [List.map_toArray, List.map_cons, List.map_nil, ev_const, q0])⟩) (by simp) ?_
  refine (text_is E.out.tab HS'.out).mono ?_; rintro e w7 ⟨rfl, hb⟩
  replace E := Lib.hid (S8.step E.out hb)
  clear hb
  have hSw := S8.sb E; refine ⟨_, rfl, hSw, ?_⟩; intro a ha
  refine line_still or8ltR 23 23 [] 41 (.bool true) [(36, .bool true), (34, .bool true), (2, .pointer (some ⟨w.heap.size, 0, none⟩)), (3, .pointer (some ⟨w.heap.size + 1, 0, none⟩)), (5, .int .i64 (-1))] rfl (by decide) (by decide) (by decide) ha (fun o ho hg => y_of (or8ltR.wanted hg rfl ha (d := 34) (by simp)) (fun wx hS => e_slss8 HLS.out ho (ha.ev (i := 38) (v := .string S) (by simp)) (ha.ev (i := 40) (v := .string S') (by simp)))) (by simp) hSw ?_; intro a ha
  refine line_still or8ltR 24 24 [] 42 (.bool true) [(34, .bool true), (2, .pointer (some ⟨w.heap.size, 0, none⟩)), (3, .pointer (some ⟨w.heap.size + 1, 0, none⟩)), (5, .int .i64 (-1))] rfl (by decide) (by decide) (by decide) ha (fun o ho hg => y_of (or8ltR.wanted hg rfl ha (d := 34) (by simp)) (fun wx hS => (e_beq8 ho (ha.ev (i := 36) (v := .bool true) (by simp)) (ha.ev (i := 41) (v := .bool true) (by simp))).trans (by rw [beq_self_eq_true]))) (by simp) hSw ?_; intro a ha
  refine line_still or8ltR 25 25 [] 43 (.bool true) [(2, .pointer (some ⟨w.heap.size, 0, none⟩)), (3, .pointer (some ⟨w.heap.size + 1, 0, none⟩)), (5, .int .i64 (-1))] rfl (by decide) (by decide) (by decide) ha (fun o ho hg => y_of (wanted_none hg) (fun wx hS => e_pick ho (ha.ev (i := 34) (v := .bool true) (by simp)) (ha.ev (i := 42) (v := .bool true) (by simp)) rfl)) (by simp) hSw ?_; intro a ha
  refine line_still or8ltR 26 26 [] 44 (.bool true) [(2, .pointer (some ⟨w.heap.size, 0, none⟩)), (3, .pointer (some ⟨w.heap.size + 1, 0, none⟩)), (5, .int .i64 (-1))] rfl (by decide) (by decide) (by decide) ha (fun o ho hg => y_of (wanted_none hg) (fun wx hS => e_move (.inl ho) (ha.ev (i := 43) (v := .bool true) (by simp)))) (by simp) hSw ?_; intro a ha
  refine line_still or8ltR 27 27 [] 45 (.int .i64 (-1)) [(44, .bool true), (2, .pointer (some ⟨w.heap.size, 0, none⟩)), (3, .pointer (some ⟨w.heap.size + 1, 0, none⟩))] rfl (by decide) (by decide) (by decide) ha (fun o ho hg => y_of (or8ltR.wanted hg rfl ha (d := 44) (by simp)) (fun wx hS => e_move (.inl ho) (ha.ev (i := 5) (v := .int .i64 (-1)) (by simp)))) (by simp) hSw ?_; intro a ha
  refine line_still or8ltR 28 28 [] 46 (.agg #[.int .i64 y', .int .i64 m', .int .i64 d']) [(45, .int .i64 (-1)), (44, .bool true), (2, .pointer (some ⟨w.heap.size, 0, none⟩))] rfl (by decide) (by decide) (by decide) ha (fun o ho hg => y_of (or8ltR.wanted hg rfl ha (d := 44) (by simp)) (fun wx hS => e_load8 ho (ha.ev (i := 3) (v := .pointer (some ⟨w.heap.size + 1, 0, none⟩)) (by simp)) (hS.at_ (g := w.heap.size + 1) (x0 := .int .i64 y') (x1 := .int .i64 m') (x2 := .int .i64 d') (by simp)))) (by simp) hSw ?_; intro a ha
  refine line_still or8ltR 29 29 [] 47 (.agg #[.int .i64 y, .int .i64 m, .int .i64 d]) [(46, .agg #[.int .i64 y', .int .i64 m', .int .i64 d']), (45, .int .i64 (-1)), (44, .bool true)] rfl (by decide) (by decide) (by decide) ha (fun o ho hg => y_of (or8ltR.wanted hg rfl ha (d := 44) (by simp)) (fun wx hS => e_load8 ho (ha.ev (i := 2) (v := .pointer (some ⟨w.heap.size, 0, none⟩)) (by simp)) (hS.at_ (g := w.heap.size) (x0 := .int .i64 y) (x1 := .int .i64 m) (x2 := .int .i64 d) (by simp)))) (by simp) hSw ?_; intro a ha
  refine line_call or8ltR 30 30 [] 48 (args := #[.agg #[.int .i64 y', .int .i64 m', .int .i64 d'], .agg #[.int .i64 y, .int .i64 m, .int .i64 d]]) [(45, .int .i64 (-1)), (44, .bool true)] rfl (by decide) (by decide) (by decide) ha (fun o ho hg => ⟨(or8ltR.wanted hg rfl ha (d := 44) (by simp)), e_call8 (by kernel_rfl) ho rfl (by have q0 := ha.ev (i := 46) (v := .agg #[.int .i64 y', .int .i64 m', .int .i64 d']) (by simp); have q1 := ha.ev (i := 47) (v := .agg #[.int .i64 y, .int .i64 m, .int .i64 d]) (by simp); simp only [List.map_toArray, List.map_cons, List.map_nil, ev_const, q0, q1])⟩) (by simp) ?_
  refine (cmp_is E.out.tab HTU.out).mono ?_; rintro e w8 ⟨rfl, hb⟩
  replace E := Lib.hid (S8.step E.out hb)
  clear hb
  have hSw := S8.sb E; refine ⟨_, rfl, hSw, ?_⟩; intro a ha
  refine line_still or8ltR 31 31 [] 49 (.int .i64 (-1)) [(45, .int .i64 (-1)), (44, .bool true)] rfl (by decide) (by decide) (by decide) ha (fun o ho hg => y_of (or8ltR.wanted hg rfl ha (d := 44) (by simp)) (fun wx hS => e_neg8 (by decide) (by decide) ho (ha.ev (i := 48) (v := .int .i64 (1)) (by simp)))) (by simp) hSw ?_; intro a ha
  refine line_still or8ltR 32 32 [] 50 (.bool true) [(44, .bool true)] rfl (by decide) (by decide) (by decide) ha (fun o ho hg => y_of (or8ltR.wanted hg rfl ha (d := 44) (by simp)) (fun wx hS => (e_eql8 ho (ha.ev (i := 45) (v := .int .i64 (-1)) (by simp)) (ha.ev (i := 49) (v := .int .i64 (-1)) (by simp))).trans (by rw [beq_self_eq_true]))) (by simp) hSw ?_; intro a ha
  refine line_still or8ltR 33 33 [] 51 (.bool true) [] rfl (by decide) (by decide) (by decide) ha (fun o ho hg => y_of (wanted_none hg) (fun wx hS => e_pick ho (ha.ev (i := 44) (v := .bool true) (by simp)) (ha.ev (i := 50) (v := .bool true) (by simp)) rfl)) (by simp) hSw ?_; intro a ha
  refine line_still or8ltR 34 34 [] 52 (.bool true) [] rfl (by decide) (by decide) (by decide) ha (fun o ho hg => y_of (wanted_none hg) (fun wx hS => e_move (.inl ho) (ha.ev (i := 51) (v := .bool true) (by simp)))) (by simp) hSw ?_; intro a ha
  refine line_call or8ltR 35 35 [] 53 (args := #[]) [(52, .bool true)] rfl (by decide) (by decide) (by decide) ha (fun o ho hg => ⟨(or8ltR.wanted hg rfl ha (d := 52) (by simp)), e_call8 (by kernel_rfl) ho rfl (by simp only [List.map_toArray, List.map_cons, List.map_nil, ev_const])⟩) (by simp) ?_
  refine (awake8 _ E.out.tab).mono ?_; rintro e w9 ⟨rfl, hb⟩
  replace E := Lib.hid (S8.step E.out hb)
  clear hb
  have hSw := S8.sb E; refine ⟨_, rfl, hSw, ?_⟩; intro a ha
  refine line_still or8ltR 36 36 [] 54 (.bool true) [] rfl (by decide) (by decide) (by decide) ha (fun o ho hg => y_of (wanted_none hg) (fun wx hS => e_pick ho (ha.ev (i := 52) (v := .bool true) (by simp)) (ha.ev (i := 53) (v := .bool true) (by simp)) rfl)) (by simp) hSw ?_; intro a ha
  refine line_still or8ltR 37 37 [] 4 (.bool true) [] rfl (by decide) (by decide) (by decide) ha (fun o ho hg => y_of (wanted_none hg) (fun wx hS => e_move (.inr ho) (ha.ev (i := 54) (v := .bool true) (by simp)))) (by simp) hSw ?_; intro a ha
  refine line_end or8ltR rfl ?_
  simp only [Exit.then]
  refine hK _ _ ?_
  go_wp2
  exact bodyPost_ret (v := .bool true) (by have := ha.2.2 (4, .bool true) (by simp); simp [results, Tryd.results5, go_sem, Array.getD_eq_getD_getElem?, this]) ha.2.1 ⟨rfl, E.out.bel⟩

def or8eqT : List Row3 := [(some 18, none, .move (.tmp 5)), (some 19, none, .binOp .lss 3 (.tmp 18) (.const (.int .i64 0)) 3), (some 20, none, .load 23 (.tmp 2)), (some 21, none, .call { callee := .value (.func 23), args := #[.tmp 20], argTypes := #[23] }), (some 22, none, .load 23 (.tmp 3)), (some 23, none, .call { callee := .value (.func 23), args := #[.tmp 22], argTypes := #[23] }), (some 24, none, .binOp .lss 3 (.tmp 21) (.tmp 23) 3), (some 25, none, .binOp .eql 4 (.tmp 19) (.tmp 24) 4), (some 26, none, .move (.tmp 25)), (some 27, some (8, true), .move (.tmp 5)), (some 28, some (8, true), .binOp .eql 3 (.tmp 27) (.const (.int .i64 0)) 3), (some 29, some (8, true), .load 23 (.tmp 2)), (some 30, some (8, true), .load 23 (.tmp 3)), (some 31, some (8, true), .binOp .eql 23 (.tmp 29) (.tmp 30) 23), (some 32, some (8, true), .binOp .eql 4 (.tmp 28) (.tmp 31) 4), (some 33, none, .pick (.tmp 26) (.tmp 32) (.const (.bool false))), (some 34, none, .move (.tmp 33)), (some 35, some (16, true), .move (.tmp 5)), (some 36, some (16, true), .binOp .lss 3 (.tmp 35) (.const (.int .i64 0)) 3), (some 37, some (16, true), .load 23 (.tmp 2)), (some 38, some (16, true), .call { callee := .value (.func 25), args := #[.tmp 37], argTypes := #[23] }), (some 39, some (16, true), .load 23 (.tmp 3)), (some 40, some (16, true), .call { callee := .value (.func 25), args := #[.tmp 39], argTypes := #[23] }), (some 41, some (16, true), .binOp .lss 9 (.tmp 38) (.tmp 40) 9), (some 42, some (16, true), .binOp .eql 4 (.tmp 36) (.tmp 41) 4), (some 43, none, .pick (.tmp 34) (.tmp 42) (.const (.bool false))), (some 44, none, .move (.tmp 43)), (some 45, some (26, true), .move (.tmp 5)), (some 46, some (26, true), .load 23 (.tmp 3)), (some 47, some (26, true), .load 23 (.tmp 2)), (some 48, some (26, true), .call { callee := .value (.func 21), args := #[.tmp 46, .tmp 47], argTypes := #[23, 23] }), (some 49, some (26, true), .unOp .neg 3 (.tmp 48)), (some 50, some (26, true), .binOp .eql 3 (.tmp 45) (.tmp 49) 3), (some 51, none, .pick (.tmp 44) (.tmp 50) (.const (.bool false))), (some 52, none, .move (.tmp 51)), (some 53, some (34, true), .call { callee := .value (.func 8), args := #[], argTypes := #[] }), (some 54, none, .pick (.tmp 52) (.tmp 53) (.const (.bool false))), (some 4, none, .assign (.tmp 54))]
set_option maxRecDepth 100000 in
theorem or8eqRow : (opsAt Tryd.prog 5 4).toList.map row3 = or8eqT := by kernel_rfl
theorem or8eqSel : Region.noSelect (opsAt Tryd.prog 5 4) = true := by kernel_rfl
theorem or8eqDone : Region.ready .any (opsAt Tryd.prog 5 4) (upto (opsAt Tryd.prog 5 4).size (opsAt Tryd.prog 5 4).size []) = [] := by kernel_rfl
theorem or8eqstill0 : [(0, [], 0), (1, [], 1), (2, [], 2), (3, [], 4), (6, [], 6), (7, [], 7), (8, [], 8), (9, [], 9), (10, [], 10), (11, [], 11)].all (stillB (opsAt Tryd.prog 5 4)) = true := by kernel_rfl
theorem or8eqstill1 : [(12, [], 12), (13, [], 13), (14, [], 14), (15, [], 15), (16, [], 16), (17, [], 17), (18, [], 18), (19, [], 19), (20, [], 21), (23, [], 23)].all (stillB (opsAt Tryd.prog 5 4)) = true := by kernel_rfl
theorem or8eqstill2 : [(24, [], 24), (25, [], 25), (26, [], 26), (27, [], 27), (28, [], 28), (29, [], 29), (31, [], 31), (32, [], 32), (33, [], 33), (34, [], 34)].all (stillB (opsAt Tryd.prog 5 4)) = true := by kernel_rfl
theorem or8eqstill3 : [(36, [], 36), (37, [], 37)].all (stillB (opsAt Tryd.prog 5 4)) = true := by kernel_rfl
theorem or8eqsole0 : [(3, [4], 3), (5, [], 5), (20, [21], 20), (22, [], 22), (30, [], 30), (35, [], 35)].all (soleB (opsAt Tryd.prog 5 4)) = true := by kernel_rfl
theorem or8eqR : Reg (opsAt Tryd.prog 5 4) or8eqT [(0, [], 0), (1, [], 1), (2, [], 2), (3, [], 4), (6, [], 6), (7, [], 7), (8, [], 8), (9, [], 9), (10, [], 10), (11, [], 11), (12, [], 12), (13, [], 13), (14, [], 14), (15, [], 15), (16, [], 16), (17, [], 17), (18, [], 18), (19, [], 19), (20, [], 21), (23, [], 23), (24, [], 24), (25, [], 25), (26, [], 26), (27, [], 27), (28, [], 28), (29, [], 29), (31, [], 31), (32, [], 32), (33, [], 33), (34, [], 34), (36, [], 36), (37, [], 37)] [(3, [4], 3), (5, [], 5), (20, [21], 20), (22, [], 22), (30, [], 30), (35, [], 35)] := ⟨or8eqRow, or8eqSel, (all_parts or8eqstill0 (all_parts or8eqstill1 (all_parts or8eqstill2 (all_parts or8eqstill3 (fun k h => by cases h))))), (all_parts or8eqsole0 (fun k h => by cases h)), or8eqDone⟩

set_option maxHeartbeats 4000000 in
set_option maxRecDepth 100000 in
theorem order8_eq (y m d : Int) (hr : ok8 y m d = true)  (w : World) (hT : Tabs w) : Calls Tryd.prog 5 #[.agg #[.int .i64 y, .int .i64 m, .int .i64 d], .agg #[.int .i64 y, .int .i64 m, .int .i64 d]] w (Ret8 w (.bool true)) := by
  have HT := Lib.hid hT
  clear hT
  obtain ⟨na, hna⟩ : ∃ n, days8 y m d = n := ⟨_, rfl⟩
  obtain ⟨S, hS⟩ : ∃ S, text8 y m d = S := ⟨_, rfl⟩
  have HLN : Hid (decide (na < na) = false) := by show _ = _; exact decide_eq_false (by omega)
  have HLS : Hid (Op.bytesLess S.toList S.toList = false) := less_self _
  have HTU : Hid (cmp8 y m d y m d = 0) := cmp8_same y m d
  have HR := Lib.hid hr
  have HA := Lib.hid hna
  have HS := Lib.hid hS
  clear hr hna hS
  go_enter Tryd.func5, Tryd.ntmps5
  go_wp2_with fail
  generalize hW : World.alloc (World.alloc w _) _ = W0
  have E0 : S8 w W0 [(w.heap.size + 1, .int .i64 y, .int .i64 m, .int .i64 d), (w.heap.size, .int .i64 y, .int .i64 m, .int .i64 d)] := by rw [← hW]; exact (((S8.start w HT.out).lay rfl).lay (by simp))
  have E := Lib.hid E0
  clear hW E0
  obtain ⟨p0, p1, p2, pf0, pf1, pf2, plt⟩ := (S8.at_ (x0 := .int .i64 y) (x1 := .int .i64 m) (x2 := .int .i64 d) (g := w.heap.size + 1) E (by simp))
  obtain ⟨q0, q1, q2, qf0, qf1, qf2, qlt⟩ := (S8.at_ (x0 := .int .i64 y) (x1 := .int .i64 m) (x2 := .int .i64 d) (g := w.heap.size) E (by simp))
  go_wp2_with fail
  refine (right_is E.out.tab HR.out).mono ?_; rintro e w1 ⟨rfl, hb⟩; replace E := Lib.hid (S8.step E.out hb); clear hb
  clear p0 p1 p2 pf0 pf1 pf2 plt q0 q1 q2 qf0 qf1 qf2 qlt
  obtain ⟨p0, p1, p2, pf0, pf1, pf2, plt⟩ := (S8.at_ (x0 := .int .i64 y) (x1 := .int .i64 m) (x2 := .int .i64 d) (g := w.heap.size + 1) E (by simp))
  obtain ⟨q0, q1, q2, qf0, qf1, qf2, qlt⟩ := (S8.at_ (x0 := .int .i64 y) (x1 := .int .i64 m) (x2 := .int .i64 d) (g := w.heap.size) E (by simp))
  go_wp2_with fail
  refine (right_is E.out.tab HR.out).mono ?_; rintro e w2 ⟨rfl, hb⟩; replace E := Lib.hid (S8.step E.out hb); clear hb
  clear p0 p1 p2 pf0 pf1 pf2 plt q0 q1 q2 qf0 qf1 qf2 qlt
  obtain ⟨p0, p1, p2, pf0, pf1, pf2, plt⟩ := (S8.at_ (x0 := .int .i64 y) (x1 := .int .i64 m) (x2 := .int .i64 d) (g := w.heap.size + 1) E (by simp))
  obtain ⟨q0, q1, q2, qf0, qf1, qf2, qlt⟩ := (S8.at_ (x0 := .int .i64 y) (x1 := .int .i64 m) (x2 := .int .i64 d) (g := w.heap.size) E (by simp))
  go_wp2_with fail
  refine (cmp_is E.out.tab HTU.out).mono ?_; rintro e w3 ⟨rfl, hb⟩; replace E := Lib.hid (S8.step E.out hb); clear hb
  clear p0 p1 p2 pf0 pf1 pf2 plt q0 q1 q2 qf0 qf1 qf2 qlt
  go_wp2_with fail
  replace E := Lib.hid (S8.drew E.out)
  rename_i K hK
  refine line_start (ops := opsAt Tryd.prog 5 4) (S := SB8 [(w.heap.size + 1, .int .i64 y, .int .i64 m, .int .i64 d), (w.heap.size, .int .i64 y, .int .i64 m, .int .i64 d)]) (by kernel_rfl) (by kernel_rfl) (S8.sb E) ?_
  have hSw := S8.sb E
  generalize hA : Act.mk _ _ = a
  have ha : Fr 55 a [(2, .pointer (some ⟨w.heap.size, 0, none⟩)), (3, .pointer (some ⟨w.heap.size + 1, 0, none⟩)), (5, .int .i64 (0))] := by rw [← hA]; exact ⟨rfl, rfl, by intro q hq; simp at hq; rcases hq with rfl | rfl | rfl <;> rfl⟩
  clear hA
  refine line_still or8eqR 0 0 [] 18 (.int .i64 (0)) [(2, .pointer (some ⟨w.heap.size, 0, none⟩)), (3, .pointer (some ⟨w.heap.size + 1, 0, none⟩)), (5, .int .i64 (0))] rfl (by decide) (by decide) (by decide) ha (fun o ho hg => y_of (wanted_none hg) (fun wx hS => e_move (.inl ho) (ha.ev (i := 5) (v := .int .i64 (0)) (by simp)))) (by simp) hSw ?_; intro a ha
  refine line_still or8eqR 1 1 [] 19 (.bool false) [(2, .pointer (some ⟨w.heap.size, 0, none⟩)), (3, .pointer (some ⟨w.heap.size + 1, 0, none⟩)), (5, .int .i64 (0))] rfl (by decide) (by decide) (by decide) ha (fun o ho hg => y_of (wanted_none hg) (fun wx hS => e_lss8 ho (ha.ev (i := 18) (v := .int .i64 (0)) (by simp)) rfl)) (by simp) hSw ?_; intro a ha
  refine line_still or8eqR 2 2 [] 20 (.agg #[.int .i64 y, .int .i64 m, .int .i64 d]) [(19, .bool false), (2, .pointer (some ⟨w.heap.size, 0, none⟩)), (3, .pointer (some ⟨w.heap.size + 1, 0, none⟩)), (5, .int .i64 (0))] rfl (by decide) (by decide) (by decide) ha (fun o ho hg => y_of (wanted_none hg) (fun wx hS => e_load8 ho (ha.ev (i := 2) (v := .pointer (some ⟨w.heap.size, 0, none⟩)) (by simp)) (hS.at_ (g := w.heap.size) (x0 := .int .i64 y) (x1 := .int .i64 m) (x2 := .int .i64 d) (by simp)))) (by simp) hSw ?_; intro a ha
  refine line_ahead or8eqR 3 3 [] 4 22 (.agg #[.int .i64 y, .int .i64 m, .int .i64 d]) [(20, .agg #[.int .i64 y, .int .i64 m, .int .i64 d]), (19, .bool false), (2, .pointer (some ⟨w.heap.size, 0, none⟩)), (3, .pointer (some ⟨w.heap.size + 1, 0, none⟩)), (5, .int .i64 (0))] rfl (by decide) (by decide) (by decide) ha (fun o ho hg => y_of (wanted_none hg) (fun wx hS => e_load8 ho (ha.ev (i := 3) (v := .pointer (some ⟨w.heap.size + 1, 0, none⟩)) (by simp)) (hS.at_ (g := w.heap.size + 1) (x0 := .int .i64 y) (x1 := .int .i64 m) (x2 := .int .i64 d) (by simp)))) (by simp) hSw ?_; intro a ha
  refine line_call or8eqR 4 3 [4] 21 (args := #[.agg #[.int .i64 y, .int .i64 m, .int .i64 d]]) [(22, .agg #[.int .i64 y, .int .i64 m, .int .i64 d]), (19, .bool false), (2, .pointer (some ⟨w.heap.size, 0, none⟩)), (3, .pointer (some ⟨w.heap.size + 1, 0, none⟩)), (5, .int .i64 (0))] rfl (by decide) (by decide) (by decide) ha (fun o ho hg => ⟨(wanted_none hg), e_call8 (by kernel_rfl) ho rfl (by have q0 := ha.ev (i := 20) (v := .agg #[.int .i64 y, .int .i64 m, .int .i64 d]) (by simp); simp only [List.map_toArray, List.map_cons, List.map_nil, ev_const, q0])⟩) (by simp) ?_
  refine (days_is E.out.tab HA.out).mono ?_; rintro e w4 ⟨rfl, hb⟩
  replace E := Lib.hid (S8.step E.out hb)
  clear hb
  have hSw := S8.sb E; refine ⟨_, rfl, hSw, ?_⟩; intro a ha
  refine line_skip [] (by intro i; simp <;> omega) ?_
  refine line_call or8eqR 5 5 [] 23 (args := #[.agg #[.int .i64 y, .int .i64 m, .int .i64 d]]) [(21, .int .i64 na), (19, .bool false), (2, .pointer (some ⟨w.heap.size, 0, none⟩)), (3, .pointer (some ⟨w.heap.size + 1, 0, none⟩)), (5, .int .i64 (0))] rfl (by decide) (by decide) (by decide) ha (fun o ho hg => ⟨(wanted_none hg), e_call8 (by kernel_rfl) ho rfl (by have q0 := ha.ev (i := 22) (v := .agg #[.int .i64 y, .int .i64 m, .int .i64 d]) (by simp); simp only [List.map_toArray, List.map_cons, List.map_nil, ev_const, q0])⟩) (by simp) ?_
  refine (days_is E.out.tab HA.out).mono ?_; rintro e w5 ⟨rfl, hb⟩
  replace E := Lib.hid (S8.step E.out hb)
  clear hb
  have hSw := S8.sb E; refine ⟨_, rfl, hSw, ?_⟩; intro a ha
  refine line_still or8eqR 6 6 [] 24 (.bool false) [(19, .bool false), (2, .pointer (some ⟨w.heap.size, 0, none⟩)), (3, .pointer (some ⟨w.heap.size + 1, 0, none⟩)), (5, .int .i64 (0))] rfl (by decide) (by decide) (by decide) ha (fun o ho hg => y_of (wanted_none hg) (fun wx hS => (e_lss8 ho (ha.ev (i := 21) (v := .int .i64 na) (by simp)) (ha.ev (i := 23) (v := .int .i64 na) (by simp))).trans (by rw [HLN.out]))) (by simp) hSw ?_; intro a ha
  refine line_still or8eqR 7 7 [] 25 (.bool true) [(2, .pointer (some ⟨w.heap.size, 0, none⟩)), (3, .pointer (some ⟨w.heap.size + 1, 0, none⟩)), (5, .int .i64 (0))] rfl (by decide) (by decide) (by decide) ha (fun o ho hg => y_of (wanted_none hg) (fun wx hS => (e_beq8 ho (ha.ev (i := 19) (v := .bool false) (by simp)) (ha.ev (i := 24) (v := .bool false) (by simp))).trans (by rw [beq_self_eq_true]))) (by simp) hSw ?_; intro a ha
  refine line_still or8eqR 8 8 [] 26 (.bool true) [(2, .pointer (some ⟨w.heap.size, 0, none⟩)), (3, .pointer (some ⟨w.heap.size + 1, 0, none⟩)), (5, .int .i64 (0))] rfl (by decide) (by decide) (by decide) ha (fun o ho hg => y_of (wanted_none hg) (fun wx hS => e_move (.inl ho) (ha.ev (i := 25) (v := .bool true) (by simp)))) (by simp) hSw ?_; intro a ha
  refine line_still or8eqR 9 9 [] 27 (.int .i64 (0)) [(26, .bool true), (2, .pointer (some ⟨w.heap.size, 0, none⟩)), (3, .pointer (some ⟨w.heap.size + 1, 0, none⟩)), (5, .int .i64 (0))] rfl (by decide) (by decide) (by decide) ha (fun o ho hg => y_of (or8eqR.wanted hg rfl ha (d := 26) (by simp)) (fun wx hS => e_move (.inl ho) (ha.ev (i := 5) (v := .int .i64 (0)) (by simp)))) (by simp) hSw ?_; intro a ha
  refine line_still or8eqR 10 10 [] 28 (.bool true) [(26, .bool true), (2, .pointer (some ⟨w.heap.size, 0, none⟩)), (3, .pointer (some ⟨w.heap.size + 1, 0, none⟩)), (5, .int .i64 (0))] rfl (by decide) (by decide) (by decide) ha (fun o ho hg => y_of (or8eqR.wanted hg rfl ha (d := 26) (by simp)) (fun wx hS => e_eql8 ho (ha.ev (i := 27) (v := .int .i64 (0)) (by simp)) rfl)) (by simp) hSw ?_; intro a ha
  refine line_still or8eqR 11 11 [] 29 (.agg #[.int .i64 y, .int .i64 m, .int .i64 d]) [(28, .bool true), (26, .bool true), (2, .pointer (some ⟨w.heap.size, 0, none⟩)), (3, .pointer (some ⟨w.heap.size + 1, 0, none⟩)), (5, .int .i64 (0))] rfl (by decide) (by decide) (by decide) ha (fun o ho hg => y_of (or8eqR.wanted hg rfl ha (d := 26) (by simp)) (fun wx hS => e_load8 ho (ha.ev (i := 2) (v := .pointer (some ⟨w.heap.size, 0, none⟩)) (by simp)) (hS.at_ (g := w.heap.size) (x0 := .int .i64 y) (x1 := .int .i64 m) (x2 := .int .i64 d) (by simp)))) (by simp) hSw ?_; intro a ha
  refine line_still or8eqR 12 12 [] 30 (.agg #[.int .i64 y, .int .i64 m, .int .i64 d]) [(29, .agg #[.int .i64 y, .int .i64 m, .int .i64 d]), (28, .bool true), (26, .bool true), (2, .pointer (some ⟨w.heap.size, 0, none⟩)), (3, .pointer (some ⟨w.heap.size + 1, 0, none⟩)), (5, .int .i64 (0))] rfl (by decide) (by decide) (by decide) ha (fun o ho hg => y_of (or8eqR.wanted hg rfl ha (d := 26) (by simp)) (fun wx hS => e_load8 ho (ha.ev (i := 3) (v := .pointer (some ⟨w.heap.size + 1, 0, none⟩)) (by simp)) (hS.at_ (g := w.heap.size + 1) (x0 := .int .i64 y) (x1 := .int .i64 m) (x2 := .int .i64 d) (by simp)))) (by simp) hSw ?_; intro a ha
  refine line_still or8eqR 13 13 [] 31 (.bool true) [(28, .bool true), (26, .bool true), (2, .pointer (some ⟨w.heap.size, 0, none⟩)), (3, .pointer (some ⟨w.heap.size + 1, 0, none⟩)), (5, .int .i64 (0))] rfl (by decide) (by decide) (by decide) ha (fun o ho hg => y_of (or8eqR.wanted hg rfl ha (d := 26) (by simp)) (fun wx hS => e_deq8 ho (ha.ev (i := 29) (v := .agg #[.int .i64 y, .int .i64 m, .int .i64 d]) (by simp)) (ha.ev (i := 30) (v := .agg #[.int .i64 y, .int .i64 m, .int .i64 d]) (by simp)))) (by simp) hSw ?_; intro a ha
  refine line_still or8eqR 14 14 [] 32 (.bool true) [(26, .bool true), (2, .pointer (some ⟨w.heap.size, 0, none⟩)), (3, .pointer (some ⟨w.heap.size + 1, 0, none⟩)), (5, .int .i64 (0))] rfl (by decide) (by decide) (by decide) ha (fun o ho hg => y_of (or8eqR.wanted hg rfl ha (d := 26) (by simp)) (fun wx hS => (e_beq8 ho (ha.ev (i := 28) (v := .bool true) (by simp)) (ha.ev (i := 31) (v := .bool true) (by simp))).trans (by rw [beq_self_eq_true]))) (by simp) hSw ?_; intro a ha
  refine line_still or8eqR 15 15 [] 33 (.bool true) [(2, .pointer (some ⟨w.heap.size, 0, none⟩)), (3, .pointer (some ⟨w.heap.size + 1, 0, none⟩)), (5, .int .i64 (0))] rfl (by decide) (by decide) (by decide) ha (fun o ho hg => y_of (wanted_none hg) (fun wx hS => e_pick ho (ha.ev (i := 26) (v := .bool true) (by simp)) (ha.ev (i := 32) (v := .bool true) (by simp)) rfl)) (by simp) hSw ?_; intro a ha
  refine line_still or8eqR 16 16 [] 34 (.bool true) [(2, .pointer (some ⟨w.heap.size, 0, none⟩)), (3, .pointer (some ⟨w.heap.size + 1, 0, none⟩)), (5, .int .i64 (0))] rfl (by decide) (by decide) (by decide) ha (fun o ho hg => y_of (wanted_none hg) (fun wx hS => e_move (.inl ho) (ha.ev (i := 33) (v := .bool true) (by simp)))) (by simp) hSw ?_; intro a ha
  refine line_still or8eqR 17 17 [] 35 (.int .i64 (0)) [(34, .bool true), (2, .pointer (some ⟨w.heap.size, 0, none⟩)), (3, .pointer (some ⟨w.heap.size + 1, 0, none⟩)), (5, .int .i64 (0))] rfl (by decide) (by decide) (by decide) ha (fun o ho hg => y_of (or8eqR.wanted hg rfl ha (d := 34) (by simp)) (fun wx hS => e_move (.inl ho) (ha.ev (i := 5) (v := .int .i64 (0)) (by simp)))) (by simp) hSw ?_; intro a ha
  refine line_still or8eqR 18 18 [] 36 (.bool false) [(34, .bool true), (2, .pointer (some ⟨w.heap.size, 0, none⟩)), (3, .pointer (some ⟨w.heap.size + 1, 0, none⟩)), (5, .int .i64 (0))] rfl (by decide) (by decide) (by decide) ha (fun o ho hg => y_of (or8eqR.wanted hg rfl ha (d := 34) (by simp)) (fun wx hS => e_lss8 ho (ha.ev (i := 35) (v := .int .i64 (0)) (by simp)) rfl)) (by simp) hSw ?_; intro a ha
  refine line_still or8eqR 19 19 [] 37 (.agg #[.int .i64 y, .int .i64 m, .int .i64 d]) [(36, .bool false), (34, .bool true), (2, .pointer (some ⟨w.heap.size, 0, none⟩)), (3, .pointer (some ⟨w.heap.size + 1, 0, none⟩)), (5, .int .i64 (0))] rfl (by decide) (by decide) (by decide) ha (fun o ho hg => y_of (or8eqR.wanted hg rfl ha (d := 34) (by simp)) (fun wx hS => e_load8 ho (ha.ev (i := 2) (v := .pointer (some ⟨w.heap.size, 0, none⟩)) (by simp)) (hS.at_ (g := w.heap.size) (x0 := .int .i64 y) (x1 := .int .i64 m) (x2 := .int .i64 d) (by simp)))) (by simp) hSw ?_; intro a ha
  refine line_ahead or8eqR 20 20 [] 21 39 (.agg #[.int .i64 y, .int .i64 m, .int .i64 d]) [(37, .agg #[.int .i64 y, .int .i64 m, .int .i64 d]), (36, .bool false), (34, .bool true), (2, .pointer (some ⟨w.heap.size, 0, none⟩)), (3, .pointer (some ⟨w.heap.size + 1, 0, none⟩)), (5, .int .i64 (0))] rfl (by decide) (by decide) (by decide) ha (fun o ho hg => y_of (or8eqR.wanted hg rfl ha (d := 34) (by simp)) (fun wx hS => e_load8 ho (ha.ev (i := 3) (v := .pointer (some ⟨w.heap.size + 1, 0, none⟩)) (by simp)) (hS.at_ (g := w.heap.size + 1) (x0 := .int .i64 y) (x1 := .int .i64 m) (x2 := .int .i64 d) (by simp)))) (by simp) hSw ?_; intro a ha
  refine line_call or8eqR 21 20 [21] 38 (args := #[.agg #[.int .i64 y, .int .i64 m, .int .i64 d]]) [(39, .agg #[.int .i64 y, .int .i64 m, .int .i64 d]), (36, .bool false), (34, .bool true), (2, .pointer (some ⟨w.heap.size, 0, none⟩)), (3, .pointer (some ⟨w.heap.size + 1, 0, none⟩)), (5, .int .i64 (0))] rfl (by decide) (by decide) (by decide) ha (fun o ho hg => ⟨(or8eqR.wanted hg rfl ha (d := 34) (by simp)), e_call8 (by kernel_rfl) ho rfl (by have q0 := ha.ev (i := 37) (v := .agg #[.int .i64 y, .int .i64 m, .int .i64 d]) (by simp); simp only [List.map_toArray, List.map_cons, List.map_nil, ev_const, q0])⟩) (by simp) ?_
  refine (text_is E.out.tab HS.out).mono ?_; rintro e w6 ⟨rfl, hb⟩
  replace E := Lib.hid (S8.step E.out hb)
  clear hb
  have hSw := S8.sb E; refine ⟨_, rfl, hSw, ?_⟩; intro a ha
  refine line_skip [] (by intro i; simp <;> omega) ?_
  refine line_call or8eqR 22 22 [] 40 (args := #[.agg #[.int .i64 y, .int .i64 m, .int .i64 d]]) [(38, .string S), (36, .bool false), (34, .bool true), (2, .pointer (some ⟨w.heap.size, 0, none⟩)), (3, .pointer (some ⟨w.heap.size + 1, 0, none⟩)), (5, .int .i64 (0))] rfl (by decide) (by decide) (by decide) ha (fun o ho hg => ⟨(or8eqR.wanted hg rfl ha (d := 34) (by simp)), e_call8 (by kernel_rfl) ho rfl (by have q0 := ha.ev (i := 39) (v := .agg #[.int .i64 y, .int .i64 m, .int .i64 d]) (by simp); simp only [List.map_toArray, List.map_cons, List.map_nil, ev_const, q0])⟩) (by simp) ?_
  refine (text_is E.out.tab HS.out).mono ?_; rintro e w7 ⟨rfl, hb⟩
  replace E := Lib.hid (S8.step E.out hb)
  clear hb
  have hSw := S8.sb E; refine ⟨_, rfl, hSw, ?_⟩; intro a ha
  refine line_still or8eqR 23 23 [] 41 (.bool false) [(36, .bool false), (34, .bool true), (2, .pointer (some ⟨w.heap.size, 0, none⟩)), (3, .pointer (some ⟨w.heap.size + 1, 0, none⟩)), (5, .int .i64 (0))] rfl (by decide) (by decide) (by decide) ha (fun o ho hg => y_of (or8eqR.wanted hg rfl ha (d := 34) (by simp)) (fun wx hS => e_slss8 HLS.out ho (ha.ev (i := 38) (v := .string S) (by simp)) (ha.ev (i := 40) (v := .string S) (by simp)))) (by simp) hSw ?_; intro a ha
  refine line_still or8eqR 24 24 [] 42 (.bool true) [(34, .bool true), (2, .pointer (some ⟨w.heap.size, 0, none⟩)), (3, .pointer (some ⟨w.heap.size + 1, 0, none⟩)), (5, .int .i64 (0))] rfl (by decide) (by decide) (by decide) ha (fun o ho hg => y_of (or8eqR.wanted hg rfl ha (d := 34) (by simp)) (fun wx hS => (e_beq8 ho (ha.ev (i := 36) (v := .bool false) (by simp)) (ha.ev (i := 41) (v := .bool false) (by simp))).trans (by rw [beq_self_eq_true]))) (by simp) hSw ?_; intro a ha
  refine line_still or8eqR 25 25 [] 43 (.bool true) [(2, .pointer (some ⟨w.heap.size, 0, none⟩)), (3, .pointer (some ⟨w.heap.size + 1, 0, none⟩)), (5, .int .i64 (0))] rfl (by decide) (by decide) (by decide) ha (fun o ho hg => y_of (wanted_none hg) (fun wx hS => e_pick ho (ha.ev (i := 34) (v := .bool true) (by simp)) (ha.ev (i := 42) (v := .bool true) (by simp)) rfl)) (by simp) hSw ?_; intro a ha
  refine line_still or8eqR 26 26 [] 44 (.bool true) [(2, .pointer (some ⟨w.heap.size, 0, none⟩)), (3, .pointer (some ⟨w.heap.size + 1, 0, none⟩)), (5, .int .i64 (0))] rfl (by decide) (by decide) (by decide) ha (fun o ho hg => y_of (wanted_none hg) (fun wx hS => e_move (.inl ho) (ha.ev (i := 43) (v := .bool true) (by simp)))) (by simp) hSw ?_; intro a ha
  refine line_still or8eqR 27 27 [] 45 (.int .i64 (0)) [(44, .bool true), (2, .pointer (some ⟨w.heap.size, 0, none⟩)), (3, .pointer (some ⟨w.heap.size + 1, 0, none⟩))] rfl (by decide) (by decide) (by decide) ha (fun o ho hg => y_of (or8eqR.wanted hg rfl ha (d := 44) (by simp)) (fun wx hS => e_move (.inl ho) (ha.ev (i := 5) (v := .int .i64 (0)) (by simp)))) (by simp) hSw ?_; intro a ha
  refine line_still or8eqR 28 28 [] 46 (.agg #[.int .i64 y, .int .i64 m, .int .i64 d]) [(45, .int .i64 (0)), (44, .bool true), (2, .pointer (some ⟨w.heap.size, 0, none⟩))] rfl (by decide) (by decide) (by decide) ha (fun o ho hg => y_of (or8eqR.wanted hg rfl ha (d := 44) (by simp)) (fun wx hS => e_load8 ho (ha.ev (i := 3) (v := .pointer (some ⟨w.heap.size + 1, 0, none⟩)) (by simp)) (hS.at_ (g := w.heap.size + 1) (x0 := .int .i64 y) (x1 := .int .i64 m) (x2 := .int .i64 d) (by simp)))) (by simp) hSw ?_; intro a ha
  refine line_still or8eqR 29 29 [] 47 (.agg #[.int .i64 y, .int .i64 m, .int .i64 d]) [(46, .agg #[.int .i64 y, .int .i64 m, .int .i64 d]), (45, .int .i64 (0)), (44, .bool true)] rfl (by decide) (by decide) (by decide) ha (fun o ho hg => y_of (or8eqR.wanted hg rfl ha (d := 44) (by simp)) (fun wx hS => e_load8 ho (ha.ev (i := 2) (v := .pointer (some ⟨w.heap.size, 0, none⟩)) (by simp)) (hS.at_ (g := w.heap.size) (x0 := .int .i64 y) (x1 := .int .i64 m) (x2 := .int .i64 d) (by simp)))) (by simp) hSw ?_; intro a ha
  refine line_call or8eqR 30 30 [] 48 (args := #[.agg #[.int .i64 y, .int .i64 m, .int .i64 d], .agg #[.int .i64 y, .int .i64 m, .int .i64 d]]) [(45, .int .i64 (0)), (44, .bool true)] rfl (by decide) (by decide) (by decide) ha (fun o ho hg => ⟨(or8eqR.wanted hg rfl ha (d := 44) (by simp)), e_call8 (by kernel_rfl) ho rfl (by have q0 := ha.ev (i := 46) (v := .agg #[.int .i64 y, .int .i64 m, .int .i64 d]) (by simp); have q1 := ha.ev (i := 47) (v := .agg #[.int .i64 y, .int .i64 m, .int .i64 d]) (by simp); simp only [List.map_toArray, List.map_cons, List.map_nil, ev_const, q0, q1])⟩) (by simp) ?_
  refine (cmp_is E.out.tab HTU.out).mono ?_; rintro e w8 ⟨rfl, hb⟩
  replace E := Lib.hid (S8.step E.out hb)
  clear hb
  have hSw := S8.sb E; refine ⟨_, rfl, hSw, ?_⟩; intro a ha
  refine line_still or8eqR 31 31 [] 49 (.int .i64 (0)) [(45, .int .i64 (0)), (44, .bool true)] rfl (by decide) (by decide) (by decide) ha (fun o ho hg => y_of (or8eqR.wanted hg rfl ha (d := 44) (by simp)) (fun wx hS => e_neg8 (by decide) (by decide) ho (ha.ev (i := 48) (v := .int .i64 (0)) (by simp)))) (by simp) hSw ?_; intro a ha
  refine line_still or8eqR 32 32 [] 50 (.bool true) [(44, .bool true)] rfl (by decide) (by decide) (by decide) ha (fun o ho hg => y_of (or8eqR.wanted hg rfl ha (d := 44) (by simp)) (fun wx hS => (e_eql8 ho (ha.ev (i := 45) (v := .int .i64 (0)) (by simp)) (ha.ev (i := 49) (v := .int .i64 (0)) (by simp))).trans (by rw [beq_self_eq_true]))) (by simp) hSw ?_; intro a ha
  refine line_still or8eqR 33 33 [] 51 (.bool true) [] rfl (by decide) (by decide) (by decide) ha (fun o ho hg => y_of (wanted_none hg) (fun wx hS => e_pick ho (ha.ev (i := 44) (v := .bool true) (by simp)) (ha.ev (i := 50) (v := .bool true) (by simp)) rfl)) (by simp) hSw ?_; intro a ha
  refine line_still or8eqR 34 34 [] 52 (.bool true) [] rfl (by decide) (by decide) (by decide) ha (fun o ho hg => y_of (wanted_none hg) (fun wx hS => e_move (.inl ho) (ha.ev (i := 51) (v := .bool true) (by simp)))) (by simp) hSw ?_; intro a ha
  refine line_call or8eqR 35 35 [] 53 (args := #[]) [(52, .bool true)] rfl (by decide) (by decide) (by decide) ha (fun o ho hg => ⟨(or8eqR.wanted hg rfl ha (d := 52) (by simp)), e_call8 (by kernel_rfl) ho rfl (by simp only [List.map_toArray, List.map_cons, List.map_nil, ev_const])⟩) (by simp) ?_
  refine (awake8 _ E.out.tab).mono ?_; rintro e w9 ⟨rfl, hb⟩
  replace E := Lib.hid (S8.step E.out hb)
  clear hb
  have hSw := S8.sb E; refine ⟨_, rfl, hSw, ?_⟩; intro a ha
  refine line_still or8eqR 36 36 [] 54 (.bool true) [] rfl (by decide) (by decide) (by decide) ha (fun o ho hg => y_of (wanted_none hg) (fun wx hS => e_pick ho (ha.ev (i := 52) (v := .bool true) (by simp)) (ha.ev (i := 53) (v := .bool true) (by simp)) rfl)) (by simp) hSw ?_; intro a ha
  refine line_still or8eqR 37 37 [] 4 (.bool true) [] rfl (by decide) (by decide) (by decide) ha (fun o ho hg => y_of (wanted_none hg) (fun wx hS => e_move (.inr ho) (ha.ev (i := 54) (v := .bool true) (by simp)))) (by simp) hSw ?_; intro a ha
  refine line_end or8eqR rfl ?_
  simp only [Exit.then]
  refine hK _ _ ?_
  go_wp2
  exact bodyPost_ret (v := .bool true) (by have := ha.2.2 (4, .bool true) (by simp); simp [results, Tryd.results5, go_sem, Array.getD_eq_getD_getElem?, this]) ha.2.1 ⟨rfl, E.out.bel⟩

def or8gtT : List Row3 := [(some 18, none, .move (.tmp 5)), (some 19, none, .binOp .lss 3 (.tmp 18) (.const (.int .i64 0)) 3), (some 20, none, .load 23 (.tmp 2)), (some 21, none, .call { callee := .value (.func 23), args := #[.tmp 20], argTypes := #[23] }), (some 22, none, .load 23 (.tmp 3)), (some 23, none, .call { callee := .value (.func 23), args := #[.tmp 22], argTypes := #[23] }), (some 24, none, .binOp .lss 3 (.tmp 21) (.tmp 23) 3), (some 25, none, .binOp .eql 4 (.tmp 19) (.tmp 24) 4), (some 26, none, .move (.tmp 25)), (some 27, some (8, true), .move (.tmp 5)), (some 28, some (8, true), .binOp .eql 3 (.tmp 27) (.const (.int .i64 0)) 3), (some 29, some (8, true), .load 23 (.tmp 2)), (some 30, some (8, true), .load 23 (.tmp 3)), (some 31, some (8, true), .binOp .eql 23 (.tmp 29) (.tmp 30) 23), (some 32, some (8, true), .binOp .eql 4 (.tmp 28) (.tmp 31) 4), (some 33, none, .pick (.tmp 26) (.tmp 32) (.const (.bool false))), (some 34, none, .move (.tmp 33)), (some 35, some (16, true), .move (.tmp 5)), (some 36, some (16, true), .binOp .lss 3 (.tmp 35) (.const (.int .i64 0)) 3), (some 37, some (16, true), .load 23 (.tmp 2)), (some 38, some (16, true), .call { callee := .value (.func 25), args := #[.tmp 37], argTypes := #[23] }), (some 39, some (16, true), .load 23 (.tmp 3)), (some 40, some (16, true), .call { callee := .value (.func 25), args := #[.tmp 39], argTypes := #[23] }), (some 41, some (16, true), .binOp .lss 9 (.tmp 38) (.tmp 40) 9), (some 42, some (16, true), .binOp .eql 4 (.tmp 36) (.tmp 41) 4), (some 43, none, .pick (.tmp 34) (.tmp 42) (.const (.bool false))), (some 44, none, .move (.tmp 43)), (some 45, some (26, true), .move (.tmp 5)), (some 46, some (26, true), .load 23 (.tmp 3)), (some 47, some (26, true), .load 23 (.tmp 2)), (some 48, some (26, true), .call { callee := .value (.func 21), args := #[.tmp 46, .tmp 47], argTypes := #[23, 23] }), (some 49, some (26, true), .unOp .neg 3 (.tmp 48)), (some 50, some (26, true), .binOp .eql 3 (.tmp 45) (.tmp 49) 3), (some 51, none, .pick (.tmp 44) (.tmp 50) (.const (.bool false))), (some 52, none, .move (.tmp 51)), (some 53, some (34, true), .call { callee := .value (.func 8), args := #[], argTypes := #[] }), (some 54, none, .pick (.tmp 52) (.tmp 53) (.const (.bool false))), (some 4, none, .assign (.tmp 54))]
set_option maxRecDepth 100000 in
theorem or8gtRow : (opsAt Tryd.prog 5 4).toList.map row3 = or8gtT := by kernel_rfl
theorem or8gtSel : Region.noSelect (opsAt Tryd.prog 5 4) = true := by kernel_rfl
theorem or8gtDone : Region.ready .any (opsAt Tryd.prog 5 4) (upto (opsAt Tryd.prog 5 4).size (opsAt Tryd.prog 5 4).size []) = [] := by kernel_rfl
theorem or8gtstill0 : [(0, [], 0), (1, [], 1), (2, [], 2), (3, [], 4), (6, [], 6), (7, [], 7), (8, [], 8), (9, [], 9), (10, [], 10), (11, [], 11)].all (stillB (opsAt Tryd.prog 5 4)) = true := by kernel_rfl
theorem or8gtstill1 : [(12, [], 12), (13, [], 13), (14, [], 14), (15, [], 15), (16, [], 16), (17, [], 17), (18, [], 18), (19, [], 19), (20, [], 21), (23, [], 23)].all (stillB (opsAt Tryd.prog 5 4)) = true := by kernel_rfl
theorem or8gtstill2 : [(24, [], 24), (25, [], 25), (26, [], 26), (27, [], 27), (28, [], 28), (29, [], 29), (31, [], 31), (32, [], 32), (33, [], 33), (34, [], 34)].all (stillB (opsAt Tryd.prog 5 4)) = true := by kernel_rfl
theorem or8gtstill3 : [(36, [], 36), (37, [], 37)].all (stillB (opsAt Tryd.prog 5 4)) = true := by kernel_rfl
theorem or8gtsole0 : [(3, [4], 3), (5, [], 5), (20, [21], 20), (22, [], 22), (30, [], 30), (35, [], 35)].all (soleB (opsAt Tryd.prog 5 4)) = true := by kernel_rfl
theorem or8gtR : Reg (opsAt Tryd.prog 5 4) or8gtT [(0, [], 0), (1, [], 1), (2, [], 2), (3, [], 4), (6, [], 6), (7, [], 7), (8, [], 8), (9, [], 9), (10, [], 10), (11, [], 11), (12, [], 12), (13, [], 13), (14, [], 14), (15, [], 15), (16, [], 16), (17, [], 17), (18, [], 18), (19, [], 19), (20, [], 21), (23, [], 23), (24, [], 24), (25, [], 25), (26, [], 26), (27, [], 27), (28, [], 28), (29, [], 29), (31, [], 31), (32, [], 32), (33, [], 33), (34, [], 34), (36, [], 36), (37, [], 37)] [(3, [4], 3), (5, [], 5), (20, [21], 20), (22, [], 22), (30, [], 30), (35, [], 35)] := ⟨or8gtRow, or8gtSel, (all_parts or8gtstill0 (all_parts or8gtstill1 (all_parts or8gtstill2 (all_parts or8gtstill3 (fun k h => by cases h))))), (all_parts or8gtsole0 (fun k h => by cases h)), or8gtDone⟩

set_option maxHeartbeats 4000000 in
set_option maxRecDepth 100000 in
theorem order8_gt (y m d y' m' d' : Int) (hr : ok8 y m d = true) (hr' : ok8 y' m' d' = true) (hc : cmp8 y m d y' m' d' = 1)  (w : World) (hT : Tabs w) : Calls Tryd.prog 5 #[.agg #[.int .i64 y, .int .i64 m, .int .i64 d], .agg #[.int .i64 y', .int .i64 m', .int .i64 d']] w (Ret8 w (.bool true)) := by
  have HT := Lib.hid hT
  clear hT
  obtain ⟨na, hna⟩ : ∃ n, days8 y m d = n := ⟨_, rfl⟩
  obtain ⟨nb, hnb⟩ : ∃ n, days8 y' m' d' = n := ⟨_, rfl⟩
  obtain ⟨S, hS⟩ : ∃ S, text8 y m d = S := ⟨_, rfl⟩
  obtain ⟨S', hS'⟩ : ∃ S, text8 y' m' d' = S := ⟨_, rfl⟩
  have HLN : Hid (decide (na < nb) = false) := by show _ = _; rw [← hna, ← hnb, days8_ok hr, days8_ok hr']; have := num8_lt hr' hr (by rw [cmp8_turn, hc]); exact decide_eq_false (by omega)
  have HLS : Hid (Op.bytesLess S.toList S'.toList = false) := by show _ = _; rw [← hS, ← hS', less_day hr hr', hc]; rfl
  have HNE : Hid ((y == y' && (m == m' && d == d')) = false) := by
    show _ = _
    rw [Bool.eq_false_iff]; intro h; simp at h; obtain ⟨rfl, rfl, rfl⟩ := h; rw [cmp8_same] at hc; omega
  have HTU : Hid (cmp8 y' m' d' y m d = -1) := by show _ = _; rw [cmp8_turn, hc] <;> rfl
  have HR := Lib.hid hr
  have HR' := Lib.hid hr'
  have HC := Lib.hid hc
  have HB := Lib.hid hnb
  have HS' := Lib.hid hS'
  have HA := Lib.hid hna
  have HS := Lib.hid hS
  clear hr hna hS hr' hc hnb hS'
  go_enter Tryd.func5, Tryd.ntmps5
  go_wp2_with fail
  generalize hW : World.alloc (World.alloc w _) _ = W0
  have E0 : S8 w W0 [(w.heap.size + 1, .int .i64 y', .int .i64 m', .int .i64 d'), (w.heap.size, .int .i64 y, .int .i64 m, .int .i64 d)] := by rw [← hW]; exact (((S8.start w HT.out).lay rfl).lay (by simp))
  have E := Lib.hid E0
  clear hW E0
  obtain ⟨p0, p1, p2, pf0, pf1, pf2, plt⟩ := (S8.at_ (x0 := .int .i64 y') (x1 := .int .i64 m') (x2 := .int .i64 d') (g := w.heap.size + 1) E (by simp))
  obtain ⟨q0, q1, q2, qf0, qf1, qf2, qlt⟩ := (S8.at_ (x0 := .int .i64 y) (x1 := .int .i64 m) (x2 := .int .i64 d) (g := w.heap.size) E (by simp))
  go_wp2_with fail
  refine (right_is E.out.tab HR.out).mono ?_; rintro e w1 ⟨rfl, hb⟩; replace E := Lib.hid (S8.step E.out hb); clear hb
  clear p0 p1 p2 pf0 pf1 pf2 plt q0 q1 q2 qf0 qf1 qf2 qlt
  obtain ⟨p0, p1, p2, pf0, pf1, pf2, plt⟩ := (S8.at_ (x0 := .int .i64 y') (x1 := .int .i64 m') (x2 := .int .i64 d') (g := w.heap.size + 1) E (by simp))
  obtain ⟨q0, q1, q2, qf0, qf1, qf2, qlt⟩ := (S8.at_ (x0 := .int .i64 y) (x1 := .int .i64 m) (x2 := .int .i64 d) (g := w.heap.size) E (by simp))
  go_wp2_with fail
  refine (right_is E.out.tab HR'.out).mono ?_; rintro e w2 ⟨rfl, hb⟩; replace E := Lib.hid (S8.step E.out hb); clear hb
  clear p0 p1 p2 pf0 pf1 pf2 plt q0 q1 q2 qf0 qf1 qf2 qlt
  obtain ⟨p0, p1, p2, pf0, pf1, pf2, plt⟩ := (S8.at_ (x0 := .int .i64 y') (x1 := .int .i64 m') (x2 := .int .i64 d') (g := w.heap.size + 1) E (by simp))
  obtain ⟨q0, q1, q2, qf0, qf1, qf2, qlt⟩ := (S8.at_ (x0 := .int .i64 y) (x1 := .int .i64 m) (x2 := .int .i64 d) (g := w.heap.size) E (by simp))
  go_wp2_with fail
  refine (cmp_is E.out.tab HC.out).mono ?_; rintro e w3 ⟨rfl, hb⟩; replace E := Lib.hid (S8.step E.out hb); clear hb
  clear p0 p1 p2 pf0 pf1 pf2 plt q0 q1 q2 qf0 qf1 qf2 qlt
  go_wp2_with fail
  replace E := Lib.hid (S8.drew E.out)
  rename_i K hK
  refine line_start (ops := opsAt Tryd.prog 5 4) (S := SB8 [(w.heap.size + 1, .int .i64 y', .int .i64 m', .int .i64 d'), (w.heap.size, .int .i64 y, .int .i64 m, .int .i64 d)]) (by kernel_rfl) (by kernel_rfl) (S8.sb E) ?_
  have hSw := S8.sb E
  generalize hA : Act.mk _ _ = a
  have ha : Fr 55 a [(2, .pointer (some ⟨w.heap.size, 0, none⟩)), (3, .pointer (some ⟨w.heap.size + 1, 0, none⟩)), (5, .int .i64 (1))] := by rw [← hA]; exact ⟨rfl, rfl, by intro q hq; simp at hq; rcases hq with rfl | rfl | rfl <;> rfl⟩
  clear hA
  refine line_still or8gtR 0 0 [] 18 (.int .i64 (1)) [(2, .pointer (some ⟨w.heap.size, 0, none⟩)), (3, .pointer (some ⟨w.heap.size + 1, 0, none⟩)), (5, .int .i64 (1))] rfl (by decide) (by decide) (by decide) ha (fun o ho hg => y_of (wanted_none hg) (fun wx hS => e_move (.inl ho) (ha.ev (i := 5) (v := .int .i64 (1)) (by simp)))) (by simp) hSw ?_; intro a ha
  refine line_still or8gtR 1 1 [] 19 (.bool false) [(2, .pointer (some ⟨w.heap.size, 0, none⟩)), (3, .pointer (some ⟨w.heap.size + 1, 0, none⟩)), (5, .int .i64 (1))] rfl (by decide) (by decide) (by decide) ha (fun o ho hg => y_of (wanted_none hg) (fun wx hS => e_lss8 ho (ha.ev (i := 18) (v := .int .i64 (1)) (by simp)) rfl)) (by simp) hSw ?_; intro a ha
  refine line_still or8gtR 2 2 [] 20 (.agg #[.int .i64 y, .int .i64 m, .int .i64 d]) [(19, .bool false), (2, .pointer (some ⟨w.heap.size, 0, none⟩)), (3, .pointer (some ⟨w.heap.size + 1, 0, none⟩)), (5, .int .i64 (1))] rfl (by decide) (by decide) (by decide) ha (fun o ho hg => y_of (wanted_none hg) (fun wx hS => e_load8 ho (ha.ev (i := 2) (v := .pointer (some ⟨w.heap.size, 0, none⟩)) (by simp)) (hS.at_ (g := w.heap.size) (x0 := .int .i64 y) (x1 := .int .i64 m) (x2 := .int .i64 d) (by simp)))) (by simp) hSw ?_; intro a ha
  refine line_ahead or8gtR 3 3 [] 4 22 (.agg #[.int .i64 y', .int .i64 m', .int .i64 d']) [(20, .agg #[.int .i64 y, .int .i64 m, .int .i64 d]), (19, .bool false), (2, .pointer (some ⟨w.heap.size, 0, none⟩)), (3, .pointer (some ⟨w.heap.size + 1, 0, none⟩)), (5, .int .i64 (1))] rfl (by decide) (by decide) (by decide) ha (fun o ho hg => y_of (wanted_none hg) (fun wx hS => e_load8 ho (ha.ev (i := 3) (v := .pointer (some ⟨w.heap.size + 1, 0, none⟩)) (by simp)) (hS.at_ (g := w.heap.size + 1) (x0 := .int .i64 y') (x1 := .int .i64 m') (x2 := .int .i64 d') (by simp)))) (by simp) hSw ?_; intro a ha
  refine line_call or8gtR 4 3 [4] 21 (args := #[.agg #[.int .i64 y, .int .i64 m, .int .i64 d]]) [(22, .agg #[.int .i64 y', .int .i64 m', .int .i64 d']), (19, .bool false), (2, .pointer (some ⟨w.heap.size, 0, none⟩)), (3, .pointer (some ⟨w.heap.size + 1, 0, none⟩)), (5, .int .i64 (1))] rfl (by decide) (by decide) (by decide) ha (fun o ho hg => ⟨(wanted_none hg), e_call8 (by kernel_rfl) ho rfl (by have q0 := ha.ev (i := 20) (v := .agg #[.int .i64 y, .int .i64 m, .int .i64 d]) (by simp); simp only [List.map_toArray, List.map_cons, List.map_nil, ev_const, q0])⟩) (by simp) ?_
  refine (days_is E.out.tab HA.out).mono ?_; rintro e w4 ⟨rfl, hb⟩
  replace E := Lib.hid (S8.step E.out hb)
  clear hb
  have hSw := S8.sb E; refine ⟨_, rfl, hSw, ?_⟩; intro a ha
  refine line_skip [] (by intro i; simp <;> omega) ?_
  refine line_call or8gtR 5 5 [] 23 (args := #[.agg #[.int .i64 y', .int .i64 m', .int .i64 d']]) [(21, .int .i64 na), (19, .bool false), (2, .pointer (some ⟨w.heap.size, 0, none⟩)), (3, .pointer (some ⟨w.heap.size + 1, 0, none⟩)), (5, .int .i64 (1))] rfl (by decide) (by decide) (by decide) ha (fun o ho hg => ⟨(wanted_none hg), e_call8 (by kernel_rfl) ho rfl (by have q0 := ha.ev (i := 22) (v := .agg #[.int .i64 y', .int .i64 m', .int .i64 d']) (by simp); simp only [List.map_toArray, List.map_cons, List.map_nil, ev_const, q0])⟩) (by simp) ?_
  refine (days_is E.out.tab HB.out).mono ?_; rintro e w5 ⟨rfl, hb⟩
  replace E := Lib.hid (S8.step E.out hb)
  clear hb
  have hSw := S8.sb E; refine ⟨_, rfl, hSw, ?_⟩; intro a ha
  refine line_still or8gtR 6 6 [] 24 (.bool false) [(19, .bool false), (2, .pointer (some ⟨w.heap.size, 0, none⟩)), (3, .pointer (some ⟨w.heap.size + 1, 0, none⟩)), (5, .int .i64 (1))] rfl (by decide) (by decide) (by decide) ha (fun o ho hg => y_of (wanted_none hg) (fun wx hS => (e_lss8 ho (ha.ev (i := 21) (v := .int .i64 na) (by simp)) (ha.ev (i := 23) (v := .int .i64 nb) (by simp))).trans (by rw [HLN.out]))) (by simp) hSw ?_; intro a ha
  refine line_still or8gtR 7 7 [] 25 (.bool true) [(2, .pointer (some ⟨w.heap.size, 0, none⟩)), (3, .pointer (some ⟨w.heap.size + 1, 0, none⟩)), (5, .int .i64 (1))] rfl (by decide) (by decide) (by decide) ha (fun o ho hg => y_of (wanted_none hg) (fun wx hS => (e_beq8 ho (ha.ev (i := 19) (v := .bool false) (by simp)) (ha.ev (i := 24) (v := .bool false) (by simp))).trans (by rw [beq_self_eq_true]))) (by simp) hSw ?_; intro a ha
  refine line_still or8gtR 8 8 [] 26 (.bool true) [(2, .pointer (some ⟨w.heap.size, 0, none⟩)), (3, .pointer (some ⟨w.heap.size + 1, 0, none⟩)), (5, .int .i64 (1))] rfl (by decide) (by decide) (by decide) ha (fun o ho hg => y_of (wanted_none hg) (fun wx hS => e_move (.inl ho) (ha.ev (i := 25) (v := .bool true) (by simp)))) (by simp) hSw ?_; intro a ha
  refine line_still or8gtR 9 9 [] 27 (.int .i64 (1)) [(26, .bool true), (2, .pointer (some ⟨w.heap.size, 0, none⟩)), (3, .pointer (some ⟨w.heap.size + 1, 0, none⟩)), (5, .int .i64 (1))] rfl (by decide) (by decide) (by decide) ha (fun o ho hg => y_of (or8gtR.wanted hg rfl ha (d := 26) (by simp)) (fun wx hS => e_move (.inl ho) (ha.ev (i := 5) (v := .int .i64 (1)) (by simp)))) (by simp) hSw ?_; intro a ha
  refine line_still or8gtR 10 10 [] 28 (.bool false) [(26, .bool true), (2, .pointer (some ⟨w.heap.size, 0, none⟩)), (3, .pointer (some ⟨w.heap.size + 1, 0, none⟩)), (5, .int .i64 (1))] rfl (by decide) (by decide) (by decide) ha (fun o ho hg => y_of (or8gtR.wanted hg rfl ha (d := 26) (by simp)) (fun wx hS => e_eql8 ho (ha.ev (i := 27) (v := .int .i64 (1)) (by simp)) rfl)) (by simp) hSw ?_; intro a ha
  refine line_still or8gtR 11 11 [] 29 (.agg #[.int .i64 y, .int .i64 m, .int .i64 d]) [(28, .bool false), (26, .bool true), (2, .pointer (some ⟨w.heap.size, 0, none⟩)), (3, .pointer (some ⟨w.heap.size + 1, 0, none⟩)), (5, .int .i64 (1))] rfl (by decide) (by decide) (by decide) ha (fun o ho hg => y_of (or8gtR.wanted hg rfl ha (d := 26) (by simp)) (fun wx hS => e_load8 ho (ha.ev (i := 2) (v := .pointer (some ⟨w.heap.size, 0, none⟩)) (by simp)) (hS.at_ (g := w.heap.size) (x0 := .int .i64 y) (x1 := .int .i64 m) (x2 := .int .i64 d) (by simp)))) (by simp) hSw ?_; intro a ha
  refine line_still or8gtR 12 12 [] 30 (.agg #[.int .i64 y', .int .i64 m', .int .i64 d']) [(29, .agg #[.int .i64 y, .int .i64 m, .int .i64 d]), (28, .bool false), (26, .bool true), (2, .pointer (some ⟨w.heap.size, 0, none⟩)), (3, .pointer (some ⟨w.heap.size + 1, 0, none⟩)), (5, .int .i64 (1))] rfl (by decide) (by decide) (by decide) ha (fun o ho hg => y_of (or8gtR.wanted hg rfl ha (d := 26) (by simp)) (fun wx hS => e_load8 ho (ha.ev (i := 3) (v := .pointer (some ⟨w.heap.size + 1, 0, none⟩)) (by simp)) (hS.at_ (g := w.heap.size + 1) (x0 := .int .i64 y') (x1 := .int .i64 m') (x2 := .int .i64 d') (by simp)))) (by simp) hSw ?_; intro a ha
  refine line_still or8gtR 13 13 [] 31 (.bool false) [(28, .bool false), (26, .bool true), (2, .pointer (some ⟨w.heap.size, 0, none⟩)), (3, .pointer (some ⟨w.heap.size + 1, 0, none⟩)), (5, .int .i64 (1))] rfl (by decide) (by decide) (by decide) ha (fun o ho hg => y_of (or8gtR.wanted hg rfl ha (d := 26) (by simp)) (fun wx hS => e_dif8 HNE.out ho (ha.ev (i := 29) (v := .agg #[.int .i64 y, .int .i64 m, .int .i64 d]) (by simp)) (ha.ev (i := 30) (v := .agg #[.int .i64 y', .int .i64 m', .int .i64 d']) (by simp)))) (by simp) hSw ?_; intro a ha
  refine line_still or8gtR 14 14 [] 32 (.bool true) [(26, .bool true), (2, .pointer (some ⟨w.heap.size, 0, none⟩)), (3, .pointer (some ⟨w.heap.size + 1, 0, none⟩)), (5, .int .i64 (1))] rfl (by decide) (by decide) (by decide) ha (fun o ho hg => y_of (or8gtR.wanted hg rfl ha (d := 26) (by simp)) (fun wx hS => (e_beq8 ho (ha.ev (i := 28) (v := .bool false) (by simp)) (ha.ev (i := 31) (v := .bool false) (by simp))).trans (by rw [beq_self_eq_true]))) (by simp) hSw ?_; intro a ha
  refine line_still or8gtR 15 15 [] 33 (.bool true) [(2, .pointer (some ⟨w.heap.size, 0, none⟩)), (3, .pointer (some ⟨w.heap.size + 1, 0, none⟩)), (5, .int .i64 (1))] rfl (by decide) (by decide) (by decide) ha (fun o ho hg => y_of (wanted_none hg) (fun wx hS => e_pick ho (ha.ev (i := 26) (v := .bool true) (by simp)) (ha.ev (i := 32) (v := .bool true) (by simp)) rfl)) (by simp) hSw ?_; intro a ha
  refine line_still or8gtR 16 16 [] 34 (.bool true) [(2, .pointer (some ⟨w.heap.size, 0, none⟩)), (3, .pointer (some ⟨w.heap.size + 1, 0, none⟩)), (5, .int .i64 (1))] rfl (by decide) (by decide) (by decide) ha (fun o ho hg => y_of (wanted_none hg) (fun wx hS => e_move (.inl ho) (ha.ev (i := 33) (v := .bool true) (by simp)))) (by simp) hSw ?_; intro a ha
  refine line_still or8gtR 17 17 [] 35 (.int .i64 (1)) [(34, .bool true), (2, .pointer (some ⟨w.heap.size, 0, none⟩)), (3, .pointer (some ⟨w.heap.size + 1, 0, none⟩)), (5, .int .i64 (1))] rfl (by decide) (by decide) (by decide) ha (fun o ho hg => y_of (or8gtR.wanted hg rfl ha (d := 34) (by simp)) (fun wx hS => e_move (.inl ho) (ha.ev (i := 5) (v := .int .i64 (1)) (by simp)))) (by simp) hSw ?_; intro a ha
  refine line_still or8gtR 18 18 [] 36 (.bool false) [(34, .bool true), (2, .pointer (some ⟨w.heap.size, 0, none⟩)), (3, .pointer (some ⟨w.heap.size + 1, 0, none⟩)), (5, .int .i64 (1))] rfl (by decide) (by decide) (by decide) ha (fun o ho hg => y_of (or8gtR.wanted hg rfl ha (d := 34) (by simp)) (fun wx hS => e_lss8 ho (ha.ev (i := 35) (v := .int .i64 (1)) (by simp)) rfl)) (by simp) hSw ?_; intro a ha
  refine line_still or8gtR 19 19 [] 37 (.agg #[.int .i64 y, .int .i64 m, .int .i64 d]) [(36, .bool false), (34, .bool true), (2, .pointer (some ⟨w.heap.size, 0, none⟩)), (3, .pointer (some ⟨w.heap.size + 1, 0, none⟩)), (5, .int .i64 (1))] rfl (by decide) (by decide) (by decide) ha (fun o ho hg => y_of (or8gtR.wanted hg rfl ha (d := 34) (by simp)) (fun wx hS => e_load8 ho (ha.ev (i := 2) (v := .pointer (some ⟨w.heap.size, 0, none⟩)) (by simp)) (hS.at_ (g := w.heap.size) (x0 := .int .i64 y) (x1 := .int .i64 m) (x2 := .int .i64 d) (by simp)))) (by simp) hSw ?_; intro a ha
  refine line_ahead or8gtR 20 20 [] 21 39 (.agg #[.int .i64 y', .int .i64 m', .int .i64 d']) [(37, .agg #[.int .i64 y, .int .i64 m, .int .i64 d]), (36, .bool false), (34, .bool true), (2, .pointer (some ⟨w.heap.size, 0, none⟩)), (3, .pointer (some ⟨w.heap.size + 1, 0, none⟩)), (5, .int .i64 (1))] rfl (by decide) (by decide) (by decide) ha (fun o ho hg => y_of (or8gtR.wanted hg rfl ha (d := 34) (by simp)) (fun wx hS => e_load8 ho (ha.ev (i := 3) (v := .pointer (some ⟨w.heap.size + 1, 0, none⟩)) (by simp)) (hS.at_ (g := w.heap.size + 1) (x0 := .int .i64 y') (x1 := .int .i64 m') (x2 := .int .i64 d') (by simp)))) (by simp) hSw ?_; intro a ha
  refine line_call or8gtR 21 20 [21] 38 (args := #[.agg #[.int .i64 y, .int .i64 m, .int .i64 d]]) [(39, .agg #[.int .i64 y', .int .i64 m', .int .i64 d']), (36, .bool false), (34, .bool true), (2, .pointer (some ⟨w.heap.size, 0, none⟩)), (3, .pointer (some ⟨w.heap.size + 1, 0, none⟩)), (5, .int .i64 (1))] rfl (by decide) (by decide) (by decide) ha (fun o ho hg => ⟨(or8gtR.wanted hg rfl ha (d := 34) (by simp)), e_call8 (by kernel_rfl) ho rfl (by have q0 := ha.ev (i := 37) (v := .agg #[.int .i64 y, .int .i64 m, .int .i64 d]) (by simp); simp only [List.map_toArray, List.map_cons, List.map_nil, ev_const, q0])⟩) (by simp) ?_
  refine (text_is E.out.tab HS.out).mono ?_; rintro e w6 ⟨rfl, hb⟩
  replace E := Lib.hid (S8.step E.out hb)
  clear hb
  have hSw := S8.sb E; refine ⟨_, rfl, hSw, ?_⟩; intro a ha
  refine line_skip [] (by intro i; simp <;> omega) ?_
  refine line_call or8gtR 22 22 [] 40 (args := #[.agg #[.int .i64 y', .int .i64 m', .int .i64 d']]) [(38, .string S), (36, .bool false), (34, .bool true), (2, .pointer (some ⟨w.heap.size, 0, none⟩)), (3, .pointer (some ⟨w.heap.size + 1, 0, none⟩)), (5, .int .i64 (1))] rfl (by decide) (by decide) (by decide) ha (fun o ho hg => ⟨(or8gtR.wanted hg rfl ha (d := 34) (by simp)), e_call8 (by kernel_rfl) ho rfl (by have q0 := ha.ev (i := 39) (v := .agg #[.int .i64 y', .int .i64 m', .int .i64 d']) (by simp); simp only [List.map_toArray, List.map_cons, List.map_nil, ev_const, q0])⟩) (by simp) ?_
  refine (text_is E.out.tab HS'.out).mono ?_; rintro e w7 ⟨rfl, hb⟩
  replace E := Lib.hid (S8.step E.out hb)
  clear hb
  have hSw := S8.sb E; refine ⟨_, rfl, hSw, ?_⟩; intro a ha
  refine line_still or8gtR 23 23 [] 41 (.bool false) [(36, .bool false), (34, .bool true), (2, .pointer (some ⟨w.heap.size, 0, none⟩)), (3, .pointer (some ⟨w.heap.size + 1, 0, none⟩)), (5, .int .i64 (1))] rfl (by decide) (by decide) (by decide) ha (fun o ho hg => y_of (or8gtR.wanted hg rfl ha (d := 34) (by simp)) (fun wx hS => e_slss8 HLS.out ho (ha.ev (i := 38) (v := .string S) (by simp)) (ha.ev (i := 40) (v := .string S') (by simp)))) (by simp) hSw ?_; intro a ha
  refine line_still or8gtR 24 24 [] 42 (.bool true) [(34, .bool true), (2, .pointer (some ⟨w.heap.size, 0, none⟩)), (3, .pointer (some ⟨w.heap.size + 1, 0, none⟩)), (5, .int .i64 (1))] rfl (by decide) (by decide) (by decide) ha (fun o ho hg => y_of (or8gtR.wanted hg rfl ha (d := 34) (by simp)) (fun wx hS => (e_beq8 ho (ha.ev (i := 36) (v := .bool false) (by simp)) (ha.ev (i := 41) (v := .bool false) (by simp))).trans (by rw [beq_self_eq_true]))) (by simp) hSw ?_; intro a ha
  refine line_still or8gtR 25 25 [] 43 (.bool true) [(2, .pointer (some ⟨w.heap.size, 0, none⟩)), (3, .pointer (some ⟨w.heap.size + 1, 0, none⟩)), (5, .int .i64 (1))] rfl (by decide) (by decide) (by decide) ha (fun o ho hg => y_of (wanted_none hg) (fun wx hS => e_pick ho (ha.ev (i := 34) (v := .bool true) (by simp)) (ha.ev (i := 42) (v := .bool true) (by simp)) rfl)) (by simp) hSw ?_; intro a ha
  refine line_still or8gtR 26 26 [] 44 (.bool true) [(2, .pointer (some ⟨w.heap.size, 0, none⟩)), (3, .pointer (some ⟨w.heap.size + 1, 0, none⟩)), (5, .int .i64 (1))] rfl (by decide) (by decide) (by decide) ha (fun o ho hg => y_of (wanted_none hg) (fun wx hS => e_move (.inl ho) (ha.ev (i := 43) (v := .bool true) (by simp)))) (by simp) hSw ?_; intro a ha
  refine line_still or8gtR 27 27 [] 45 (.int .i64 (1)) [(44, .bool true), (2, .pointer (some ⟨w.heap.size, 0, none⟩)), (3, .pointer (some ⟨w.heap.size + 1, 0, none⟩))] rfl (by decide) (by decide) (by decide) ha (fun o ho hg => y_of (or8gtR.wanted hg rfl ha (d := 44) (by simp)) (fun wx hS => e_move (.inl ho) (ha.ev (i := 5) (v := .int .i64 (1)) (by simp)))) (by simp) hSw ?_; intro a ha
  refine line_still or8gtR 28 28 [] 46 (.agg #[.int .i64 y', .int .i64 m', .int .i64 d']) [(45, .int .i64 (1)), (44, .bool true), (2, .pointer (some ⟨w.heap.size, 0, none⟩))] rfl (by decide) (by decide) (by decide) ha (fun o ho hg => y_of (or8gtR.wanted hg rfl ha (d := 44) (by simp)) (fun wx hS => e_load8 ho (ha.ev (i := 3) (v := .pointer (some ⟨w.heap.size + 1, 0, none⟩)) (by simp)) (hS.at_ (g := w.heap.size + 1) (x0 := .int .i64 y') (x1 := .int .i64 m') (x2 := .int .i64 d') (by simp)))) (by simp) hSw ?_; intro a ha
  refine line_still or8gtR 29 29 [] 47 (.agg #[.int .i64 y, .int .i64 m, .int .i64 d]) [(46, .agg #[.int .i64 y', .int .i64 m', .int .i64 d']), (45, .int .i64 (1)), (44, .bool true)] rfl (by decide) (by decide) (by decide) ha (fun o ho hg => y_of (or8gtR.wanted hg rfl ha (d := 44) (by simp)) (fun wx hS => e_load8 ho (ha.ev (i := 2) (v := .pointer (some ⟨w.heap.size, 0, none⟩)) (by simp)) (hS.at_ (g := w.heap.size) (x0 := .int .i64 y) (x1 := .int .i64 m) (x2 := .int .i64 d) (by simp)))) (by simp) hSw ?_; intro a ha
  refine line_call or8gtR 30 30 [] 48 (args := #[.agg #[.int .i64 y', .int .i64 m', .int .i64 d'], .agg #[.int .i64 y, .int .i64 m, .int .i64 d]]) [(45, .int .i64 (1)), (44, .bool true)] rfl (by decide) (by decide) (by decide) ha (fun o ho hg => ⟨(or8gtR.wanted hg rfl ha (d := 44) (by simp)), e_call8 (by kernel_rfl) ho rfl (by have q0 := ha.ev (i := 46) (v := .agg #[.int .i64 y', .int .i64 m', .int .i64 d']) (by simp); have q1 := ha.ev (i := 47) (v := .agg #[.int .i64 y, .int .i64 m, .int .i64 d]) (by simp); simp only [List.map_toArray, List.map_cons, List.map_nil, ev_const, q0, q1])⟩) (by simp) ?_
  refine (cmp_is E.out.tab HTU.out).mono ?_; rintro e w8 ⟨rfl, hb⟩
  replace E := Lib.hid (S8.step E.out hb)
  clear hb
  have hSw := S8.sb E; refine ⟨_, rfl, hSw, ?_⟩; intro a ha
  refine line_still or8gtR 31 31 [] 49 (.int .i64 (1)) [(45, .int .i64 (1)), (44, .bool true)] rfl (by decide) (by decide) (by decide) ha (fun o ho hg => y_of (or8gtR.wanted hg rfl ha (d := 44) (by simp)) (fun wx hS => e_neg8 (by decide) (by decide) ho (ha.ev (i := 48) (v := .int .i64 (-1)) (by simp)))) (by simp) hSw ?_; intro a ha
  refine line_still or8gtR 32 32 [] 50 (.bool true) [(44, .bool true)] rfl (by decide) (by decide) (by decide) ha (fun o ho hg => y_of (or8gtR.wanted hg rfl ha (d := 44) (by simp)) (fun wx hS => (e_eql8 ho (ha.ev (i := 45) (v := .int .i64 (1)) (by simp)) (ha.ev (i := 49) (v := .int .i64 (1)) (by simp))).trans (by rw [beq_self_eq_true]))) (by simp) hSw ?_; intro a ha
  refine line_still or8gtR 33 33 [] 51 (.bool true) [] rfl (by decide) (by decide) (by decide) ha (fun o ho hg => y_of (wanted_none hg) (fun wx hS => e_pick ho (ha.ev (i := 44) (v := .bool true) (by simp)) (ha.ev (i := 50) (v := .bool true) (by simp)) rfl)) (by simp) hSw ?_; intro a ha
  refine line_still or8gtR 34 34 [] 52 (.bool true) [] rfl (by decide) (by decide) (by decide) ha (fun o ho hg => y_of (wanted_none hg) (fun wx hS => e_move (.inl ho) (ha.ev (i := 51) (v := .bool true) (by simp)))) (by simp) hSw ?_; intro a ha
  refine line_call or8gtR 35 35 [] 53 (args := #[]) [(52, .bool true)] rfl (by decide) (by decide) (by decide) ha (fun o ho hg => ⟨(or8gtR.wanted hg rfl ha (d := 52) (by simp)), e_call8 (by kernel_rfl) ho rfl (by simp only [List.map_toArray, List.map_cons, List.map_nil, ev_const])⟩) (by simp) ?_
  refine (awake8 _ E.out.tab).mono ?_; rintro e w9 ⟨rfl, hb⟩
  replace E := Lib.hid (S8.step E.out hb)
  clear hb
  have hSw := S8.sb E; refine ⟨_, rfl, hSw, ?_⟩; intro a ha
  refine line_still or8gtR 36 36 [] 54 (.bool true) [] rfl (by decide) (by decide) (by decide) ha (fun o ho hg => y_of (wanted_none hg) (fun wx hS => e_pick ho (ha.ev (i := 52) (v := .bool true) (by simp)) (ha.ev (i := 53) (v := .bool true) (by simp)) rfl)) (by simp) hSw ?_; intro a ha
  refine line_still or8gtR 37 37 [] 4 (.bool true) [] rfl (by decide) (by decide) (by decide) ha (fun o ho hg => y_of (wanted_none hg) (fun wx hS => e_move (.inr ho) (ha.ev (i := 54) (v := .bool true) (by simp)))) (by simp) hSw ?_; intro a ha
  refine line_end or8gtR rfl ?_
  simp only [Exit.then]
  refine hK _ _ ?_
  go_wp2
  exact bodyPost_ret (v := .bool true) (by have := ha.2.2 (4, .bool true) (by simp); simp [results, Tryd.results5, go_sem, Array.getD_eq_getD_getElem?, this]) ha.2.1 ⟨rfl, E.out.bel⟩

theorem order8_law (y m d y' m' d' : Int) (w : World) (hT : Tabs w) : Calls Tryd.prog 5 #[.agg #[.int .i64 y, .int .i64 m, .int .i64 d], .agg #[.int .i64 y', .int .i64 m', .int .i64 d']] w (Ret8 w (.bool true)) := by
  cases hr : ok8 y m d with
  | false => exact order8_no0 y m d y' m' d' hr w hT
  | true =>
    cases hr' : ok8 y' m' d' with
    | false => exact order8_no1 y m d y' m' d' hr hr' w hT
    | true =>
      rcases cmp8_three y m d y' m' d' with hc | hc | hc
      · exact order8_lt y m d y' m' d' hr hr' hc w hT
      · obtain ⟨rfl, rfl, rfl⟩ := (cmp8_zero ..).1 hc
        exact order8_eq y m d hr w hT
      · exact order8_gt y m d y' m' d' hr hr' hc w hT

end Go.Proofs.YtnndamhilbcdfaaDoor
