/-
  DateMonths answers true.
-/
import Derived.Test.YtnndamhilbcdfaaDoorDatP
set_option linter.unusedVariables false
set_option linter.unusedSimpArgs false
namespace Go.Proofs.YtnndamhilbcdfaaDoor
open Go.RowKit

theorem weekday_is {y m d z : Int} {w : World} (hT : Tabs w) (hz : wd8 y m d = z) : Calls Tryd.prog 29 #[.agg #[.int .i64 y, .int .i64 m, .int .i64 d]] w (Ret8 w (.int .i64 z)) := by
  subst hz; exact weekday_any y m d w hT
theorem refweekday_is {y m d z : Int} {w : World} (hT : Tabs w) (hz : wd8 y m d = z) : Calls Tryd.prog 30 #[.agg #[.int .i64 y, .int .i64 m, .int .i64 d]] w (Ret8 w (.int .i64 z)) := by
  subst hz; exact refweekday_any y m d w hT
theorem quarter_is {y m d z : Int} {w : World} (hT : Tabs w) (hz : qu8 y m d = z) : Calls Tryd.prog 35 #[.agg #[.int .i64 y, .int .i64 m, .int .i64 d]] w (Ret8 w (.int .i64 z)) := by
  subst hz; exact quarter_any y m d w hT
theorem refquarter_is {y m d z : Int} {w : World} (hT : Tabs w) (hz : qu8 y m d = z) : Calls Tryd.prog 36 #[.agg #[.int .i64 y, .int .i64 m, .int .i64 d]] w (Ret8 w (.int .i64 z)) := by
  subst hz; exact refquarter_any y m d w hT
theorem refmonths_is {y m d y' m' d' z : Int} {w : World} (hT : Tabs w) (hz : months8 y m d y' m' d' = z) : Calls Tryd.prog 34 #[.agg #[.int .i64 y, .int .i64 m, .int .i64 d], .agg #[.int .i64 y', .int .i64 m', .int .i64 d']] w (Ret8 w (.int .i64 z)) := by
  subst hz; exact refmonths_any y m d y' m' d' w hT
theorem add_eq {y m d k Y M Z e : Int} {w : World} (hT : Tabs w) (h : add8 y m d k = (Y, M, Z)) (he : (if addOk y m d k = true then 0 else 1) = e) : Calls Tryd.prog 27 #[.agg #[.int .i64 y, .int .i64 m, .int .i64 d], .int .i64 k] w (Ret8 w (.tuple #[.agg #[.int .i64 Y, .int .i64 M, .int .i64 Z], .int .i64 e])) := by
  have := add_any y m d k w hT; rw [h, he] at this; exact this
theorem refadd_eq {y m d k Y M Z e : Int} {w : World} (hT : Tabs w) (h : add8 y m d k = (Y, M, Z)) (he : (if addOk y m d k = true then 0 else 1) = e) : Calls Tryd.prog 28 #[.agg #[.int .i64 y, .int .i64 m, .int .i64 d], .int .i64 k] w (Ret8 w (.tuple #[.agg #[.int .i64 Y, .int .i64 M, .int .i64 Z], .int .i64 e])) := by
  have := refadd_any y m d k w hT; rw [h, he] at this; exact this

def mo8AT : List Row3 := [(some 64, none, .load 23 (.tmp 3)), (some 65, none, .call { callee := .value (.func 19), args := #[.tmp 64], argTypes := #[23] }), (some 66, none, .move (.tmp 65)), (some 67, some (2, true), .load 23 (.tmp 4)), (some 68, some (2, true), .call { callee := .value (.func 19), args := #[.tmp 67], argTypes := #[23] }), (some 69, none, .pick (.tmp 66) (.tmp 68) (.const (.bool false))), (some 70, none, .move (.tmp 69)), (some 71, some (6, true), .load 23 (.tmp 4)), (some 72, some (6, true), .call { callee := .value (.func 23), args := #[.tmp 71], argTypes := #[23] }), (some 73, some (6, true), .load 23 (.tmp 3)), (some 74, some (6, true), .call { callee := .value (.func 23), args := #[.tmp 73], argTypes := #[23] }), (some 75, some (6, true), .binOp .sub 3 (.tmp 72) (.tmp 74) 3), (some 76, some (6, true), .binOp .gtr 3 (.tmp 75) (.const (.int .i64 4000)) 3), (some 77, none, .pick (.tmp 70) (.tmp 76) (.const (.bool false)))]
set_option maxRecDepth 100000 in
theorem mo8ARow : (opsAt Tryd.prog 6 5).toList.map row3 = mo8AT := by kernel_rfl
theorem mo8ASel : Region.noSelect (opsAt Tryd.prog 6 5) = true := by kernel_rfl
theorem mo8ADone : Region.ready .any (opsAt Tryd.prog 6 5) (upto (opsAt Tryd.prog 6 5).size (opsAt Tryd.prog 6 5).size []) = [] := by kernel_rfl
theorem mo8Astill0 : [(0, [], 0), (2, [], 2), (3, [], 3), (5, [], 5), (6, [], 6), (7, [], 7), (8, [], 9), (11, [], 11), (12, [], 12), (13, [], 13)].all (stillB (opsAt Tryd.prog 6 5)) = true := by kernel_rfl
theorem mo8Asole0 : [(1, [], 1), (4, [], 4), (8, [9], 8), (10, [], 10)].all (soleB (opsAt Tryd.prog 6 5)) = true := by kernel_rfl
theorem mo8AR : Reg (opsAt Tryd.prog 6 5) mo8AT [(0, [], 0), (2, [], 2), (3, [], 3), (5, [], 5), (6, [], 6), (7, [], 7), (8, [], 9), (11, [], 11), (12, [], 12), (13, [], 13)] [(1, [], 1), (4, [], 4), (8, [9], 8), (10, [], 10)] := ⟨mo8ARow, mo8ASel, (all_parts mo8Astill0 (fun k h => by cases h)), (all_parts mo8Asole0 (fun k h => by cases h)), mo8ADone⟩

set_option maxHeartbeats 4000000 in
set_option maxRecDepth 100000 in
theorem months8_A (y m d y' m' d' n : Int) (hr : ok8 y m d = false)  (w : World) (hT : Tabs w) : Calls Tryd.prog 6 #[.agg #[.int .i64 y, .int .i64 m, .int .i64 d], .agg #[.int .i64 y', .int .i64 m', .int .i64 d'], .int .i64 n] w (Ret8 w (.bool true)) := by
  have HT := Lib.hid hT
  clear hT
  obtain ⟨⟨Y1, M1, Z1⟩, h1⟩ : ∃ q, add8 y m d n = q := ⟨_, rfl⟩
  obtain ⟨e1, h2⟩ : ∃ e : Int, (if addOk y m d n = true then 0 else 1) = e := ⟨_, rfl⟩
  obtain ⟨⟨Y2, M2, Z2⟩, h3⟩ : ∃ q, end8 y m d = q := ⟨_, rfl⟩
  obtain ⟨q1, h4⟩ : ∃ q, wd8 y m d = q := ⟨_, rfl⟩
  obtain ⟨q2, h5⟩ : ∃ q, qu8 y m d = q := ⟨_, rfl⟩
  obtain ⟨q3, h6⟩ : ∃ q, months8 y m d y' m' d' = q := ⟨_, rfl⟩
  have H1 := Lib.hid h1
  have H2 := Lib.hid h2
  have H3 := Lib.hid h3
  have H4 := Lib.hid h4
  have H5 := Lib.hid h5
  have H6 := Lib.hid h6
  have HR := Lib.hid hr
  clear h1 h2 h3 h4 h5 h6 hr
  go_enter Tryd.func6, Tryd.ntmps6
  go_wp2_with fail
  generalize hW : World.alloc (World.alloc w _) _ = W0
  have E0 : S8 w W0 [(w.heap.size + 1, .int .i64 y', .int .i64 m', .int .i64 d'), (w.heap.size, .int .i64 y, .int .i64 m, .int .i64 d)] := by rw [← hW]; exact (((S8.start w HT.out).lay rfl).lay (by simp))
  have E := Lib.hid E0
  clear hW E0
  obtain ⟨q0, q1, q2, qf0, qf1, qf2, qlt⟩ := (S8.at_ (x0 := .int .i64 y) (x1 := .int .i64 m) (x2 := .int .i64 d) (g := w.heap.size) E (by simp))
  go_wp2_with fail
  refine (add_eq E.out.tab H1.out H2.out).mono ?_; rintro e w1 ⟨rfl, hb⟩; replace E := Lib.hid (S8.step E.out hb); clear hb
  clear q0 q1 q2 qf0 qf1 qf2 qlt
  obtain ⟨q0, q1, q2, qf0, qf1, qf2, qlt⟩ := (S8.at_ (x0 := .int .i64 y) (x1 := .int .i64 m) (x2 := .int .i64 d) (g := w.heap.size) E (by simp))
  go_wp2_with fail
  clear q0 q1 q2 qf0 qf1 qf2 qlt
  replace E := Lib.hid (S8.lay (t := 23) (x0 := .int .i64 Y1) (x1 := .int .i64 M1) (x2 := .int .i64 Z1) (g := w1.heap.size) E.out rfl)
  generalize hW2 : World.alloc w1 _ = V1 at E ⊢
  clear hW2
  refine (refadd_eq E.out.tab H1.out H2.out).mono ?_; rintro e w2 ⟨rfl, hb⟩; replace E := Lib.hid (S8.step E.out hb); clear hb
  go_wp2_with fail
  replace E := Lib.hid (S8.lay (t := 23) (x0 := .int .i64 Y1) (x1 := .int .i64 M1) (x2 := .int .i64 Z1) (g := w2.heap.size) E.out rfl)
  generalize hW2 : World.alloc w2 _ = V2 at E ⊢
  clear hW2
  replace E := Lib.hid (S8.drew E.out)
  go_region_held3 (fun v => v.cell? ⟨w2.heap.size, 0, none⟩ = some (.int .i64 Y1) ∧ v.cell? ⟨w2.heap.size, 1, none⟩ = some (.int .i64 M1) ∧ v.cell? ⟨w2.heap.size, 2, none⟩ = some (.int .i64 Z1) ∧ v.cell? ⟨w1.heap.size, 0, none⟩ = some (.int .i64 Y1) ∧ v.cell? ⟨w1.heap.size, 1, none⟩ = some (.int .i64 M1) ∧ v.cell? ⟨w1.heap.size, 2, none⟩ = some (.int .i64 Z1) ∧ v.cell? ⟨w.heap.size + 1, 0, none⟩ = some (.int .i64 y') ∧ v.cell? ⟨w.heap.size + 1, 1, none⟩ = some (.int .i64 m') ∧ v.cell? ⟨w.heap.size + 1, 2, none⟩ = some (.int .i64 d') ∧ v.cell? ⟨w.heap.size, 0, none⟩ = some (.int .i64 y) ∧ v.cell? ⟨w.heap.size, 1, none⟩ = some (.int .i64 m) ∧ v.cell? ⟨w.heap.size, 2, none⟩ = some (.int .i64 d)) (with_reducible exact ⟨(S8.at_ (x0 := .int .i64 Y1) (x1 := .int .i64 M1) (x2 := .int .i64 Z1) (g := w2.heap.size) E (by simp)).c0, (S8.at_ (x0 := .int .i64 Y1) (x1 := .int .i64 M1) (x2 := .int .i64 Z1) (g := w2.heap.size) E (by simp)).c1, (S8.at_ (x0 := .int .i64 Y1) (x1 := .int .i64 M1) (x2 := .int .i64 Z1) (g := w2.heap.size) E (by simp)).c2, (S8.at_ (x0 := .int .i64 Y1) (x1 := .int .i64 M1) (x2 := .int .i64 Z1) (g := w1.heap.size) E (by simp)).c0, (S8.at_ (x0 := .int .i64 Y1) (x1 := .int .i64 M1) (x2 := .int .i64 Z1) (g := w1.heap.size) E (by simp)).c1, (S8.at_ (x0 := .int .i64 Y1) (x1 := .int .i64 M1) (x2 := .int .i64 Z1) (g := w1.heap.size) E (by simp)).c2, (S8.at_ (x0 := .int .i64 y') (x1 := .int .i64 m') (x2 := .int .i64 d') (g := w.heap.size + 1) E (by simp)).c0, (S8.at_ (x0 := .int .i64 y') (x1 := .int .i64 m') (x2 := .int .i64 d') (g := w.heap.size + 1) E (by simp)).c1, (S8.at_ (x0 := .int .i64 y') (x1 := .int .i64 m') (x2 := .int .i64 d') (g := w.heap.size + 1) E (by simp)).c2, (S8.at_ (x0 := .int .i64 y) (x1 := .int .i64 m) (x2 := .int .i64 d) (g := w.heap.size) E (by simp)).c0, (S8.at_ (x0 := .int .i64 y) (x1 := .int .i64 m) (x2 := .int .i64 d) (g := w.heap.size) E (by simp)).c1, (S8.at_ (x0 := .int .i64 y) (x1 := .int .i64 m) (x2 := .int .i64 d) (g := w.heap.size) E (by simp)).c2⟩)
    ((first | (go_at_call 29; (with_reducible refine (weekday_is E.out.tab H4.out).mono ?_); rintro e w3 ⟨rfl, hb⟩; replace E := Lib.hid (S8.step E.out hb); clear hb) | (go_at_call 30; (with_reducible refine (refweekday_is E.out.tab H4.out).mono ?_); rintro e w4 ⟨rfl, hb⟩; replace E := Lib.hid (S8.step E.out hb); clear hb) | (go_at_call 31; (with_reducible refine (monthEnd_is E.out.tab H3.out).mono ?_); rintro e w5 ⟨rfl, hb⟩; replace E := Lib.hid (S8.step E.out hb); clear hb) | (go_at_call 32; (with_reducible refine (refMonthEnd_is E.out.tab H3.out).mono ?_); rintro e w6 ⟨rfl, hb⟩; replace E := Lib.hid (S8.step E.out hb); clear hb) | (go_at_call 33; (with_reducible refine (months_is E.out.tab H6.out).mono ?_); rintro e w7 ⟨rfl, hb⟩; replace E := Lib.hid (S8.step E.out hb); clear hb) | (go_at_call 34; (with_reducible refine (refmonths_is E.out.tab H6.out).mono ?_); rintro e w8 ⟨rfl, hb⟩; replace E := Lib.hid (S8.step E.out hb); clear hb) | (go_at_call 35; (with_reducible refine (quarter_is E.out.tab H5.out).mono ?_); rintro e w9 ⟨rfl, hb⟩; replace E := Lib.hid (S8.step E.out hb); clear hb) | (go_at_call 36; (with_reducible refine (refquarter_is E.out.tab H5.out).mono ?_); rintro e w10 ⟨rfl, hb⟩; replace E := Lib.hid (S8.step E.out hb); clear hb)))
  replace E : Hid (S8 w w10 [(w.heap.size + 1, .int .i64 y', .int .i64 m', .int .i64 d'), (w.heap.size, .int .i64 y, .int .i64 m, .int .i64 d)]) := Lib.hid (S8.sub E.out (fun q hq => by simp at hq ⊢; rcases hq with rfl | rfl <;> simp))
  go_wp2_with fail
  replace E := Lib.hid (S8.drew E.out)
  rename_i K hK
  refine line_start (ops := opsAt Tryd.prog 6 5) (S := SB8 [(w.heap.size + 1, .int .i64 y', .int .i64 m', .int .i64 d'), (w.heap.size, .int .i64 y, .int .i64 m, .int .i64 d)]) (by kernel_rfl) (by kernel_rfl) (S8.sb E) ?_
  have hSw := S8.sb E
  generalize hA : Act.mk _ _ = a
  have ha : Fr 106 a [(3, .pointer (some ⟨w.heap.size, 0, none⟩)), (4, .pointer (some ⟨w.heap.size + 1, 0, none⟩))] := by rw [← hA]; exact ⟨rfl, rfl, by intro q hq; simp at hq; rcases hq with rfl | rfl <;> rfl⟩
  clear hA
  refine line_still mo8AR 0 0 [] 64 (.agg #[.int .i64 y, .int .i64 m, .int .i64 d]) [(3, .pointer (some ⟨w.heap.size, 0, none⟩)), (4, .pointer (some ⟨w.heap.size + 1, 0, none⟩))] rfl (by decide) (by decide) (by decide) ha (fun o ho hg => y_of (wanted_none hg) (fun wx hS => e_load8 ho (ha.ev (i := 3) (v := .pointer (some ⟨w.heap.size, 0, none⟩)) (by simp)) (hS.at_ (g := w.heap.size) (x0 := .int .i64 y) (x1 := .int .i64 m) (x2 := .int .i64 d) (by simp)))) (by simp) hSw ?_; intro a ha
  refine line_call mo8AR 1 1 [] 65 (args := #[.agg #[.int .i64 y, .int .i64 m, .int .i64 d]]) [(3, .pointer (some ⟨w.heap.size, 0, none⟩)), (4, .pointer (some ⟨w.heap.size + 1, 0, none⟩))] rfl (by decide) (by decide) (by decide) ha (fun o ho hg => ⟨(wanted_none hg), e_call8 (by kernel_rfl) ho rfl (by have q0 := ha.ev (i := 64) (v := .agg #[.int .i64 y, .int .i64 m, .int .i64 d]) (by simp); simp only [List.map_toArray, List.map_cons, List.map_nil, ev_const, q0])⟩) (by simp) ?_
  refine (right_is E.out.tab HR.out).mono ?_; rintro e w11 ⟨rfl, hb⟩
  replace E := Lib.hid (S8.step E.out hb)
  clear hb
  have hSw := S8.sb E; refine ⟨_, rfl, hSw, ?_⟩; intro a ha
  refine line_still mo8AR 2 2 [] 66 (.bool false) [(3, .pointer (some ⟨w.heap.size, 0, none⟩)), (4, .pointer (some ⟨w.heap.size + 1, 0, none⟩))] rfl (by decide) (by decide) (by decide) ha (fun o ho hg => y_of (wanted_none hg) (fun wx hS => e_move (.inl ho) (ha.ev (i := 65) (v := .bool false) (by simp)))) (by simp) hSw ?_; intro a ha
  refine line_still mo8AR 3 3 [] 67 undef [(66, .bool false), (3, .pointer (some ⟨w.heap.size, 0, none⟩)), (4, .pointer (some ⟨w.heap.size + 1, 0, none⟩))] rfl (by decide) (by decide) (by decide) ha (fun o ho hg => y_not (mo8AR.unwanted hg rfl ha (d := 66) (by simp))) (by simp) hSw ?_; intro a ha
  refine line_not mo8AR 4 4 [] 68 [(66, .bool false), (3, .pointer (some ⟨w.heap.size, 0, none⟩)), (4, .pointer (some ⟨w.heap.size + 1, 0, none⟩))] rfl (by decide) (by decide) (by decide) ha (fun o ho hg => mo8AR.unwanted hg rfl ha (d := 66) (by simp)) (by simp) hSw ?_; intro a ha
  refine line_still mo8AR 5 5 [] 69 (.bool false) [(3, .pointer (some ⟨w.heap.size, 0, none⟩)), (4, .pointer (some ⟨w.heap.size + 1, 0, none⟩))] rfl (by decide) (by decide) (by decide) ha (fun o ho hg => y_of (wanted_none hg) (fun wx hS => e_pick ho (ha.ev (i := 66) (v := .bool false) (by simp)) (ha.ev (i := 68) (v := undef) (by simp)) rfl)) (by simp) hSw ?_; intro a ha
  refine line_still mo8AR 6 6 [] 70 (.bool false) [(3, .pointer (some ⟨w.heap.size, 0, none⟩)), (4, .pointer (some ⟨w.heap.size + 1, 0, none⟩))] rfl (by decide) (by decide) (by decide) ha (fun o ho hg => y_of (wanted_none hg) (fun wx hS => e_move (.inl ho) (ha.ev (i := 69) (v := .bool false) (by simp)))) (by simp) hSw ?_; intro a ha
  refine line_still mo8AR 7 7 [] 71 undef [(70, .bool false), (3, .pointer (some ⟨w.heap.size, 0, none⟩)), (4, .pointer (some ⟨w.heap.size + 1, 0, none⟩))] rfl (by decide) (by decide) (by decide) ha (fun o ho hg => y_not (mo8AR.unwanted hg rfl ha (d := 70) (by simp))) (by simp) hSw ?_; intro a ha
  refine line_ahead mo8AR 8 8 [] 9 73 undef [(71, undef), (70, .bool false), (3, .pointer (some ⟨w.heap.size, 0, none⟩)), (4, .pointer (some ⟨w.heap.size + 1, 0, none⟩))] rfl (by decide) (by decide) (by decide) ha (fun o ho hg => y_not (mo8AR.unwanted hg rfl ha (d := 70) (by simp))) (by simp) hSw ?_; intro a ha
  refine line_not mo8AR 9 8 [9] 72 [(73, undef), (70, .bool false), (3, .pointer (some ⟨w.heap.size, 0, none⟩)), (4, .pointer (some ⟨w.heap.size + 1, 0, none⟩))] rfl (by decide) (by decide) (by decide) ha (fun o ho hg => mo8AR.unwanted hg rfl ha (d := 70) (by simp)) (by simp) hSw ?_; intro a ha
  refine line_skip [] (by intro i; simp <;> omega) ?_
  refine line_not mo8AR 10 10 [] 74 [(72, undef), (70, .bool false), (3, .pointer (some ⟨w.heap.size, 0, none⟩)), (4, .pointer (some ⟨w.heap.size + 1, 0, none⟩))] rfl (by decide) (by decide) (by decide) ha (fun o ho hg => mo8AR.unwanted hg rfl ha (d := 70) (by simp)) (by simp) hSw ?_; intro a ha
  refine line_still mo8AR 11 11 [] 75 undef [(70, .bool false), (3, .pointer (some ⟨w.heap.size, 0, none⟩)), (4, .pointer (some ⟨w.heap.size + 1, 0, none⟩))] rfl (by decide) (by decide) (by decide) ha (fun o ho hg => y_not (mo8AR.unwanted hg rfl ha (d := 70) (by simp))) (by simp) hSw ?_; intro a ha
  refine line_still mo8AR 12 12 [] 76 undef [(70, .bool false), (3, .pointer (some ⟨w.heap.size, 0, none⟩)), (4, .pointer (some ⟨w.heap.size + 1, 0, none⟩))] rfl (by decide) (by decide) (by decide) ha (fun o ho hg => y_not (mo8AR.unwanted hg rfl ha (d := 70) (by simp))) (by simp) hSw ?_; intro a ha
  refine line_still mo8AR 13 13 [] 77 (.bool false) [(3, .pointer (some ⟨w.heap.size, 0, none⟩)), (4, .pointer (some ⟨w.heap.size + 1, 0, none⟩))] rfl (by decide) (by decide) (by decide) ha (fun o ho hg => y_of (wanted_none hg) (fun wx hS => e_pick ho (ha.ev (i := 70) (v := .bool false) (by simp)) (ha.ev (i := 76) (v := undef) (by simp)) rfl)) (by simp) hSw ?_; intro a ha
  refine line_end mo8AR rfl ?_
  simp only [Exit.then]
  refine hK _ _ ?_
  clear hK K
  obtain ⟨us, rfl, hu⟩ := ha.list8
  have eu3 : us 3 = .pointer (some ⟨w.heap.size, 0, none⟩) := hu (3, .pointer (some ⟨w.heap.size, 0, none⟩)) (by simp)
  have eu4 : us 4 = .pointer (some ⟨w.heap.size + 1, 0, none⟩) := hu (4, .pointer (some ⟨w.heap.size + 1, 0, none⟩)) (by simp)
  have eu77 : us 77 = .bool false := hu (77, .bool false) (by simp)
  rw [show (List.range 106).map us = [us 0, us 1, us 2, us 3, us 4, us 5, us 6, us 7, us 8, us 9, us 10, us 11, us 12, us 13, us 14, us 15, us 16, us 17, us 18, us 19, us 20, us 21, us 22, us 23, us 24, us 25, us 26, us 27, us 28, us 29, us 30, us 31, us 32, us 33, us 34, us 35, us 36, us 37, us 38, us 39, us 40, us 41, us 42, us 43, us 44, us 45, us 46, us 47, us 48, us 49, us 50, us 51, us 52, us 53, us 54, us 55, us 56, us 57, us 58, us 59, us 60, us 61, us 62, us 63, us 64, us 65, us 66, us 67, us 68, us 69, us 70, us 71, us 72, us 73, us 74, us 75, us 76, us 77, us 78, us 79, us 80, us 81, us 82, us 83, us 84, us 85, us 86, us 87, us 88, us 89, us 90, us 91, us 92, us 93, us 94, us 95, us 96, us 97, us 98, us 99, us 100, us 101, us 102, us 103, us 104, us 105] from rfl, eu3, eu4, eu77]
  clear hu ha eu3 eu4 eu77
  go_wp2_with fail
  obtain ⟨G, hG⟩ : ∃ G, split8 y m d y' m' d' = G := ⟨_, rfl⟩
  have hlen := split8_len y m d y' m' d'
  rw [hG] at hlen
  have HG := Lib.hid hG
  clear hG
  have CS1 : Hid (∀ w, Tabs w → Calls Tryd.prog 37 #[.agg #[.int .i64 y, .int .i64 m, .int .i64 d], .agg #[.int .i64 y', .int .i64 m', .int .i64 d']] w (RetRd8 w G)) := by show ∀ w, _ → _; rw [← HG.out]; exact fun w hT => split_is y m d y' m' d' w hT
  have CS2 : Hid (∀ w, Tabs w → Calls Tryd.prog 38 #[.agg #[.int .i64 y, .int .i64 m, .int .i64 d], .agg #[.int .i64 y', .int .i64 m', .int .i64 d']] w (RetRd8 w G)) := by show ∀ w, _ → _; rw [← HG.out]; exact fun w hT => refsplit_is y m d y' m' d' w hT
  replace E := Lib.hid (S8.drew E.out)
  go_region_held3 (fun v => v.cell? ⟨w.heap.size, 0, none⟩ = some (.int .i64 y) ∧ v.cell? ⟨w.heap.size, 1, none⟩ = some (.int .i64 m) ∧ v.cell? ⟨w.heap.size, 2, none⟩ = some (.int .i64 d) ∧ v.cell? ⟨w.heap.size + 1, 0, none⟩ = some (.int .i64 y') ∧ v.cell? ⟨w.heap.size + 1, 1, none⟩ = some (.int .i64 m') ∧ v.cell? ⟨w.heap.size + 1, 2, none⟩ = some (.int .i64 d')) (with_reducible exact ⟨(S8.at_ (x0 := .int .i64 y) (x1 := .int .i64 m) (x2 := .int .i64 d) (g := w.heap.size) E (by simp)).c0, (S8.at_ (x0 := .int .i64 y) (x1 := .int .i64 m) (x2 := .int .i64 d) (g := w.heap.size) E (by simp)).c1, (S8.at_ (x0 := .int .i64 y) (x1 := .int .i64 m) (x2 := .int .i64 d) (g := w.heap.size) E (by simp)).c2, (S8.at_ (x0 := .int .i64 y') (x1 := .int .i64 m') (x2 := .int .i64 d') (g := w.heap.size + 1) E (by simp)).c0, (S8.at_ (x0 := .int .i64 y') (x1 := .int .i64 m') (x2 := .int .i64 d') (g := w.heap.size + 1) E (by simp)).c1, (S8.at_ (x0 := .int .i64 y') (x1 := .int .i64 m') (x2 := .int .i64 d') (g := w.heap.size + 1) E (by simp)).c2⟩)
    (first | (go_at_call 37; (with_reducible refine (CS1.out _ E.out.tab).mono ?_); rintro e wx ⟨vx, rfl, hrx, hb⟩; replace E := Lib.hid (S8.step E.out hb); have RX := Lib.hid hrx; clear hb hrx) | (go_at_call 38; (with_reducible refine (CS2.out _ E.out.tab).mono ?_); rintro e wy ⟨vy, rfl, hry, hb⟩; replace E := Lib.hid (S8.step E.out hb); replace RX := Lib.hid (RX.out.on hb); have RY := Lib.hid hry; clear hb hry))
  obtain ⟨Ax, cx, hvx⟩ := RX.out.len
  obtain ⟨Ay, cy, hvy⟩ := RY.out.len
  subst hvx; subst hvy
  have hlen2 : (G.length : Int) ≤ 1200 := by omega
  go_wp2_with fail
  go_loopw [92] (fun iv wr => ∃ k : Nat, k ≤ G.length ∧ iv = .int .i64 (k : Int) ∧ S8 w wr [(w.heap.size + 1, .int .i64 y', .int .i64 m', .int .i64 d'), (w.heap.size, .int .i64 y, .int .i64 m, .int .i64 d)] ∧ Rd8 wr (.slice Ax G.length cx) G ∧ Rd8 wr (.slice Ay G.length cy) G) (fun iv _ => G.length - (intOf iv).toNat)
  case atStart => exact ⟨0, Nat.zero_le _, rfl, E.out, RX.out, RY.out⟩
  case round =>
    obtain ⟨k, hk, rfl, hE, hrx, hry⟩ := hrel
    clear E RX RY
    have E := Lib.hid hE
    have RX := Lib.hid hrx
    have RY := Lib.hid hry
    clear hE hrx hry
    by_cases hlt : k < G.length
    ·
      obtain ⟨bx, c1, hb1, hc1, hm1, x0, x1, x2, x3, x4, x5⟩ := RX.out.at_ hlt
      obtain ⟨by_, c2, hb2, hc2, hm2, z0, z1, z2, z3, z4, z5⟩ := RY.out.at_ hlt
      obtain ⟨⟨⟨A1, A2, A3⟩, A4, A5, A6⟩, hq⟩ : ∃ q : D6, G.getD k ((0, 0, 0), (0, 0, 0)) = q := ⟨_, rfl⟩
      rw [hq] at x0 x1 x2 x3 x4 x5 z0 z1 z2 z3 z4 z5
      clear hq
      injection hb1 with hb1a _ hb1c
      injection hb2 with hb2a _ hb2c
      subst hb1a; subst hb1c; subst hb2a; subst hb2c
      unfold maxLen at hm1 hm2
      have i1 : (0 : Int) ≤ (k : Int) := by omega
      have i2 : (k : Int) < (G.length : Int) := by omega
      go_wp2_with fail
      have K44 : ∀ w, (Op.equalIn 10000 44 (.agg #[.int .i64 A1, .int .i64 A2, .int .i64 A3, .int .i64 A4, .int .i64 A5, .int .i64 A6]) (.agg #[.int .i64 A1, .int .i64 A2, .int .i64 A3, .int .i64 A4, .int .i64 A5, .int .i64 A6])).run Tryd.prog w = .ok true w := fun w => run_peq8 _ _ _ _ _ _
      go_quiet ((fail))
      have hbq := below_drewN wr nq
      go_wp2_with fail
      exact ⟨⟨k + 1, hlt, by push_cast; rfl, S8.step E.out hbq, RX.out.on hbq, RY.out.on hbq⟩, by simp [intOf]; omega⟩
    ·
      go_wp2_with fail
      refine (awake8 _ E.out.tab).mono ?_; rintro e w12 ⟨rfl, hb⟩; replace E := Lib.hid (S8.step E.out hb); clear hb
      go_wp2_with fail
      go_ret
      exact ⟨rfl, E.out.bel⟩

def mo8BT : List Row3 := [(some 64, none, .load 23 (.tmp 3)), (some 65, none, .call { callee := .value (.func 19), args := #[.tmp 64], argTypes := #[23] }), (some 66, none, .move (.tmp 65)), (some 67, some (2, true), .load 23 (.tmp 4)), (some 68, some (2, true), .call { callee := .value (.func 19), args := #[.tmp 67], argTypes := #[23] }), (some 69, none, .pick (.tmp 66) (.tmp 68) (.const (.bool false))), (some 70, none, .move (.tmp 69)), (some 71, some (6, true), .load 23 (.tmp 4)), (some 72, some (6, true), .call { callee := .value (.func 23), args := #[.tmp 71], argTypes := #[23] }), (some 73, some (6, true), .load 23 (.tmp 3)), (some 74, some (6, true), .call { callee := .value (.func 23), args := #[.tmp 73], argTypes := #[23] }), (some 75, some (6, true), .binOp .sub 3 (.tmp 72) (.tmp 74) 3), (some 76, some (6, true), .binOp .gtr 3 (.tmp 75) (.const (.int .i64 4000)) 3), (some 77, none, .pick (.tmp 70) (.tmp 76) (.const (.bool false)))]
set_option maxRecDepth 100000 in
theorem mo8BRow : (opsAt Tryd.prog 6 5).toList.map row3 = mo8BT := by kernel_rfl
theorem mo8BSel : Region.noSelect (opsAt Tryd.prog 6 5) = true := by kernel_rfl
theorem mo8BDone : Region.ready .any (opsAt Tryd.prog 6 5) (upto (opsAt Tryd.prog 6 5).size (opsAt Tryd.prog 6 5).size []) = [] := by kernel_rfl
theorem mo8Bstill0 : [(0, [], 0), (2, [], 2), (3, [], 3), (5, [], 5), (6, [], 6), (7, [], 7), (8, [], 9), (11, [], 11), (12, [], 12), (13, [], 13)].all (stillB (opsAt Tryd.prog 6 5)) = true := by kernel_rfl
theorem mo8Bsole0 : [(1, [], 1), (4, [], 4), (8, [9], 8), (10, [], 10)].all (soleB (opsAt Tryd.prog 6 5)) = true := by kernel_rfl
theorem mo8BR : Reg (opsAt Tryd.prog 6 5) mo8BT [(0, [], 0), (2, [], 2), (3, [], 3), (5, [], 5), (6, [], 6), (7, [], 7), (8, [], 9), (11, [], 11), (12, [], 12), (13, [], 13)] [(1, [], 1), (4, [], 4), (8, [9], 8), (10, [], 10)] := ⟨mo8BRow, mo8BSel, (all_parts mo8Bstill0 (fun k h => by cases h)), (all_parts mo8Bsole0 (fun k h => by cases h)), mo8BDone⟩

set_option maxHeartbeats 4000000 in
set_option maxRecDepth 100000 in
theorem months8_B (y m d y' m' d' n : Int) (hr : ok8 y m d = true) (hr' : ok8 y' m' d' = false)  (w : World) (hT : Tabs w) : Calls Tryd.prog 6 #[.agg #[.int .i64 y, .int .i64 m, .int .i64 d], .agg #[.int .i64 y', .int .i64 m', .int .i64 d'], .int .i64 n] w (Ret8 w (.bool true)) := by
  have HT := Lib.hid hT
  clear hT
  obtain ⟨⟨Y1, M1, Z1⟩, h1⟩ : ∃ q, add8 y m d n = q := ⟨_, rfl⟩
  obtain ⟨e1, h2⟩ : ∃ e : Int, (if addOk y m d n = true then 0 else 1) = e := ⟨_, rfl⟩
  obtain ⟨⟨Y2, M2, Z2⟩, h3⟩ : ∃ q, end8 y m d = q := ⟨_, rfl⟩
  obtain ⟨q1, h4⟩ : ∃ q, wd8 y m d = q := ⟨_, rfl⟩
  obtain ⟨q2, h5⟩ : ∃ q, qu8 y m d = q := ⟨_, rfl⟩
  obtain ⟨q3, h6⟩ : ∃ q, months8 y m d y' m' d' = q := ⟨_, rfl⟩
  have H1 := Lib.hid h1
  have H2 := Lib.hid h2
  have H3 := Lib.hid h3
  have H4 := Lib.hid h4
  have H5 := Lib.hid h5
  have H6 := Lib.hid h6
  have HR := Lib.hid hr
  have HR' := Lib.hid hr'
  clear h1 h2 h3 h4 h5 h6 hr hr'
  go_enter Tryd.func6, Tryd.ntmps6
  go_wp2_with fail
  generalize hW : World.alloc (World.alloc w _) _ = W0
  have E0 : S8 w W0 [(w.heap.size + 1, .int .i64 y', .int .i64 m', .int .i64 d'), (w.heap.size, .int .i64 y, .int .i64 m, .int .i64 d)] := by rw [← hW]; exact (((S8.start w HT.out).lay rfl).lay (by simp))
  have E := Lib.hid E0
  clear hW E0
  obtain ⟨q0, q1, q2, qf0, qf1, qf2, qlt⟩ := (S8.at_ (x0 := .int .i64 y) (x1 := .int .i64 m) (x2 := .int .i64 d) (g := w.heap.size) E (by simp))
  go_wp2_with fail
  refine (add_eq E.out.tab H1.out H2.out).mono ?_; rintro e w1 ⟨rfl, hb⟩; replace E := Lib.hid (S8.step E.out hb); clear hb
  clear q0 q1 q2 qf0 qf1 qf2 qlt
  obtain ⟨q0, q1, q2, qf0, qf1, qf2, qlt⟩ := (S8.at_ (x0 := .int .i64 y) (x1 := .int .i64 m) (x2 := .int .i64 d) (g := w.heap.size) E (by simp))
  go_wp2_with fail
  clear q0 q1 q2 qf0 qf1 qf2 qlt
  replace E := Lib.hid (S8.lay (t := 23) (x0 := .int .i64 Y1) (x1 := .int .i64 M1) (x2 := .int .i64 Z1) (g := w1.heap.size) E.out rfl)
  generalize hW2 : World.alloc w1 _ = V1 at E ⊢
  clear hW2
  refine (refadd_eq E.out.tab H1.out H2.out).mono ?_; rintro e w2 ⟨rfl, hb⟩; replace E := Lib.hid (S8.step E.out hb); clear hb
  go_wp2_with fail
  replace E := Lib.hid (S8.lay (t := 23) (x0 := .int .i64 Y1) (x1 := .int .i64 M1) (x2 := .int .i64 Z1) (g := w2.heap.size) E.out rfl)
  generalize hW2 : World.alloc w2 _ = V2 at E ⊢
  clear hW2
  replace E := Lib.hid (S8.drew E.out)
  go_region_held3 (fun v => v.cell? ⟨w2.heap.size, 0, none⟩ = some (.int .i64 Y1) ∧ v.cell? ⟨w2.heap.size, 1, none⟩ = some (.int .i64 M1) ∧ v.cell? ⟨w2.heap.size, 2, none⟩ = some (.int .i64 Z1) ∧ v.cell? ⟨w1.heap.size, 0, none⟩ = some (.int .i64 Y1) ∧ v.cell? ⟨w1.heap.size, 1, none⟩ = some (.int .i64 M1) ∧ v.cell? ⟨w1.heap.size, 2, none⟩ = some (.int .i64 Z1) ∧ v.cell? ⟨w.heap.size + 1, 0, none⟩ = some (.int .i64 y') ∧ v.cell? ⟨w.heap.size + 1, 1, none⟩ = some (.int .i64 m') ∧ v.cell? ⟨w.heap.size + 1, 2, none⟩ = some (.int .i64 d') ∧ v.cell? ⟨w.heap.size, 0, none⟩ = some (.int .i64 y) ∧ v.cell? ⟨w.heap.size, 1, none⟩ = some (.int .i64 m) ∧ v.cell? ⟨w.heap.size, 2, none⟩ = some (.int .i64 d)) (with_reducible exact ⟨(S8.at_ (x0 := .int .i64 Y1) (x1 := .int .i64 M1) (x2 := .int .i64 Z1) (g := w2.heap.size) E (by simp)).c0, (S8.at_ (x0 := .int .i64 Y1) (x1 := .int .i64 M1) (x2 := .int .i64 Z1) (g := w2.heap.size) E (by simp)).c1, (S8.at_ (x0 := .int .i64 Y1) (x1 := .int .i64 M1) (x2 := .int .i64 Z1) (g := w2.heap.size) E (by simp)).c2, (S8.at_ (x0 := .int .i64 Y1) (x1 := .int .i64 M1) (x2 := .int .i64 Z1) (g := w1.heap.size) E (by simp)).c0, (S8.at_ (x0 := .int .i64 Y1) (x1 := .int .i64 M1) (x2 := .int .i64 Z1) (g := w1.heap.size) E (by simp)).c1, (S8.at_ (x0 := .int .i64 Y1) (x1 := .int .i64 M1) (x2 := .int .i64 Z1) (g := w1.heap.size) E (by simp)).c2, (S8.at_ (x0 := .int .i64 y') (x1 := .int .i64 m') (x2 := .int .i64 d') (g := w.heap.size + 1) E (by simp)).c0, (S8.at_ (x0 := .int .i64 y') (x1 := .int .i64 m') (x2 := .int .i64 d') (g := w.heap.size + 1) E (by simp)).c1, (S8.at_ (x0 := .int .i64 y') (x1 := .int .i64 m') (x2 := .int .i64 d') (g := w.heap.size + 1) E (by simp)).c2, (S8.at_ (x0 := .int .i64 y) (x1 := .int .i64 m) (x2 := .int .i64 d) (g := w.heap.size) E (by simp)).c0, (S8.at_ (x0 := .int .i64 y) (x1 := .int .i64 m) (x2 := .int .i64 d) (g := w.heap.size) E (by simp)).c1, (S8.at_ (x0 := .int .i64 y) (x1 := .int .i64 m) (x2 := .int .i64 d) (g := w.heap.size) E (by simp)).c2⟩)
    ((first | (go_at_call 29; (with_reducible refine (weekday_is E.out.tab H4.out).mono ?_); rintro e w3 ⟨rfl, hb⟩; replace E := Lib.hid (S8.step E.out hb); clear hb) | (go_at_call 30; (with_reducible refine (refweekday_is E.out.tab H4.out).mono ?_); rintro e w4 ⟨rfl, hb⟩; replace E := Lib.hid (S8.step E.out hb); clear hb) | (go_at_call 31; (with_reducible refine (monthEnd_is E.out.tab H3.out).mono ?_); rintro e w5 ⟨rfl, hb⟩; replace E := Lib.hid (S8.step E.out hb); clear hb) | (go_at_call 32; (with_reducible refine (refMonthEnd_is E.out.tab H3.out).mono ?_); rintro e w6 ⟨rfl, hb⟩; replace E := Lib.hid (S8.step E.out hb); clear hb) | (go_at_call 33; (with_reducible refine (months_is E.out.tab H6.out).mono ?_); rintro e w7 ⟨rfl, hb⟩; replace E := Lib.hid (S8.step E.out hb); clear hb) | (go_at_call 34; (with_reducible refine (refmonths_is E.out.tab H6.out).mono ?_); rintro e w8 ⟨rfl, hb⟩; replace E := Lib.hid (S8.step E.out hb); clear hb) | (go_at_call 35; (with_reducible refine (quarter_is E.out.tab H5.out).mono ?_); rintro e w9 ⟨rfl, hb⟩; replace E := Lib.hid (S8.step E.out hb); clear hb) | (go_at_call 36; (with_reducible refine (refquarter_is E.out.tab H5.out).mono ?_); rintro e w10 ⟨rfl, hb⟩; replace E := Lib.hid (S8.step E.out hb); clear hb)))
  replace E : Hid (S8 w w10 [(w.heap.size + 1, .int .i64 y', .int .i64 m', .int .i64 d'), (w.heap.size, .int .i64 y, .int .i64 m, .int .i64 d)]) := Lib.hid (S8.sub E.out (fun q hq => by simp at hq ⊢; rcases hq with rfl | rfl <;> simp))
  go_wp2_with fail
  replace E := Lib.hid (S8.drew E.out)
  rename_i K hK
  refine line_start (ops := opsAt Tryd.prog 6 5) (S := SB8 [(w.heap.size + 1, .int .i64 y', .int .i64 m', .int .i64 d'), (w.heap.size, .int .i64 y, .int .i64 m, .int .i64 d)]) (by kernel_rfl) (by kernel_rfl) (S8.sb E) ?_
  have hSw := S8.sb E
  generalize hA : Act.mk _ _ = a
  have ha : Fr 106 a [(3, .pointer (some ⟨w.heap.size, 0, none⟩)), (4, .pointer (some ⟨w.heap.size + 1, 0, none⟩))] := by rw [← hA]; exact ⟨rfl, rfl, by intro q hq; simp at hq; rcases hq with rfl | rfl <;> rfl⟩
  clear hA
  refine line_still mo8BR 0 0 [] 64 (.agg #[.int .i64 y, .int .i64 m, .int .i64 d]) [(3, .pointer (some ⟨w.heap.size, 0, none⟩)), (4, .pointer (some ⟨w.heap.size + 1, 0, none⟩))] rfl (by decide) (by decide) (by decide) ha (fun o ho hg => y_of (wanted_none hg) (fun wx hS => e_load8 ho (ha.ev (i := 3) (v := .pointer (some ⟨w.heap.size, 0, none⟩)) (by simp)) (hS.at_ (g := w.heap.size) (x0 := .int .i64 y) (x1 := .int .i64 m) (x2 := .int .i64 d) (by simp)))) (by simp) hSw ?_; intro a ha
  refine line_call mo8BR 1 1 [] 65 (args := #[.agg #[.int .i64 y, .int .i64 m, .int .i64 d]]) [(3, .pointer (some ⟨w.heap.size, 0, none⟩)), (4, .pointer (some ⟨w.heap.size + 1, 0, none⟩))] rfl (by decide) (by decide) (by decide) ha (fun o ho hg => ⟨(wanted_none hg), e_call8 (by kernel_rfl) ho rfl (by have q0 := ha.ev (i := 64) (v := .agg #[.int .i64 y, .int .i64 m, .int .i64 d]) (by simp); simp only [List.map_toArray, List.map_cons, List.map_nil, ev_const, q0])⟩) (by simp) ?_
  refine (right_is E.out.tab HR.out).mono ?_; rintro e w11 ⟨rfl, hb⟩
  replace E := Lib.hid (S8.step E.out hb)
  clear hb
  have hSw := S8.sb E; refine ⟨_, rfl, hSw, ?_⟩; intro a ha
  refine line_still mo8BR 2 2 [] 66 (.bool true) [(3, .pointer (some ⟨w.heap.size, 0, none⟩)), (4, .pointer (some ⟨w.heap.size + 1, 0, none⟩))] rfl (by decide) (by decide) (by decide) ha (fun o ho hg => y_of (wanted_none hg) (fun wx hS => e_move (.inl ho) (ha.ev (i := 65) (v := .bool true) (by simp)))) (by simp) hSw ?_; intro a ha
  refine line_still mo8BR 3 3 [] 67 (.agg #[.int .i64 y', .int .i64 m', .int .i64 d']) [(66, .bool true), (3, .pointer (some ⟨w.heap.size, 0, none⟩)), (4, .pointer (some ⟨w.heap.size + 1, 0, none⟩))] rfl (by decide) (by decide) (by decide) ha (fun o ho hg => y_of (mo8BR.wanted hg rfl ha (d := 66) (by simp)) (fun wx hS => e_load8 ho (ha.ev (i := 4) (v := .pointer (some ⟨w.heap.size + 1, 0, none⟩)) (by simp)) (hS.at_ (g := w.heap.size + 1) (x0 := .int .i64 y') (x1 := .int .i64 m') (x2 := .int .i64 d') (by simp)))) (by simp) hSw ?_; intro a ha
  refine line_call mo8BR 4 4 [] 68 (args := #[.agg #[.int .i64 y', .int .i64 m', .int .i64 d']]) [(66, .bool true), (3, .pointer (some ⟨w.heap.size, 0, none⟩)), (4, .pointer (some ⟨w.heap.size + 1, 0, none⟩))] rfl (by decide) (by decide) (by decide) ha (fun o ho hg => ⟨(mo8BR.wanted hg rfl ha (d := 66) (by simp)), e_call8 (by kernel_rfl) ho rfl (by have q0 := ha.ev (i := 67) (v := .agg #[.int .i64 y', .int .i64 m', .int .i64 d']) (by simp); simp only [List.map_toArray, List.map_cons, List.map_nil, ev_const, q0])⟩) (by simp) ?_
  refine (right_is E.out.tab HR'.out).mono ?_; rintro e w12 ⟨rfl, hb⟩
  replace E := Lib.hid (S8.step E.out hb)
  clear hb
  have hSw := S8.sb E; refine ⟨_, rfl, hSw, ?_⟩; intro a ha
  refine line_still mo8BR 5 5 [] 69 (.bool false) [(3, .pointer (some ⟨w.heap.size, 0, none⟩)), (4, .pointer (some ⟨w.heap.size + 1, 0, none⟩))] rfl (by decide) (by decide) (by decide) ha (fun o ho hg => y_of (wanted_none hg) (fun wx hS => e_pick ho (ha.ev (i := 66) (v := .bool true) (by simp)) (ha.ev (i := 68) (v := .bool false) (by simp)) rfl)) (by simp) hSw ?_; intro a ha
  refine line_still mo8BR 6 6 [] 70 (.bool false) [(3, .pointer (some ⟨w.heap.size, 0, none⟩)), (4, .pointer (some ⟨w.heap.size + 1, 0, none⟩))] rfl (by decide) (by decide) (by decide) ha (fun o ho hg => y_of (wanted_none hg) (fun wx hS => e_move (.inl ho) (ha.ev (i := 69) (v := .bool false) (by simp)))) (by simp) hSw ?_; intro a ha
  refine line_still mo8BR 7 7 [] 71 undef [(70, .bool false), (3, .pointer (some ⟨w.heap.size, 0, none⟩)), (4, .pointer (some ⟨w.heap.size + 1, 0, none⟩))] rfl (by decide) (by decide) (by decide) ha (fun o ho hg => y_not (mo8BR.unwanted hg rfl ha (d := 70) (by simp))) (by simp) hSw ?_; intro a ha
  refine line_ahead mo8BR 8 8 [] 9 73 undef [(71, undef), (70, .bool false), (3, .pointer (some ⟨w.heap.size, 0, none⟩)), (4, .pointer (some ⟨w.heap.size + 1, 0, none⟩))] rfl (by decide) (by decide) (by decide) ha (fun o ho hg => y_not (mo8BR.unwanted hg rfl ha (d := 70) (by simp))) (by simp) hSw ?_; intro a ha
  refine line_not mo8BR 9 8 [9] 72 [(73, undef), (70, .bool false), (3, .pointer (some ⟨w.heap.size, 0, none⟩)), (4, .pointer (some ⟨w.heap.size + 1, 0, none⟩))] rfl (by decide) (by decide) (by decide) ha (fun o ho hg => mo8BR.unwanted hg rfl ha (d := 70) (by simp)) (by simp) hSw ?_; intro a ha
  refine line_skip [] (by intro i; simp <;> omega) ?_
  refine line_not mo8BR 10 10 [] 74 [(72, undef), (70, .bool false), (3, .pointer (some ⟨w.heap.size, 0, none⟩)), (4, .pointer (some ⟨w.heap.size + 1, 0, none⟩))] rfl (by decide) (by decide) (by decide) ha (fun o ho hg => mo8BR.unwanted hg rfl ha (d := 70) (by simp)) (by simp) hSw ?_; intro a ha
  refine line_still mo8BR 11 11 [] 75 undef [(70, .bool false), (3, .pointer (some ⟨w.heap.size, 0, none⟩)), (4, .pointer (some ⟨w.heap.size + 1, 0, none⟩))] rfl (by decide) (by decide) (by decide) ha (fun o ho hg => y_not (mo8BR.unwanted hg rfl ha (d := 70) (by simp))) (by simp) hSw ?_; intro a ha
  refine line_still mo8BR 12 12 [] 76 undef [(70, .bool false), (3, .pointer (some ⟨w.heap.size, 0, none⟩)), (4, .pointer (some ⟨w.heap.size + 1, 0, none⟩))] rfl (by decide) (by decide) (by decide) ha (fun o ho hg => y_not (mo8BR.unwanted hg rfl ha (d := 70) (by simp))) (by simp) hSw ?_; intro a ha
  refine line_still mo8BR 13 13 [] 77 (.bool false) [(3, .pointer (some ⟨w.heap.size, 0, none⟩)), (4, .pointer (some ⟨w.heap.size + 1, 0, none⟩))] rfl (by decide) (by decide) (by decide) ha (fun o ho hg => y_of (wanted_none hg) (fun wx hS => e_pick ho (ha.ev (i := 70) (v := .bool false) (by simp)) (ha.ev (i := 76) (v := undef) (by simp)) rfl)) (by simp) hSw ?_; intro a ha
  refine line_end mo8BR rfl ?_
  simp only [Exit.then]
  refine hK _ _ ?_
  clear hK K
  obtain ⟨us, rfl, hu⟩ := ha.list8
  have eu3 : us 3 = .pointer (some ⟨w.heap.size, 0, none⟩) := hu (3, .pointer (some ⟨w.heap.size, 0, none⟩)) (by simp)
  have eu4 : us 4 = .pointer (some ⟨w.heap.size + 1, 0, none⟩) := hu (4, .pointer (some ⟨w.heap.size + 1, 0, none⟩)) (by simp)
  have eu77 : us 77 = .bool false := hu (77, .bool false) (by simp)
  rw [show (List.range 106).map us = [us 0, us 1, us 2, us 3, us 4, us 5, us 6, us 7, us 8, us 9, us 10, us 11, us 12, us 13, us 14, us 15, us 16, us 17, us 18, us 19, us 20, us 21, us 22, us 23, us 24, us 25, us 26, us 27, us 28, us 29, us 30, us 31, us 32, us 33, us 34, us 35, us 36, us 37, us 38, us 39, us 40, us 41, us 42, us 43, us 44, us 45, us 46, us 47, us 48, us 49, us 50, us 51, us 52, us 53, us 54, us 55, us 56, us 57, us 58, us 59, us 60, us 61, us 62, us 63, us 64, us 65, us 66, us 67, us 68, us 69, us 70, us 71, us 72, us 73, us 74, us 75, us 76, us 77, us 78, us 79, us 80, us 81, us 82, us 83, us 84, us 85, us 86, us 87, us 88, us 89, us 90, us 91, us 92, us 93, us 94, us 95, us 96, us 97, us 98, us 99, us 100, us 101, us 102, us 103, us 104, us 105] from rfl, eu3, eu4, eu77]
  clear hu ha eu3 eu4 eu77
  go_wp2_with fail
  obtain ⟨G, hG⟩ : ∃ G, split8 y m d y' m' d' = G := ⟨_, rfl⟩
  have hlen := split8_len y m d y' m' d'
  rw [hG] at hlen
  have HG := Lib.hid hG
  clear hG
  have CS1 : Hid (∀ w, Tabs w → Calls Tryd.prog 37 #[.agg #[.int .i64 y, .int .i64 m, .int .i64 d], .agg #[.int .i64 y', .int .i64 m', .int .i64 d']] w (RetRd8 w G)) := by show ∀ w, _ → _; rw [← HG.out]; exact fun w hT => split_is y m d y' m' d' w hT
  have CS2 : Hid (∀ w, Tabs w → Calls Tryd.prog 38 #[.agg #[.int .i64 y, .int .i64 m, .int .i64 d], .agg #[.int .i64 y', .int .i64 m', .int .i64 d']] w (RetRd8 w G)) := by show ∀ w, _ → _; rw [← HG.out]; exact fun w hT => refsplit_is y m d y' m' d' w hT
  replace E := Lib.hid (S8.drew E.out)
  go_region_held3 (fun v => v.cell? ⟨w.heap.size, 0, none⟩ = some (.int .i64 y) ∧ v.cell? ⟨w.heap.size, 1, none⟩ = some (.int .i64 m) ∧ v.cell? ⟨w.heap.size, 2, none⟩ = some (.int .i64 d) ∧ v.cell? ⟨w.heap.size + 1, 0, none⟩ = some (.int .i64 y') ∧ v.cell? ⟨w.heap.size + 1, 1, none⟩ = some (.int .i64 m') ∧ v.cell? ⟨w.heap.size + 1, 2, none⟩ = some (.int .i64 d')) (with_reducible exact ⟨(S8.at_ (x0 := .int .i64 y) (x1 := .int .i64 m) (x2 := .int .i64 d) (g := w.heap.size) E (by simp)).c0, (S8.at_ (x0 := .int .i64 y) (x1 := .int .i64 m) (x2 := .int .i64 d) (g := w.heap.size) E (by simp)).c1, (S8.at_ (x0 := .int .i64 y) (x1 := .int .i64 m) (x2 := .int .i64 d) (g := w.heap.size) E (by simp)).c2, (S8.at_ (x0 := .int .i64 y') (x1 := .int .i64 m') (x2 := .int .i64 d') (g := w.heap.size + 1) E (by simp)).c0, (S8.at_ (x0 := .int .i64 y') (x1 := .int .i64 m') (x2 := .int .i64 d') (g := w.heap.size + 1) E (by simp)).c1, (S8.at_ (x0 := .int .i64 y') (x1 := .int .i64 m') (x2 := .int .i64 d') (g := w.heap.size + 1) E (by simp)).c2⟩)
    (first | (go_at_call 37; (with_reducible refine (CS1.out _ E.out.tab).mono ?_); rintro e wx ⟨vx, rfl, hrx, hb⟩; replace E := Lib.hid (S8.step E.out hb); have RX := Lib.hid hrx; clear hb hrx) | (go_at_call 38; (with_reducible refine (CS2.out _ E.out.tab).mono ?_); rintro e wy ⟨vy, rfl, hry, hb⟩; replace E := Lib.hid (S8.step E.out hb); replace RX := Lib.hid (RX.out.on hb); have RY := Lib.hid hry; clear hb hry))
  obtain ⟨Ax, cx, hvx⟩ := RX.out.len
  obtain ⟨Ay, cy, hvy⟩ := RY.out.len
  subst hvx; subst hvy
  have hlen2 : (G.length : Int) ≤ 1200 := by omega
  go_wp2_with fail
  go_loopw [92] (fun iv wr => ∃ k : Nat, k ≤ G.length ∧ iv = .int .i64 (k : Int) ∧ S8 w wr [(w.heap.size + 1, .int .i64 y', .int .i64 m', .int .i64 d'), (w.heap.size, .int .i64 y, .int .i64 m, .int .i64 d)] ∧ Rd8 wr (.slice Ax G.length cx) G ∧ Rd8 wr (.slice Ay G.length cy) G) (fun iv _ => G.length - (intOf iv).toNat)
  case atStart => exact ⟨0, Nat.zero_le _, rfl, E.out, RX.out, RY.out⟩
  case round =>
    obtain ⟨k, hk, rfl, hE, hrx, hry⟩ := hrel
    clear E RX RY
    have E := Lib.hid hE
    have RX := Lib.hid hrx
    have RY := Lib.hid hry
    clear hE hrx hry
    by_cases hlt : k < G.length
    ·
      obtain ⟨bx, c1, hb1, hc1, hm1, x0, x1, x2, x3, x4, x5⟩ := RX.out.at_ hlt
      obtain ⟨by_, c2, hb2, hc2, hm2, z0, z1, z2, z3, z4, z5⟩ := RY.out.at_ hlt
      obtain ⟨⟨⟨A1, A2, A3⟩, A4, A5, A6⟩, hq⟩ : ∃ q : D6, G.getD k ((0, 0, 0), (0, 0, 0)) = q := ⟨_, rfl⟩
      rw [hq] at x0 x1 x2 x3 x4 x5 z0 z1 z2 z3 z4 z5
      clear hq
      injection hb1 with hb1a _ hb1c
      injection hb2 with hb2a _ hb2c
      subst hb1a; subst hb1c; subst hb2a; subst hb2c
      unfold maxLen at hm1 hm2
      have i1 : (0 : Int) ≤ (k : Int) := by omega
      have i2 : (k : Int) < (G.length : Int) := by omega
      go_wp2_with fail
      have K44 : ∀ w, (Op.equalIn 10000 44 (.agg #[.int .i64 A1, .int .i64 A2, .int .i64 A3, .int .i64 A4, .int .i64 A5, .int .i64 A6]) (.agg #[.int .i64 A1, .int .i64 A2, .int .i64 A3, .int .i64 A4, .int .i64 A5, .int .i64 A6])).run Tryd.prog w = .ok true w := fun w => run_peq8 _ _ _ _ _ _
      go_quiet ((fail))
      have hbq := below_drewN wr nq
      go_wp2_with fail
      exact ⟨⟨k + 1, hlt, by push_cast; rfl, S8.step E.out hbq, RX.out.on hbq, RY.out.on hbq⟩, by simp [intOf]; omega⟩
    ·
      go_wp2_with fail
      refine (awake8 _ E.out.tab).mono ?_; rintro e w13 ⟨rfl, hb⟩; replace E := Lib.hid (S8.step E.out hb); clear hb
      go_wp2_with fail
      go_ret
      exact ⟨rfl, E.out.bel⟩

def mo8CT : List Row3 := [(some 64, none, .load 23 (.tmp 3)), (some 65, none, .call { callee := .value (.func 19), args := #[.tmp 64], argTypes := #[23] }), (some 66, none, .move (.tmp 65)), (some 67, some (2, true), .load 23 (.tmp 4)), (some 68, some (2, true), .call { callee := .value (.func 19), args := #[.tmp 67], argTypes := #[23] }), (some 69, none, .pick (.tmp 66) (.tmp 68) (.const (.bool false))), (some 70, none, .move (.tmp 69)), (some 71, some (6, true), .load 23 (.tmp 4)), (some 72, some (6, true), .call { callee := .value (.func 23), args := #[.tmp 71], argTypes := #[23] }), (some 73, some (6, true), .load 23 (.tmp 3)), (some 74, some (6, true), .call { callee := .value (.func 23), args := #[.tmp 73], argTypes := #[23] }), (some 75, some (6, true), .binOp .sub 3 (.tmp 72) (.tmp 74) 3), (some 76, some (6, true), .binOp .gtr 3 (.tmp 75) (.const (.int .i64 4000)) 3), (some 77, none, .pick (.tmp 70) (.tmp 76) (.const (.bool false)))]
set_option maxRecDepth 100000 in
theorem mo8CRow : (opsAt Tryd.prog 6 5).toList.map row3 = mo8CT := by kernel_rfl
theorem mo8CSel : Region.noSelect (opsAt Tryd.prog 6 5) = true := by kernel_rfl
theorem mo8CDone : Region.ready .any (opsAt Tryd.prog 6 5) (upto (opsAt Tryd.prog 6 5).size (opsAt Tryd.prog 6 5).size []) = [] := by kernel_rfl
theorem mo8Cstill0 : [(0, [], 0), (2, [], 2), (3, [], 3), (5, [], 5), (6, [], 6), (7, [], 7), (8, [], 9), (11, [], 11), (12, [], 12), (13, [], 13)].all (stillB (opsAt Tryd.prog 6 5)) = true := by kernel_rfl
theorem mo8Csole0 : [(1, [], 1), (4, [], 4), (8, [9], 8), (10, [], 10)].all (soleB (opsAt Tryd.prog 6 5)) = true := by kernel_rfl
theorem mo8CR : Reg (opsAt Tryd.prog 6 5) mo8CT [(0, [], 0), (2, [], 2), (3, [], 3), (5, [], 5), (6, [], 6), (7, [], 7), (8, [], 9), (11, [], 11), (12, [], 12), (13, [], 13)] [(1, [], 1), (4, [], 4), (8, [9], 8), (10, [], 10)] := ⟨mo8CRow, mo8CSel, (all_parts mo8Cstill0 (fun k h => by cases h)), (all_parts mo8Csole0 (fun k h => by cases h)), mo8CDone⟩

set_option maxHeartbeats 4000000 in
set_option maxRecDepth 100000 in
theorem months8_C (y m d y' m' d' n : Int) (hr : ok8 y m d = true) (hr' : ok8 y' m' d' = true) (hd : 4000 < days8 y' m' d' - days8 y m d)  (w : World) (hT : Tabs w) : Calls Tryd.prog 6 #[.agg #[.int .i64 y, .int .i64 m, .int .i64 d], .agg #[.int .i64 y', .int .i64 m', .int .i64 d'], .int .i64 n] w (Ret8 w (.bool true)) := by
  have HT := Lib.hid hT
  clear hT
  obtain ⟨⟨Y1, M1, Z1⟩, h1⟩ : ∃ q, add8 y m d n = q := ⟨_, rfl⟩
  obtain ⟨e1, h2⟩ : ∃ e : Int, (if addOk y m d n = true then 0 else 1) = e := ⟨_, rfl⟩
  obtain ⟨⟨Y2, M2, Z2⟩, h3⟩ : ∃ q, end8 y m d = q := ⟨_, rfl⟩
  obtain ⟨q1, h4⟩ : ∃ q, wd8 y m d = q := ⟨_, rfl⟩
  obtain ⟨q2, h5⟩ : ∃ q, qu8 y m d = q := ⟨_, rfl⟩
  obtain ⟨q3, h6⟩ : ∃ q, months8 y m d y' m' d' = q := ⟨_, rfl⟩
  have H1 := Lib.hid h1
  have H2 := Lib.hid h2
  have H3 := Lib.hid h3
  have H4 := Lib.hid h4
  have H5 := Lib.hid h5
  have H6 := Lib.hid h6
  have HR := Lib.hid hr
  have HR' := Lib.hid hr'
  obtain ⟨na, g1⟩ : ∃ q, days8 y m d = q := ⟨_, rfl⟩
  obtain ⟨nb, g2⟩ : ∃ q, days8 y' m' d' = q := ⟨_, rfl⟩
  have g3 := days8_bd y m d
  have g4 := days8_bd y' m' d'
  rw [g1] at g3 hd
  rw [g2] at g4 hd
  obtain ⟨df, g5⟩ : ∃ q, nb - na = q := ⟨_, rfl⟩
  rw [g5] at hd
  have GB : Hid (-9223372036854775808 ≤ df ∧ df ≤ 9223372036854775807) := ⟨by omega, by omega⟩
  have GD : Hid (decide (4000 < df) = true) := decide_eq_true hd
  have G1 := Lib.hid g1
  have G2 := Lib.hid g2
  have G5 := Lib.hid g5
  clear h1 h2 h3 h4 h5 h6 hr hr' g1 g2 g3 g4 g5 hd
  go_enter Tryd.func6, Tryd.ntmps6
  go_wp2_with fail
  generalize hW : World.alloc (World.alloc w _) _ = W0
  have E0 : S8 w W0 [(w.heap.size + 1, .int .i64 y', .int .i64 m', .int .i64 d'), (w.heap.size, .int .i64 y, .int .i64 m, .int .i64 d)] := by rw [← hW]; exact (((S8.start w HT.out).lay rfl).lay (by simp))
  have E := Lib.hid E0
  clear hW E0
  obtain ⟨q0, q1, q2, qf0, qf1, qf2, qlt⟩ := (S8.at_ (x0 := .int .i64 y) (x1 := .int .i64 m) (x2 := .int .i64 d) (g := w.heap.size) E (by simp))
  go_wp2_with fail
  refine (add_eq E.out.tab H1.out H2.out).mono ?_; rintro e w1 ⟨rfl, hb⟩; replace E := Lib.hid (S8.step E.out hb); clear hb
  clear q0 q1 q2 qf0 qf1 qf2 qlt
  obtain ⟨q0, q1, q2, qf0, qf1, qf2, qlt⟩ := (S8.at_ (x0 := .int .i64 y) (x1 := .int .i64 m) (x2 := .int .i64 d) (g := w.heap.size) E (by simp))
  go_wp2_with fail
  clear q0 q1 q2 qf0 qf1 qf2 qlt
  replace E := Lib.hid (S8.lay (t := 23) (x0 := .int .i64 Y1) (x1 := .int .i64 M1) (x2 := .int .i64 Z1) (g := w1.heap.size) E.out rfl)
  generalize hW2 : World.alloc w1 _ = V1 at E ⊢
  clear hW2
  refine (refadd_eq E.out.tab H1.out H2.out).mono ?_; rintro e w2 ⟨rfl, hb⟩; replace E := Lib.hid (S8.step E.out hb); clear hb
  go_wp2_with fail
  replace E := Lib.hid (S8.lay (t := 23) (x0 := .int .i64 Y1) (x1 := .int .i64 M1) (x2 := .int .i64 Z1) (g := w2.heap.size) E.out rfl)
  generalize hW2 : World.alloc w2 _ = V2 at E ⊢
  clear hW2
  replace E := Lib.hid (S8.drew E.out)
  go_region_held3 (fun v => v.cell? ⟨w2.heap.size, 0, none⟩ = some (.int .i64 Y1) ∧ v.cell? ⟨w2.heap.size, 1, none⟩ = some (.int .i64 M1) ∧ v.cell? ⟨w2.heap.size, 2, none⟩ = some (.int .i64 Z1) ∧ v.cell? ⟨w1.heap.size, 0, none⟩ = some (.int .i64 Y1) ∧ v.cell? ⟨w1.heap.size, 1, none⟩ = some (.int .i64 M1) ∧ v.cell? ⟨w1.heap.size, 2, none⟩ = some (.int .i64 Z1) ∧ v.cell? ⟨w.heap.size + 1, 0, none⟩ = some (.int .i64 y') ∧ v.cell? ⟨w.heap.size + 1, 1, none⟩ = some (.int .i64 m') ∧ v.cell? ⟨w.heap.size + 1, 2, none⟩ = some (.int .i64 d') ∧ v.cell? ⟨w.heap.size, 0, none⟩ = some (.int .i64 y) ∧ v.cell? ⟨w.heap.size, 1, none⟩ = some (.int .i64 m) ∧ v.cell? ⟨w.heap.size, 2, none⟩ = some (.int .i64 d)) (with_reducible exact ⟨(S8.at_ (x0 := .int .i64 Y1) (x1 := .int .i64 M1) (x2 := .int .i64 Z1) (g := w2.heap.size) E (by simp)).c0, (S8.at_ (x0 := .int .i64 Y1) (x1 := .int .i64 M1) (x2 := .int .i64 Z1) (g := w2.heap.size) E (by simp)).c1, (S8.at_ (x0 := .int .i64 Y1) (x1 := .int .i64 M1) (x2 := .int .i64 Z1) (g := w2.heap.size) E (by simp)).c2, (S8.at_ (x0 := .int .i64 Y1) (x1 := .int .i64 M1) (x2 := .int .i64 Z1) (g := w1.heap.size) E (by simp)).c0, (S8.at_ (x0 := .int .i64 Y1) (x1 := .int .i64 M1) (x2 := .int .i64 Z1) (g := w1.heap.size) E (by simp)).c1, (S8.at_ (x0 := .int .i64 Y1) (x1 := .int .i64 M1) (x2 := .int .i64 Z1) (g := w1.heap.size) E (by simp)).c2, (S8.at_ (x0 := .int .i64 y') (x1 := .int .i64 m') (x2 := .int .i64 d') (g := w.heap.size + 1) E (by simp)).c0, (S8.at_ (x0 := .int .i64 y') (x1 := .int .i64 m') (x2 := .int .i64 d') (g := w.heap.size + 1) E (by simp)).c1, (S8.at_ (x0 := .int .i64 y') (x1 := .int .i64 m') (x2 := .int .i64 d') (g := w.heap.size + 1) E (by simp)).c2, (S8.at_ (x0 := .int .i64 y) (x1 := .int .i64 m) (x2 := .int .i64 d) (g := w.heap.size) E (by simp)).c0, (S8.at_ (x0 := .int .i64 y) (x1 := .int .i64 m) (x2 := .int .i64 d) (g := w.heap.size) E (by simp)).c1, (S8.at_ (x0 := .int .i64 y) (x1 := .int .i64 m) (x2 := .int .i64 d) (g := w.heap.size) E (by simp)).c2⟩)
    ((first | (go_at_call 29; (with_reducible refine (weekday_is E.out.tab H4.out).mono ?_); rintro e w3 ⟨rfl, hb⟩; replace E := Lib.hid (S8.step E.out hb); clear hb) | (go_at_call 30; (with_reducible refine (refweekday_is E.out.tab H4.out).mono ?_); rintro e w4 ⟨rfl, hb⟩; replace E := Lib.hid (S8.step E.out hb); clear hb) | (go_at_call 31; (with_reducible refine (monthEnd_is E.out.tab H3.out).mono ?_); rintro e w5 ⟨rfl, hb⟩; replace E := Lib.hid (S8.step E.out hb); clear hb) | (go_at_call 32; (with_reducible refine (refMonthEnd_is E.out.tab H3.out).mono ?_); rintro e w6 ⟨rfl, hb⟩; replace E := Lib.hid (S8.step E.out hb); clear hb) | (go_at_call 33; (with_reducible refine (months_is E.out.tab H6.out).mono ?_); rintro e w7 ⟨rfl, hb⟩; replace E := Lib.hid (S8.step E.out hb); clear hb) | (go_at_call 34; (with_reducible refine (refmonths_is E.out.tab H6.out).mono ?_); rintro e w8 ⟨rfl, hb⟩; replace E := Lib.hid (S8.step E.out hb); clear hb) | (go_at_call 35; (with_reducible refine (quarter_is E.out.tab H5.out).mono ?_); rintro e w9 ⟨rfl, hb⟩; replace E := Lib.hid (S8.step E.out hb); clear hb) | (go_at_call 36; (with_reducible refine (refquarter_is E.out.tab H5.out).mono ?_); rintro e w10 ⟨rfl, hb⟩; replace E := Lib.hid (S8.step E.out hb); clear hb)))
  replace E : Hid (S8 w w10 [(w.heap.size + 1, .int .i64 y', .int .i64 m', .int .i64 d'), (w.heap.size, .int .i64 y, .int .i64 m, .int .i64 d)]) := Lib.hid (S8.sub E.out (fun q hq => by simp at hq ⊢; rcases hq with rfl | rfl <;> simp))
  go_wp2_with fail
  replace E := Lib.hid (S8.drew E.out)
  rename_i K hK
  refine line_start (ops := opsAt Tryd.prog 6 5) (S := SB8 [(w.heap.size + 1, .int .i64 y', .int .i64 m', .int .i64 d'), (w.heap.size, .int .i64 y, .int .i64 m, .int .i64 d)]) (by kernel_rfl) (by kernel_rfl) (S8.sb E) ?_
  have hSw := S8.sb E
  generalize hA : Act.mk _ _ = a
  have ha : Fr 106 a [(3, .pointer (some ⟨w.heap.size, 0, none⟩)), (4, .pointer (some ⟨w.heap.size + 1, 0, none⟩))] := by rw [← hA]; exact ⟨rfl, rfl, by intro q hq; simp at hq; rcases hq with rfl | rfl <;> rfl⟩
  clear hA
  refine line_still mo8CR 0 0 [] 64 (.agg #[.int .i64 y, .int .i64 m, .int .i64 d]) [(3, .pointer (some ⟨w.heap.size, 0, none⟩)), (4, .pointer (some ⟨w.heap.size + 1, 0, none⟩))] rfl (by decide) (by decide) (by decide) ha (fun o ho hg => y_of (wanted_none hg) (fun wx hS => e_load8 ho (ha.ev (i := 3) (v := .pointer (some ⟨w.heap.size, 0, none⟩)) (by simp)) (hS.at_ (g := w.heap.size) (x0 := .int .i64 y) (x1 := .int .i64 m) (x2 := .int .i64 d) (by simp)))) (by simp) hSw ?_; intro a ha
  refine line_call mo8CR 1 1 [] 65 (args := #[.agg #[.int .i64 y, .int .i64 m, .int .i64 d]]) [(3, .pointer (some ⟨w.heap.size, 0, none⟩)), (4, .pointer (some ⟨w.heap.size + 1, 0, none⟩))] rfl (by decide) (by decide) (by decide) ha (fun o ho hg => ⟨(wanted_none hg), e_call8 (by kernel_rfl) ho rfl (by have q0 := ha.ev (i := 64) (v := .agg #[.int .i64 y, .int .i64 m, .int .i64 d]) (by simp); simp only [List.map_toArray, List.map_cons, List.map_nil, ev_const, q0])⟩) (by simp) ?_
  refine (right_is E.out.tab HR.out).mono ?_; rintro e w11 ⟨rfl, hb⟩
  replace E := Lib.hid (S8.step E.out hb)
  clear hb
  have hSw := S8.sb E; refine ⟨_, rfl, hSw, ?_⟩; intro a ha
  refine line_still mo8CR 2 2 [] 66 (.bool true) [(3, .pointer (some ⟨w.heap.size, 0, none⟩)), (4, .pointer (some ⟨w.heap.size + 1, 0, none⟩))] rfl (by decide) (by decide) (by decide) ha (fun o ho hg => y_of (wanted_none hg) (fun wx hS => e_move (.inl ho) (ha.ev (i := 65) (v := .bool true) (by simp)))) (by simp) hSw ?_; intro a ha
  refine line_still mo8CR 3 3 [] 67 (.agg #[.int .i64 y', .int .i64 m', .int .i64 d']) [(66, .bool true), (3, .pointer (some ⟨w.heap.size, 0, none⟩)), (4, .pointer (some ⟨w.heap.size + 1, 0, none⟩))] rfl (by decide) (by decide) (by decide) ha (fun o ho hg => y_of (mo8CR.wanted hg rfl ha (d := 66) (by simp)) (fun wx hS => e_load8 ho (ha.ev (i := 4) (v := .pointer (some ⟨w.heap.size + 1, 0, none⟩)) (by simp)) (hS.at_ (g := w.heap.size + 1) (x0 := .int .i64 y') (x1 := .int .i64 m') (x2 := .int .i64 d') (by simp)))) (by simp) hSw ?_; intro a ha
  refine line_call mo8CR 4 4 [] 68 (args := #[.agg #[.int .i64 y', .int .i64 m', .int .i64 d']]) [(66, .bool true), (3, .pointer (some ⟨w.heap.size, 0, none⟩)), (4, .pointer (some ⟨w.heap.size + 1, 0, none⟩))] rfl (by decide) (by decide) (by decide) ha (fun o ho hg => ⟨(mo8CR.wanted hg rfl ha (d := 66) (by simp)), e_call8 (by kernel_rfl) ho rfl (by have q0 := ha.ev (i := 67) (v := .agg #[.int .i64 y', .int .i64 m', .int .i64 d']) (by simp); simp only [List.map_toArray, List.map_cons, List.map_nil, ev_const, q0])⟩) (by simp) ?_
  refine (right_is E.out.tab HR'.out).mono ?_; rintro e w12 ⟨rfl, hb⟩
  replace E := Lib.hid (S8.step E.out hb)
  clear hb
  have hSw := S8.sb E; refine ⟨_, rfl, hSw, ?_⟩; intro a ha
  refine line_still mo8CR 5 5 [] 69 (.bool true) [(3, .pointer (some ⟨w.heap.size, 0, none⟩)), (4, .pointer (some ⟨w.heap.size + 1, 0, none⟩))] rfl (by decide) (by decide) (by decide) ha (fun o ho hg => y_of (wanted_none hg) (fun wx hS => e_pick ho (ha.ev (i := 66) (v := .bool true) (by simp)) (ha.ev (i := 68) (v := .bool true) (by simp)) rfl)) (by simp) hSw ?_; intro a ha
  refine line_still mo8CR 6 6 [] 70 (.bool true) [(3, .pointer (some ⟨w.heap.size, 0, none⟩)), (4, .pointer (some ⟨w.heap.size + 1, 0, none⟩))] rfl (by decide) (by decide) (by decide) ha (fun o ho hg => y_of (wanted_none hg) (fun wx hS => e_move (.inl ho) (ha.ev (i := 69) (v := .bool true) (by simp)))) (by simp) hSw ?_; intro a ha
  refine line_still mo8CR 7 7 [] 71 (.agg #[.int .i64 y', .int .i64 m', .int .i64 d']) [(70, .bool true), (3, .pointer (some ⟨w.heap.size, 0, none⟩)), (4, .pointer (some ⟨w.heap.size + 1, 0, none⟩))] rfl (by decide) (by decide) (by decide) ha (fun o ho hg => y_of (mo8CR.wanted hg rfl ha (d := 70) (by simp)) (fun wx hS => e_load8 ho (ha.ev (i := 4) (v := .pointer (some ⟨w.heap.size + 1, 0, none⟩)) (by simp)) (hS.at_ (g := w.heap.size + 1) (x0 := .int .i64 y') (x1 := .int .i64 m') (x2 := .int .i64 d') (by simp)))) (by simp) hSw ?_; intro a ha
  refine line_ahead mo8CR 8 8 [] 9 73 (.agg #[.int .i64 y, .int .i64 m, .int .i64 d]) [(71, .agg #[.int .i64 y', .int .i64 m', .int .i64 d']), (70, .bool true), (3, .pointer (some ⟨w.heap.size, 0, none⟩)), (4, .pointer (some ⟨w.heap.size + 1, 0, none⟩))] rfl (by decide) (by decide) (by decide) ha (fun o ho hg => y_of (mo8CR.wanted hg rfl ha (d := 70) (by simp)) (fun wx hS => e_load8 ho (ha.ev (i := 3) (v := .pointer (some ⟨w.heap.size, 0, none⟩)) (by simp)) (hS.at_ (g := w.heap.size) (x0 := .int .i64 y) (x1 := .int .i64 m) (x2 := .int .i64 d) (by simp)))) (by simp) hSw ?_; intro a ha
  refine line_call mo8CR 9 8 [9] 72 (args := #[.agg #[.int .i64 y', .int .i64 m', .int .i64 d']]) [(73, .agg #[.int .i64 y, .int .i64 m, .int .i64 d]), (70, .bool true), (3, .pointer (some ⟨w.heap.size, 0, none⟩)), (4, .pointer (some ⟨w.heap.size + 1, 0, none⟩))] rfl (by decide) (by decide) (by decide) ha (fun o ho hg => ⟨(mo8CR.wanted hg rfl ha (d := 70) (by simp)), e_call8 (by kernel_rfl) ho rfl (by have q0 := ha.ev (i := 71) (v := .agg #[.int .i64 y', .int .i64 m', .int .i64 d']) (by simp); simp only [List.map_toArray, List.map_cons, List.map_nil, ev_const, q0])⟩) (by simp) ?_
  refine (days_is E.out.tab G2.out).mono ?_; rintro e w13 ⟨rfl, hb⟩
  replace E := Lib.hid (S8.step E.out hb)
  clear hb
  have hSw := S8.sb E; refine ⟨_, rfl, hSw, ?_⟩; intro a ha
  refine line_skip [] (by intro i; simp <;> omega) ?_
  refine line_call mo8CR 10 10 [] 74 (args := #[.agg #[.int .i64 y, .int .i64 m, .int .i64 d]]) [(72, .int .i64 nb), (70, .bool true), (3, .pointer (some ⟨w.heap.size, 0, none⟩)), (4, .pointer (some ⟨w.heap.size + 1, 0, none⟩))] rfl (by decide) (by decide) (by decide) ha (fun o ho hg => ⟨(mo8CR.wanted hg rfl ha (d := 70) (by simp)), e_call8 (by kernel_rfl) ho rfl (by have q0 := ha.ev (i := 73) (v := .agg #[.int .i64 y, .int .i64 m, .int .i64 d]) (by simp); simp only [List.map_toArray, List.map_cons, List.map_nil, ev_const, q0])⟩) (by simp) ?_
  refine (days_is E.out.tab G1.out).mono ?_; rintro e w14 ⟨rfl, hb⟩
  replace E := Lib.hid (S8.step E.out hb)
  clear hb
  have hSw := S8.sb E; refine ⟨_, rfl, hSw, ?_⟩; intro a ha
  refine line_still mo8CR 11 11 [] 75 (.int .i64 df) [(70, .bool true), (3, .pointer (some ⟨w.heap.size, 0, none⟩)), (4, .pointer (some ⟨w.heap.size + 1, 0, none⟩))] rfl (by decide) (by decide) (by decide) ha (fun o ho hg => y_of (mo8CR.wanted hg rfl ha (d := 70) (by simp)) (fun wx hS => e_sub8 G5.out GB.out ho (ha.ev (i := 72) (v := .int .i64 nb) (by simp)) (ha.ev (i := 74) (v := .int .i64 na) (by simp)))) (by simp) hSw ?_; intro a ha
  refine line_still mo8CR 12 12 [] 76 (.bool true) [(70, .bool true), (3, .pointer (some ⟨w.heap.size, 0, none⟩)), (4, .pointer (some ⟨w.heap.size + 1, 0, none⟩))] rfl (by decide) (by decide) (by decide) ha (fun o ho hg => y_of (mo8CR.wanted hg rfl ha (d := 70) (by simp)) (fun wx hS => (e_gtr8 ho (ha.ev (i := 75) (v := .int .i64 df) (by simp)) rfl).trans (by rw [GD.out]))) (by simp) hSw ?_; intro a ha
  refine line_still mo8CR 13 13 [] 77 (.bool true) [(3, .pointer (some ⟨w.heap.size, 0, none⟩)), (4, .pointer (some ⟨w.heap.size + 1, 0, none⟩))] rfl (by decide) (by decide) (by decide) ha (fun o ho hg => y_of (wanted_none hg) (fun wx hS => e_pick ho (ha.ev (i := 70) (v := .bool true) (by simp)) (ha.ev (i := 76) (v := .bool true) (by simp)) rfl)) (by simp) hSw ?_; intro a ha
  refine line_end mo8CR rfl ?_
  simp only [Exit.then]
  refine hK _ _ ?_
  clear hK K
  obtain ⟨us, rfl, hu⟩ := ha.list8
  have eu3 : us 3 = .pointer (some ⟨w.heap.size, 0, none⟩) := hu (3, .pointer (some ⟨w.heap.size, 0, none⟩)) (by simp)
  have eu4 : us 4 = .pointer (some ⟨w.heap.size + 1, 0, none⟩) := hu (4, .pointer (some ⟨w.heap.size + 1, 0, none⟩)) (by simp)
  have eu77 : us 77 = .bool true := hu (77, .bool true) (by simp)
  rw [show (List.range 106).map us = [us 0, us 1, us 2, us 3, us 4, us 5, us 6, us 7, us 8, us 9, us 10, us 11, us 12, us 13, us 14, us 15, us 16, us 17, us 18, us 19, us 20, us 21, us 22, us 23, us 24, us 25, us 26, us 27, us 28, us 29, us 30, us 31, us 32, us 33, us 34, us 35, us 36, us 37, us 38, us 39, us 40, us 41, us 42, us 43, us 44, us 45, us 46, us 47, us 48, us 49, us 50, us 51, us 52, us 53, us 54, us 55, us 56, us 57, us 58, us 59, us 60, us 61, us 62, us 63, us 64, us 65, us 66, us 67, us 68, us 69, us 70, us 71, us 72, us 73, us 74, us 75, us 76, us 77, us 78, us 79, us 80, us 81, us 82, us 83, us 84, us 85, us 86, us 87, us 88, us 89, us 90, us 91, us 92, us 93, us 94, us 95, us 96, us 97, us 98, us 99, us 100, us 101, us 102, us 103, us 104, us 105] from rfl, eu3, eu4, eu77]
  clear hu ha eu3 eu4 eu77
  go_wp2_with fail
  refine (awake8 _ E.out.tab).mono ?_; rintro e w15 ⟨rfl, hb⟩; replace E := Lib.hid (S8.step E.out hb); clear hb
  go_wp2_with fail
  go_ret
  exact ⟨rfl, E.out.bel⟩

def mo8DT : List Row3 := [(some 64, none, .load 23 (.tmp 3)), (some 65, none, .call { callee := .value (.func 19), args := #[.tmp 64], argTypes := #[23] }), (some 66, none, .move (.tmp 65)), (some 67, some (2, true), .load 23 (.tmp 4)), (some 68, some (2, true), .call { callee := .value (.func 19), args := #[.tmp 67], argTypes := #[23] }), (some 69, none, .pick (.tmp 66) (.tmp 68) (.const (.bool false))), (some 70, none, .move (.tmp 69)), (some 71, some (6, true), .load 23 (.tmp 4)), (some 72, some (6, true), .call { callee := .value (.func 23), args := #[.tmp 71], argTypes := #[23] }), (some 73, some (6, true), .load 23 (.tmp 3)), (some 74, some (6, true), .call { callee := .value (.func 23), args := #[.tmp 73], argTypes := #[23] }), (some 75, some (6, true), .binOp .sub 3 (.tmp 72) (.tmp 74) 3), (some 76, some (6, true), .binOp .gtr 3 (.tmp 75) (.const (.int .i64 4000)) 3), (some 77, none, .pick (.tmp 70) (.tmp 76) (.const (.bool false)))]
set_option maxRecDepth 100000 in
theorem mo8DRow : (opsAt Tryd.prog 6 5).toList.map row3 = mo8DT := by kernel_rfl
theorem mo8DSel : Region.noSelect (opsAt Tryd.prog 6 5) = true := by kernel_rfl
theorem mo8DDone : Region.ready .any (opsAt Tryd.prog 6 5) (upto (opsAt Tryd.prog 6 5).size (opsAt Tryd.prog 6 5).size []) = [] := by kernel_rfl
theorem mo8Dstill0 : [(0, [], 0), (2, [], 2), (3, [], 3), (5, [], 5), (6, [], 6), (7, [], 7), (8, [], 9), (11, [], 11), (12, [], 12), (13, [], 13)].all (stillB (opsAt Tryd.prog 6 5)) = true := by kernel_rfl
theorem mo8Dsole0 : [(1, [], 1), (4, [], 4), (8, [9], 8), (10, [], 10)].all (soleB (opsAt Tryd.prog 6 5)) = true := by kernel_rfl
theorem mo8DR : Reg (opsAt Tryd.prog 6 5) mo8DT [(0, [], 0), (2, [], 2), (3, [], 3), (5, [], 5), (6, [], 6), (7, [], 7), (8, [], 9), (11, [], 11), (12, [], 12), (13, [], 13)] [(1, [], 1), (4, [], 4), (8, [9], 8), (10, [], 10)] := ⟨mo8DRow, mo8DSel, (all_parts mo8Dstill0 (fun k h => by cases h)), (all_parts mo8Dsole0 (fun k h => by cases h)), mo8DDone⟩

set_option maxHeartbeats 4000000 in
set_option maxRecDepth 100000 in
theorem months8_D (y m d y' m' d' n : Int) (hr : ok8 y m d = true) (hr' : ok8 y' m' d' = true) (hd : ¬ 4000 < days8 y' m' d' - days8 y m d)  (w : World) (hT : Tabs w) : Calls Tryd.prog 6 #[.agg #[.int .i64 y, .int .i64 m, .int .i64 d], .agg #[.int .i64 y', .int .i64 m', .int .i64 d'], .int .i64 n] w (Ret8 w (.bool true)) := by
  have HT := Lib.hid hT
  clear hT
  obtain ⟨⟨Y1, M1, Z1⟩, h1⟩ : ∃ q, add8 y m d n = q := ⟨_, rfl⟩
  obtain ⟨e1, h2⟩ : ∃ e : Int, (if addOk y m d n = true then 0 else 1) = e := ⟨_, rfl⟩
  obtain ⟨⟨Y2, M2, Z2⟩, h3⟩ : ∃ q, end8 y m d = q := ⟨_, rfl⟩
  obtain ⟨q1, h4⟩ : ∃ q, wd8 y m d = q := ⟨_, rfl⟩
  obtain ⟨q2, h5⟩ : ∃ q, qu8 y m d = q := ⟨_, rfl⟩
  obtain ⟨q3, h6⟩ : ∃ q, months8 y m d y' m' d' = q := ⟨_, rfl⟩
  have H1 := Lib.hid h1
  have H2 := Lib.hid h2
  have H3 := Lib.hid h3
  have H4 := Lib.hid h4
  have H5 := Lib.hid h5
  have H6 := Lib.hid h6
  have HR := Lib.hid hr
  have HR' := Lib.hid hr'
  obtain ⟨na, g1⟩ : ∃ q, days8 y m d = q := ⟨_, rfl⟩
  obtain ⟨nb, g2⟩ : ∃ q, days8 y' m' d' = q := ⟨_, rfl⟩
  have g3 := days8_bd y m d
  have g4 := days8_bd y' m' d'
  rw [g1] at g3 hd
  rw [g2] at g4 hd
  obtain ⟨df, g5⟩ : ∃ q, nb - na = q := ⟨_, rfl⟩
  rw [g5] at hd
  have GB : Hid (-9223372036854775808 ≤ df ∧ df ≤ 9223372036854775807) := ⟨by omega, by omega⟩
  have GD : Hid (decide (4000 < df) = false) := decide_eq_false (by omega)
  have G1 := Lib.hid g1
  have G2 := Lib.hid g2
  have G5 := Lib.hid g5
  clear h1 h2 h3 h4 h5 h6 hr hr' g1 g2 g3 g4 g5 hd
  go_enter Tryd.func6, Tryd.ntmps6
  go_wp2_with fail
  generalize hW : World.alloc (World.alloc w _) _ = W0
  have E0 : S8 w W0 [(w.heap.size + 1, .int .i64 y', .int .i64 m', .int .i64 d'), (w.heap.size, .int .i64 y, .int .i64 m, .int .i64 d)] := by rw [← hW]; exact (((S8.start w HT.out).lay rfl).lay (by simp))
  have E := Lib.hid E0
  clear hW E0
  obtain ⟨q0, q1, q2, qf0, qf1, qf2, qlt⟩ := (S8.at_ (x0 := .int .i64 y) (x1 := .int .i64 m) (x2 := .int .i64 d) (g := w.heap.size) E (by simp))
  go_wp2_with fail
  refine (add_eq E.out.tab H1.out H2.out).mono ?_; rintro e w1 ⟨rfl, hb⟩; replace E := Lib.hid (S8.step E.out hb); clear hb
  clear q0 q1 q2 qf0 qf1 qf2 qlt
  obtain ⟨q0, q1, q2, qf0, qf1, qf2, qlt⟩ := (S8.at_ (x0 := .int .i64 y) (x1 := .int .i64 m) (x2 := .int .i64 d) (g := w.heap.size) E (by simp))
  go_wp2_with fail
  clear q0 q1 q2 qf0 qf1 qf2 qlt
  replace E := Lib.hid (S8.lay (t := 23) (x0 := .int .i64 Y1) (x1 := .int .i64 M1) (x2 := .int .i64 Z1) (g := w1.heap.size) E.out rfl)
  generalize hW2 : World.alloc w1 _ = V1 at E ⊢
  clear hW2
  refine (refadd_eq E.out.tab H1.out H2.out).mono ?_; rintro e w2 ⟨rfl, hb⟩; replace E := Lib.hid (S8.step E.out hb); clear hb
  go_wp2_with fail
  replace E := Lib.hid (S8.lay (t := 23) (x0 := .int .i64 Y1) (x1 := .int .i64 M1) (x2 := .int .i64 Z1) (g := w2.heap.size) E.out rfl)
  generalize hW2 : World.alloc w2 _ = V2 at E ⊢
  clear hW2
  replace E := Lib.hid (S8.drew E.out)
  go_region_held3 (fun v => v.cell? ⟨w2.heap.size, 0, none⟩ = some (.int .i64 Y1) ∧ v.cell? ⟨w2.heap.size, 1, none⟩ = some (.int .i64 M1) ∧ v.cell? ⟨w2.heap.size, 2, none⟩ = some (.int .i64 Z1) ∧ v.cell? ⟨w1.heap.size, 0, none⟩ = some (.int .i64 Y1) ∧ v.cell? ⟨w1.heap.size, 1, none⟩ = some (.int .i64 M1) ∧ v.cell? ⟨w1.heap.size, 2, none⟩ = some (.int .i64 Z1) ∧ v.cell? ⟨w.heap.size + 1, 0, none⟩ = some (.int .i64 y') ∧ v.cell? ⟨w.heap.size + 1, 1, none⟩ = some (.int .i64 m') ∧ v.cell? ⟨w.heap.size + 1, 2, none⟩ = some (.int .i64 d') ∧ v.cell? ⟨w.heap.size, 0, none⟩ = some (.int .i64 y) ∧ v.cell? ⟨w.heap.size, 1, none⟩ = some (.int .i64 m) ∧ v.cell? ⟨w.heap.size, 2, none⟩ = some (.int .i64 d)) (with_reducible exact ⟨(S8.at_ (x0 := .int .i64 Y1) (x1 := .int .i64 M1) (x2 := .int .i64 Z1) (g := w2.heap.size) E (by simp)).c0, (S8.at_ (x0 := .int .i64 Y1) (x1 := .int .i64 M1) (x2 := .int .i64 Z1) (g := w2.heap.size) E (by simp)).c1, (S8.at_ (x0 := .int .i64 Y1) (x1 := .int .i64 M1) (x2 := .int .i64 Z1) (g := w2.heap.size) E (by simp)).c2, (S8.at_ (x0 := .int .i64 Y1) (x1 := .int .i64 M1) (x2 := .int .i64 Z1) (g := w1.heap.size) E (by simp)).c0, (S8.at_ (x0 := .int .i64 Y1) (x1 := .int .i64 M1) (x2 := .int .i64 Z1) (g := w1.heap.size) E (by simp)).c1, (S8.at_ (x0 := .int .i64 Y1) (x1 := .int .i64 M1) (x2 := .int .i64 Z1) (g := w1.heap.size) E (by simp)).c2, (S8.at_ (x0 := .int .i64 y') (x1 := .int .i64 m') (x2 := .int .i64 d') (g := w.heap.size + 1) E (by simp)).c0, (S8.at_ (x0 := .int .i64 y') (x1 := .int .i64 m') (x2 := .int .i64 d') (g := w.heap.size + 1) E (by simp)).c1, (S8.at_ (x0 := .int .i64 y') (x1 := .int .i64 m') (x2 := .int .i64 d') (g := w.heap.size + 1) E (by simp)).c2, (S8.at_ (x0 := .int .i64 y) (x1 := .int .i64 m) (x2 := .int .i64 d) (g := w.heap.size) E (by simp)).c0, (S8.at_ (x0 := .int .i64 y) (x1 := .int .i64 m) (x2 := .int .i64 d) (g := w.heap.size) E (by simp)).c1, (S8.at_ (x0 := .int .i64 y) (x1 := .int .i64 m) (x2 := .int .i64 d) (g := w.heap.size) E (by simp)).c2⟩)
    ((first | (go_at_call 29; (with_reducible refine (weekday_is E.out.tab H4.out).mono ?_); rintro e w3 ⟨rfl, hb⟩; replace E := Lib.hid (S8.step E.out hb); clear hb) | (go_at_call 30; (with_reducible refine (refweekday_is E.out.tab H4.out).mono ?_); rintro e w4 ⟨rfl, hb⟩; replace E := Lib.hid (S8.step E.out hb); clear hb) | (go_at_call 31; (with_reducible refine (monthEnd_is E.out.tab H3.out).mono ?_); rintro e w5 ⟨rfl, hb⟩; replace E := Lib.hid (S8.step E.out hb); clear hb) | (go_at_call 32; (with_reducible refine (refMonthEnd_is E.out.tab H3.out).mono ?_); rintro e w6 ⟨rfl, hb⟩; replace E := Lib.hid (S8.step E.out hb); clear hb) | (go_at_call 33; (with_reducible refine (months_is E.out.tab H6.out).mono ?_); rintro e w7 ⟨rfl, hb⟩; replace E := Lib.hid (S8.step E.out hb); clear hb) | (go_at_call 34; (with_reducible refine (refmonths_is E.out.tab H6.out).mono ?_); rintro e w8 ⟨rfl, hb⟩; replace E := Lib.hid (S8.step E.out hb); clear hb) | (go_at_call 35; (with_reducible refine (quarter_is E.out.tab H5.out).mono ?_); rintro e w9 ⟨rfl, hb⟩; replace E := Lib.hid (S8.step E.out hb); clear hb) | (go_at_call 36; (with_reducible refine (refquarter_is E.out.tab H5.out).mono ?_); rintro e w10 ⟨rfl, hb⟩; replace E := Lib.hid (S8.step E.out hb); clear hb)))
  replace E : Hid (S8 w w10 [(w.heap.size + 1, .int .i64 y', .int .i64 m', .int .i64 d'), (w.heap.size, .int .i64 y, .int .i64 m, .int .i64 d)]) := Lib.hid (S8.sub E.out (fun q hq => by simp at hq ⊢; rcases hq with rfl | rfl <;> simp))
  go_wp2_with fail
  replace E := Lib.hid (S8.drew E.out)
  rename_i K hK
  refine line_start (ops := opsAt Tryd.prog 6 5) (S := SB8 [(w.heap.size + 1, .int .i64 y', .int .i64 m', .int .i64 d'), (w.heap.size, .int .i64 y, .int .i64 m, .int .i64 d)]) (by kernel_rfl) (by kernel_rfl) (S8.sb E) ?_
  have hSw := S8.sb E
  generalize hA : Act.mk _ _ = a
  have ha : Fr 106 a [(3, .pointer (some ⟨w.heap.size, 0, none⟩)), (4, .pointer (some ⟨w.heap.size + 1, 0, none⟩))] := by rw [← hA]; exact ⟨rfl, rfl, by intro q hq; simp at hq; rcases hq with rfl | rfl <;> rfl⟩
  clear hA
  refine line_still mo8DR 0 0 [] 64 (.agg #[.int .i64 y, .int .i64 m, .int .i64 d]) [(3, .pointer (some ⟨w.heap.size, 0, none⟩)), (4, .pointer (some ⟨w.heap.size + 1, 0, none⟩))] rfl (by decide) (by decide) (by decide) ha (fun o ho hg => y_of (wanted_none hg) (fun wx hS => e_load8 ho (ha.ev (i := 3) (v := .pointer (some ⟨w.heap.size, 0, none⟩)) (by simp)) (hS.at_ (g := w.heap.size) (x0 := .int .i64 y) (x1 := .int .i64 m) (x2 := .int .i64 d) (by simp)))) (by simp) hSw ?_; intro a ha
  refine line_call mo8DR 1 1 [] 65 (args := #[.agg #[.int .i64 y, .int .i64 m, .int .i64 d]]) [(3, .pointer (some ⟨w.heap.size, 0, none⟩)), (4, .pointer (some ⟨w.heap.size + 1, 0, none⟩))] rfl (by decide) (by decide) (by decide) ha (fun o ho hg => ⟨(wanted_none hg), e_call8 (by kernel_rfl) ho rfl (by have q0 := ha.ev (i := 64) (v := .agg #[.int .i64 y, .int .i64 m, .int .i64 d]) (by simp); simp only [List.map_toArray, List.map_cons, List.map_nil, ev_const, q0])⟩) (by simp) ?_
  refine (right_is E.out.tab HR.out).mono ?_; rintro e w11 ⟨rfl, hb⟩
  replace E := Lib.hid (S8.step E.out hb)
  clear hb
  have hSw := S8.sb E; refine ⟨_, rfl, hSw, ?_⟩; intro a ha
  refine line_still mo8DR 2 2 [] 66 (.bool true) [(3, .pointer (some ⟨w.heap.size, 0, none⟩)), (4, .pointer (some ⟨w.heap.size + 1, 0, none⟩))] rfl (by decide) (by decide) (by decide) ha (fun o ho hg => y_of (wanted_none hg) (fun wx hS => e_move (.inl ho) (ha.ev (i := 65) (v := .bool true) (by simp)))) (by simp) hSw ?_; intro a ha
  refine line_still mo8DR 3 3 [] 67 (.agg #[.int .i64 y', .int .i64 m', .int .i64 d']) [(66, .bool true), (3, .pointer (some ⟨w.heap.size, 0, none⟩)), (4, .pointer (some ⟨w.heap.size + 1, 0, none⟩))] rfl (by decide) (by decide) (by decide) ha (fun o ho hg => y_of (mo8DR.wanted hg rfl ha (d := 66) (by simp)) (fun wx hS => e_load8 ho (ha.ev (i := 4) (v := .pointer (some ⟨w.heap.size + 1, 0, none⟩)) (by simp)) (hS.at_ (g := w.heap.size + 1) (x0 := .int .i64 y') (x1 := .int .i64 m') (x2 := .int .i64 d') (by simp)))) (by simp) hSw ?_; intro a ha
  refine line_call mo8DR 4 4 [] 68 (args := #[.agg #[.int .i64 y', .int .i64 m', .int .i64 d']]) [(66, .bool true), (3, .pointer (some ⟨w.heap.size, 0, none⟩)), (4, .pointer (some ⟨w.heap.size + 1, 0, none⟩))] rfl (by decide) (by decide) (by decide) ha (fun o ho hg => ⟨(mo8DR.wanted hg rfl ha (d := 66) (by simp)), e_call8 (by kernel_rfl) ho rfl (by have q0 := ha.ev (i := 67) (v := .agg #[.int .i64 y', .int .i64 m', .int .i64 d']) (by simp); simp only [List.map_toArray, List.map_cons, List.map_nil, ev_const, q0])⟩) (by simp) ?_
  refine (right_is E.out.tab HR'.out).mono ?_; rintro e w12 ⟨rfl, hb⟩
  replace E := Lib.hid (S8.step E.out hb)
  clear hb
  have hSw := S8.sb E; refine ⟨_, rfl, hSw, ?_⟩; intro a ha
  refine line_still mo8DR 5 5 [] 69 (.bool true) [(3, .pointer (some ⟨w.heap.size, 0, none⟩)), (4, .pointer (some ⟨w.heap.size + 1, 0, none⟩))] rfl (by decide) (by decide) (by decide) ha (fun o ho hg => y_of (wanted_none hg) (fun wx hS => e_pick ho (ha.ev (i := 66) (v := .bool true) (by simp)) (ha.ev (i := 68) (v := .bool true) (by simp)) rfl)) (by simp) hSw ?_; intro a ha
  refine line_still mo8DR 6 6 [] 70 (.bool true) [(3, .pointer (some ⟨w.heap.size, 0, none⟩)), (4, .pointer (some ⟨w.heap.size + 1, 0, none⟩))] rfl (by decide) (by decide) (by decide) ha (fun o ho hg => y_of (wanted_none hg) (fun wx hS => e_move (.inl ho) (ha.ev (i := 69) (v := .bool true) (by simp)))) (by simp) hSw ?_; intro a ha
  refine line_still mo8DR 7 7 [] 71 (.agg #[.int .i64 y', .int .i64 m', .int .i64 d']) [(70, .bool true), (3, .pointer (some ⟨w.heap.size, 0, none⟩)), (4, .pointer (some ⟨w.heap.size + 1, 0, none⟩))] rfl (by decide) (by decide) (by decide) ha (fun o ho hg => y_of (mo8DR.wanted hg rfl ha (d := 70) (by simp)) (fun wx hS => e_load8 ho (ha.ev (i := 4) (v := .pointer (some ⟨w.heap.size + 1, 0, none⟩)) (by simp)) (hS.at_ (g := w.heap.size + 1) (x0 := .int .i64 y') (x1 := .int .i64 m') (x2 := .int .i64 d') (by simp)))) (by simp) hSw ?_; intro a ha
  refine line_ahead mo8DR 8 8 [] 9 73 (.agg #[.int .i64 y, .int .i64 m, .int .i64 d]) [(71, .agg #[.int .i64 y', .int .i64 m', .int .i64 d']), (70, .bool true), (3, .pointer (some ⟨w.heap.size, 0, none⟩)), (4, .pointer (some ⟨w.heap.size + 1, 0, none⟩))] rfl (by decide) (by decide) (by decide) ha (fun o ho hg => y_of (mo8DR.wanted hg rfl ha (d := 70) (by simp)) (fun wx hS => e_load8 ho (ha.ev (i := 3) (v := .pointer (some ⟨w.heap.size, 0, none⟩)) (by simp)) (hS.at_ (g := w.heap.size) (x0 := .int .i64 y) (x1 := .int .i64 m) (x2 := .int .i64 d) (by simp)))) (by simp) hSw ?_; intro a ha
  refine line_call mo8DR 9 8 [9] 72 (args := #[.agg #[.int .i64 y', .int .i64 m', .int .i64 d']]) [(73, .agg #[.int .i64 y, .int .i64 m, .int .i64 d]), (70, .bool true), (3, .pointer (some ⟨w.heap.size, 0, none⟩)), (4, .pointer (some ⟨w.heap.size + 1, 0, none⟩))] rfl (by decide) (by decide) (by decide) ha (fun o ho hg => ⟨(mo8DR.wanted hg rfl ha (d := 70) (by simp)), e_call8 (by kernel_rfl) ho rfl (by have q0 := ha.ev (i := 71) (v := .agg #[.int .i64 y', .int .i64 m', .int .i64 d']) (by simp); simp only [List.map_toArray, List.map_cons, List.map_nil, ev_const, q0])⟩) (by simp) ?_
  refine (days_is E.out.tab G2.out).mono ?_; rintro e w13 ⟨rfl, hb⟩
  replace E := Lib.hid (S8.step E.out hb)
  clear hb
  have hSw := S8.sb E; refine ⟨_, rfl, hSw, ?_⟩; intro a ha
  refine line_skip [] (by intro i; simp <;> omega) ?_
  refine line_call mo8DR 10 10 [] 74 (args := #[.agg #[.int .i64 y, .int .i64 m, .int .i64 d]]) [(72, .int .i64 nb), (70, .bool true), (3, .pointer (some ⟨w.heap.size, 0, none⟩)), (4, .pointer (some ⟨w.heap.size + 1, 0, none⟩))] rfl (by decide) (by decide) (by decide) ha (fun o ho hg => ⟨(mo8DR.wanted hg rfl ha (d := 70) (by simp)), e_call8 (by kernel_rfl) ho rfl (by have q0 := ha.ev (i := 73) (v := .agg #[.int .i64 y, .int .i64 m, .int .i64 d]) (by simp); simp only [List.map_toArray, List.map_cons, List.map_nil, ev_const, q0])⟩) (by simp) ?_
  refine (days_is E.out.tab G1.out).mono ?_; rintro e w14 ⟨rfl, hb⟩
  replace E := Lib.hid (S8.step E.out hb)
  clear hb
  have hSw := S8.sb E; refine ⟨_, rfl, hSw, ?_⟩; intro a ha
  refine line_still mo8DR 11 11 [] 75 (.int .i64 df) [(70, .bool true), (3, .pointer (some ⟨w.heap.size, 0, none⟩)), (4, .pointer (some ⟨w.heap.size + 1, 0, none⟩))] rfl (by decide) (by decide) (by decide) ha (fun o ho hg => y_of (mo8DR.wanted hg rfl ha (d := 70) (by simp)) (fun wx hS => e_sub8 G5.out GB.out ho (ha.ev (i := 72) (v := .int .i64 nb) (by simp)) (ha.ev (i := 74) (v := .int .i64 na) (by simp)))) (by simp) hSw ?_; intro a ha
  refine line_still mo8DR 12 12 [] 76 (.bool false) [(70, .bool true), (3, .pointer (some ⟨w.heap.size, 0, none⟩)), (4, .pointer (some ⟨w.heap.size + 1, 0, none⟩))] rfl (by decide) (by decide) (by decide) ha (fun o ho hg => y_of (mo8DR.wanted hg rfl ha (d := 70) (by simp)) (fun wx hS => (e_gtr8 ho (ha.ev (i := 75) (v := .int .i64 df) (by simp)) rfl).trans (by rw [GD.out]))) (by simp) hSw ?_; intro a ha
  refine line_still mo8DR 13 13 [] 77 (.bool false) [(3, .pointer (some ⟨w.heap.size, 0, none⟩)), (4, .pointer (some ⟨w.heap.size + 1, 0, none⟩))] rfl (by decide) (by decide) (by decide) ha (fun o ho hg => y_of (wanted_none hg) (fun wx hS => e_pick ho (ha.ev (i := 70) (v := .bool true) (by simp)) (ha.ev (i := 76) (v := .bool false) (by simp)) rfl)) (by simp) hSw ?_; intro a ha
  refine line_end mo8DR rfl ?_
  simp only [Exit.then]
  refine hK _ _ ?_
  clear hK K
  obtain ⟨us, rfl, hu⟩ := ha.list8
  have eu3 : us 3 = .pointer (some ⟨w.heap.size, 0, none⟩) := hu (3, .pointer (some ⟨w.heap.size, 0, none⟩)) (by simp)
  have eu4 : us 4 = .pointer (some ⟨w.heap.size + 1, 0, none⟩) := hu (4, .pointer (some ⟨w.heap.size + 1, 0, none⟩)) (by simp)
  have eu77 : us 77 = .bool false := hu (77, .bool false) (by simp)
  rw [show (List.range 106).map us = [us 0, us 1, us 2, us 3, us 4, us 5, us 6, us 7, us 8, us 9, us 10, us 11, us 12, us 13, us 14, us 15, us 16, us 17, us 18, us 19, us 20, us 21, us 22, us 23, us 24, us 25, us 26, us 27, us 28, us 29, us 30, us 31, us 32, us 33, us 34, us 35, us 36, us 37, us 38, us 39, us 40, us 41, us 42, us 43, us 44, us 45, us 46, us 47, us 48, us 49, us 50, us 51, us 52, us 53, us 54, us 55, us 56, us 57, us 58, us 59, us 60, us 61, us 62, us 63, us 64, us 65, us 66, us 67, us 68, us 69, us 70, us 71, us 72, us 73, us 74, us 75, us 76, us 77, us 78, us 79, us 80, us 81, us 82, us 83, us 84, us 85, us 86, us 87, us 88, us 89, us 90, us 91, us 92, us 93, us 94, us 95, us 96, us 97, us 98, us 99, us 100, us 101, us 102, us 103, us 104, us 105] from rfl, eu3, eu4, eu77]
  clear hu ha eu3 eu4 eu77
  go_wp2_with fail
  obtain ⟨G, hG⟩ : ∃ G, split8 y m d y' m' d' = G := ⟨_, rfl⟩
  have hlen := split8_len y m d y' m' d'
  rw [hG] at hlen
  have HG := Lib.hid hG
  clear hG
  have CS1 : Hid (∀ w, Tabs w → Calls Tryd.prog 37 #[.agg #[.int .i64 y, .int .i64 m, .int .i64 d], .agg #[.int .i64 y', .int .i64 m', .int .i64 d']] w (RetRd8 w G)) := by show ∀ w, _ → _; rw [← HG.out]; exact fun w hT => split_is y m d y' m' d' w hT
  have CS2 : Hid (∀ w, Tabs w → Calls Tryd.prog 38 #[.agg #[.int .i64 y, .int .i64 m, .int .i64 d], .agg #[.int .i64 y', .int .i64 m', .int .i64 d']] w (RetRd8 w G)) := by show ∀ w, _ → _; rw [← HG.out]; exact fun w hT => refsplit_is y m d y' m' d' w hT
  replace E := Lib.hid (S8.drew E.out)
  go_region_held3 (fun v => v.cell? ⟨w.heap.size, 0, none⟩ = some (.int .i64 y) ∧ v.cell? ⟨w.heap.size, 1, none⟩ = some (.int .i64 m) ∧ v.cell? ⟨w.heap.size, 2, none⟩ = some (.int .i64 d) ∧ v.cell? ⟨w.heap.size + 1, 0, none⟩ = some (.int .i64 y') ∧ v.cell? ⟨w.heap.size + 1, 1, none⟩ = some (.int .i64 m') ∧ v.cell? ⟨w.heap.size + 1, 2, none⟩ = some (.int .i64 d')) (with_reducible exact ⟨(S8.at_ (x0 := .int .i64 y) (x1 := .int .i64 m) (x2 := .int .i64 d) (g := w.heap.size) E (by simp)).c0, (S8.at_ (x0 := .int .i64 y) (x1 := .int .i64 m) (x2 := .int .i64 d) (g := w.heap.size) E (by simp)).c1, (S8.at_ (x0 := .int .i64 y) (x1 := .int .i64 m) (x2 := .int .i64 d) (g := w.heap.size) E (by simp)).c2, (S8.at_ (x0 := .int .i64 y') (x1 := .int .i64 m') (x2 := .int .i64 d') (g := w.heap.size + 1) E (by simp)).c0, (S8.at_ (x0 := .int .i64 y') (x1 := .int .i64 m') (x2 := .int .i64 d') (g := w.heap.size + 1) E (by simp)).c1, (S8.at_ (x0 := .int .i64 y') (x1 := .int .i64 m') (x2 := .int .i64 d') (g := w.heap.size + 1) E (by simp)).c2⟩)
    (first | (go_at_call 37; (with_reducible refine (CS1.out _ E.out.tab).mono ?_); rintro e wx ⟨vx, rfl, hrx, hb⟩; replace E := Lib.hid (S8.step E.out hb); have RX := Lib.hid hrx; clear hb hrx) | (go_at_call 38; (with_reducible refine (CS2.out _ E.out.tab).mono ?_); rintro e wy ⟨vy, rfl, hry, hb⟩; replace E := Lib.hid (S8.step E.out hb); replace RX := Lib.hid (RX.out.on hb); have RY := Lib.hid hry; clear hb hry))
  obtain ⟨Ax, cx, hvx⟩ := RX.out.len
  obtain ⟨Ay, cy, hvy⟩ := RY.out.len
  subst hvx; subst hvy
  have hlen2 : (G.length : Int) ≤ 1200 := by omega
  go_wp2_with fail
  go_loopw [92] (fun iv wr => ∃ k : Nat, k ≤ G.length ∧ iv = .int .i64 (k : Int) ∧ S8 w wr [(w.heap.size + 1, .int .i64 y', .int .i64 m', .int .i64 d'), (w.heap.size, .int .i64 y, .int .i64 m, .int .i64 d)] ∧ Rd8 wr (.slice Ax G.length cx) G ∧ Rd8 wr (.slice Ay G.length cy) G) (fun iv _ => G.length - (intOf iv).toNat)
  case atStart => exact ⟨0, Nat.zero_le _, rfl, E.out, RX.out, RY.out⟩
  case round =>
    obtain ⟨k, hk, rfl, hE, hrx, hry⟩ := hrel
    clear E RX RY
    have E := Lib.hid hE
    have RX := Lib.hid hrx
    have RY := Lib.hid hry
    clear hE hrx hry
    by_cases hlt : k < G.length
    ·
      obtain ⟨bx, c1, hb1, hc1, hm1, x0, x1, x2, x3, x4, x5⟩ := RX.out.at_ hlt
      obtain ⟨by_, c2, hb2, hc2, hm2, z0, z1, z2, z3, z4, z5⟩ := RY.out.at_ hlt
      obtain ⟨⟨⟨A1, A2, A3⟩, A4, A5, A6⟩, hq⟩ : ∃ q : D6, G.getD k ((0, 0, 0), (0, 0, 0)) = q := ⟨_, rfl⟩
      rw [hq] at x0 x1 x2 x3 x4 x5 z0 z1 z2 z3 z4 z5
      clear hq
      injection hb1 with hb1a _ hb1c
      injection hb2 with hb2a _ hb2c
      subst hb1a; subst hb1c; subst hb2a; subst hb2c
      unfold maxLen at hm1 hm2
      have i1 : (0 : Int) ≤ (k : Int) := by omega
      have i2 : (k : Int) < (G.length : Int) := by omega
      go_wp2_with fail
      have K44 : ∀ w, (Op.equalIn 10000 44 (.agg #[.int .i64 A1, .int .i64 A2, .int .i64 A3, .int .i64 A4, .int .i64 A5, .int .i64 A6]) (.agg #[.int .i64 A1, .int .i64 A2, .int .i64 A3, .int .i64 A4, .int .i64 A5, .int .i64 A6])).run Tryd.prog w = .ok true w := fun w => run_peq8 _ _ _ _ _ _
      go_quiet ((fail))
      have hbq := below_drewN wr nq
      go_wp2_with fail
      exact ⟨⟨k + 1, hlt, by push_cast; rfl, S8.step E.out hbq, RX.out.on hbq, RY.out.on hbq⟩, by simp [intOf]; omega⟩
    ·
      go_wp2_with fail
      refine (awake8 _ E.out.tab).mono ?_; rintro e w15 ⟨rfl, hb⟩; replace E := Lib.hid (S8.step E.out hb); clear hb
      go_wp2_with fail
      go_ret
      exact ⟨rfl, E.out.bel⟩

theorem months8_law (y m d y' m' d' n : Int) (w : World) (hT : Tabs w) : Calls Tryd.prog 6 #[.agg #[.int .i64 y, .int .i64 m, .int .i64 d], .agg #[.int .i64 y', .int .i64 m', .int .i64 d'], .int .i64 n] w (Ret8 w (.bool true)) := by
  cases hr : ok8 y m d with
  | false => exact months8_A y m d y' m' d' n hr w hT
  | true =>
    cases hr' : ok8 y' m' d' with
    | false => exact months8_B y m d y' m' d' n hr hr' w hT
    | true =>
      by_cases hd : 4000 < days8 y' m' d' - days8 y m d
      · exact months8_C y m d y' m' d' n hr hr' hd w hT
      · exact months8_D y m d y' m' d' n hr hr' hd w hT

end Go.Proofs.YtnndamhilbcdfaaDoor
