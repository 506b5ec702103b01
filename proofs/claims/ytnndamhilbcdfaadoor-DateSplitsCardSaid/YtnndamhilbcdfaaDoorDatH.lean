/-
  Contracts of layer 8, the eighth part: Next, Ahead and the document's.
-/
import Derived.Test.YtnndamhilbcdfaaDoorDatG
set_option linter.unusedVariables false
set_option linter.unusedSimpArgs false
set_option linter.unusedVariables false
set_option linter.unusedSimpArgs false
set_option linter.unusedVariables false
set_option linter.unusedSimpArgs false
namespace Go.Proofs.YtnndamhilbcdfaaDoor
open Go.RowKit

theorem right_is {y m d : Int} {b : Bool} {w : World} (hT : Tabs w) (hb : ok8 y m d = b) : Calls Tryd.prog 19 #[.agg #[.int .i64 y, .int .i64 m, .int .i64 d]] w (Ret8 w (.bool b)) := by
  subst hb; exact right_any y m d w hT
theorem refright_is {y m d : Int} {b : Bool} {w : World} (hT : Tabs w) (hb : ok8 y m d = b) : Calls Tryd.prog 20 #[.agg #[.int .i64 y, .int .i64 m, .int .i64 d]] w (Ret8 w (.bool b)) := by
  subst hb; exact refright_any y m d w hT
theorem cmp_is {y m d y' m' d' z : Int} {w : World} (hT : Tabs w) (hz : cmp8 y m d y' m' d' = z) : Calls Tryd.prog 21 #[.agg #[.int .i64 y, .int .i64 m, .int .i64 d], .agg #[.int .i64 y', .int .i64 m', .int .i64 d']] w (Ret8 w (.int .i64 z)) := by
  subst hz; exact cmp_any y m d y' m' d' w hT
theorem months_is {y m d y' m' d' z : Int} {w : World} (hT : Tabs w) (hz : months8 y m d y' m' d' = z) : Calls Tryd.prog 33 #[.agg #[.int .i64 y, .int .i64 m, .int .i64 d], .agg #[.int .i64 y', .int .i64 m', .int .i64 d']] w (Ret8 w (.int .i64 z)) := by
  subst hz; exact months_any y m d y' m' d' w hT

theorem monthEnd_is {y m d Y M D : Int} {w : World} (hT : Tabs w) (h : end8 y m d = (Y, M, D)) : Calls Tryd.prog 31 #[.agg #[.int .i64 y, .int .i64 m, .int .i64 d]] w (Ret8 w (.agg #[.int .i64 Y, .int .i64 M, .int .i64 D])) := by
  have := monthEnd_any y m d w hT; rw [h] at this; exact this

theorem refMonthEnd_is {y m d Y M D : Int} {w : World} (hT : Tabs w) (h : end8 y m d = (Y, M, D)) : Calls Tryd.prog 32 #[.agg #[.int .i64 y, .int .i64 m, .int .i64 d]] w (Ret8 w (.agg #[.int .i64 Y, .int .i64 M, .int .i64 D])) := by
  have := refMonthEnd_any y m d w hT; rw [h] at this; exact this

theorem add_is {y m d k Y M D : Int} {w : World} (hT : Tabs w) (h : add8 y m d k = (Y, M, D)) (hc : addOk y m d k = true) : Calls Tryd.prog 27 #[.agg #[.int .i64 y, .int .i64 m, .int .i64 d], .int .i64 k] w (Ret8 w (.tuple #[.agg #[.int .i64 Y, .int .i64 M, .int .i64 D], .int .i64 0])) := by
  have := add_any y m d k w hT; rw [h, if_pos hc] at this; exact this

theorem add_no {y m d k : Int} {w : World} (hT : Tabs w) (hc : addOk y m d k = false) : Calls Tryd.prog 27 #[.agg #[.int .i64 y, .int .i64 m, .int .i64 d], .int .i64 k] w (Ret8 w (.tuple #[.agg #[.int .i64 (0), .int .i64 (0), .int .i64 (0)], .int .i64 1])) := by
  have hn : ¬ addOk y m d k = true := by rw [hc]; simp
  have := add_any y m d k w hT; rw [add8_not hn, if_neg hn] at this; exact this

theorem refadd_is {y m d k Y M D : Int} {w : World} (hT : Tabs w) (h : add8 y m d k = (Y, M, D)) (hc : addOk y m d k = true) : Calls Tryd.prog 28 #[.agg #[.int .i64 y, .int .i64 m, .int .i64 d], .int .i64 k] w (Ret8 w (.tuple #[.agg #[.int .i64 Y, .int .i64 M, .int .i64 D], .int .i64 0])) := by
  have := refadd_any y m d k w hT; rw [h, if_pos hc] at this; exact this

theorem refadd_no {y m d k : Int} {w : World} (hT : Tabs w) (hc : addOk y m d k = false) : Calls Tryd.prog 28 #[.agg #[.int .i64 y, .int .i64 m, .int .i64 d], .int .i64 k] w (Ret8 w (.tuple #[.agg #[.int .i64 (0), .int .i64 (0), .int .i64 (0)], .int .i64 1])) := by
  have hn : ¬ addOk y m d k = true := by rw [hc]; simp
  have := refadd_any y m d k w hT; rw [add8_not hn, if_neg hn] at this; exact this

set_option maxHeartbeats 4000000 in
set_option maxRecDepth 100000 in
theorem next_in (y m d : Int) (hr : ok8 y m d = true) (hd : d < len8 y m)  (w : World) (hT : Tabs w) : Calls Tryd.prog 11 #[.agg #[.int .i64 y, .int .i64 m, .int .i64 d]] w (Ret8 w (.tuple #[.agg #[.int .i64 y, .int .i64 m, .int .i64 ((d + 1))], .int .i64 0])) := by
  have HT := Lib.hid hT
  clear hT
  obtain ⟨h1, h2, h3, h4, h5, h6⟩ := ok8_iff.1 hr
  have hl := len8_bd y m
  obtain ⟨L, hL⟩ : ∃ L, len8 y m = L := ⟨_, rfl⟩
  rw [hL] at hd hl
  have hd2 : d ≤ 31 := by omega
  have HE : Hid (end8 y m d = (y, m, L)) := by show _ = _; rw [end8_ok hr, hL]
  have HR := Lib.hid hr
  have ne : (d == L) = false := by simp; omega
  have ne2 : (d != L) = true := by simp; omega
  clear hr h1 h2 h3 h4 h6 hL hl
  go_enter Tryd.func11, Tryd.ntmps11
  go_wp2_with fail
  generalize hW : World.alloc (World.alloc w _) _ = W0
  have E0 : S8 w W0 [(w.heap.size + 1, .int .i64 (0), .int .i64 (0), .int .i64 (0)), (w.heap.size, .int .i64 y, .int .i64 m, .int .i64 d)] := by rw [← hW]; exact (((S8.start w HT.out).lay rfl).lay (by simp))
  have E := Lib.hid E0
  clear hW E0
  go_wp2_with fail
  replace E := Lib.hid (S8.drew E.out)
  go_region_held3 (fun v => v.cell? ⟨w.heap.size, 0, none⟩ = some (.int .i64 y) ∧ v.cell? ⟨w.heap.size, 1, none⟩ = some (.int .i64 m) ∧ v.cell? ⟨w.heap.size, 2, none⟩ = some (.int .i64 d)) (with_reducible exact ⟨(S8.at_ (x0 := .int .i64 y) (x1 := .int .i64 m) (x2 := .int .i64 d) (g := w.heap.size) E (by simp)).c0, (S8.at_ (x0 := .int .i64 y) (x1 := .int .i64 m) (x2 := .int .i64 d) (g := w.heap.size) E (by simp)).c1, (S8.at_ (x0 := .int .i64 y) (x1 := .int .i64 m) (x2 := .int .i64 d) (g := w.heap.size) E (by simp)).c2⟩)
    ((first | (go_at_call 19; (with_reducible refine (right_is E.out.tab HR.out).mono ?_); rintro e w1 ⟨rfl, hb⟩; replace E := Lib.hid (S8.step E.out hb); clear hb) | (go_at_call 31; (with_reducible refine (monthEnd_is E.out.tab HE.out).mono ?_); rintro e w2 ⟨rfl, hb⟩; replace E := Lib.hid (S8.step E.out hb); clear hb)))
  obtain ⟨p0, p1, p2, pf0, pf1, pf2, plt⟩ := (S8.at_ (x0 := .int .i64 (0)) (x1 := .int .i64 (0)) (x2 := .int .i64 (0)) (g := w.heap.size + 1) E (by simp))
  obtain ⟨q0, q1, q2, qf0, qf1, qf2, qlt⟩ := (S8.at_ (x0 := .int .i64 y) (x1 := .int .i64 m) (x2 := .int .i64 d) (g := w.heap.size) E (by simp))
  go_wp2_with fail
  clear p0 p1 p2 pf0 pf1 pf2 plt q0 q1 q2 qf0 qf1 qf2 qlt
  replace E := Lib.hid (S8.set2 E.out (g := w.heap.size) (x0 := .int .i64 y) (x1 := .int .i64 m) (x2 := .int .i64 d) (by simp) [(w.heap.size + 1, .int .i64 (0), .int .i64 (0), .int .i64 (0))] (fun q hq => by simp at hq ⊢; (try rcases hq with rfl <;> simp)) (.int .i64 ((d + 1))) (fun w_ hb => HT.out.on hb))
  replace E := Lib.hid (S8.store E.out (g := w.heap.size + 1) (x0 := .int .i64 (0)) (x1 := .int .i64 (0)) (x2 := .int .i64 (0)) (by simp) (by omega) [(w.heap.size, .int .i64 y, .int .i64 m, .int .i64 ((d + 1)))] (fun q hq => by simp at hq ⊢; (try rcases hq with rfl <;> simp)) (.int .i64 y) (.int .i64 m) (.int .i64 ((d + 1))) (fun w_ hb => HT.out.on hb))
  obtain ⟨e0, e1, e2, _, _, _, _⟩ := (S8.at_ (x0 := .int .i64 y) (x1 := .int .i64 m) (x2 := .int .i64 ((d + 1))) (g := w.heap.size + 1) E (by simp))
  exact bodyPost_ret (v := .tuple #[.agg #[.int .i64 y, .int .i64 m, .int .i64 ((d + 1))], .int .i64 0]) (by simp [results, Tryd.results11, go_sem, e0, e1, e2]) rfl ⟨rfl, E.out.bel⟩

set_option maxHeartbeats 4000000 in
set_option maxRecDepth 100000 in
theorem next_on (y m d Y M D : Int) (hr : ok8 y m d = true) (hd : len8 y m = d) (ha : add8 y m d 1 = (Y, M, D)) (hc : addOk y m d 1 = true)  (w : World) (hT : Tabs w) : Calls Tryd.prog 11 #[.agg #[.int .i64 y, .int .i64 m, .int .i64 d]] w (Ret8 w (.tuple #[.agg #[.int .i64 Y, .int .i64 M, .int .i64 (1)], .int .i64 0])) := by
  have HT := Lib.hid hT
  clear hT
  have HE : Hid (end8 y m d = (y, m, d)) := by show _ = _; rw [end8_ok hr, hd]
  have HR := Lib.hid hr
  have HA := Lib.hid ha
  have HC := Lib.hid hc
  clear hr ha hc hd
  go_enter Tryd.func11, Tryd.ntmps11
  go_wp2_with fail
  generalize hW : World.alloc (World.alloc w _) _ = W0
  have E0 : S8 w W0 [(w.heap.size + 1, .int .i64 (0), .int .i64 (0), .int .i64 (0)), (w.heap.size, .int .i64 y, .int .i64 m, .int .i64 d)] := by rw [← hW]; exact (((S8.start w HT.out).lay rfl).lay (by simp))
  have E := Lib.hid E0
  clear hW E0
  go_wp2_with fail
  replace E := Lib.hid (S8.drew E.out)
  go_region_held3 (fun v => v.cell? ⟨w.heap.size, 0, none⟩ = some (.int .i64 y) ∧ v.cell? ⟨w.heap.size, 1, none⟩ = some (.int .i64 m) ∧ v.cell? ⟨w.heap.size, 2, none⟩ = some (.int .i64 d)) (with_reducible exact ⟨(S8.at_ (x0 := .int .i64 y) (x1 := .int .i64 m) (x2 := .int .i64 d) (g := w.heap.size) E (by simp)).c0, (S8.at_ (x0 := .int .i64 y) (x1 := .int .i64 m) (x2 := .int .i64 d) (g := w.heap.size) E (by simp)).c1, (S8.at_ (x0 := .int .i64 y) (x1 := .int .i64 m) (x2 := .int .i64 d) (g := w.heap.size) E (by simp)).c2⟩)
    ((first | (go_at_call 19; (with_reducible refine (right_is E.out.tab HR.out).mono ?_); rintro e w1 ⟨rfl, hb⟩; replace E := Lib.hid (S8.step E.out hb); clear hb) | (go_at_call 31; (with_reducible refine (monthEnd_is E.out.tab HE.out).mono ?_); rintro e w2 ⟨rfl, hb⟩; replace E := Lib.hid (S8.step E.out hb); clear hb)))
  obtain ⟨p0, p1, p2, pf0, pf1, pf2, plt⟩ := (S8.at_ (x0 := .int .i64 (0)) (x1 := .int .i64 (0)) (x2 := .int .i64 (0)) (g := w.heap.size + 1) E (by simp))
  obtain ⟨q0, q1, q2, qf0, qf1, qf2, qlt⟩ := (S8.at_ (x0 := .int .i64 y) (x1 := .int .i64 m) (x2 := .int .i64 d) (g := w.heap.size) E (by simp))
  go_wp2_with fail
  refine (add_is E.out.tab HA.out HC.out).mono ?_; rintro e w3 ⟨rfl, hb⟩; replace E := Lib.hid (S8.step E.out hb); clear hb
  clear p0 p1 p2 pf0 pf1 pf2 plt q0 q1 q2 qf0 qf1 qf2 qlt
  obtain ⟨p0, p1, p2, pf0, pf1, pf2, plt⟩ := (S8.at_ (x0 := .int .i64 (0)) (x1 := .int .i64 (0)) (x2 := .int .i64 (0)) (g := w.heap.size + 1) E (by simp))
  obtain ⟨q0, q1, q2, qf0, qf1, qf2, qlt⟩ := (S8.at_ (x0 := .int .i64 y) (x1 := .int .i64 m) (x2 := .int .i64 d) (g := w.heap.size) E (by simp))
  go_wp2_with fail
  clear p0 p1 p2 pf0 pf1 pf2 plt q0 q1 q2 qf0 qf1 qf2 qlt
  replace E := Lib.hid (S8.store E.out (g := w.heap.size + 1) (x0 := .int .i64 (0)) (x1 := .int .i64 (0)) (x2 := .int .i64 (0)) (by simp) (by omega) [(w.heap.size, .int .i64 y, .int .i64 m, .int .i64 d)] (fun q hq => by simp at hq ⊢; (try rcases hq with rfl <;> simp)) (.int .i64 Y) (.int .i64 M) (.int .i64 (1)) (fun w_ hb => HT.out.on hb))
  replace E := Lib.hid (S8.alloc E.out (.cells #[.int .i64 Y, .int .i64 M, .int .i64 (1)] 23))
  obtain ⟨e0, e1, e2, _, _, _, _⟩ := (S8.at_ (x0 := .int .i64 Y) (x1 := .int .i64 M) (x2 := .int .i64 (1)) (g := w.heap.size + 1) E (by simp))
  exact bodyPost_ret (v := .tuple #[.agg #[.int .i64 Y, .int .i64 M, .int .i64 (1)], .int .i64 0]) (by simp [results, Tryd.results11, go_sem, e0, e1, e2]) rfl ⟨rfl, E.out.bel⟩

set_option maxHeartbeats 4000000 in
set_option maxRecDepth 100000 in
theorem next_last (y m d : Int) (hr : ok8 y m d = true) (hd : len8 y m = d) (hc : addOk y m d 1 = false)  (w : World) (hT : Tabs w) : Calls Tryd.prog 11 #[.agg #[.int .i64 y, .int .i64 m, .int .i64 d]] w (Ret8 w (.tuple #[.agg #[.int .i64 (0), .int .i64 (0), .int .i64 (0)], .int .i64 1])) := by
  have HT := Lib.hid hT
  clear hT
  have HE : Hid (end8 y m d = (y, m, d)) := by show _ = _; rw [end8_ok hr, hd]
  have HR := Lib.hid hr
  have HC := Lib.hid hc
  clear hr hc hd
  go_enter Tryd.func11, Tryd.ntmps11
  go_wp2_with fail
  generalize hW : World.alloc (World.alloc w _) _ = W0
  have E0 : S8 w W0 [(w.heap.size + 1, .int .i64 (0), .int .i64 (0), .int .i64 (0)), (w.heap.size, .int .i64 y, .int .i64 m, .int .i64 d)] := by rw [← hW]; exact (((S8.start w HT.out).lay rfl).lay (by simp))
  have E := Lib.hid E0
  clear hW E0
  go_wp2_with fail
  replace E := Lib.hid (S8.drew E.out)
  go_region_held3 (fun v => v.cell? ⟨w.heap.size, 0, none⟩ = some (.int .i64 y) ∧ v.cell? ⟨w.heap.size, 1, none⟩ = some (.int .i64 m) ∧ v.cell? ⟨w.heap.size, 2, none⟩ = some (.int .i64 d)) (with_reducible exact ⟨(S8.at_ (x0 := .int .i64 y) (x1 := .int .i64 m) (x2 := .int .i64 d) (g := w.heap.size) E (by simp)).c0, (S8.at_ (x0 := .int .i64 y) (x1 := .int .i64 m) (x2 := .int .i64 d) (g := w.heap.size) E (by simp)).c1, (S8.at_ (x0 := .int .i64 y) (x1 := .int .i64 m) (x2 := .int .i64 d) (g := w.heap.size) E (by simp)).c2⟩)
    ((first | (go_at_call 19; (with_reducible refine (right_is E.out.tab HR.out).mono ?_); rintro e w1 ⟨rfl, hb⟩; replace E := Lib.hid (S8.step E.out hb); clear hb) | (go_at_call 31; (with_reducible refine (monthEnd_is E.out.tab HE.out).mono ?_); rintro e w2 ⟨rfl, hb⟩; replace E := Lib.hid (S8.step E.out hb); clear hb)))
  obtain ⟨p0, p1, p2, pf0, pf1, pf2, plt⟩ := (S8.at_ (x0 := .int .i64 (0)) (x1 := .int .i64 (0)) (x2 := .int .i64 (0)) (g := w.heap.size + 1) E (by simp))
  obtain ⟨q0, q1, q2, qf0, qf1, qf2, qlt⟩ := (S8.at_ (x0 := .int .i64 y) (x1 := .int .i64 m) (x2 := .int .i64 d) (g := w.heap.size) E (by simp))
  go_wp2_with fail
  refine (add_no E.out.tab HC.out).mono ?_; rintro e w3 ⟨rfl, hb⟩; replace E := Lib.hid (S8.step E.out hb); clear hb
  clear p0 p1 p2 pf0 pf1 pf2 plt q0 q1 q2 qf0 qf1 qf2 qlt
  obtain ⟨p0, p1, p2, pf0, pf1, pf2, plt⟩ := (S8.at_ (x0 := .int .i64 (0)) (x1 := .int .i64 (0)) (x2 := .int .i64 (0)) (g := w.heap.size + 1) E (by simp))
  obtain ⟨q0, q1, q2, qf0, qf1, qf2, qlt⟩ := (S8.at_ (x0 := .int .i64 y) (x1 := .int .i64 m) (x2 := .int .i64 d) (g := w.heap.size) E (by simp))
  go_wp2_with fail
  clear p0 p1 p2 pf0 pf1 pf2 plt q0 q1 q2 qf0 qf1 qf2 qlt
  replace E := Lib.hid (S8.store E.out (g := w.heap.size + 1) (x0 := .int .i64 (0)) (x1 := .int .i64 (0)) (x2 := .int .i64 (0)) (by simp) (by omega) [(w.heap.size, .int .i64 y, .int .i64 m, .int .i64 d)] (fun q hq => by simp at hq ⊢; (try rcases hq with rfl <;> simp)) (.int .i64 (0)) (.int .i64 (0)) (.int .i64 (0)) (fun w_ hb => HT.out.on hb))
  replace E := Lib.hid (S8.alloc E.out (.cells #[.int .i64 (0), .int .i64 (0), .int .i64 (0)] 23))
  obtain ⟨e0, e1, e2, _, _, _, _⟩ := (S8.at_ (x0 := .int .i64 (0)) (x1 := .int .i64 (0)) (x2 := .int .i64 (0)) (g := w.heap.size + 1) E (by simp))
  exact bodyPost_ret (v := .tuple #[.agg #[.int .i64 (0), .int .i64 (0), .int .i64 (0)], .int .i64 1]) (by simp [results, Tryd.results11, go_sem, e0, e1, e2]) rfl ⟨rfl, E.out.bel⟩

set_option maxHeartbeats 4000000 in
set_option maxRecDepth 100000 in
theorem next_not (y m d : Int) (hr : ok8 y m d = false)  (w : World) (hT : Tabs w) : Calls Tryd.prog 11 #[.agg #[.int .i64 y, .int .i64 m, .int .i64 d]] w (Ret8 w (.tuple #[.agg #[.int .i64 (0), .int .i64 (0), .int .i64 (0)], .int .i64 1])) := by
  have HT := Lib.hid hT
  clear hT
  have HC : Hid (addOk y m d 1 = false) := by show _ = _; unfold addOk; rw [hr]; rfl
  have HR := Lib.hid hr
  clear hr
  go_enter Tryd.func11, Tryd.ntmps11
  go_wp2_with fail
  generalize hW : World.alloc (World.alloc w _) _ = W0
  have E0 : S8 w W0 [(w.heap.size + 1, .int .i64 (0), .int .i64 (0), .int .i64 (0)), (w.heap.size, .int .i64 y, .int .i64 m, .int .i64 d)] := by rw [← hW]; exact (((S8.start w HT.out).lay rfl).lay (by simp))
  have E := Lib.hid E0
  clear hW E0
  go_wp2_with fail
  replace E := Lib.hid (S8.drew E.out)
  obtain ⟨p0, p1, p2, pf0, pf1, pf2, plt⟩ := (S8.at_ (x0 := .int .i64 (0)) (x1 := .int .i64 (0)) (x2 := .int .i64 (0)) (g := w.heap.size + 1) E (by simp))
  obtain ⟨q0, q1, q2, qf0, qf1, qf2, qlt⟩ := (S8.at_ (x0 := .int .i64 y) (x1 := .int .i64 m) (x2 := .int .i64 d) (g := w.heap.size) E (by simp))
  go_region_with ((go_at_call 19; refine (right_is E.out.tab HR.out).mono ?_; rintro e wr ⟨rfl, hb⟩; replace E := Lib.hid (S8.step E.out hb); clear hb p0 p1 p2 pf0 pf1 pf2 plt q0 q1 q2 qf0 qf1 qf2 qlt; obtain ⟨p0, p1, p2, pf0, pf1, pf2, plt⟩ := (S8.at_ (x0 := .int .i64 y) (x1 := .int .i64 m) (x2 := .int .i64 d) (g := w.heap.size) E (by simp))))
  all_goals
    go_wp2_with fail
    refine (add_no E.out.tab HC.out).mono ?_; rintro e w1 ⟨rfl, hb⟩; replace E := Lib.hid (S8.step E.out hb); clear hb
    clear p0 p1 p2 pf0 pf1 pf2 plt
    obtain ⟨p0, p1, p2, pf0, pf1, pf2, plt⟩ := (S8.at_ (x0 := .int .i64 (0)) (x1 := .int .i64 (0)) (x2 := .int .i64 (0)) (g := w.heap.size + 1) E (by simp))
    obtain ⟨q0, q1, q2, qf0, qf1, qf2, qlt⟩ := (S8.at_ (x0 := .int .i64 y) (x1 := .int .i64 m) (x2 := .int .i64 d) (g := w.heap.size) E (by simp))
    go_wp2_with fail
    clear p0 p1 p2 pf0 pf1 pf2 plt q0 q1 q2 qf0 qf1 qf2 qlt
    replace E := Lib.hid (S8.store E.out (g := w.heap.size + 1) (x0 := .int .i64 (0)) (x1 := .int .i64 (0)) (x2 := .int .i64 (0)) (by simp) (by omega) [(w.heap.size, .int .i64 y, .int .i64 m, .int .i64 d)] (fun q hq => by simp at hq ⊢; (try rcases hq with rfl <;> simp)) (.int .i64 (0)) (.int .i64 (0)) (.int .i64 (0)) (fun w_ hb => HT.out.on hb))
    replace E := Lib.hid (S8.alloc E.out (.cells #[.int .i64 (0), .int .i64 (0), .int .i64 (0)] 23))
    obtain ⟨e0, e1, e2, _, _, _, _⟩ := (S8.at_ (x0 := .int .i64 (0)) (x1 := .int .i64 (0)) (x2 := .int .i64 (0)) (g := w.heap.size + 1) E (by simp))
    exact bodyPost_ret (v := .tuple #[.agg #[.int .i64 (0), .int .i64 (0), .int .i64 (0)], .int .i64 1]) (by simp [results, Tryd.results11, go_sem, e0, e1, e2]) rfl ⟨rfl, E.out.bel⟩

set_option maxHeartbeats 4000000 in
set_option maxRecDepth 100000 in
theorem refnext_in1 (y m d : Int) (hr : ok8 y m d = true) (hd : d < len8 y m) (hm : m ≠ 12)  (w : World) (hT : Tabs w) : Calls Tryd.prog 12 #[.agg #[.int .i64 y, .int .i64 m, .int .i64 d]] w (Ret8 w (.tuple #[.agg #[.int .i64 y, .int .i64 m, .int .i64 ((d + 1))], .int .i64 0])) := by
  have HT := Lib.hid hT
  clear hT
  obtain ⟨h1, h2, h3, h4, h5, h6⟩ := ok8_iff.1 hr
  have hl := len8_bd y m
  have h31 : m = 12 → len8 y m = 31 := fun e => by subst e; exact (len8_dec y).1
  obtain ⟨L, hL⟩ : ∃ L, len8 y m = L := ⟨_, rfl⟩
  rw [hL] at hd hl h6 h31
  have hd2 : d ≤ 31 := by omega
  have gt : decide (L < d + 1) = false := decide_eq_false (by omega)
  have n9 : (m == 12) = false := by simp; omega
  have HL := Lib.hid hL
  have HR := Lib.hid hr
  clear hr hL hd h6 h31 hl hm
  go_enter Tryd.func12, Tryd.ntmps12
  go_wp2_with fail
  generalize hW : World.alloc (World.alloc w _) _ = W0
  have E0 : S8 w W0 [(w.heap.size + 1, .int .i64 (0), .int .i64 (0), .int .i64 (0)), (w.heap.size, .int .i64 y, .int .i64 m, .int .i64 d)] := by rw [← hW]; exact (((S8.start w HT.out).lay rfl).lay (by simp))
  have E := Lib.hid E0
  clear hW E0
  obtain ⟨p0, p1, p2, pf0, pf1, pf2, plt⟩ := (S8.at_ (x0 := .int .i64 (0)) (x1 := .int .i64 (0)) (x2 := .int .i64 (0)) (g := w.heap.size + 1) E (by simp))
  obtain ⟨q0, q1, q2, qf0, qf1, qf2, qlt⟩ := (S8.at_ (x0 := .int .i64 y) (x1 := .int .i64 m) (x2 := .int .i64 d) (g := w.heap.size) E (by simp))
  go_wp2_with fail
  refine (refright_is E.out.tab HR.out).mono ?_; rintro e w1 ⟨rfl, hb⟩; replace E := Lib.hid (S8.step E.out hb); clear hb
  clear p0 p1 p2 pf0 pf1 pf2 plt q0 q1 q2 qf0 qf1 qf2 qlt
  obtain ⟨p0, p1, p2, pf0, pf1, pf2, plt⟩ := (S8.at_ (x0 := .int .i64 (0)) (x1 := .int .i64 (0)) (x2 := .int .i64 (0)) (g := w.heap.size + 1) E (by simp))
  obtain ⟨q0, q1, q2, qf0, qf1, qf2, qlt⟩ := (S8.at_ (x0 := .int .i64 y) (x1 := .int .i64 m) (x2 := .int .i64 d) (g := w.heap.size) E (by simp))
  go_wp2_with fail
  clear p0 p1 p2 pf0 pf1 pf2 plt q0 q1 q2 qf0 qf1 qf2 qlt
  replace E := Lib.hid (S8.set2 E.out (g := w.heap.size) (x0 := .int .i64 y) (x1 := .int .i64 m) (x2 := .int .i64 d) (by simp) [(w.heap.size + 1, .int .i64 (0), .int .i64 (0), .int .i64 (0))] (fun q hq => by simp at hq ⊢; (try rcases hq with rfl <;> simp)) (.int .i64 ((d + 1))) (fun w_ hb => HT.out.on hb))
  generalize hW2 : World.setCell w1 _ _ = V1 at E ⊢
  clear hW2
  replace E := Lib.hid (S8.drew E.out)
  go_region_held3 (fun v => v.cell? ⟨w.heap.size, 0, none⟩ = some (.int .i64 y) ∧ v.cell? ⟨w.heap.size, 1, none⟩ = some (.int .i64 m) ∧ v.cell? ⟨w.heap.size, 2, none⟩ = some (.int .i64 ((d + 1)))) (with_reducible exact ⟨(S8.at_ (x0 := .int .i64 y) (x1 := .int .i64 m) (x2 := .int .i64 ((d + 1))) (g := w.heap.size) E (by simp)).c0, (S8.at_ (x0 := .int .i64 y) (x1 := .int .i64 m) (x2 := .int .i64 ((d + 1))) (g := w.heap.size) E (by simp)).c1, (S8.at_ (x0 := .int .i64 y) (x1 := .int .i64 m) (x2 := .int .i64 ((d + 1))) (g := w.heap.size) E (by simp)).c2⟩)
    ((go_at_call 42; (with_reducible refine (reflong_is _ _ _ h3 h4 HL.out).mono ?_); rintro e w2 ⟨rfl, hb⟩; replace E := Lib.hid (S8.step E.out hb); clear hb))
  obtain ⟨p0, p1, p2, pf0, pf1, pf2, plt⟩ := (S8.at_ (x0 := .int .i64 y) (x1 := .int .i64 m) (x2 := .int .i64 ((d + 1))) (g := w.heap.size) E (by simp))
  obtain ⟨q0, q1, q2, qf0, qf1, qf2, qlt⟩ := (S8.at_ (x0 := .int .i64 (0)) (x1 := .int .i64 (0)) (x2 := .int .i64 (0)) (g := w.heap.size + 1) E (by simp))
  go_wp2_with fail
  clear p0 p1 p2 pf0 pf1 pf2 plt q0 q1 q2 qf0 qf1 qf2 qlt
  replace E := Lib.hid (S8.store E.out (g := w.heap.size + 1) (x0 := .int .i64 (0)) (x1 := .int .i64 (0)) (x2 := .int .i64 (0)) (by simp) (by omega) [(w.heap.size, .int .i64 y, .int .i64 m, .int .i64 ((d + 1)))] (fun q hq => by simp at hq ⊢; (try rcases hq with rfl <;> simp)) (.int .i64 y) (.int .i64 m) (.int .i64 ((d + 1))) (fun w_ hb => HT.out.on hb))
  obtain ⟨e0, e1, e2, _, _, _, _⟩ := (S8.at_ (x0 := .int .i64 y) (x1 := .int .i64 m) (x2 := .int .i64 ((d + 1))) (g := w.heap.size + 1) E (by simp))
  exact bodyPost_ret (v := .tuple #[.agg #[.int .i64 y, .int .i64 m, .int .i64 ((d + 1))], .int .i64 0]) (by simp [results, Tryd.results12, go_sem, e0, e1, e2]) rfl ⟨rfl, E.out.bel⟩

set_option maxHeartbeats 4000000 in
set_option maxRecDepth 100000 in
theorem refnext_in2 (y m d : Int) (hr : ok8 y m d = true) (hd : d < len8 y m) (hm : m = 12)  (w : World) (hT : Tabs w) : Calls Tryd.prog 12 #[.agg #[.int .i64 y, .int .i64 m, .int .i64 d]] w (Ret8 w (.tuple #[.agg #[.int .i64 y, .int .i64 m, .int .i64 ((d + 1))], .int .i64 0])) := by
  have HT := Lib.hid hT
  clear hT
  obtain ⟨h1, h2, h3, h4, h5, h6⟩ := ok8_iff.1 hr
  have hl := len8_bd y m
  have h31 : m = 12 → len8 y m = 31 := fun e => by subst e; exact (len8_dec y).1
  obtain ⟨L, hL⟩ : ∃ L, len8 y m = L := ⟨_, rfl⟩
  rw [hL] at hd hl h6 h31
  have hd2 : d ≤ 31 := by omega
  have gt : decide (L < d + 1) = false := decide_eq_false (by omega)
  have n9 : (d == 31) = false := by simp; omega
  have HL := Lib.hid hL
  have HR := Lib.hid hr
  subst hm
  clear hr hL hd h6 h31 hl
  go_enter Tryd.func12, Tryd.ntmps12
  go_wp2_with fail
  generalize hW : World.alloc (World.alloc w _) _ = W0
  have E0 : S8 w W0 [(w.heap.size + 1, .int .i64 (0), .int .i64 (0), .int .i64 (0)), (w.heap.size, .int .i64 y, .int .i64 (12), .int .i64 d)] := by rw [← hW]; exact (((S8.start w HT.out).lay rfl).lay (by simp))
  have E := Lib.hid E0
  clear hW E0
  obtain ⟨p0, p1, p2, pf0, pf1, pf2, plt⟩ := (S8.at_ (x0 := .int .i64 (0)) (x1 := .int .i64 (0)) (x2 := .int .i64 (0)) (g := w.heap.size + 1) E (by simp))
  obtain ⟨q0, q1, q2, qf0, qf1, qf2, qlt⟩ := (S8.at_ (x0 := .int .i64 y) (x1 := .int .i64 (12)) (x2 := .int .i64 d) (g := w.heap.size) E (by simp))
  go_wp2_with fail
  refine (refright_is E.out.tab HR.out).mono ?_; rintro e w1 ⟨rfl, hb⟩; replace E := Lib.hid (S8.step E.out hb); clear hb
  clear p0 p1 p2 pf0 pf1 pf2 plt q0 q1 q2 qf0 qf1 qf2 qlt
  obtain ⟨p0, p1, p2, pf0, pf1, pf2, plt⟩ := (S8.at_ (x0 := .int .i64 (0)) (x1 := .int .i64 (0)) (x2 := .int .i64 (0)) (g := w.heap.size + 1) E (by simp))
  obtain ⟨q0, q1, q2, qf0, qf1, qf2, qlt⟩ := (S8.at_ (x0 := .int .i64 y) (x1 := .int .i64 (12)) (x2 := .int .i64 d) (g := w.heap.size) E (by simp))
  go_wp2_with fail
  clear p0 p1 p2 pf0 pf1 pf2 plt q0 q1 q2 qf0 qf1 qf2 qlt
  replace E := Lib.hid (S8.set2 E.out (g := w.heap.size) (x0 := .int .i64 y) (x1 := .int .i64 (12)) (x2 := .int .i64 d) (by simp) [(w.heap.size + 1, .int .i64 (0), .int .i64 (0), .int .i64 (0))] (fun q hq => by simp at hq ⊢; (try rcases hq with rfl <;> simp)) (.int .i64 ((d + 1))) (fun w_ hb => HT.out.on hb))
  generalize hW2 : World.setCell w1 _ _ = V1 at E ⊢
  clear hW2
  replace E := Lib.hid (S8.drew E.out)
  go_region_held3 (fun v => v.cell? ⟨w.heap.size, 0, none⟩ = some (.int .i64 y) ∧ v.cell? ⟨w.heap.size, 1, none⟩ = some (.int .i64 (12)) ∧ v.cell? ⟨w.heap.size, 2, none⟩ = some (.int .i64 ((d + 1)))) (with_reducible exact ⟨(S8.at_ (x0 := .int .i64 y) (x1 := .int .i64 (12)) (x2 := .int .i64 ((d + 1))) (g := w.heap.size) E (by simp)).c0, (S8.at_ (x0 := .int .i64 y) (x1 := .int .i64 (12)) (x2 := .int .i64 ((d + 1))) (g := w.heap.size) E (by simp)).c1, (S8.at_ (x0 := .int .i64 y) (x1 := .int .i64 (12)) (x2 := .int .i64 ((d + 1))) (g := w.heap.size) E (by simp)).c2⟩)
    ((go_at_call 42; (with_reducible refine (reflong_is _ _ _ (by omega) (by omega) HL.out).mono ?_); rintro e w2 ⟨rfl, hb⟩; replace E := Lib.hid (S8.step E.out hb); clear hb))
  obtain ⟨p0, p1, p2, pf0, pf1, pf2, plt⟩ := (S8.at_ (x0 := .int .i64 y) (x1 := .int .i64 (12)) (x2 := .int .i64 ((d + 1))) (g := w.heap.size) E (by simp))
  obtain ⟨q0, q1, q2, qf0, qf1, qf2, qlt⟩ := (S8.at_ (x0 := .int .i64 (0)) (x1 := .int .i64 (0)) (x2 := .int .i64 (0)) (g := w.heap.size + 1) E (by simp))
  go_wp2_with fail
  clear p0 p1 p2 pf0 pf1 pf2 plt q0 q1 q2 qf0 qf1 qf2 qlt
  replace E := Lib.hid (S8.store E.out (g := w.heap.size + 1) (x0 := .int .i64 (0)) (x1 := .int .i64 (0)) (x2 := .int .i64 (0)) (by simp) (by omega) [(w.heap.size, .int .i64 y, .int .i64 (12), .int .i64 ((d + 1)))] (fun q hq => by simp at hq ⊢; (try rcases hq with rfl <;> simp)) (.int .i64 y) (.int .i64 (12)) (.int .i64 ((d + 1))) (fun w_ hb => HT.out.on hb))
  obtain ⟨e0, e1, e2, _, _, _, _⟩ := (S8.at_ (x0 := .int .i64 y) (x1 := .int .i64 (12)) (x2 := .int .i64 ((d + 1))) (g := w.heap.size + 1) E (by simp))
  exact bodyPost_ret (v := .tuple #[.agg #[.int .i64 y, .int .i64 (12), .int .i64 ((d + 1))], .int .i64 0]) (by simp [results, Tryd.results12, go_sem, e0, e1, e2]) rfl ⟨rfl, E.out.bel⟩

set_option maxHeartbeats 4000000 in
set_option maxRecDepth 100000 in
theorem refnext_mon (y m d : Int) (hr : ok8 y m d = true) (hd : d = len8 y m) (hm : m < 12)  (w : World) (hT : Tabs w) : Calls Tryd.prog 12 #[.agg #[.int .i64 y, .int .i64 m, .int .i64 d]] w (Ret8 w (.tuple #[.agg #[.int .i64 y, .int .i64 ((m + 1)), .int .i64 (1)], .int .i64 0])) := by
  have HT := Lib.hid hT
  clear hT
  obtain ⟨h1, h2, h3, h4, h5, h6⟩ := ok8_iff.1 hr
  have hl := len8_bd y m
  have h31 : m = 12 → len8 y m = 31 := fun e => by subst e; exact (len8_dec y).1
  obtain ⟨L, hL⟩ : ∃ L, len8 y m = L := ⟨_, rfl⟩
  rw [hL] at hd hl h6 h31
  have hd2 : d ≤ 31 := by omega
  have gt : decide (L < d + 1) = true := decide_eq_true (by omega)
  have n9 : (m == 12) = false := by simp; omega
  have HL := Lib.hid hL
  have HR := Lib.hid hr
  clear hr hL hd h6 h31 hl
  go_enter Tryd.func12, Tryd.ntmps12
  go_wp2_with fail
  generalize hW : World.alloc (World.alloc w _) _ = W0
  have E0 : S8 w W0 [(w.heap.size + 1, .int .i64 (0), .int .i64 (0), .int .i64 (0)), (w.heap.size, .int .i64 y, .int .i64 m, .int .i64 d)] := by rw [← hW]; exact (((S8.start w HT.out).lay rfl).lay (by simp))
  have E := Lib.hid E0
  clear hW E0
  obtain ⟨p0, p1, p2, pf0, pf1, pf2, plt⟩ := (S8.at_ (x0 := .int .i64 (0)) (x1 := .int .i64 (0)) (x2 := .int .i64 (0)) (g := w.heap.size + 1) E (by simp))
  obtain ⟨q0, q1, q2, qf0, qf1, qf2, qlt⟩ := (S8.at_ (x0 := .int .i64 y) (x1 := .int .i64 m) (x2 := .int .i64 d) (g := w.heap.size) E (by simp))
  go_wp2_with fail
  refine (refright_is E.out.tab HR.out).mono ?_; rintro e w1 ⟨rfl, hb⟩; replace E := Lib.hid (S8.step E.out hb); clear hb
  clear p0 p1 p2 pf0 pf1 pf2 plt q0 q1 q2 qf0 qf1 qf2 qlt
  obtain ⟨p0, p1, p2, pf0, pf1, pf2, plt⟩ := (S8.at_ (x0 := .int .i64 (0)) (x1 := .int .i64 (0)) (x2 := .int .i64 (0)) (g := w.heap.size + 1) E (by simp))
  obtain ⟨q0, q1, q2, qf0, qf1, qf2, qlt⟩ := (S8.at_ (x0 := .int .i64 y) (x1 := .int .i64 m) (x2 := .int .i64 d) (g := w.heap.size) E (by simp))
  go_wp2_with fail
  clear p0 p1 p2 pf0 pf1 pf2 plt q0 q1 q2 qf0 qf1 qf2 qlt
  replace E := Lib.hid (S8.set2 E.out (g := w.heap.size) (x0 := .int .i64 y) (x1 := .int .i64 m) (x2 := .int .i64 d) (by simp) [(w.heap.size + 1, .int .i64 (0), .int .i64 (0), .int .i64 (0))] (fun q hq => by simp at hq ⊢; (try rcases hq with rfl <;> simp)) (.int .i64 ((d + 1))) (fun w_ hb => HT.out.on hb))
  generalize hW2 : World.setCell w1 _ _ = V1 at E ⊢
  clear hW2
  replace E := Lib.hid (S8.drew E.out)
  go_region_held3 (fun v => v.cell? ⟨w.heap.size, 0, none⟩ = some (.int .i64 y) ∧ v.cell? ⟨w.heap.size, 1, none⟩ = some (.int .i64 m) ∧ v.cell? ⟨w.heap.size, 2, none⟩ = some (.int .i64 ((d + 1)))) (with_reducible exact ⟨(S8.at_ (x0 := .int .i64 y) (x1 := .int .i64 m) (x2 := .int .i64 ((d + 1))) (g := w.heap.size) E (by simp)).c0, (S8.at_ (x0 := .int .i64 y) (x1 := .int .i64 m) (x2 := .int .i64 ((d + 1))) (g := w.heap.size) E (by simp)).c1, (S8.at_ (x0 := .int .i64 y) (x1 := .int .i64 m) (x2 := .int .i64 ((d + 1))) (g := w.heap.size) E (by simp)).c2⟩)
    ((go_at_call 42; (with_reducible refine (reflong_is _ _ _ h3 h4 HL.out).mono ?_); rintro e w2 ⟨rfl, hb⟩; replace E := Lib.hid (S8.step E.out hb); clear hb))
  obtain ⟨p0, p1, p2, pf0, pf1, pf2, plt⟩ := (S8.at_ (x0 := .int .i64 y) (x1 := .int .i64 m) (x2 := .int .i64 ((d + 1))) (g := w.heap.size) E (by simp))
  obtain ⟨q0, q1, q2, qf0, qf1, qf2, qlt⟩ := (S8.at_ (x0 := .int .i64 (0)) (x1 := .int .i64 (0)) (x2 := .int .i64 (0)) (g := w.heap.size + 1) E (by simp))
  go_wp2_with fail
  clear p0 p1 p2 pf0 pf1 pf2 plt q0 q1 q2 qf0 qf1 qf2 qlt
  replace E := Lib.hid (S8.set2 E.out (g := w.heap.size) (x0 := .int .i64 y) (x1 := .int .i64 m) (x2 := .int .i64 ((d + 1))) (by simp) [(w.heap.size + 1, .int .i64 (0), .int .i64 (0), .int .i64 (0))] (fun q hq => by simp at hq ⊢; (try rcases hq with rfl <;> simp)) (.int .i64 (1)) (fun w_ hb => HT.out.on hb))
  replace E := Lib.hid (S8.set1 E.out (g := w.heap.size) (x0 := .int .i64 y) (x1 := .int .i64 m) (x2 := .int .i64 (1)) (by simp) [(w.heap.size + 1, .int .i64 (0), .int .i64 (0), .int .i64 (0))] (fun q hq => by simp at hq ⊢; (try rcases hq with rfl <;> simp)) (.int .i64 ((m + 1))) (fun w_ hb => HT.out.on hb))
  replace E := Lib.hid (S8.store E.out (g := w.heap.size + 1) (x0 := .int .i64 (0)) (x1 := .int .i64 (0)) (x2 := .int .i64 (0)) (by simp) (by omega) [(w.heap.size, .int .i64 y, .int .i64 ((m + 1)), .int .i64 (1))] (fun q hq => by simp at hq ⊢; (try rcases hq with rfl <;> simp)) (.int .i64 y) (.int .i64 ((m + 1))) (.int .i64 (1)) (fun w_ hb => HT.out.on hb))
  obtain ⟨e0, e1, e2, _, _, _, _⟩ := (S8.at_ (x0 := .int .i64 y) (x1 := .int .i64 ((m + 1))) (x2 := .int .i64 (1)) (g := w.heap.size + 1) E (by simp))
  exact bodyPost_ret (v := .tuple #[.agg #[.int .i64 y, .int .i64 ((m + 1)), .int .i64 (1)], .int .i64 0]) (by simp [results, Tryd.results12, go_sem, e0, e1, e2]) rfl ⟨rfl, E.out.bel⟩

set_option maxHeartbeats 4000000 in
set_option maxRecDepth 100000 in
theorem refnext_year (y m d : Int) (hr : ok8 y m d = true) (hd : d = len8 y m) (hm : m = 12) (hy : y < 9999)  (w : World) (hT : Tabs w) : Calls Tryd.prog 12 #[.agg #[.int .i64 y, .int .i64 m, .int .i64 d]] w (Ret8 w (.tuple #[.agg #[.int .i64 ((y + 1)), .int .i64 (1), .int .i64 (1)], .int .i64 0])) := by
  have HT := Lib.hid hT
  clear hT
  obtain ⟨h1, h2, h3, h4, h5, h6⟩ := ok8_iff.1 hr
  have hl := len8_bd y m
  have h31 : m = 12 → len8 y m = 31 := fun e => by subst e; exact (len8_dec y).1
  obtain ⟨L, hL⟩ : ∃ L, len8 y m = L := ⟨_, rfl⟩
  rw [hL] at hd hl h6 h31
  have hd2 : d ≤ 31 := by omega
  have gt : decide (L < d + 1) = true := decide_eq_true (by omega)
  have n9 : (y == 9999) = false := by simp; omega
  have HL := Lib.hid hL
  have HR := Lib.hid hr
  subst hm
  clear hr hL hd h6 h31 hl
  go_enter Tryd.func12, Tryd.ntmps12
  go_wp2_with fail
  generalize hW : World.alloc (World.alloc w _) _ = W0
  have E0 : S8 w W0 [(w.heap.size + 1, .int .i64 (0), .int .i64 (0), .int .i64 (0)), (w.heap.size, .int .i64 y, .int .i64 (12), .int .i64 d)] := by rw [← hW]; exact (((S8.start w HT.out).lay rfl).lay (by simp))
  have E := Lib.hid E0
  clear hW E0
  obtain ⟨p0, p1, p2, pf0, pf1, pf2, plt⟩ := (S8.at_ (x0 := .int .i64 (0)) (x1 := .int .i64 (0)) (x2 := .int .i64 (0)) (g := w.heap.size + 1) E (by simp))
  obtain ⟨q0, q1, q2, qf0, qf1, qf2, qlt⟩ := (S8.at_ (x0 := .int .i64 y) (x1 := .int .i64 (12)) (x2 := .int .i64 d) (g := w.heap.size) E (by simp))
  go_wp2_with fail
  refine (refright_is E.out.tab HR.out).mono ?_; rintro e w1 ⟨rfl, hb⟩; replace E := Lib.hid (S8.step E.out hb); clear hb
  clear p0 p1 p2 pf0 pf1 pf2 plt q0 q1 q2 qf0 qf1 qf2 qlt
  obtain ⟨p0, p1, p2, pf0, pf1, pf2, plt⟩ := (S8.at_ (x0 := .int .i64 (0)) (x1 := .int .i64 (0)) (x2 := .int .i64 (0)) (g := w.heap.size + 1) E (by simp))
  obtain ⟨q0, q1, q2, qf0, qf1, qf2, qlt⟩ := (S8.at_ (x0 := .int .i64 y) (x1 := .int .i64 (12)) (x2 := .int .i64 d) (g := w.heap.size) E (by simp))
  go_wp2_with fail
  clear p0 p1 p2 pf0 pf1 pf2 plt q0 q1 q2 qf0 qf1 qf2 qlt
  replace E := Lib.hid (S8.set2 E.out (g := w.heap.size) (x0 := .int .i64 y) (x1 := .int .i64 (12)) (x2 := .int .i64 d) (by simp) [(w.heap.size + 1, .int .i64 (0), .int .i64 (0), .int .i64 (0))] (fun q hq => by simp at hq ⊢; (try rcases hq with rfl <;> simp)) (.int .i64 ((d + 1))) (fun w_ hb => HT.out.on hb))
  generalize hW2 : World.setCell w1 _ _ = V1 at E ⊢
  clear hW2
  replace E := Lib.hid (S8.drew E.out)
  go_region_held3 (fun v => v.cell? ⟨w.heap.size, 0, none⟩ = some (.int .i64 y) ∧ v.cell? ⟨w.heap.size, 1, none⟩ = some (.int .i64 (12)) ∧ v.cell? ⟨w.heap.size, 2, none⟩ = some (.int .i64 ((d + 1)))) (with_reducible exact ⟨(S8.at_ (x0 := .int .i64 y) (x1 := .int .i64 (12)) (x2 := .int .i64 ((d + 1))) (g := w.heap.size) E (by simp)).c0, (S8.at_ (x0 := .int .i64 y) (x1 := .int .i64 (12)) (x2 := .int .i64 ((d + 1))) (g := w.heap.size) E (by simp)).c1, (S8.at_ (x0 := .int .i64 y) (x1 := .int .i64 (12)) (x2 := .int .i64 ((d + 1))) (g := w.heap.size) E (by simp)).c2⟩)
    ((go_at_call 42; (with_reducible refine (reflong_is _ _ _ (by omega) (by omega) HL.out).mono ?_); rintro e w2 ⟨rfl, hb⟩; replace E := Lib.hid (S8.step E.out hb); clear hb))
  obtain ⟨p0, p1, p2, pf0, pf1, pf2, plt⟩ := (S8.at_ (x0 := .int .i64 y) (x1 := .int .i64 (12)) (x2 := .int .i64 ((d + 1))) (g := w.heap.size) E (by simp))
  obtain ⟨q0, q1, q2, qf0, qf1, qf2, qlt⟩ := (S8.at_ (x0 := .int .i64 (0)) (x1 := .int .i64 (0)) (x2 := .int .i64 (0)) (g := w.heap.size + 1) E (by simp))
  have S1 : (((World.setCell w2 ⟨w.heap.size, 2, none⟩ (.int .i64 1)).setCell ⟨w.heap.size, 1, none⟩ (.int .i64 13)).setCell ⟨w.heap.size, 1, none⟩ (.int .i64 1)).cell? ⟨w.heap.size, 1, none⟩ = some (.int .i64 1) := World.cell?_setCell_same _ _ _ (World.cell?_setCell_same _ _ _ ((World.cell?_setCell_other _ _ _ _ (by simp)).trans p1))
  go_wp2_with fail
  clear p0 p1 p2 pf0 pf1 pf2 plt q0 q1 q2 qf0 qf1 qf2 qlt
  clear S1
  replace E := Lib.hid (S8.set2 E.out (g := w.heap.size) (x0 := .int .i64 y) (x1 := .int .i64 (12)) (x2 := .int .i64 ((d + 1))) (by simp) [(w.heap.size + 1, .int .i64 (0), .int .i64 (0), .int .i64 (0))] (fun q hq => by simp at hq ⊢; (try rcases hq with rfl <;> simp)) (.int .i64 (1)) (fun w_ hb => HT.out.on hb))
  replace E := Lib.hid (S8.set1 E.out (g := w.heap.size) (x0 := .int .i64 y) (x1 := .int .i64 (12)) (x2 := .int .i64 (1)) (by simp) [(w.heap.size + 1, .int .i64 (0), .int .i64 (0), .int .i64 (0))] (fun q hq => by simp at hq ⊢; (try rcases hq with rfl <;> simp)) (.int .i64 (13)) (fun w_ hb => HT.out.on hb))
  replace E := Lib.hid (S8.set1 E.out (g := w.heap.size) (x0 := .int .i64 y) (x1 := .int .i64 (13)) (x2 := .int .i64 (1)) (by simp) [(w.heap.size + 1, .int .i64 (0), .int .i64 (0), .int .i64 (0))] (fun q hq => by simp at hq ⊢; (try rcases hq with rfl <;> simp)) (.int .i64 (1)) (fun w_ hb => HT.out.on hb))
  replace E := Lib.hid (S8.set0 E.out (g := w.heap.size) (x0 := .int .i64 y) (x1 := .int .i64 (1)) (x2 := .int .i64 (1)) (by simp) [(w.heap.size + 1, .int .i64 (0), .int .i64 (0), .int .i64 (0))] (fun q hq => by simp at hq ⊢; (try rcases hq with rfl <;> simp)) (.int .i64 ((y + 1))) (fun w_ hb => HT.out.on hb))
  replace E := Lib.hid (S8.store E.out (g := w.heap.size + 1) (x0 := .int .i64 (0)) (x1 := .int .i64 (0)) (x2 := .int .i64 (0)) (by simp) (by omega) [(w.heap.size, .int .i64 ((y + 1)), .int .i64 (1), .int .i64 (1))] (fun q hq => by simp at hq ⊢; (try rcases hq with rfl <;> simp)) (.int .i64 ((y + 1))) (.int .i64 (1)) (.int .i64 (1)) (fun w_ hb => HT.out.on hb))
  obtain ⟨e0, e1, e2, _, _, _, _⟩ := (S8.at_ (x0 := .int .i64 ((y + 1))) (x1 := .int .i64 (1)) (x2 := .int .i64 (1)) (g := w.heap.size + 1) E (by simp))
  exact bodyPost_ret (v := .tuple #[.agg #[.int .i64 ((y + 1)), .int .i64 (1), .int .i64 (1)], .int .i64 0]) (by simp [results, Tryd.results12, go_sem, e0, e1, e2]) rfl ⟨rfl, E.out.bel⟩

set_option maxHeartbeats 4000000 in
set_option maxRecDepth 100000 in
theorem refnext_last  (w : World) (hT : Tabs w) : Calls Tryd.prog 12 #[.agg #[.int .i64 (9999), .int .i64 (12), .int .i64 (31)]] w (Ret8 w (.tuple #[.agg #[.int .i64 (0), .int .i64 (0), .int .i64 (0)], .int .i64 1])) := by
  have HT := Lib.hid hT
  clear hT
  obtain ⟨hr, -⟩ := last8
  have HR := Lib.hid hr
  clear hr
  go_enter Tryd.func12, Tryd.ntmps12
  go_wp2_with fail
  generalize hW : World.alloc (World.alloc w _) _ = W0
  have E0 : S8 w W0 [(w.heap.size + 1, .int .i64 (0), .int .i64 (0), .int .i64 (0)), (w.heap.size, .int .i64 (9999), .int .i64 (12), .int .i64 (31))] := by rw [← hW]; exact (((S8.start w HT.out).lay rfl).lay (by simp))
  have E := Lib.hid E0
  clear hW E0
  obtain ⟨p0, p1, p2, pf0, pf1, pf2, plt⟩ := (S8.at_ (x0 := .int .i64 (0)) (x1 := .int .i64 (0)) (x2 := .int .i64 (0)) (g := w.heap.size + 1) E (by simp))
  obtain ⟨q0, q1, q2, qf0, qf1, qf2, qlt⟩ := (S8.at_ (x0 := .int .i64 (9999)) (x1 := .int .i64 (12)) (x2 := .int .i64 (31)) (g := w.heap.size) E (by simp))
  go_wp2_with fail
  refine (refright_is E.out.tab HR.out).mono ?_; rintro e w1 ⟨rfl, hb⟩; replace E := Lib.hid (S8.step E.out hb); clear hb
  clear p0 p1 p2 pf0 pf1 pf2 plt q0 q1 q2 qf0 qf1 qf2 qlt
  obtain ⟨p0, p1, p2, pf0, pf1, pf2, plt⟩ := (S8.at_ (x0 := .int .i64 (0)) (x1 := .int .i64 (0)) (x2 := .int .i64 (0)) (g := w.heap.size + 1) E (by simp))
  obtain ⟨q0, q1, q2, qf0, qf1, qf2, qlt⟩ := (S8.at_ (x0 := .int .i64 (9999)) (x1 := .int .i64 (12)) (x2 := .int .i64 (31)) (g := w.heap.size) E (by simp))
  go_wp2_with fail
  clear p0 p1 p2 pf0 pf1 pf2 plt q0 q1 q2 qf0 qf1 qf2 qlt
  replace E := Lib.hid (S8.store E.out (g := w.heap.size + 1) (x0 := .int .i64 (0)) (x1 := .int .i64 (0)) (x2 := .int .i64 (0)) (by simp) (by omega) [(w.heap.size, .int .i64 (9999), .int .i64 (12), .int .i64 (31))] (fun q hq => by simp at hq ⊢; (try rcases hq with rfl <;> simp)) (.int .i64 (0)) (.int .i64 (0)) (.int .i64 (0)) (fun w_ hb => HT.out.on hb))
  obtain ⟨e0, e1, e2, _, _, _, _⟩ := (S8.at_ (x0 := .int .i64 (0)) (x1 := .int .i64 (0)) (x2 := .int .i64 (0)) (g := w.heap.size + 1) E (by simp))
  exact bodyPost_ret (v := .tuple #[.agg #[.int .i64 (0), .int .i64 (0), .int .i64 (0)], .int .i64 1]) (by simp [results, Tryd.results12, go_sem, e0, e1, e2]) rfl ⟨rfl, E.out.bel⟩

set_option maxHeartbeats 4000000 in
set_option maxRecDepth 100000 in
theorem refnext_not (y m d : Int) (hr : ok8 y m d = false)  (w : World) (hT : Tabs w) : Calls Tryd.prog 12 #[.agg #[.int .i64 y, .int .i64 m, .int .i64 d]] w (Ret8 w (.tuple #[.agg #[.int .i64 (0), .int .i64 (0), .int .i64 (0)], .int .i64 1])) := by
  have HT := Lib.hid hT
  clear hT
  have HR := Lib.hid hr
  clear hr
  go_enter Tryd.func12, Tryd.ntmps12
  go_wp2_with fail
  generalize hW : World.alloc (World.alloc w _) _ = W0
  have E0 : S8 w W0 [(w.heap.size + 1, .int .i64 (0), .int .i64 (0), .int .i64 (0)), (w.heap.size, .int .i64 y, .int .i64 m, .int .i64 d)] := by rw [← hW]; exact (((S8.start w HT.out).lay rfl).lay (by simp))
  have E := Lib.hid E0
  clear hW E0
  obtain ⟨p0, p1, p2, pf0, pf1, pf2, plt⟩ := (S8.at_ (x0 := .int .i64 (0)) (x1 := .int .i64 (0)) (x2 := .int .i64 (0)) (g := w.heap.size + 1) E (by simp))
  obtain ⟨q0, q1, q2, qf0, qf1, qf2, qlt⟩ := (S8.at_ (x0 := .int .i64 y) (x1 := .int .i64 m) (x2 := .int .i64 d) (g := w.heap.size) E (by simp))
  go_wp2_with fail
  refine (refright_is E.out.tab HR.out).mono ?_; rintro e w1 ⟨rfl, hb⟩; replace E := Lib.hid (S8.step E.out hb); clear hb
  clear p0 p1 p2 pf0 pf1 pf2 plt q0 q1 q2 qf0 qf1 qf2 qlt
  obtain ⟨p0, p1, p2, pf0, pf1, pf2, plt⟩ := (S8.at_ (x0 := .int .i64 (0)) (x1 := .int .i64 (0)) (x2 := .int .i64 (0)) (g := w.heap.size + 1) E (by simp))
  obtain ⟨q0, q1, q2, qf0, qf1, qf2, qlt⟩ := (S8.at_ (x0 := .int .i64 y) (x1 := .int .i64 m) (x2 := .int .i64 d) (g := w.heap.size) E (by simp))
  go_wp2_with fail
  clear p0 p1 p2 pf0 pf1 pf2 plt q0 q1 q2 qf0 qf1 qf2 qlt
  replace E := Lib.hid (S8.store E.out (g := w.heap.size + 1) (x0 := .int .i64 (0)) (x1 := .int .i64 (0)) (x2 := .int .i64 (0)) (by simp) (by omega) [(w.heap.size, .int .i64 y, .int .i64 m, .int .i64 d)] (fun q hq => by simp at hq ⊢; (try rcases hq with rfl <;> simp)) (.int .i64 (0)) (.int .i64 (0)) (.int .i64 (0)) (fun w_ hb => HT.out.on hb))
  obtain ⟨e0, e1, e2, _, _, _, _⟩ := (S8.at_ (x0 := .int .i64 (0)) (x1 := .int .i64 (0)) (x2 := .int .i64 (0)) (g := w.heap.size + 1) E (by simp))
  exact bodyPost_ret (v := .tuple #[.agg #[.int .i64 (0), .int .i64 (0), .int .i64 (0)], .int .i64 1]) (by simp [results, Tryd.results12, go_sem, e0, e1, e2]) rfl ⟨rfl, E.out.bel⟩

theorem addOk_one {y m d : Int} (h : ok8 y m d = true) (hn : m < 12 ∨ y < 9999) : addOk y m d 1 = true := by
  obtain ⟨h1, h2, h3, h4, _⟩ := ok8_iff.1 h
  rw [addOk_iff]; unfold mo8; exact ⟨h, by omega⟩
theorem nxt_add {y m d Y M D : Int} (h : ok8 y m d = true) (hd : d = len8 y m) (hn : Nxt y m d Y M D) : addOk y m d 1 = true ∧ D = 1 ∧ ∃ Z, add8 y m d 1 = (Y, M, Z) := by
  obtain ⟨h1, h2, h3, h4, _⟩ := ok8_iff.1 h
  have hmd : ∀ a : Int, mo8 y m + 1 = a → a / 12 = (mo8 y m + 1) / 12 ∧ a % 12 = (mo8 y m + 1) % 12 := fun a e => by subst e; exact ⟨rfl, rfl⟩
  rcases hn with ⟨g, _⟩ | ⟨-, g2, e1, e2, rfl⟩ | ⟨-, g2, g3, e1, e2, rfl⟩
  · omega
  · have ho := addOk_one h (.inl g2)
    refine ⟨ho, rfl, min d (len8 Y M), ?_⟩
    rw [add8_ok ho]
    have e3 : (mo8 y m + 1) / 12 + 1 = Y := by unfold mo8; omega
    have e4 : (mo8 y m + 1) % 12 + 1 = M := by unfold mo8; omega
    rw [e3, e4]
  · have ho := addOk_one h (.inr g3)
    refine ⟨ho, rfl, min d (len8 Y M), ?_⟩
    rw [add8_ok ho]
    have e3 : (mo8 y m + 1) / 12 + 1 = Y := by unfold mo8; omega
    have e4 : (mo8 y m + 1) % 12 + 1 = M := by unfold mo8; omega
    rw [e3, e4]
theorem next_is {y m d Y M D : Int} {w : World} (hT : Tabs w) (hr : ok8 y m d = true) (hn : Nxt y m d Y M D) : Calls Tryd.prog 11 #[.agg #[.int .i64 y, .int .i64 m, .int .i64 d]] w (Ret8 w (.tuple #[.agg #[.int .i64 Y, .int .i64 M, .int .i64 D], .int .i64 0])) := by
  by_cases hd : d < len8 y m
  · rcases hn with ⟨_, rfl, rfl, rfl⟩ | ⟨g, _⟩ | ⟨g, _⟩
    · exact next_in _ _ _ hr hd w hT
    · omega
    · omega
  · have hd2 : d = len8 y m := by have := ok8_iff.1 hr; omega
    obtain ⟨h1, rfl, Z, h3⟩ := nxt_add hr hd2 hn
    exact next_on y m d Y M Z hr hd2.symm h3 h1 w hT
theorem next_no {y m d : Int} {w : World} (hT : Tabs w) (h : ok8 y m d = false ∨ (y = 9999 ∧ m = 12 ∧ d = 31)) : Calls Tryd.prog 11 #[.agg #[.int .i64 y, .int .i64 m, .int .i64 d]] w (Ret8 w (.tuple #[.agg #[.int .i64 0, .int .i64 0, .int .i64 0], .int .i64 1])) := by
  rcases h with h | ⟨rfl, rfl, rfl⟩
  · exact next_not y m d h w hT
  · exact next_last 9999 12 31 last8.1 (by decide) (by decide) w hT
theorem refnext_is {y m d Y M D : Int} {w : World} (hT : Tabs w) (hr : ok8 y m d = true) (hn : Nxt y m d Y M D) : Calls Tryd.prog 12 #[.agg #[.int .i64 y, .int .i64 m, .int .i64 d]] w (Ret8 w (.tuple #[.agg #[.int .i64 Y, .int .i64 M, .int .i64 D], .int .i64 0])) := by
  rcases hn with ⟨g, rfl, rfl, rfl⟩ | ⟨g1, g2, rfl, rfl, rfl⟩ | ⟨g1, g2, g3, rfl, rfl, rfl⟩
  · by_cases hm : M = 12
    · exact refnext_in2 _ _ _ hr g hm w hT
    · exact refnext_in1 _ _ _ hr g hm w hT
  · exact refnext_mon _ _ _ hr g1 g2 w hT
  · exact refnext_year _ _ _ hr g1 g2 g3 w hT
theorem refnext_no {y m d : Int} {w : World} (hT : Tabs w) (h : ok8 y m d = false ∨ (y = 9999 ∧ m = 12 ∧ d = 31)) : Calls Tryd.prog 12 #[.agg #[.int .i64 y, .int .i64 m, .int .i64 d]] w (Ret8 w (.tuple #[.agg #[.int .i64 0, .int .i64 0, .int .i64 0], .int .i64 1])) := by
  rcases h with h | ⟨rfl, rfl, rfl⟩
  · exact refnext_not y m d h w hT
  · exact refnext_last w hT

end Go.Proofs.YtnndamhilbcdfaaDoor
