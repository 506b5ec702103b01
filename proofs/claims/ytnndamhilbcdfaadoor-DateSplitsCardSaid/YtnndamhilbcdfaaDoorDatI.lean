/-
  Contracts of layer 8, the ninth part: Ahead and the document's.
-/
import Derived.Test.YtnndamhilbcdfaaDoorDatH
set_option linter.unusedVariables false
set_option linter.unusedSimpArgs false
set_option linter.unusedVariables false
set_option linter.unusedSimpArgs false
set_option linter.unusedVariables false
set_option linter.unusedSimpArgs false
namespace Go.Proofs.YtnndamhilbcdfaaDoor
open Go.RowKit

set_option maxHeartbeats 4000000 in
set_option maxRecDepth 100000 in
theorem before_in (y m d : Int) (hr : ok8 y m d = true) (hd : 1 < d)  (w : World) (hT : Tabs w) : Calls Tryd.prog 13 #[.agg #[.int .i64 y, .int .i64 m, .int .i64 d]] w (Ret8 w (.tuple #[.agg #[.int .i64 y, .int .i64 m, .int .i64 ((d - 1))], .int .i64 0])) := by
  have HT := Lib.hid hT
  clear hT
  have hd2 : d ≤ 31 := by have := ok8_iff.1 hr; have := len8_bd y m; omega
  have HR := Lib.hid hr
  clear hr
  go_enter Tryd.func13, Tryd.ntmps13
  go_wp2_with fail
  generalize hW : World.alloc (World.alloc w _) _ = W0
  have E0 : S8 w W0 [(w.heap.size + 1, .int .i64 (0), .int .i64 (0), .int .i64 (0)), (w.heap.size, .int .i64 y, .int .i64 m, .int .i64 d)] := by rw [← hW]; exact (((S8.start w HT.out).lay rfl).lay (by simp))
  have E := Lib.hid E0
  clear hW E0
  obtain ⟨p0, p1, p2, pf0, pf1, pf2, plt⟩ := (S8.at_ (x0 := .int .i64 (0)) (x1 := .int .i64 (0)) (x2 := .int .i64 (0)) (g := w.heap.size + 1) E (by simp))
  obtain ⟨q0, q1, q2, qf0, qf1, qf2, qlt⟩ := (S8.at_ (x0 := .int .i64 y) (x1 := .int .i64 m) (x2 := .int .i64 d) (g := w.heap.size) E (by simp))
  go_wp2_with fail
  refine (right_is E.out.tab HR.out).mono ?_; rintro e w1 ⟨rfl, hb⟩; replace E := Lib.hid (S8.step E.out hb); clear hb
  clear p0 p1 p2 pf0 pf1 pf2 plt q0 q1 q2 qf0 qf1 qf2 qlt
  obtain ⟨p0, p1, p2, pf0, pf1, pf2, plt⟩ := (S8.at_ (x0 := .int .i64 (0)) (x1 := .int .i64 (0)) (x2 := .int .i64 (0)) (g := w.heap.size + 1) E (by simp))
  obtain ⟨q0, q1, q2, qf0, qf1, qf2, qlt⟩ := (S8.at_ (x0 := .int .i64 y) (x1 := .int .i64 m) (x2 := .int .i64 d) (g := w.heap.size) E (by simp))
  go_wp2_with fail
  clear p0 p1 p2 pf0 pf1 pf2 plt q0 q1 q2 qf0 qf1 qf2 qlt
  replace E := Lib.hid (S8.set2 E.out (g := w.heap.size) (x0 := .int .i64 y) (x1 := .int .i64 m) (x2 := .int .i64 d) (by simp) [(w.heap.size + 1, .int .i64 (0), .int .i64 (0), .int .i64 (0))] (fun q hq => by simp at hq ⊢; (try rcases hq with rfl <;> simp)) (.int .i64 ((d - 1))) (fun w_ hb => HT.out.on hb))
  replace E := Lib.hid (S8.store E.out (g := w.heap.size + 1) (x0 := .int .i64 (0)) (x1 := .int .i64 (0)) (x2 := .int .i64 (0)) (by simp) (by omega) [(w.heap.size, .int .i64 y, .int .i64 m, .int .i64 ((d - 1)))] (fun q hq => by simp at hq ⊢; (try rcases hq with rfl <;> simp)) (.int .i64 y) (.int .i64 m) (.int .i64 ((d - 1))) (fun w_ hb => HT.out.on hb))
  obtain ⟨e0, e1, e2, _, _, _, _⟩ := (S8.at_ (x0 := .int .i64 y) (x1 := .int .i64 m) (x2 := .int .i64 ((d - 1))) (g := w.heap.size + 1) E (by simp))
  exact bodyPost_ret (v := .tuple #[.agg #[.int .i64 y, .int .i64 m, .int .i64 ((d - 1))], .int .i64 0]) (by simp [results, Tryd.results13, go_sem, e0, e1, e2]) rfl ⟨rfl, E.out.bel⟩

set_option maxHeartbeats 4000000 in
set_option maxRecDepth 100000 in
theorem before_on (y m Y M L : Int) (hr : ok8 y m 1 = true) (ha : add8 y m 1 (-1) = (Y, M, 1)) (hc : addOk y m 1 (-1) = true) (he : end8 Y M 1 = (Y, M, L))  (w : World) (hT : Tabs w) : Calls Tryd.prog 13 #[.agg #[.int .i64 y, .int .i64 m, .int .i64 (1)]] w (Ret8 w (.tuple #[.agg #[.int .i64 Y, .int .i64 M, .int .i64 L], .int .i64 0])) := by
  have HT := Lib.hid hT
  clear hT
  have HR := Lib.hid hr
  have HA := Lib.hid ha
  have HC := Lib.hid hc
  have HE := Lib.hid he
  clear hr ha hc he
  go_enter Tryd.func13, Tryd.ntmps13
  go_wp2_with fail
  generalize hW : World.alloc (World.alloc w _) _ = W0
  have E0 : S8 w W0 [(w.heap.size + 1, .int .i64 (0), .int .i64 (0), .int .i64 (0)), (w.heap.size, .int .i64 y, .int .i64 m, .int .i64 (1))] := by rw [← hW]; exact (((S8.start w HT.out).lay rfl).lay (by simp))
  have E := Lib.hid E0
  clear hW E0
  obtain ⟨p0, p1, p2, pf0, pf1, pf2, plt⟩ := (S8.at_ (x0 := .int .i64 (0)) (x1 := .int .i64 (0)) (x2 := .int .i64 (0)) (g := w.heap.size + 1) E (by simp))
  obtain ⟨q0, q1, q2, qf0, qf1, qf2, qlt⟩ := (S8.at_ (x0 := .int .i64 y) (x1 := .int .i64 m) (x2 := .int .i64 (1)) (g := w.heap.size) E (by simp))
  go_wp2_with fail
  refine (right_is E.out.tab HR.out).mono ?_; rintro e w1 ⟨rfl, hb⟩; replace E := Lib.hid (S8.step E.out hb); clear hb
  clear p0 p1 p2 pf0 pf1 pf2 plt q0 q1 q2 qf0 qf1 qf2 qlt
  obtain ⟨p0, p1, p2, pf0, pf1, pf2, plt⟩ := (S8.at_ (x0 := .int .i64 (0)) (x1 := .int .i64 (0)) (x2 := .int .i64 (0)) (g := w.heap.size + 1) E (by simp))
  obtain ⟨q0, q1, q2, qf0, qf1, qf2, qlt⟩ := (S8.at_ (x0 := .int .i64 y) (x1 := .int .i64 m) (x2 := .int .i64 (1)) (g := w.heap.size) E (by simp))
  go_wp2_with fail
  refine (add_is E.out.tab HA.out HC.out).mono ?_; rintro e w2 ⟨rfl, hb⟩; replace E := Lib.hid (S8.step E.out hb); clear hb
  clear p0 p1 p2 pf0 pf1 pf2 plt q0 q1 q2 qf0 qf1 qf2 qlt
  go_wp2_with fail
  replace E := Lib.hid (S8.lay (t := 23) (x0 := .int .i64 Y) (x1 := .int .i64 M) (x2 := .int .i64 (1)) (g := w2.heap.size) E.out rfl)
  generalize hW2 : World.alloc w2 _ = V1 at E ⊢
  clear hW2
  refine (monthEnd_is E.out.tab HE.out).mono ?_; rintro e w3 ⟨rfl, hb⟩; replace E := Lib.hid (S8.step E.out hb); clear hb
  replace E : Hid (S8 w w3 [(w.heap.size + 1, .int .i64 (0), .int .i64 (0), .int .i64 (0))]) := Lib.hid (S8.sub E.out (fun q hq => by simp at hq ⊢; (try rcases hq with rfl <;> simp)))
  obtain ⟨p0, p1, p2, pf0, pf1, pf2, plt⟩ := (S8.at_ (x0 := .int .i64 (0)) (x1 := .int .i64 (0)) (x2 := .int .i64 (0)) (g := w.heap.size + 1) E (by simp))
  go_wp2_with fail
  clear p0 p1 p2 pf0 pf1 pf2 plt
  replace E := Lib.hid (S8.store E.out (g := w.heap.size + 1) (x0 := .int .i64 (0)) (x1 := .int .i64 (0)) (x2 := .int .i64 (0)) (by simp) (by omega) [] (fun q hq => by simp at hq ⊢; (try rcases hq with rfl <;> simp)) (.int .i64 Y) (.int .i64 M) (.int .i64 L) (fun w_ hb => HT.out.on hb))
  obtain ⟨e0, e1, e2, _, _, _, _⟩ := (S8.at_ (x0 := .int .i64 Y) (x1 := .int .i64 M) (x2 := .int .i64 L) (g := w.heap.size + 1) E (by simp))
  exact bodyPost_ret (v := .tuple #[.agg #[.int .i64 Y, .int .i64 M, .int .i64 L], .int .i64 0]) (by simp [results, Tryd.results13, go_sem, e0, e1, e2]) rfl ⟨rfl, E.out.bel⟩

set_option maxHeartbeats 4000000 in
set_option maxRecDepth 100000 in
theorem before_first  (w : World) (hT : Tabs w) : Calls Tryd.prog 13 #[.agg #[.int .i64 (1), .int .i64 (1), .int .i64 (1)]] w (Ret8 w (.tuple #[.agg #[.int .i64 (0), .int .i64 (0), .int .i64 (0)], .int .i64 1])) := by
  have HT := Lib.hid hT
  clear hT
  have HR : Hid (ok8 1 1 1 = true) := first8.1
  have HC : Hid (addOk 1 1 1 (-1) = false) := by show _ = _; decide
  have HE : Hid (end8 0 0 0 = (0, 0, 0)) := by show _ = _; decide
  go_enter Tryd.func13, Tryd.ntmps13
  go_wp2_with fail
  generalize hW : World.alloc (World.alloc w _) _ = W0
  have E0 : S8 w W0 [(w.heap.size + 1, .int .i64 (0), .int .i64 (0), .int .i64 (0)), (w.heap.size, .int .i64 (1), .int .i64 (1), .int .i64 (1))] := by rw [← hW]; exact (((S8.start w HT.out).lay rfl).lay (by simp))
  have E := Lib.hid E0
  clear hW E0
  obtain ⟨p0, p1, p2, pf0, pf1, pf2, plt⟩ := (S8.at_ (x0 := .int .i64 (0)) (x1 := .int .i64 (0)) (x2 := .int .i64 (0)) (g := w.heap.size + 1) E (by simp))
  obtain ⟨q0, q1, q2, qf0, qf1, qf2, qlt⟩ := (S8.at_ (x0 := .int .i64 (1)) (x1 := .int .i64 (1)) (x2 := .int .i64 (1)) (g := w.heap.size) E (by simp))
  go_wp2_with fail
  refine (right_is E.out.tab HR.out).mono ?_; rintro e w1 ⟨rfl, hb⟩; replace E := Lib.hid (S8.step E.out hb); clear hb
  clear p0 p1 p2 pf0 pf1 pf2 plt q0 q1 q2 qf0 qf1 qf2 qlt
  obtain ⟨p0, p1, p2, pf0, pf1, pf2, plt⟩ := (S8.at_ (x0 := .int .i64 (0)) (x1 := .int .i64 (0)) (x2 := .int .i64 (0)) (g := w.heap.size + 1) E (by simp))
  obtain ⟨q0, q1, q2, qf0, qf1, qf2, qlt⟩ := (S8.at_ (x0 := .int .i64 (1)) (x1 := .int .i64 (1)) (x2 := .int .i64 (1)) (g := w.heap.size) E (by simp))
  go_wp2_with fail
  refine (add_no E.out.tab HC.out).mono ?_; rintro e w2 ⟨rfl, hb⟩; replace E := Lib.hid (S8.step E.out hb); clear hb
  clear p0 p1 p2 pf0 pf1 pf2 plt q0 q1 q2 qf0 qf1 qf2 qlt
  go_wp2_with fail
  replace E := Lib.hid (S8.lay (t := 23) (x0 := .int .i64 (0)) (x1 := .int .i64 (0)) (x2 := .int .i64 (0)) (g := w2.heap.size) E.out rfl)
  generalize hW2 : World.alloc w2 _ = V1 at E ⊢
  clear hW2
  refine (monthEnd_is E.out.tab HE.out).mono ?_; rintro e w3 ⟨rfl, hb⟩; replace E := Lib.hid (S8.step E.out hb); clear hb
  replace E : Hid (S8 w w3 [(w.heap.size + 1, .int .i64 (0), .int .i64 (0), .int .i64 (0))]) := Lib.hid (S8.sub E.out (fun q hq => by simp at hq ⊢; (try rcases hq with rfl <;> simp)))
  obtain ⟨p0, p1, p2, pf0, pf1, pf2, plt⟩ := (S8.at_ (x0 := .int .i64 (0)) (x1 := .int .i64 (0)) (x2 := .int .i64 (0)) (g := w.heap.size + 1) E (by simp))
  go_wp2_with fail
  clear p0 p1 p2 pf0 pf1 pf2 plt
  replace E := Lib.hid (S8.store E.out (g := w.heap.size + 1) (x0 := .int .i64 (0)) (x1 := .int .i64 (0)) (x2 := .int .i64 (0)) (by simp) (by omega) [] (fun q hq => by simp at hq ⊢; (try rcases hq with rfl <;> simp)) (.int .i64 (0)) (.int .i64 (0)) (.int .i64 (0)) (fun w_ hb => HT.out.on hb))
  obtain ⟨e0, e1, e2, _, _, _, _⟩ := (S8.at_ (x0 := .int .i64 (0)) (x1 := .int .i64 (0)) (x2 := .int .i64 (0)) (g := w.heap.size + 1) E (by simp))
  exact bodyPost_ret (v := .tuple #[.agg #[.int .i64 (0), .int .i64 (0), .int .i64 (0)], .int .i64 1]) (by simp [results, Tryd.results13, go_sem, e0, e1, e2]) rfl ⟨rfl, E.out.bel⟩

set_option maxHeartbeats 4000000 in
set_option maxRecDepth 100000 in
theorem before_not (y m d : Int) (hr : ok8 y m d = false)  (w : World) (hT : Tabs w) : Calls Tryd.prog 13 #[.agg #[.int .i64 y, .int .i64 m, .int .i64 d]] w (Ret8 w (.tuple #[.agg #[.int .i64 (0), .int .i64 (0), .int .i64 (0)], .int .i64 1])) := by
  have HT := Lib.hid hT
  clear hT
  have HR := Lib.hid hr
  have HC : Hid (addOk y m d (-1) = false) := by show _ = _; unfold addOk; rw [hr]; rfl
  have HE : Hid (end8 0 0 0 = (0, 0, 0)) := by show _ = _; decide
  clear hr
  go_enter Tryd.func13, Tryd.ntmps13
  go_wp2_with fail
  generalize hW : World.alloc (World.alloc w _) _ = W0
  have E0 : S8 w W0 [(w.heap.size + 1, .int .i64 (0), .int .i64 (0), .int .i64 (0)), (w.heap.size, .int .i64 y, .int .i64 m, .int .i64 d)] := by rw [← hW]; exact (((S8.start w HT.out).lay rfl).lay (by simp))
  have E := Lib.hid E0
  clear hW E0
  obtain ⟨p0, p1, p2, pf0, pf1, pf2, plt⟩ := (S8.at_ (x0 := .int .i64 (0)) (x1 := .int .i64 (0)) (x2 := .int .i64 (0)) (g := w.heap.size + 1) E (by simp))
  obtain ⟨q0, q1, q2, qf0, qf1, qf2, qlt⟩ := (S8.at_ (x0 := .int .i64 y) (x1 := .int .i64 m) (x2 := .int .i64 d) (g := w.heap.size) E (by simp))
  go_wp2_with fail
  refine (right_is E.out.tab HR.out).mono ?_; rintro e w1 ⟨rfl, hb⟩; replace E := Lib.hid (S8.step E.out hb); clear hb
  clear p0 p1 p2 pf0 pf1 pf2 plt q0 q1 q2 qf0 qf1 qf2 qlt
  obtain ⟨p0, p1, p2, pf0, pf1, pf2, plt⟩ := (S8.at_ (x0 := .int .i64 (0)) (x1 := .int .i64 (0)) (x2 := .int .i64 (0)) (g := w.heap.size + 1) E (by simp))
  obtain ⟨q0, q1, q2, qf0, qf1, qf2, qlt⟩ := (S8.at_ (x0 := .int .i64 y) (x1 := .int .i64 m) (x2 := .int .i64 d) (g := w.heap.size) E (by simp))
  go_wp2_with fail
  refine (add_no E.out.tab HC.out).mono ?_; rintro e w2 ⟨rfl, hb⟩; replace E := Lib.hid (S8.step E.out hb); clear hb
  clear p0 p1 p2 pf0 pf1 pf2 plt q0 q1 q2 qf0 qf1 qf2 qlt
  go_wp2_with fail
  replace E := Lib.hid (S8.lay (t := 23) (x0 := .int .i64 (0)) (x1 := .int .i64 (0)) (x2 := .int .i64 (0)) (g := w2.heap.size) E.out rfl)
  generalize hW2 : World.alloc w2 _ = V1 at E ⊢
  clear hW2
  refine (monthEnd_is E.out.tab HE.out).mono ?_; rintro e w3 ⟨rfl, hb⟩; replace E := Lib.hid (S8.step E.out hb); clear hb
  replace E : Hid (S8 w w3 [(w.heap.size + 1, .int .i64 (0), .int .i64 (0), .int .i64 (0))]) := Lib.hid (S8.sub E.out (fun q hq => by simp at hq ⊢; (try rcases hq with rfl <;> simp)))
  obtain ⟨p0, p1, p2, pf0, pf1, pf2, plt⟩ := (S8.at_ (x0 := .int .i64 (0)) (x1 := .int .i64 (0)) (x2 := .int .i64 (0)) (g := w.heap.size + 1) E (by simp))
  go_wp2_with fail
  clear p0 p1 p2 pf0 pf1 pf2 plt
  replace E := Lib.hid (S8.store E.out (g := w.heap.size + 1) (x0 := .int .i64 (0)) (x1 := .int .i64 (0)) (x2 := .int .i64 (0)) (by simp) (by omega) [] (fun q hq => by simp at hq ⊢; (try rcases hq with rfl <;> simp)) (.int .i64 (0)) (.int .i64 (0)) (.int .i64 (0)) (fun w_ hb => HT.out.on hb))
  obtain ⟨e0, e1, e2, _, _, _, _⟩ := (S8.at_ (x0 := .int .i64 (0)) (x1 := .int .i64 (0)) (x2 := .int .i64 (0)) (g := w.heap.size + 1) E (by simp))
  exact bodyPost_ret (v := .tuple #[.agg #[.int .i64 (0), .int .i64 (0), .int .i64 (0)], .int .i64 1]) (by simp [results, Tryd.results13, go_sem, e0, e1, e2]) rfl ⟨rfl, E.out.bel⟩

set_option maxHeartbeats 4000000 in
set_option maxRecDepth 100000 in
theorem refbefore_not (y m d : Int) (hr : ok8 y m d = false)  (w : World) (hT : Tabs w) : Calls Tryd.prog 14 #[.agg #[.int .i64 y, .int .i64 m, .int .i64 d]] w (Ret8 w (.tuple #[.agg #[.int .i64 (0), .int .i64 (0), .int .i64 (0)], .int .i64 1])) := by
  have HT := Lib.hid hT
  clear hT
  have HR := Lib.hid hr
  clear hr
  go_enter Tryd.func14, Tryd.ntmps14
  go_wp2_with fail
  generalize hW : World.alloc (World.alloc w _) _ = W0
  have E0 : S8 w W0 [(w.heap.size + 1, .int .i64 (0), .int .i64 (0), .int .i64 (0)), (w.heap.size, .int .i64 y, .int .i64 m, .int .i64 d)] := by rw [← hW]; exact (((S8.start w HT.out).lay rfl).lay (by simp))
  have E := Lib.hid E0
  clear hW E0
  obtain ⟨p0, p1, p2, pf0, pf1, pf2, plt⟩ := (S8.at_ (x0 := .int .i64 (0)) (x1 := .int .i64 (0)) (x2 := .int .i64 (0)) (g := w.heap.size + 1) E (by simp))
  obtain ⟨q0, q1, q2, qf0, qf1, qf2, qlt⟩ := (S8.at_ (x0 := .int .i64 y) (x1 := .int .i64 m) (x2 := .int .i64 d) (g := w.heap.size) E (by simp))
  go_wp2_with fail
  refine (refright_is E.out.tab HR.out).mono ?_; rintro e w1 ⟨rfl, hb⟩; replace E := Lib.hid (S8.step E.out hb); clear hb
  clear p0 p1 p2 pf0 pf1 pf2 plt q0 q1 q2 qf0 qf1 qf2 qlt
  obtain ⟨p0, p1, p2, pf0, pf1, pf2, plt⟩ := (S8.at_ (x0 := .int .i64 (0)) (x1 := .int .i64 (0)) (x2 := .int .i64 (0)) (g := w.heap.size + 1) E (by simp))
  obtain ⟨q0, q1, q2, qf0, qf1, qf2, qlt⟩ := (S8.at_ (x0 := .int .i64 y) (x1 := .int .i64 m) (x2 := .int .i64 d) (g := w.heap.size) E (by simp))
  go_wp2_with fail
  clear p0 p1 p2 pf0 pf1 pf2 plt q0 q1 q2 qf0 qf1 qf2 qlt
  replace E := Lib.hid (S8.store E.out (g := w.heap.size + 1) (x0 := .int .i64 (0)) (x1 := .int .i64 (0)) (x2 := .int .i64 (0)) (by simp) (by omega) [(w.heap.size, .int .i64 y, .int .i64 m, .int .i64 d)] (fun q hq => by simp at hq ⊢; (try rcases hq with rfl <;> simp)) (.int .i64 (0)) (.int .i64 (0)) (.int .i64 (0)) (fun w_ hb => HT.out.on hb))
  obtain ⟨e0, e1, e2, _, _, _, _⟩ := (S8.at_ (x0 := .int .i64 (0)) (x1 := .int .i64 (0)) (x2 := .int .i64 (0)) (g := w.heap.size + 1) E (by simp))
  exact bodyPost_ret (v := .tuple #[.agg #[.int .i64 (0), .int .i64 (0), .int .i64 (0)], .int .i64 1]) (by simp [results, Tryd.results14, go_sem, e0, e1, e2]) rfl ⟨rfl, E.out.bel⟩

set_option maxHeartbeats 4000000 in
set_option maxRecDepth 100000 in
theorem refbefore_is0 (y m d n Y M D : Int) (hr : ok8 y m d = true) (hn : num8 y m d = n) (hp : ok8 Y M D = true) (hq : num8 Y M D = n - 1)  (w : World) (hT : Tabs w) : Calls Tryd.prog 14 #[.agg #[.int .i64 y, .int .i64 m, .int .i64 d]] w (Ret8 w (.tuple #[.agg #[.int .i64 Y, .int .i64 M, .int .i64 D], .int .i64 0])) := by
  have HT := Lib.hid hT
  clear hT
  have hb := num8_bd hr
  rw [hn] at hb
  obtain ⟨n1, n2⟩ := hb
  have HD : Hid (days8 y m d = n) := (days8_ok hr).trans hn
  have HR := Lib.hid hr
  have HP := Lib.hid hp
  have HQ := Lib.hid hq
  clear hr hn hp hq
  go_enter Tryd.func14, Tryd.ntmps14
  go_wp2_with fail
  generalize hW : World.alloc (World.alloc w _) _ = W0
  have E0 : S8 w W0 [(w.heap.size + 1, .int .i64 (0), .int .i64 (0), .int .i64 (0)), (w.heap.size, .int .i64 y, .int .i64 m, .int .i64 d)] := by rw [← hW]; exact (((S8.start w HT.out).lay rfl).lay (by simp))
  have E := Lib.hid E0
  clear hW E0
  obtain ⟨p0, p1, p2, pf0, pf1, pf2, plt⟩ := (S8.at_ (x0 := .int .i64 (0)) (x1 := .int .i64 (0)) (x2 := .int .i64 (0)) (g := w.heap.size + 1) E (by simp))
  obtain ⟨q0, q1, q2, qf0, qf1, qf2, qlt⟩ := (S8.at_ (x0 := .int .i64 y) (x1 := .int .i64 m) (x2 := .int .i64 d) (g := w.heap.size) E (by simp))
  go_wp2_with fail
  refine (refright_is E.out.tab HR.out).mono ?_; rintro e w1 ⟨rfl, hb⟩; replace E := Lib.hid (S8.step E.out hb); clear hb
  clear p0 p1 p2 pf0 pf1 pf2 plt q0 q1 q2 qf0 qf1 qf2 qlt
  obtain ⟨p0, p1, p2, pf0, pf1, pf2, plt⟩ := (S8.at_ (x0 := .int .i64 (0)) (x1 := .int .i64 (0)) (x2 := .int .i64 (0)) (g := w.heap.size + 1) E (by simp))
  obtain ⟨q0, q1, q2, qf0, qf1, qf2, qlt⟩ := (S8.at_ (x0 := .int .i64 y) (x1 := .int .i64 m) (x2 := .int .i64 d) (g := w.heap.size) E (by simp))
  go_wp2_with fail
  refine (refdays_is E.out.tab HD.out).mono ?_; rintro e w2 ⟨rfl, hb⟩; replace E := Lib.hid (S8.step E.out hb); clear hb
  clear p0 p1 p2 pf0 pf1 pf2 plt q0 q1 q2 qf0 qf1 qf2 qlt
  go_wp2_with fail
  refine (refof_is E.out.tab HP.out HQ.out).mono ?_; rintro e w3 ⟨rfl, hb⟩; replace E := Lib.hid (S8.step E.out hb); clear hb
  obtain ⟨p0, p1, p2, pf0, pf1, pf2, plt⟩ := (S8.at_ (x0 := .int .i64 (0)) (x1 := .int .i64 (0)) (x2 := .int .i64 (0)) (g := w.heap.size + 1) E (by simp))
  obtain ⟨q0, q1, q2, qf0, qf1, qf2, qlt⟩ := (S8.at_ (x0 := .int .i64 y) (x1 := .int .i64 m) (x2 := .int .i64 d) (g := w.heap.size) E (by simp))
  go_wp2_with fail
  clear p0 p1 p2 pf0 pf1 pf2 plt q0 q1 q2 qf0 qf1 qf2 qlt
  replace E := Lib.hid (S8.store E.out (g := w.heap.size + 1) (x0 := .int .i64 (0)) (x1 := .int .i64 (0)) (x2 := .int .i64 (0)) (by simp) (by omega) [(w.heap.size, .int .i64 y, .int .i64 m, .int .i64 d)] (fun q hq => by simp at hq ⊢; (try rcases hq with rfl <;> simp)) (.int .i64 Y) (.int .i64 M) (.int .i64 D) (fun w_ hb => HT.out.on hb))
  obtain ⟨e0, e1, e2, _, _, _, _⟩ := (S8.at_ (x0 := .int .i64 Y) (x1 := .int .i64 M) (x2 := .int .i64 D) (g := w.heap.size + 1) E (by simp))
  exact bodyPost_ret (v := .tuple #[.agg #[.int .i64 Y, .int .i64 M, .int .i64 D], .int .i64 0]) (by simp [results, Tryd.results14, go_sem, e0, e1, e2]) rfl ⟨rfl, E.out.bel⟩

set_option maxHeartbeats 4000000 in
set_option maxRecDepth 100000 in
theorem refbefore_first0  (w : World) (hT : Tabs w) : Calls Tryd.prog 14 #[.agg #[.int .i64 (1), .int .i64 (1), .int .i64 (1)]] w (Ret8 w (.tuple #[.agg #[.int .i64 (0), .int .i64 (0), .int .i64 (0)], .int .i64 1])) := by
  have HT := Lib.hid hT
  clear hT
  obtain ⟨n, hn⟩ : ∃ n : Int, n = 1 := ⟨_, rfl⟩
  have HD : Hid (days8 1 1 1 = n) := by show _ = _; rw [hn]; exact (days8_ok first8.1).trans first8.2
  have HR : Hid (ok8 1 1 1 = true) := first8.1
  have n1 : 1 ≤ n := by omega
  have n2 : n ≤ 3652059 := by omega
  have HN := Lib.hid hn
  clear hn
  go_enter Tryd.func14, Tryd.ntmps14
  go_wp2_with fail
  generalize hW : World.alloc (World.alloc w _) _ = W0
  have E0 : S8 w W0 [(w.heap.size + 1, .int .i64 (0), .int .i64 (0), .int .i64 (0)), (w.heap.size, .int .i64 (1), .int .i64 (1), .int .i64 (1))] := by rw [← hW]; exact (((S8.start w HT.out).lay rfl).lay (by simp))
  have E := Lib.hid E0
  clear hW E0
  obtain ⟨p0, p1, p2, pf0, pf1, pf2, plt⟩ := (S8.at_ (x0 := .int .i64 (0)) (x1 := .int .i64 (0)) (x2 := .int .i64 (0)) (g := w.heap.size + 1) E (by simp))
  obtain ⟨q0, q1, q2, qf0, qf1, qf2, qlt⟩ := (S8.at_ (x0 := .int .i64 (1)) (x1 := .int .i64 (1)) (x2 := .int .i64 (1)) (g := w.heap.size) E (by simp))
  go_wp2_with fail
  refine (refright_is E.out.tab HR.out).mono ?_; rintro e w1 ⟨rfl, hb⟩; replace E := Lib.hid (S8.step E.out hb); clear hb
  clear p0 p1 p2 pf0 pf1 pf2 plt q0 q1 q2 qf0 qf1 qf2 qlt
  obtain ⟨p0, p1, p2, pf0, pf1, pf2, plt⟩ := (S8.at_ (x0 := .int .i64 (0)) (x1 := .int .i64 (0)) (x2 := .int .i64 (0)) (g := w.heap.size + 1) E (by simp))
  obtain ⟨q0, q1, q2, qf0, qf1, qf2, qlt⟩ := (S8.at_ (x0 := .int .i64 (1)) (x1 := .int .i64 (1)) (x2 := .int .i64 (1)) (g := w.heap.size) E (by simp))
  go_wp2_with fail
  refine (refdays_is E.out.tab HD.out).mono ?_; rintro e w2 ⟨rfl, hb⟩; replace E := Lib.hid (S8.step E.out hb); clear hb
  clear p0 p1 p2 pf0 pf1 pf2 plt q0 q1 q2 qf0 qf1 qf2 qlt
  go_wp2_with fail
  refine (refof_no (.inl (by rw [HN.out]; omega))).mono ?_; rintro e w3 ⟨rfl, hb⟩; replace E := Lib.hid (S8.step E.out hb); clear hb
  obtain ⟨p0, p1, p2, pf0, pf1, pf2, plt⟩ := (S8.at_ (x0 := .int .i64 (0)) (x1 := .int .i64 (0)) (x2 := .int .i64 (0)) (g := w.heap.size + 1) E (by simp))
  obtain ⟨q0, q1, q2, qf0, qf1, qf2, qlt⟩ := (S8.at_ (x0 := .int .i64 (1)) (x1 := .int .i64 (1)) (x2 := .int .i64 (1)) (g := w.heap.size) E (by simp))
  go_wp2_with fail
  clear p0 p1 p2 pf0 pf1 pf2 plt q0 q1 q2 qf0 qf1 qf2 qlt
  replace E := Lib.hid (S8.store E.out (g := w.heap.size + 1) (x0 := .int .i64 (0)) (x1 := .int .i64 (0)) (x2 := .int .i64 (0)) (by simp) (by omega) [(w.heap.size, .int .i64 (1), .int .i64 (1), .int .i64 (1))] (fun q hq => by simp at hq ⊢; (try rcases hq with rfl <;> simp)) (.int .i64 (0)) (.int .i64 (0)) (.int .i64 (0)) (fun w_ hb => HT.out.on hb))
  obtain ⟨e0, e1, e2, _, _, _, _⟩ := (S8.at_ (x0 := .int .i64 (0)) (x1 := .int .i64 (0)) (x2 := .int .i64 (0)) (g := w.heap.size + 1) E (by simp))
  exact bodyPost_ret (v := .tuple #[.agg #[.int .i64 (0), .int .i64 (0), .int .i64 (0)], .int .i64 1]) (by simp [results, Tryd.results14, go_sem, e0, e1, e2]) rfl ⟨rfl, E.out.bel⟩

theorem before_is {y m d Y M D : Int} {w : World} (hT : Tabs w) (hr : ok8 y m d = true) (hp : ok8 Y M D = true) (hn : Nxt Y M D y m d) : Calls Tryd.prog 13 #[.agg #[.int .i64 y, .int .i64 m, .int .i64 d]] w (Ret8 w (.tuple #[.agg #[.int .i64 Y, .int .i64 M, .int .i64 D], .int .i64 0])) := by
  obtain ⟨g1, g2, g3, g4, g5, g6⟩ := ok8_iff.1 hp
  rcases hn with ⟨h, rfl, rfl, rfl⟩ | ⟨h1, h2, rfl, rfl, rfl⟩ | ⟨h1, rfl, h3, rfl, rfl, rfl⟩
  · have := before_in y m (D + 1) hr (by omega) w hT
    rw [show D + 1 - 1 = D by omega] at this
    exact this
  · have hb := len8_bd y M
    have ho : addOk y (M + 1) 1 (-1) = true := by rw [addOk_iff]; unfold mo8; exact ⟨hr, by omega⟩
    subst h1
    refine before_on y (M + 1) y M (len8 y M) hr ?_ ho ?_ w hT
    · rw [add8_ok ho]
      have e3 : (mo8 y (M + 1) + -1) / 12 + 1 = y := by unfold mo8; omega
      have e4 : (mo8 y (M + 1) + -1) % 12 + 1 = M := by unfold mo8; omega
      rw [e3, e4, show min (1 : Int) (len8 y M) = 1 by omega]
    · exact end8_ok (ok8_iff.2 ⟨by omega, by omega, by omega, by omega, by omega, by omega⟩)
  · have hb := len8_bd Y 12
    have ho : addOk (Y + 1) 1 1 (-1) = true := by rw [addOk_iff]; unfold mo8; exact ⟨hr, by omega⟩
    subst h1
    refine before_on (Y + 1) 1 Y 12 (len8 Y 12) hr ?_ ho ?_ w hT
    · rw [add8_ok ho]
      have e3 : (mo8 (Y + 1) 1 + -1) / 12 + 1 = Y := by unfold mo8; omega
      have e4 : (mo8 (Y + 1) 1 + -1) % 12 + 1 = 12 := by unfold mo8; omega
      rw [e3, e4, show min (1 : Int) (len8 Y 12) = 1 by omega]
    · exact end8_ok (ok8_iff.2 ⟨by omega, by omega, by omega, by omega, by omega, by omega⟩)
theorem before_no {y m d : Int} {w : World} (hT : Tabs w) (h : ok8 y m d = false ∨ (y = 1 ∧ m = 1 ∧ d = 1)) : Calls Tryd.prog 13 #[.agg #[.int .i64 y, .int .i64 m, .int .i64 d]] w (Ret8 w (.tuple #[.agg #[.int .i64 0, .int .i64 0, .int .i64 0], .int .i64 1])) := by
  rcases h with h | ⟨rfl, rfl, rfl⟩
  · exact before_not y m d h w hT
  · exact before_first w hT
theorem refbefore_is {y m d Y M D : Int} {w : World} (hT : Tabs w) (hr : ok8 y m d = true) (hp : ok8 Y M D = true) (hn : Nxt Y M D y m d) : Calls Tryd.prog 14 #[.agg #[.int .i64 y, .int .i64 m, .int .i64 d]] w (Ret8 w (.tuple #[.agg #[.int .i64 Y, .int .i64 M, .int .i64 D], .int .i64 0])) :=
  refbefore_is0 y m d _ Y M D hr rfl hp (by have := hn.num hp; omega) w hT
theorem refbefore_no {y m d : Int} {w : World} (hT : Tabs w) (h : ok8 y m d = false ∨ (y = 1 ∧ m = 1 ∧ d = 1)) : Calls Tryd.prog 14 #[.agg #[.int .i64 y, .int .i64 m, .int .i64 d]] w (Ret8 w (.tuple #[.agg #[.int .i64 0, .int .i64 0, .int .i64 0], .int .i64 1])) := by
  rcases h with h | ⟨rfl, rfl, rfl⟩
  · exact refbefore_not y m d h w hT
  · exact refbefore_first0 w hT

end Go.Proofs.YtnndamhilbcdfaaDoor
