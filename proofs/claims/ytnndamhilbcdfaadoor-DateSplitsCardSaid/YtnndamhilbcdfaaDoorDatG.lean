/-
  Contracts of layer 8, the seventh part: Months, Add and the document's.
-/
import Derived.Test.YtnndamhilbcdfaaDoorDatF
set_option linter.unusedVariables false
set_option linter.unusedSimpArgs false
set_option linter.unusedVariables false
set_option linter.unusedSimpArgs false
set_option linter.unusedVariables false
set_option linter.unusedSimpArgs false
namespace Go.Proofs.YtnndamhilbcdfaaDoor
open Go.RowKit

set_option maxHeartbeats 4000000 in
set_option maxRecDepth 100000 in
theorem monthsAhead_yes (y m d : Int) (hr : ok8 y m d = true)  (w : World) (hT : Tabs w) : Calls Tryd.prog 48 #[.agg #[.int .i64 y, .int .i64 m, .int .i64 d]] w (Ret8 w (.int .i64 (mo8 y m))) := by
  have HT := Lib.hid hT
  clear hT
  obtain ⟨h1, h2, h3, h4, h5, h6⟩ := ok8_iff.1 hr
  clear hr h5 h6
  go_enter Tryd.func48, Tryd.ntmps48
  go_wp2_with fail
  generalize hW : World.alloc w _ = W0
  have E0 : S8 w W0 [(w.heap.size, .int .i64 y, .int .i64 m, .int .i64 d)] := by rw [← hW]; exact ((S8.start w HT.out).lay rfl)
  have E := Lib.hid E0
  clear hW E0
  obtain ⟨p0, p1, p2, pf0, pf1, pf2, plt⟩ := (S8.at_ (x0 := .int .i64 y) (x1 := .int .i64 m) (x2 := .int .i64 d) (g := w.heap.size) E (by simp))
  go_wp2_with fail
  go_ret
  exact ⟨ri8 (by unfold mo8; omega), E.out.bel⟩

theorem monthsAhead_is {y m d z : Int} {w : World} (hT : Tabs w) (hr : ok8 y m d = true) (hz : mo8 y m = z) : Calls Tryd.prog 48 #[.agg #[.int .i64 y, .int .i64 m, .int .i64 d]] w (Ret8 w (.int .i64 z)) := by
  subst hz; exact monthsAhead_yes y m d hr w hT

set_option maxHeartbeats 4000000 in
set_option maxRecDepth 100000 in
theorem months_no0 (y m d y' m' d' : Int) (hr : ok8 y m d = false)  (w : World) (hT : Tabs w) : Calls Tryd.prog 33 #[.agg #[.int .i64 y, .int .i64 m, .int .i64 d], .agg #[.int .i64 y', .int .i64 m', .int .i64 d']] w (Ret8 w (.int .i64 0)) := by
  have HT := Lib.hid hT
  clear hT
  have HR := Lib.hid hr
  clear hr
  go_enter Tryd.func33, Tryd.ntmps33
  go_wp2_with fail
  generalize hW : World.alloc (World.alloc w _) _ = W0
  have E0 : S8 w W0 [(w.heap.size + 1, .int .i64 y', .int .i64 m', .int .i64 d'), (w.heap.size, .int .i64 y, .int .i64 m, .int .i64 d)] := by rw [← hW]; exact (((S8.start w HT.out).lay rfl).lay (by simp))
  have E := Lib.hid E0
  clear hW E0
  obtain ⟨p0, p1, p2, pf0, pf1, pf2, plt⟩ := (S8.at_ (x0 := .int .i64 y') (x1 := .int .i64 m') (x2 := .int .i64 d') (g := w.heap.size + 1) E (by simp))
  obtain ⟨q0, q1, q2, qf0, qf1, qf2, qlt⟩ := (S8.at_ (x0 := .int .i64 y) (x1 := .int .i64 m) (x2 := .int .i64 d) (g := w.heap.size) E (by simp))
  go_wp2_with fail
  refine (right_any _ _ _ _ E.out.tab).mono ?_; rintro e w1 ⟨rfl, hb⟩; replace E := Lib.hid (S8.step E.out hb); clear hb
  rw [HR.out]
  clear p0 p1 p2 pf0 pf1 pf2 plt q0 q1 q2 qf0 qf1 qf2 qlt
  obtain ⟨p0, p1, p2, pf0, pf1, pf2, plt⟩ := (S8.at_ (x0 := .int .i64 y') (x1 := .int .i64 m') (x2 := .int .i64 d') (g := w.heap.size + 1) E (by simp))
  obtain ⟨q0, q1, q2, qf0, qf1, qf2, qlt⟩ := (S8.at_ (x0 := .int .i64 y) (x1 := .int .i64 m) (x2 := .int .i64 d) (g := w.heap.size) E (by simp))
  go_wp2_with fail
  go_ret
  exact ⟨rfl, E.out.bel⟩

set_option maxHeartbeats 4000000 in
set_option maxRecDepth 100000 in
theorem months_no1 (y m d y' m' d' : Int) (hr : ok8 y m d = true) (hr' : ok8 y' m' d' = false)  (w : World) (hT : Tabs w) : Calls Tryd.prog 33 #[.agg #[.int .i64 y, .int .i64 m, .int .i64 d], .agg #[.int .i64 y', .int .i64 m', .int .i64 d']] w (Ret8 w (.int .i64 0)) := by
  have HT := Lib.hid hT
  clear hT
  have HR := Lib.hid hr
  clear hr
  have HR' := Lib.hid hr'
  clear hr'
  go_enter Tryd.func33, Tryd.ntmps33
  go_wp2_with fail
  generalize hW : World.alloc (World.alloc w _) _ = W0
  have E0 : S8 w W0 [(w.heap.size + 1, .int .i64 y', .int .i64 m', .int .i64 d'), (w.heap.size, .int .i64 y, .int .i64 m, .int .i64 d)] := by rw [← hW]; exact (((S8.start w HT.out).lay rfl).lay (by simp))
  have E := Lib.hid E0
  clear hW E0
  obtain ⟨p0, p1, p2, pf0, pf1, pf2, plt⟩ := (S8.at_ (x0 := .int .i64 y') (x1 := .int .i64 m') (x2 := .int .i64 d') (g := w.heap.size + 1) E (by simp))
  obtain ⟨q0, q1, q2, qf0, qf1, qf2, qlt⟩ := (S8.at_ (x0 := .int .i64 y) (x1 := .int .i64 m) (x2 := .int .i64 d) (g := w.heap.size) E (by simp))
  go_wp2_with fail
  refine (right_any _ _ _ _ E.out.tab).mono ?_; rintro e w1 ⟨rfl, hb⟩; replace E := Lib.hid (S8.step E.out hb); clear hb
  rw [HR.out]
  clear p0 p1 p2 pf0 pf1 pf2 plt q0 q1 q2 qf0 qf1 qf2 qlt
  obtain ⟨p0, p1, p2, pf0, pf1, pf2, plt⟩ := (S8.at_ (x0 := .int .i64 y') (x1 := .int .i64 m') (x2 := .int .i64 d') (g := w.heap.size + 1) E (by simp))
  obtain ⟨q0, q1, q2, qf0, qf1, qf2, qlt⟩ := (S8.at_ (x0 := .int .i64 y) (x1 := .int .i64 m) (x2 := .int .i64 d) (g := w.heap.size) E (by simp))
  go_wp2_with fail
  refine (right_any _ _ _ _ E.out.tab).mono ?_; rintro e w2 ⟨rfl, hb⟩; replace E := Lib.hid (S8.step E.out hb); clear hb
  rw [HR'.out]
  clear p0 p1 p2 pf0 pf1 pf2 plt q0 q1 q2 qf0 qf1 qf2 qlt
  go_wp2_with fail
  go_ret
  exact ⟨rfl, E.out.bel⟩

set_option maxHeartbeats 4000000 in
set_option maxRecDepth 100000 in
theorem months_yes (y m d y' m' d' : Int) (hr : ok8 y m d = true) (hr' : ok8 y' m' d' = true)  (w : World) (hT : Tabs w) : Calls Tryd.prog 33 #[.agg #[.int .i64 y, .int .i64 m, .int .i64 d], .agg #[.int .i64 y', .int .i64 m', .int .i64 d']] w (Ret8 w (.int .i64 (mo8 y' m' - mo8 y m))) := by
  have HT := Lib.hid hT
  clear hT
  obtain ⟨h1, h2, h3, h4, h5, h6⟩ := ok8_iff.1 hr
  obtain ⟨g1, g2, g3, g4, g5, g6⟩ := ok8_iff.1 hr'
  have HR := Lib.hid hr
  have HR' := Lib.hid hr'
  clear hr hr' h5 h6 g5 g6
  obtain ⟨z, hz⟩ : ∃ z, mo8 y m = z := ⟨_, rfl⟩
  obtain ⟨z', hz'⟩ : ∃ z, mo8 y' m' = z := ⟨_, rfl⟩
  have b : 0 ≤ z ∧ z ≤ 200000 ∧ 0 ≤ z' ∧ z' ≤ 200000 := by unfold mo8 at hz hz'; omega
  obtain ⟨b1, b2, b3, b4⟩ := b
  rw [hz, hz']
  have HZ := Lib.hid hz
  have HZ' := Lib.hid hz'
  clear hz hz'
  go_enter Tryd.func33, Tryd.ntmps33
  go_wp2_with fail
  generalize hW : World.alloc (World.alloc w _) _ = W0
  have E0 : S8 w W0 [(w.heap.size + 1, .int .i64 y', .int .i64 m', .int .i64 d'), (w.heap.size, .int .i64 y, .int .i64 m, .int .i64 d)] := by rw [← hW]; exact (((S8.start w HT.out).lay rfl).lay (by simp))
  have E := Lib.hid E0
  clear hW E0
  obtain ⟨p0, p1, p2, pf0, pf1, pf2, plt⟩ := (S8.at_ (x0 := .int .i64 y') (x1 := .int .i64 m') (x2 := .int .i64 d') (g := w.heap.size + 1) E (by simp))
  obtain ⟨q0, q1, q2, qf0, qf1, qf2, qlt⟩ := (S8.at_ (x0 := .int .i64 y) (x1 := .int .i64 m) (x2 := .int .i64 d) (g := w.heap.size) E (by simp))
  go_wp2_with fail
  refine (right_any _ _ _ _ E.out.tab).mono ?_; rintro e w1 ⟨rfl, hb⟩; replace E := Lib.hid (S8.step E.out hb); clear hb
  rw [HR.out]
  clear p0 p1 p2 pf0 pf1 pf2 plt q0 q1 q2 qf0 qf1 qf2 qlt
  obtain ⟨p0, p1, p2, pf0, pf1, pf2, plt⟩ := (S8.at_ (x0 := .int .i64 y') (x1 := .int .i64 m') (x2 := .int .i64 d') (g := w.heap.size + 1) E (by simp))
  obtain ⟨q0, q1, q2, qf0, qf1, qf2, qlt⟩ := (S8.at_ (x0 := .int .i64 y) (x1 := .int .i64 m) (x2 := .int .i64 d) (g := w.heap.size) E (by simp))
  go_wp2_with fail
  refine (right_any _ _ _ _ E.out.tab).mono ?_; rintro e w2 ⟨rfl, hb⟩; replace E := Lib.hid (S8.step E.out hb); clear hb
  rw [HR'.out]
  clear p0 p1 p2 pf0 pf1 pf2 plt q0 q1 q2 qf0 qf1 qf2 qlt
  go_wp2_with fail
  have sm : IntKind.i64.wrap (z' - z) = z' - z := IntWalk.i64_in _ ⟨by omega, by omega⟩
  replace E := Lib.hid (S8.drew E.out)
  go_region_held3 (fun v => v.cell? ⟨w.heap.size + 1, 0, none⟩ = some (.int .i64 y') ∧ v.cell? ⟨w.heap.size + 1, 1, none⟩ = some (.int .i64 m') ∧ v.cell? ⟨w.heap.size + 1, 2, none⟩ = some (.int .i64 d') ∧ v.cell? ⟨w.heap.size, 0, none⟩ = some (.int .i64 y) ∧ v.cell? ⟨w.heap.size, 1, none⟩ = some (.int .i64 m) ∧ v.cell? ⟨w.heap.size, 2, none⟩ = some (.int .i64 d)) (with_reducible exact ⟨(S8.at_ (x0 := .int .i64 y') (x1 := .int .i64 m') (x2 := .int .i64 d') (g := w.heap.size + 1) E (by simp)).c0, (S8.at_ (x0 := .int .i64 y') (x1 := .int .i64 m') (x2 := .int .i64 d') (g := w.heap.size + 1) E (by simp)).c1, (S8.at_ (x0 := .int .i64 y') (x1 := .int .i64 m') (x2 := .int .i64 d') (g := w.heap.size + 1) E (by simp)).c2, (S8.at_ (x0 := .int .i64 y) (x1 := .int .i64 m) (x2 := .int .i64 d) (g := w.heap.size) E (by simp)).c0, (S8.at_ (x0 := .int .i64 y) (x1 := .int .i64 m) (x2 := .int .i64 d) (g := w.heap.size) E (by simp)).c1, (S8.at_ (x0 := .int .i64 y) (x1 := .int .i64 m) (x2 := .int .i64 d) (g := w.heap.size) E (by simp)).c2⟩)
    ((first | (go_at_call 48; (with_reducible refine (monthsAhead_is E.out.tab HR'.out HZ'.out).mono ?_); rintro e w3 ⟨rfl, hb⟩; replace E := Lib.hid (S8.step E.out hb); clear hb) | (go_at_call 48; (with_reducible refine (monthsAhead_is E.out.tab HR.out HZ.out).mono ?_); rintro e w4 ⟨rfl, hb⟩; replace E := Lib.hid (S8.step E.out hb); clear hb)))
  clear sm
  go_wp2_with fail
  go_ret
  exact ⟨rfl, E.out.bel⟩

theorem months_any (y m d y' m' d' : Int) (w : World) (hT : Tabs w) : Calls Tryd.prog 33 #[.agg #[.int .i64 y, .int .i64 m, .int .i64 d], .agg #[.int .i64 y', .int .i64 m', .int .i64 d']] w (Ret8 w (.int .i64 (months8 y m d y' m' d'))) := by
  cases hr : ok8 y m d with
  | false => rw [months8_not (.inl hr)]; exact months_no0 y m d y' m' d' hr w hT
  | true =>
    cases hr' : ok8 y' m' d' with
    | false => rw [months8_not (.inr hr')]; exact months_no1 y m d y' m' d' hr hr' w hT
    | true => rw [months8_ok hr hr']; exact months_yes y m d y' m' d' hr hr' w hT

set_option maxHeartbeats 4000000 in
set_option maxRecDepth 100000 in
theorem refmonths_no0 (y m d y' m' d' : Int) (hr : ok8 y m d = false)  (w : World) (hT : Tabs w) : Calls Tryd.prog 34 #[.agg #[.int .i64 y, .int .i64 m, .int .i64 d], .agg #[.int .i64 y', .int .i64 m', .int .i64 d']] w (Ret8 w (.int .i64 0)) := by
  have HT := Lib.hid hT
  clear hT
  have HR := Lib.hid hr
  clear hr
  go_enter Tryd.func34, Tryd.ntmps34
  go_wp2_with fail
  generalize hW : World.alloc (World.alloc w _) _ = W0
  have E0 : S8 w W0 [(w.heap.size + 1, .int .i64 y', .int .i64 m', .int .i64 d'), (w.heap.size, .int .i64 y, .int .i64 m, .int .i64 d)] := by rw [← hW]; exact (((S8.start w HT.out).lay rfl).lay (by simp))
  have E := Lib.hid E0
  clear hW E0
  obtain ⟨p0, p1, p2, pf0, pf1, pf2, plt⟩ := (S8.at_ (x0 := .int .i64 y') (x1 := .int .i64 m') (x2 := .int .i64 d') (g := w.heap.size + 1) E (by simp))
  obtain ⟨q0, q1, q2, qf0, qf1, qf2, qlt⟩ := (S8.at_ (x0 := .int .i64 y) (x1 := .int .i64 m) (x2 := .int .i64 d) (g := w.heap.size) E (by simp))
  go_wp2_with fail
  refine (refright_any _ _ _ _ E.out.tab).mono ?_; rintro e w1 ⟨rfl, hb⟩; replace E := Lib.hid (S8.step E.out hb); clear hb
  rw [HR.out]
  clear p0 p1 p2 pf0 pf1 pf2 plt q0 q1 q2 qf0 qf1 qf2 qlt
  obtain ⟨p0, p1, p2, pf0, pf1, pf2, plt⟩ := (S8.at_ (x0 := .int .i64 y') (x1 := .int .i64 m') (x2 := .int .i64 d') (g := w.heap.size + 1) E (by simp))
  obtain ⟨q0, q1, q2, qf0, qf1, qf2, qlt⟩ := (S8.at_ (x0 := .int .i64 y) (x1 := .int .i64 m) (x2 := .int .i64 d) (g := w.heap.size) E (by simp))
  go_wp2_with fail
  go_ret
  exact ⟨rfl, E.out.bel⟩

set_option maxHeartbeats 4000000 in
set_option maxRecDepth 100000 in
theorem refmonths_no1 (y m d y' m' d' : Int) (hr : ok8 y m d = true) (hr' : ok8 y' m' d' = false)  (w : World) (hT : Tabs w) : Calls Tryd.prog 34 #[.agg #[.int .i64 y, .int .i64 m, .int .i64 d], .agg #[.int .i64 y', .int .i64 m', .int .i64 d']] w (Ret8 w (.int .i64 0)) := by
  have HT := Lib.hid hT
  clear hT
  have HR := Lib.hid hr
  clear hr
  have HR' := Lib.hid hr'
  clear hr'
  go_enter Tryd.func34, Tryd.ntmps34
  go_wp2_with fail
  generalize hW : World.alloc (World.alloc w _) _ = W0
  have E0 : S8 w W0 [(w.heap.size + 1, .int .i64 y', .int .i64 m', .int .i64 d'), (w.heap.size, .int .i64 y, .int .i64 m, .int .i64 d)] := by rw [← hW]; exact (((S8.start w HT.out).lay rfl).lay (by simp))
  have E := Lib.hid E0
  clear hW E0
  obtain ⟨p0, p1, p2, pf0, pf1, pf2, plt⟩ := (S8.at_ (x0 := .int .i64 y') (x1 := .int .i64 m') (x2 := .int .i64 d') (g := w.heap.size + 1) E (by simp))
  obtain ⟨q0, q1, q2, qf0, qf1, qf2, qlt⟩ := (S8.at_ (x0 := .int .i64 y) (x1 := .int .i64 m) (x2 := .int .i64 d) (g := w.heap.size) E (by simp))
  go_wp2_with fail
  refine (refright_any _ _ _ _ E.out.tab).mono ?_; rintro e w1 ⟨rfl, hb⟩; replace E := Lib.hid (S8.step E.out hb); clear hb
  rw [HR.out]
  clear p0 p1 p2 pf0 pf1 pf2 plt q0 q1 q2 qf0 qf1 qf2 qlt
  obtain ⟨p0, p1, p2, pf0, pf1, pf2, plt⟩ := (S8.at_ (x0 := .int .i64 y') (x1 := .int .i64 m') (x2 := .int .i64 d') (g := w.heap.size + 1) E (by simp))
  obtain ⟨q0, q1, q2, qf0, qf1, qf2, qlt⟩ := (S8.at_ (x0 := .int .i64 y) (x1 := .int .i64 m) (x2 := .int .i64 d) (g := w.heap.size) E (by simp))
  go_wp2_with fail
  refine (refright_any _ _ _ _ E.out.tab).mono ?_; rintro e w2 ⟨rfl, hb⟩; replace E := Lib.hid (S8.step E.out hb); clear hb
  rw [HR'.out]
  clear p0 p1 p2 pf0 pf1 pf2 plt q0 q1 q2 qf0 qf1 qf2 qlt
  go_wp2_with fail
  go_ret
  exact ⟨rfl, E.out.bel⟩

set_option maxHeartbeats 4000000 in
set_option maxRecDepth 100000 in
theorem refmonths_yes (y m d y' m' d' : Int) (hr : ok8 y m d = true) (hr' : ok8 y' m' d' = true)  (w : World) (hT : Tabs w) : Calls Tryd.prog 34 #[.agg #[.int .i64 y, .int .i64 m, .int .i64 d], .agg #[.int .i64 y', .int .i64 m', .int .i64 d']] w (Ret8 w (.int .i64 (mo8 y' m' - mo8 y m))) := by
  have HT := Lib.hid hT
  clear hT
  obtain ⟨h1, h2, h3, h4, h5, h6⟩ := ok8_iff.1 hr
  obtain ⟨g1, g2, g3, g4, g5, g6⟩ := ok8_iff.1 hr'
  have HR := Lib.hid hr
  have HR' := Lib.hid hr'
  clear hr hr' h5 h6 g5 g6
  go_enter Tryd.func34, Tryd.ntmps34
  go_wp2_with fail
  generalize hW : World.alloc (World.alloc w _) _ = W0
  have E0 : S8 w W0 [(w.heap.size + 1, .int .i64 y', .int .i64 m', .int .i64 d'), (w.heap.size, .int .i64 y, .int .i64 m, .int .i64 d)] := by rw [← hW]; exact (((S8.start w HT.out).lay rfl).lay (by simp))
  have E := Lib.hid E0
  clear hW E0
  obtain ⟨p0, p1, p2, pf0, pf1, pf2, plt⟩ := (S8.at_ (x0 := .int .i64 y') (x1 := .int .i64 m') (x2 := .int .i64 d') (g := w.heap.size + 1) E (by simp))
  obtain ⟨q0, q1, q2, qf0, qf1, qf2, qlt⟩ := (S8.at_ (x0 := .int .i64 y) (x1 := .int .i64 m) (x2 := .int .i64 d) (g := w.heap.size) E (by simp))
  go_wp2_with fail
  refine (refright_any _ _ _ _ E.out.tab).mono ?_; rintro e w1 ⟨rfl, hb⟩; replace E := Lib.hid (S8.step E.out hb); clear hb
  rw [HR.out]
  clear p0 p1 p2 pf0 pf1 pf2 plt q0 q1 q2 qf0 qf1 qf2 qlt
  obtain ⟨p0, p1, p2, pf0, pf1, pf2, plt⟩ := (S8.at_ (x0 := .int .i64 y') (x1 := .int .i64 m') (x2 := .int .i64 d') (g := w.heap.size + 1) E (by simp))
  obtain ⟨q0, q1, q2, qf0, qf1, qf2, qlt⟩ := (S8.at_ (x0 := .int .i64 y) (x1 := .int .i64 m) (x2 := .int .i64 d) (g := w.heap.size) E (by simp))
  go_wp2_with fail
  refine (refright_any _ _ _ _ E.out.tab).mono ?_; rintro e w2 ⟨rfl, hb⟩; replace E := Lib.hid (S8.step E.out hb); clear hb
  rw [HR'.out]
  clear p0 p1 p2 pf0 pf1 pf2 plt q0 q1 q2 qf0 qf1 qf2 qlt
  obtain ⟨p0, p1, p2, pf0, pf1, pf2, plt⟩ := (S8.at_ (x0 := .int .i64 y') (x1 := .int .i64 m') (x2 := .int .i64 d') (g := w.heap.size + 1) E (by simp))
  obtain ⟨q0, q1, q2, qf0, qf1, qf2, qlt⟩ := (S8.at_ (x0 := .int .i64 y) (x1 := .int .i64 m) (x2 := .int .i64 d) (g := w.heap.size) E (by simp))
  go_wp2_with fail
  go_ret
  exact ⟨ri8 (by unfold mo8; omega), E.out.bel⟩

theorem refmonths_any (y m d y' m' d' : Int) (w : World) (hT : Tabs w) : Calls Tryd.prog 34 #[.agg #[.int .i64 y, .int .i64 m, .int .i64 d], .agg #[.int .i64 y', .int .i64 m', .int .i64 d']] w (Ret8 w (.int .i64 (months8 y m d y' m' d'))) := by
  cases hr : ok8 y m d with
  | false => rw [months8_not (.inl hr)]; exact refmonths_no0 y m d y' m' d' hr w hT
  | true =>
    cases hr' : ok8 y' m' d' with
    | false => rw [months8_not (.inr hr')]; exact refmonths_no1 y m d y' m' d' hr hr' w hT
    | true => rw [months8_ok hr hr']; exact refmonths_yes y m d y' m' d' hr hr' w hT

theorem length_is (y m : Int) {z : Int} (w : World) (hT : Tabs w) (h1 : 1 ≤ m) (h2 : m ≤ 12) (hz : len8 y m = z) : Calls Tryd.prog 41 #[.int .i64 y, .int .i64 m] w fun e w' => e = .returned (.int .i64 z) ∧ w = w' := by
  subst hz; exact length_any y m w hT h1 h2
theorem length_ret (y m : Int) {z : Int} (w : World) (hT : Tabs w) (h1 : 1 ≤ m) (h2 : m ≤ 12) (hz : len8 y m = z) : Calls Tryd.prog 41 #[.int .i64 y, .int .i64 m] w (Ret8 w (.int .i64 z)) := by
  subst hz; exact (length_any y m w hT h1 h2).mono fun _ _ h => ⟨h.1, by rw [← h.2]; exact Below.refl _ _⟩
theorem reflong_is (y m : Int) {z : Int} (w : World) (h1 : 1 ≤ m) (h2 : m ≤ 12) (hz : len8 y m = z) : Calls Tryd.prog 42 #[.int .i64 y, .int .i64 m] w (Ret8 w (.int .i64 z)) := by
  subst hz; exact reflong_any y m w h1 h2

/-- Whether there is the day so many months behind. -/
def addOk (y m d k : Int) : Bool := ok8 y m d && decide (-120000 ≤ k ∧ k ≤ 120000 ∧ 0 ≤ mo8 y m + k ∧ mo8 y m + k < 119988)
theorem addOk_iff {y m d k : Int} : addOk y m d k = true ↔ ok8 y m d = true ∧ -120000 ≤ k ∧ k ≤ 120000 ∧ 0 ≤ mo8 y m + k ∧ mo8 y m + k < 119988 := by
  unfold addOk; rw [Bool.and_eq_true_iff, decide_eq_true_iff]
/-- That day. -/
def add8 (y m d k : Int) : Int × Int × Int := if addOk y m d k = true then ((mo8 y m + k) / 12 + 1, (mo8 y m + k) % 12 + 1, min d (len8 ((mo8 y m + k) / 12 + 1) ((mo8 y m + k) % 12 + 1))) else (0, 0, 0)
theorem add8_ok {y m d k : Int} (h : addOk y m d k = true) : add8 y m d k = ((mo8 y m + k) / 12 + 1, (mo8 y m + k) % 12 + 1, min d (len8 ((mo8 y m + k) / 12 + 1) ((mo8 y m + k) % 12 + 1))) := if_pos h
theorem add8_not {y m d k : Int} (h : ¬ addOk y m d k = true) : add8 y m d k = (0, 0, 0) := if_neg h

set_option maxHeartbeats 4000000 in
set_option maxRecDepth 100000 in
theorem add_no0 (y m d k : Int) (hr : ok8 y m d = false)  (w : World) (hT : Tabs w) : Calls Tryd.prog 27 #[.agg #[.int .i64 y, .int .i64 m, .int .i64 d], .int .i64 k] w (Ret8 w (.tuple #[.agg #[.int .i64 (0), .int .i64 (0), .int .i64 (0)], .int .i64 1])) := by
  have HT := Lib.hid hT
  clear hT
  have HR := Lib.hid hr
  clear hr
  go_enter Tryd.func27, Tryd.ntmps27
  go_wp2_with fail
  generalize hW : World.alloc (World.alloc w _) _ = W0
  have E0 : S8 w W0 [(w.heap.size + 1, .int .i64 (0), .int .i64 (0), .int .i64 (0)), (w.heap.size, .int .i64 y, .int .i64 m, .int .i64 d)] := by rw [← hW]; exact (((S8.start w HT.out).lay rfl).lay (by simp))
  have E := Lib.hid E0
  clear hW E0
  obtain ⟨p0, p1, p2, pf0, pf1, pf2, plt⟩ := (S8.at_ (x0 := .int .i64 (0)) (x1 := .int .i64 (0)) (x2 := .int .i64 (0)) (g := w.heap.size + 1) E (by simp))
  obtain ⟨q0, q1, q2, qf0, qf1, qf2, qlt⟩ := (S8.at_ (x0 := .int .i64 y) (x1 := .int .i64 m) (x2 := .int .i64 d) (g := w.heap.size) E (by simp))
  go_wp2_with fail
  refine (right_any _ _ _ _ E.out.tab).mono ?_; rintro e w1 ⟨rfl, hb⟩; replace E := Lib.hid (S8.step E.out hb); clear hb
  rw [HR.out]
  clear p0 p1 p2 pf0 pf1 pf2 plt q0 q1 q2 qf0 qf1 qf2 qlt
  obtain ⟨p0, p1, p2, pf0, pf1, pf2, plt⟩ := (S8.at_ (x0 := .int .i64 (0)) (x1 := .int .i64 (0)) (x2 := .int .i64 (0)) (g := w.heap.size + 1) E (by simp))
  obtain ⟨q0, q1, q2, qf0, qf1, qf2, qlt⟩ := (S8.at_ (x0 := .int .i64 y) (x1 := .int .i64 m) (x2 := .int .i64 d) (g := w.heap.size) E (by simp))
  go_wp2_with fail
  clear p0 p1 p2 pf0 pf1 pf2 plt q0 q1 q2 qf0 qf1 qf2 qlt
  replace E := Lib.hid (S8.store E.out (g := w.heap.size + 1) (x0 := .int .i64 (0)) (x1 := .int .i64 (0)) (x2 := .int .i64 (0)) (by simp) (by omega) [(w.heap.size, .int .i64 y, .int .i64 m, .int .i64 d)] (fun q hq => by simp at hq ⊢; (try rcases hq with rfl <;> simp)) (.int .i64 (0)) (.int .i64 (0)) (.int .i64 (0)) (fun w_ hb => HT.out.on hb))
  obtain ⟨e0, e1, e2, _, _, _, _⟩ := (S8.at_ (x0 := .int .i64 (0)) (x1 := .int .i64 (0)) (x2 := .int .i64 (0)) (g := w.heap.size + 1) E (by simp))
  exact bodyPost_ret (v := .tuple #[.agg #[.int .i64 (0), .int .i64 (0), .int .i64 (0)], .int .i64 1]) (by simp [results, Tryd.results27, go_sem, e0, e1, e2]) rfl ⟨rfl, E.out.bel⟩

set_option maxHeartbeats 4000000 in
set_option maxRecDepth 100000 in
theorem add_no1 (y m d k : Int) (hr : ok8 y m d = true) (ha : k < -120000)  (w : World) (hT : Tabs w) : Calls Tryd.prog 27 #[.agg #[.int .i64 y, .int .i64 m, .int .i64 d], .int .i64 k] w (Ret8 w (.tuple #[.agg #[.int .i64 (0), .int .i64 (0), .int .i64 (0)], .int .i64 1])) := by
  have HT := Lib.hid hT
  clear hT
  have HR := Lib.hid hr
  clear hr
  go_enter Tryd.func27, Tryd.ntmps27
  go_wp2_with fail
  generalize hW : World.alloc (World.alloc w _) _ = W0
  have E0 : S8 w W0 [(w.heap.size + 1, .int .i64 (0), .int .i64 (0), .int .i64 (0)), (w.heap.size, .int .i64 y, .int .i64 m, .int .i64 d)] := by rw [← hW]; exact (((S8.start w HT.out).lay rfl).lay (by simp))
  have E := Lib.hid E0
  clear hW E0
  obtain ⟨p0, p1, p2, pf0, pf1, pf2, plt⟩ := (S8.at_ (x0 := .int .i64 (0)) (x1 := .int .i64 (0)) (x2 := .int .i64 (0)) (g := w.heap.size + 1) E (by simp))
  obtain ⟨q0, q1, q2, qf0, qf1, qf2, qlt⟩ := (S8.at_ (x0 := .int .i64 y) (x1 := .int .i64 m) (x2 := .int .i64 d) (g := w.heap.size) E (by simp))
  go_wp2_with fail
  refine (right_any _ _ _ _ E.out.tab).mono ?_; rintro e w1 ⟨rfl, hb⟩; replace E := Lib.hid (S8.step E.out hb); clear hb
  rw [HR.out]
  clear p0 p1 p2 pf0 pf1 pf2 plt q0 q1 q2 qf0 qf1 qf2 qlt
  obtain ⟨p0, p1, p2, pf0, pf1, pf2, plt⟩ := (S8.at_ (x0 := .int .i64 (0)) (x1 := .int .i64 (0)) (x2 := .int .i64 (0)) (g := w.heap.size + 1) E (by simp))
  obtain ⟨q0, q1, q2, qf0, qf1, qf2, qlt⟩ := (S8.at_ (x0 := .int .i64 y) (x1 := .int .i64 m) (x2 := .int .i64 d) (g := w.heap.size) E (by simp))
  go_wp2_with fail
  clear p0 p1 p2 pf0 pf1 pf2 plt q0 q1 q2 qf0 qf1 qf2 qlt
  replace E := Lib.hid (S8.store E.out (g := w.heap.size + 1) (x0 := .int .i64 (0)) (x1 := .int .i64 (0)) (x2 := .int .i64 (0)) (by simp) (by omega) [(w.heap.size, .int .i64 y, .int .i64 m, .int .i64 d)] (fun q hq => by simp at hq ⊢; (try rcases hq with rfl <;> simp)) (.int .i64 (0)) (.int .i64 (0)) (.int .i64 (0)) (fun w_ hb => HT.out.on hb))
  obtain ⟨e0, e1, e2, _, _, _, _⟩ := (S8.at_ (x0 := .int .i64 (0)) (x1 := .int .i64 (0)) (x2 := .int .i64 (0)) (g := w.heap.size + 1) E (by simp))
  exact bodyPost_ret (v := .tuple #[.agg #[.int .i64 (0), .int .i64 (0), .int .i64 (0)], .int .i64 1]) (by simp [results, Tryd.results27, go_sem, e0, e1, e2]) rfl ⟨rfl, E.out.bel⟩

set_option maxHeartbeats 4000000 in
set_option maxRecDepth 100000 in
theorem add_no2 (y m d k : Int) (hr : ok8 y m d = true) (ha : 120000 < k)  (w : World) (hT : Tabs w) : Calls Tryd.prog 27 #[.agg #[.int .i64 y, .int .i64 m, .int .i64 d], .int .i64 k] w (Ret8 w (.tuple #[.agg #[.int .i64 (0), .int .i64 (0), .int .i64 (0)], .int .i64 1])) := by
  have HT := Lib.hid hT
  clear hT
  have k1 : -120000 ≤ k := by omega
  have HR := Lib.hid hr
  clear hr
  go_enter Tryd.func27, Tryd.ntmps27
  go_wp2_with fail
  generalize hW : World.alloc (World.alloc w _) _ = W0
  have E0 : S8 w W0 [(w.heap.size + 1, .int .i64 (0), .int .i64 (0), .int .i64 (0)), (w.heap.size, .int .i64 y, .int .i64 m, .int .i64 d)] := by rw [← hW]; exact (((S8.start w HT.out).lay rfl).lay (by simp))
  have E := Lib.hid E0
  clear hW E0
  obtain ⟨p0, p1, p2, pf0, pf1, pf2, plt⟩ := (S8.at_ (x0 := .int .i64 (0)) (x1 := .int .i64 (0)) (x2 := .int .i64 (0)) (g := w.heap.size + 1) E (by simp))
  obtain ⟨q0, q1, q2, qf0, qf1, qf2, qlt⟩ := (S8.at_ (x0 := .int .i64 y) (x1 := .int .i64 m) (x2 := .int .i64 d) (g := w.heap.size) E (by simp))
  go_wp2_with fail
  refine (right_any _ _ _ _ E.out.tab).mono ?_; rintro e w1 ⟨rfl, hb⟩; replace E := Lib.hid (S8.step E.out hb); clear hb
  rw [HR.out]
  clear p0 p1 p2 pf0 pf1 pf2 plt q0 q1 q2 qf0 qf1 qf2 qlt
  obtain ⟨p0, p1, p2, pf0, pf1, pf2, plt⟩ := (S8.at_ (x0 := .int .i64 (0)) (x1 := .int .i64 (0)) (x2 := .int .i64 (0)) (g := w.heap.size + 1) E (by simp))
  obtain ⟨q0, q1, q2, qf0, qf1, qf2, qlt⟩ := (S8.at_ (x0 := .int .i64 y) (x1 := .int .i64 m) (x2 := .int .i64 d) (g := w.heap.size) E (by simp))
  go_wp2_with fail
  clear p0 p1 p2 pf0 pf1 pf2 plt q0 q1 q2 qf0 qf1 qf2 qlt
  replace E := Lib.hid (S8.store E.out (g := w.heap.size + 1) (x0 := .int .i64 (0)) (x1 := .int .i64 (0)) (x2 := .int .i64 (0)) (by simp) (by omega) [(w.heap.size, .int .i64 y, .int .i64 m, .int .i64 d)] (fun q hq => by simp at hq ⊢; (try rcases hq with rfl <;> simp)) (.int .i64 (0)) (.int .i64 (0)) (.int .i64 (0)) (fun w_ hb => HT.out.on hb))
  obtain ⟨e0, e1, e2, _, _, _, _⟩ := (S8.at_ (x0 := .int .i64 (0)) (x1 := .int .i64 (0)) (x2 := .int .i64 (0)) (g := w.heap.size + 1) E (by simp))
  exact bodyPost_ret (v := .tuple #[.agg #[.int .i64 (0), .int .i64 (0), .int .i64 (0)], .int .i64 1]) (by simp [results, Tryd.results27, go_sem, e0, e1, e2]) rfl ⟨rfl, E.out.bel⟩

set_option maxHeartbeats 4000000 in
set_option maxRecDepth 100000 in
theorem add_no3 (y m d k : Int) (hr : ok8 y m d = true) (k1 : -120000 ≤ k) (k2 : k ≤ 120000) (ha : mo8 y m + k < 0)  (w : World) (hT : Tabs w) : Calls Tryd.prog 27 #[.agg #[.int .i64 y, .int .i64 m, .int .i64 d], .int .i64 k] w (Ret8 w (.tuple #[.agg #[.int .i64 (0), .int .i64 (0), .int .i64 (0)], .int .i64 1])) := by
  have HT := Lib.hid hT
  clear hT
  obtain ⟨h1, h2, h3, h4, h5, h6⟩ := ok8_iff.1 hr
  clear h5 h6
  obtain ⟨z, hz⟩ : ∃ z, mo8 y m = z := ⟨_, rfl⟩
  have b : 0 ≤ z ∧ z ≤ 200000 := by unfold mo8 at hz; omega
  obtain ⟨b1, b2⟩ := b
  rw [hz] at ha
  have HZ := Lib.hid hz
  clear hz h1 h2 h3 h4
  have HR := Lib.hid hr
  clear hr
  go_enter Tryd.func27, Tryd.ntmps27
  go_wp2_with fail
  generalize hW : World.alloc (World.alloc w _) _ = W0
  have E0 : S8 w W0 [(w.heap.size + 1, .int .i64 (0), .int .i64 (0), .int .i64 (0)), (w.heap.size, .int .i64 y, .int .i64 m, .int .i64 d)] := by rw [← hW]; exact (((S8.start w HT.out).lay rfl).lay (by simp))
  have E := Lib.hid E0
  clear hW E0
  obtain ⟨p0, p1, p2, pf0, pf1, pf2, plt⟩ := (S8.at_ (x0 := .int .i64 (0)) (x1 := .int .i64 (0)) (x2 := .int .i64 (0)) (g := w.heap.size + 1) E (by simp))
  obtain ⟨q0, q1, q2, qf0, qf1, qf2, qlt⟩ := (S8.at_ (x0 := .int .i64 y) (x1 := .int .i64 m) (x2 := .int .i64 d) (g := w.heap.size) E (by simp))
  go_wp2_with fail
  refine (right_any _ _ _ _ E.out.tab).mono ?_; rintro e w1 ⟨rfl, hb⟩; replace E := Lib.hid (S8.step E.out hb); clear hb
  rw [HR.out]
  clear p0 p1 p2 pf0 pf1 pf2 plt q0 q1 q2 qf0 qf1 qf2 qlt
  obtain ⟨p0, p1, p2, pf0, pf1, pf2, plt⟩ := (S8.at_ (x0 := .int .i64 (0)) (x1 := .int .i64 (0)) (x2 := .int .i64 (0)) (g := w.heap.size + 1) E (by simp))
  obtain ⟨q0, q1, q2, qf0, qf1, qf2, qlt⟩ := (S8.at_ (x0 := .int .i64 y) (x1 := .int .i64 m) (x2 := .int .i64 d) (g := w.heap.size) E (by simp))
  go_wp2_with fail
  refine (monthsAhead_is E.out.tab HR.out HZ.out).mono ?_; rintro e w2 ⟨rfl, hb⟩; replace E := Lib.hid (S8.step E.out hb); clear hb
  clear p0 p1 p2 pf0 pf1 pf2 plt q0 q1 q2 qf0 qf1 qf2 qlt
  obtain ⟨p0, p1, p2, pf0, pf1, pf2, plt⟩ := (S8.at_ (x0 := .int .i64 (0)) (x1 := .int .i64 (0)) (x2 := .int .i64 (0)) (g := w.heap.size + 1) E (by simp))
  obtain ⟨q0, q1, q2, qf0, qf1, qf2, qlt⟩ := (S8.at_ (x0 := .int .i64 y) (x1 := .int .i64 m) (x2 := .int .i64 d) (g := w.heap.size) E (by simp))
  go_wp2_with fail
  clear p0 p1 p2 pf0 pf1 pf2 plt q0 q1 q2 qf0 qf1 qf2 qlt
  replace E := Lib.hid (S8.store E.out (g := w.heap.size + 1) (x0 := .int .i64 (0)) (x1 := .int .i64 (0)) (x2 := .int .i64 (0)) (by simp) (by omega) [(w.heap.size, .int .i64 y, .int .i64 m, .int .i64 d)] (fun q hq => by simp at hq ⊢; (try rcases hq with rfl <;> simp)) (.int .i64 (0)) (.int .i64 (0)) (.int .i64 (0)) (fun w_ hb => HT.out.on hb))
  obtain ⟨e0, e1, e2, _, _, _, _⟩ := (S8.at_ (x0 := .int .i64 (0)) (x1 := .int .i64 (0)) (x2 := .int .i64 (0)) (g := w.heap.size + 1) E (by simp))
  exact bodyPost_ret (v := .tuple #[.agg #[.int .i64 (0), .int .i64 (0), .int .i64 (0)], .int .i64 1]) (by simp [results, Tryd.results27, go_sem, e0, e1, e2]) rfl ⟨rfl, E.out.bel⟩

set_option maxHeartbeats 4000000 in
set_option maxRecDepth 100000 in
theorem add_no4 (y m d k : Int) (hr : ok8 y m d = true) (k1 : -120000 ≤ k) (k2 : k ≤ 120000) (ha : 119988 ≤ mo8 y m + k)  (w : World) (hT : Tabs w) : Calls Tryd.prog 27 #[.agg #[.int .i64 y, .int .i64 m, .int .i64 d], .int .i64 k] w (Ret8 w (.tuple #[.agg #[.int .i64 (0), .int .i64 (0), .int .i64 (0)], .int .i64 1])) := by
  have HT := Lib.hid hT
  clear hT
  obtain ⟨h1, h2, h3, h4, h5, h6⟩ := ok8_iff.1 hr
  clear h5 h6
  obtain ⟨z, hz⟩ : ∃ z, mo8 y m = z := ⟨_, rfl⟩
  have b : 0 ≤ z ∧ z ≤ 200000 := by unfold mo8 at hz; omega
  obtain ⟨b1, b2⟩ := b
  rw [hz] at ha
  have HZ := Lib.hid hz
  clear hz h1 h2 h3 h4
  have HR := Lib.hid hr
  clear hr
  go_enter Tryd.func27, Tryd.ntmps27
  go_wp2_with fail
  generalize hW : World.alloc (World.alloc w _) _ = W0
  have E0 : S8 w W0 [(w.heap.size + 1, .int .i64 (0), .int .i64 (0), .int .i64 (0)), (w.heap.size, .int .i64 y, .int .i64 m, .int .i64 d)] := by rw [← hW]; exact (((S8.start w HT.out).lay rfl).lay (by simp))
  have E := Lib.hid E0
  clear hW E0
  obtain ⟨p0, p1, p2, pf0, pf1, pf2, plt⟩ := (S8.at_ (x0 := .int .i64 (0)) (x1 := .int .i64 (0)) (x2 := .int .i64 (0)) (g := w.heap.size + 1) E (by simp))
  obtain ⟨q0, q1, q2, qf0, qf1, qf2, qlt⟩ := (S8.at_ (x0 := .int .i64 y) (x1 := .int .i64 m) (x2 := .int .i64 d) (g := w.heap.size) E (by simp))
  go_wp2_with fail
  refine (right_any _ _ _ _ E.out.tab).mono ?_; rintro e w1 ⟨rfl, hb⟩; replace E := Lib.hid (S8.step E.out hb); clear hb
  rw [HR.out]
  clear p0 p1 p2 pf0 pf1 pf2 plt q0 q1 q2 qf0 qf1 qf2 qlt
  obtain ⟨p0, p1, p2, pf0, pf1, pf2, plt⟩ := (S8.at_ (x0 := .int .i64 (0)) (x1 := .int .i64 (0)) (x2 := .int .i64 (0)) (g := w.heap.size + 1) E (by simp))
  obtain ⟨q0, q1, q2, qf0, qf1, qf2, qlt⟩ := (S8.at_ (x0 := .int .i64 y) (x1 := .int .i64 m) (x2 := .int .i64 d) (g := w.heap.size) E (by simp))
  go_wp2_with fail
  refine (monthsAhead_is E.out.tab HR.out HZ.out).mono ?_; rintro e w2 ⟨rfl, hb⟩; replace E := Lib.hid (S8.step E.out hb); clear hb
  clear p0 p1 p2 pf0 pf1 pf2 plt q0 q1 q2 qf0 qf1 qf2 qlt
  obtain ⟨p0, p1, p2, pf0, pf1, pf2, plt⟩ := (S8.at_ (x0 := .int .i64 (0)) (x1 := .int .i64 (0)) (x2 := .int .i64 (0)) (g := w.heap.size + 1) E (by simp))
  obtain ⟨q0, q1, q2, qf0, qf1, qf2, qlt⟩ := (S8.at_ (x0 := .int .i64 y) (x1 := .int .i64 m) (x2 := .int .i64 d) (g := w.heap.size) E (by simp))
  go_wp2_with fail
  clear p0 p1 p2 pf0 pf1 pf2 plt q0 q1 q2 qf0 qf1 qf2 qlt
  replace E := Lib.hid (S8.store E.out (g := w.heap.size + 1) (x0 := .int .i64 (0)) (x1 := .int .i64 (0)) (x2 := .int .i64 (0)) (by simp) (by omega) [(w.heap.size, .int .i64 y, .int .i64 m, .int .i64 d)] (fun q hq => by simp at hq ⊢; (try rcases hq with rfl <;> simp)) (.int .i64 (0)) (.int .i64 (0)) (.int .i64 (0)) (fun w_ hb => HT.out.on hb))
  obtain ⟨e0, e1, e2, _, _, _, _⟩ := (S8.at_ (x0 := .int .i64 (0)) (x1 := .int .i64 (0)) (x2 := .int .i64 (0)) (g := w.heap.size + 1) E (by simp))
  exact bodyPost_ret (v := .tuple #[.agg #[.int .i64 (0), .int .i64 (0), .int .i64 (0)], .int .i64 1]) (by simp [results, Tryd.results27, go_sem, e0, e1, e2]) rfl ⟨rfl, E.out.bel⟩

set_option maxHeartbeats 4000000 in
set_option maxRecDepth 100000 in
theorem refadd_no0 (y m d k : Int) (hr : ok8 y m d = false)  (w : World) (hT : Tabs w) : Calls Tryd.prog 28 #[.agg #[.int .i64 y, .int .i64 m, .int .i64 d], .int .i64 k] w (Ret8 w (.tuple #[.agg #[.int .i64 (0), .int .i64 (0), .int .i64 (0)], .int .i64 1])) := by
  have HT := Lib.hid hT
  clear hT
  have HR := Lib.hid hr
  clear hr
  go_enter Tryd.func28, Tryd.ntmps28
  go_wp2_with fail
  generalize hW : World.alloc (World.alloc w _) _ = W0
  have E0 : S8 w W0 [(w.heap.size + 1, .int .i64 (0), .int .i64 (0), .int .i64 (0)), (w.heap.size, .int .i64 y, .int .i64 m, .int .i64 d)] := by rw [← hW]; exact (((S8.start w HT.out).lay rfl).lay (by simp))
  have E := Lib.hid E0
  clear hW E0
  obtain ⟨p0, p1, p2, pf0, pf1, pf2, plt⟩ := (S8.at_ (x0 := .int .i64 (0)) (x1 := .int .i64 (0)) (x2 := .int .i64 (0)) (g := w.heap.size + 1) E (by simp))
  obtain ⟨q0, q1, q2, qf0, qf1, qf2, qlt⟩ := (S8.at_ (x0 := .int .i64 y) (x1 := .int .i64 m) (x2 := .int .i64 d) (g := w.heap.size) E (by simp))
  go_wp2_with fail
  refine (refright_any _ _ _ _ E.out.tab).mono ?_; rintro e w1 ⟨rfl, hb⟩; replace E := Lib.hid (S8.step E.out hb); clear hb
  rw [HR.out]
  clear p0 p1 p2 pf0 pf1 pf2 plt q0 q1 q2 qf0 qf1 qf2 qlt
  obtain ⟨p0, p1, p2, pf0, pf1, pf2, plt⟩ := (S8.at_ (x0 := .int .i64 (0)) (x1 := .int .i64 (0)) (x2 := .int .i64 (0)) (g := w.heap.size + 1) E (by simp))
  obtain ⟨q0, q1, q2, qf0, qf1, qf2, qlt⟩ := (S8.at_ (x0 := .int .i64 y) (x1 := .int .i64 m) (x2 := .int .i64 d) (g := w.heap.size) E (by simp))
  go_wp2_with fail
  clear p0 p1 p2 pf0 pf1 pf2 plt q0 q1 q2 qf0 qf1 qf2 qlt
  replace E := Lib.hid (S8.store E.out (g := w.heap.size + 1) (x0 := .int .i64 (0)) (x1 := .int .i64 (0)) (x2 := .int .i64 (0)) (by simp) (by omega) [(w.heap.size, .int .i64 y, .int .i64 m, .int .i64 d)] (fun q hq => by simp at hq ⊢; (try rcases hq with rfl <;> simp)) (.int .i64 (0)) (.int .i64 (0)) (.int .i64 (0)) (fun w_ hb => HT.out.on hb))
  obtain ⟨e0, e1, e2, _, _, _, _⟩ := (S8.at_ (x0 := .int .i64 (0)) (x1 := .int .i64 (0)) (x2 := .int .i64 (0)) (g := w.heap.size + 1) E (by simp))
  exact bodyPost_ret (v := .tuple #[.agg #[.int .i64 (0), .int .i64 (0), .int .i64 (0)], .int .i64 1]) (by simp [results, Tryd.results28, go_sem, e0, e1, e2]) rfl ⟨rfl, E.out.bel⟩

set_option maxHeartbeats 4000000 in
set_option maxRecDepth 100000 in
theorem refadd_no1 (y m d k : Int) (hr : ok8 y m d = true) (ha : k < -120000)  (w : World) (hT : Tabs w) : Calls Tryd.prog 28 #[.agg #[.int .i64 y, .int .i64 m, .int .i64 d], .int .i64 k] w (Ret8 w (.tuple #[.agg #[.int .i64 (0), .int .i64 (0), .int .i64 (0)], .int .i64 1])) := by
  have HT := Lib.hid hT
  clear hT
  have HR := Lib.hid hr
  clear hr
  go_enter Tryd.func28, Tryd.ntmps28
  go_wp2_with fail
  generalize hW : World.alloc (World.alloc w _) _ = W0
  have E0 : S8 w W0 [(w.heap.size + 1, .int .i64 (0), .int .i64 (0), .int .i64 (0)), (w.heap.size, .int .i64 y, .int .i64 m, .int .i64 d)] := by rw [← hW]; exact (((S8.start w HT.out).lay rfl).lay (by simp))
  have E := Lib.hid E0
  clear hW E0
  obtain ⟨p0, p1, p2, pf0, pf1, pf2, plt⟩ := (S8.at_ (x0 := .int .i64 (0)) (x1 := .int .i64 (0)) (x2 := .int .i64 (0)) (g := w.heap.size + 1) E (by simp))
  obtain ⟨q0, q1, q2, qf0, qf1, qf2, qlt⟩ := (S8.at_ (x0 := .int .i64 y) (x1 := .int .i64 m) (x2 := .int .i64 d) (g := w.heap.size) E (by simp))
  go_wp2_with fail
  refine (refright_any _ _ _ _ E.out.tab).mono ?_; rintro e w1 ⟨rfl, hb⟩; replace E := Lib.hid (S8.step E.out hb); clear hb
  rw [HR.out]
  clear p0 p1 p2 pf0 pf1 pf2 plt q0 q1 q2 qf0 qf1 qf2 qlt
  obtain ⟨p0, p1, p2, pf0, pf1, pf2, plt⟩ := (S8.at_ (x0 := .int .i64 (0)) (x1 := .int .i64 (0)) (x2 := .int .i64 (0)) (g := w.heap.size + 1) E (by simp))
  obtain ⟨q0, q1, q2, qf0, qf1, qf2, qlt⟩ := (S8.at_ (x0 := .int .i64 y) (x1 := .int .i64 m) (x2 := .int .i64 d) (g := w.heap.size) E (by simp))
  go_wp2_with fail
  clear p0 p1 p2 pf0 pf1 pf2 plt q0 q1 q2 qf0 qf1 qf2 qlt
  replace E := Lib.hid (S8.store E.out (g := w.heap.size + 1) (x0 := .int .i64 (0)) (x1 := .int .i64 (0)) (x2 := .int .i64 (0)) (by simp) (by omega) [(w.heap.size, .int .i64 y, .int .i64 m, .int .i64 d)] (fun q hq => by simp at hq ⊢; (try rcases hq with rfl <;> simp)) (.int .i64 (0)) (.int .i64 (0)) (.int .i64 (0)) (fun w_ hb => HT.out.on hb))
  obtain ⟨e0, e1, e2, _, _, _, _⟩ := (S8.at_ (x0 := .int .i64 (0)) (x1 := .int .i64 (0)) (x2 := .int .i64 (0)) (g := w.heap.size + 1) E (by simp))
  exact bodyPost_ret (v := .tuple #[.agg #[.int .i64 (0), .int .i64 (0), .int .i64 (0)], .int .i64 1]) (by simp [results, Tryd.results28, go_sem, e0, e1, e2]) rfl ⟨rfl, E.out.bel⟩

set_option maxHeartbeats 4000000 in
set_option maxRecDepth 100000 in
theorem refadd_no2 (y m d k : Int) (hr : ok8 y m d = true) (ha : 120000 < k)  (w : World) (hT : Tabs w) : Calls Tryd.prog 28 #[.agg #[.int .i64 y, .int .i64 m, .int .i64 d], .int .i64 k] w (Ret8 w (.tuple #[.agg #[.int .i64 (0), .int .i64 (0), .int .i64 (0)], .int .i64 1])) := by
  have HT := Lib.hid hT
  clear hT
  have k1 : -120000 ≤ k := by omega
  have HR := Lib.hid hr
  clear hr
  go_enter Tryd.func28, Tryd.ntmps28
  go_wp2_with fail
  generalize hW : World.alloc (World.alloc w _) _ = W0
  have E0 : S8 w W0 [(w.heap.size + 1, .int .i64 (0), .int .i64 (0), .int .i64 (0)), (w.heap.size, .int .i64 y, .int .i64 m, .int .i64 d)] := by rw [← hW]; exact (((S8.start w HT.out).lay rfl).lay (by simp))
  have E := Lib.hid E0
  clear hW E0
  obtain ⟨p0, p1, p2, pf0, pf1, pf2, plt⟩ := (S8.at_ (x0 := .int .i64 (0)) (x1 := .int .i64 (0)) (x2 := .int .i64 (0)) (g := w.heap.size + 1) E (by simp))
  obtain ⟨q0, q1, q2, qf0, qf1, qf2, qlt⟩ := (S8.at_ (x0 := .int .i64 y) (x1 := .int .i64 m) (x2 := .int .i64 d) (g := w.heap.size) E (by simp))
  go_wp2_with fail
  refine (refright_any _ _ _ _ E.out.tab).mono ?_; rintro e w1 ⟨rfl, hb⟩; replace E := Lib.hid (S8.step E.out hb); clear hb
  rw [HR.out]
  clear p0 p1 p2 pf0 pf1 pf2 plt q0 q1 q2 qf0 qf1 qf2 qlt
  obtain ⟨p0, p1, p2, pf0, pf1, pf2, plt⟩ := (S8.at_ (x0 := .int .i64 (0)) (x1 := .int .i64 (0)) (x2 := .int .i64 (0)) (g := w.heap.size + 1) E (by simp))
  obtain ⟨q0, q1, q2, qf0, qf1, qf2, qlt⟩ := (S8.at_ (x0 := .int .i64 y) (x1 := .int .i64 m) (x2 := .int .i64 d) (g := w.heap.size) E (by simp))
  go_wp2_with fail
  clear p0 p1 p2 pf0 pf1 pf2 plt q0 q1 q2 qf0 qf1 qf2 qlt
  replace E := Lib.hid (S8.store E.out (g := w.heap.size + 1) (x0 := .int .i64 (0)) (x1 := .int .i64 (0)) (x2 := .int .i64 (0)) (by simp) (by omega) [(w.heap.size, .int .i64 y, .int .i64 m, .int .i64 d)] (fun q hq => by simp at hq ⊢; (try rcases hq with rfl <;> simp)) (.int .i64 (0)) (.int .i64 (0)) (.int .i64 (0)) (fun w_ hb => HT.out.on hb))
  obtain ⟨e0, e1, e2, _, _, _, _⟩ := (S8.at_ (x0 := .int .i64 (0)) (x1 := .int .i64 (0)) (x2 := .int .i64 (0)) (g := w.heap.size + 1) E (by simp))
  exact bodyPost_ret (v := .tuple #[.agg #[.int .i64 (0), .int .i64 (0), .int .i64 (0)], .int .i64 1]) (by simp [results, Tryd.results28, go_sem, e0, e1, e2]) rfl ⟨rfl, E.out.bel⟩

set_option maxHeartbeats 4000000 in
set_option maxRecDepth 100000 in
theorem refadd_no3 (y m d k : Int) (hr : ok8 y m d = true) (k1 : -120000 ≤ k) (k2 : k ≤ 120000) (ha : mo8 y m + k < 0)  (w : World) (hT : Tabs w) : Calls Tryd.prog 28 #[.agg #[.int .i64 y, .int .i64 m, .int .i64 d], .int .i64 k] w (Ret8 w (.tuple #[.agg #[.int .i64 (0), .int .i64 (0), .int .i64 (0)], .int .i64 1])) := by
  have HT := Lib.hid hT
  clear hT
  obtain ⟨h1, h2, h3, h4, h5, h6⟩ := ok8_iff.1 hr
  clear h5 h6
  unfold mo8 at ha
  have ha2 : 12 * (y - 1) + m - 1 + k < 0 := by omega
  clear ha
  have HR := Lib.hid hr
  clear hr
  go_enter Tryd.func28, Tryd.ntmps28
  go_wp2_with fail
  generalize hW : World.alloc (World.alloc w _) _ = W0
  have E0 : S8 w W0 [(w.heap.size + 1, .int .i64 (0), .int .i64 (0), .int .i64 (0)), (w.heap.size, .int .i64 y, .int .i64 m, .int .i64 d)] := by rw [← hW]; exact (((S8.start w HT.out).lay rfl).lay (by simp))
  have E := Lib.hid E0
  clear hW E0
  obtain ⟨p0, p1, p2, pf0, pf1, pf2, plt⟩ := (S8.at_ (x0 := .int .i64 (0)) (x1 := .int .i64 (0)) (x2 := .int .i64 (0)) (g := w.heap.size + 1) E (by simp))
  obtain ⟨q0, q1, q2, qf0, qf1, qf2, qlt⟩ := (S8.at_ (x0 := .int .i64 y) (x1 := .int .i64 m) (x2 := .int .i64 d) (g := w.heap.size) E (by simp))
  go_wp2_with fail
  refine (refright_any _ _ _ _ E.out.tab).mono ?_; rintro e w1 ⟨rfl, hb⟩; replace E := Lib.hid (S8.step E.out hb); clear hb
  rw [HR.out]
  clear p0 p1 p2 pf0 pf1 pf2 plt q0 q1 q2 qf0 qf1 qf2 qlt
  obtain ⟨p0, p1, p2, pf0, pf1, pf2, plt⟩ := (S8.at_ (x0 := .int .i64 (0)) (x1 := .int .i64 (0)) (x2 := .int .i64 (0)) (g := w.heap.size + 1) E (by simp))
  obtain ⟨q0, q1, q2, qf0, qf1, qf2, qlt⟩ := (S8.at_ (x0 := .int .i64 y) (x1 := .int .i64 m) (x2 := .int .i64 d) (g := w.heap.size) E (by simp))
  go_wp2_with fail
  clear p0 p1 p2 pf0 pf1 pf2 plt q0 q1 q2 qf0 qf1 qf2 qlt
  replace E := Lib.hid (S8.store E.out (g := w.heap.size + 1) (x0 := .int .i64 (0)) (x1 := .int .i64 (0)) (x2 := .int .i64 (0)) (by simp) (by omega) [(w.heap.size, .int .i64 y, .int .i64 m, .int .i64 d)] (fun q hq => by simp at hq ⊢; (try rcases hq with rfl <;> simp)) (.int .i64 (0)) (.int .i64 (0)) (.int .i64 (0)) (fun w_ hb => HT.out.on hb))
  obtain ⟨e0, e1, e2, _, _, _, _⟩ := (S8.at_ (x0 := .int .i64 (0)) (x1 := .int .i64 (0)) (x2 := .int .i64 (0)) (g := w.heap.size + 1) E (by simp))
  exact bodyPost_ret (v := .tuple #[.agg #[.int .i64 (0), .int .i64 (0), .int .i64 (0)], .int .i64 1]) (by simp [results, Tryd.results28, go_sem, e0, e1, e2]) rfl ⟨rfl, E.out.bel⟩

set_option maxHeartbeats 4000000 in
set_option maxRecDepth 100000 in
theorem refadd_no4 (y m d k : Int) (hr : ok8 y m d = true) (k1 : -120000 ≤ k) (k2 : k ≤ 120000) (ha : 119988 ≤ mo8 y m + k)  (w : World) (hT : Tabs w) : Calls Tryd.prog 28 #[.agg #[.int .i64 y, .int .i64 m, .int .i64 d], .int .i64 k] w (Ret8 w (.tuple #[.agg #[.int .i64 (0), .int .i64 (0), .int .i64 (0)], .int .i64 1])) := by
  have HT := Lib.hid hT
  clear hT
  obtain ⟨h1, h2, h3, h4, h5, h6⟩ := ok8_iff.1 hr
  clear h5 h6
  unfold mo8 at ha
  have ha2 : 119988 ≤ 12 * (y - 1) + m - 1 + k := by omega
  clear ha
  have HR := Lib.hid hr
  clear hr
  go_enter Tryd.func28, Tryd.ntmps28
  go_wp2_with fail
  generalize hW : World.alloc (World.alloc w _) _ = W0
  have E0 : S8 w W0 [(w.heap.size + 1, .int .i64 (0), .int .i64 (0), .int .i64 (0)), (w.heap.size, .int .i64 y, .int .i64 m, .int .i64 d)] := by rw [← hW]; exact (((S8.start w HT.out).lay rfl).lay (by simp))
  have E := Lib.hid E0
  clear hW E0
  obtain ⟨p0, p1, p2, pf0, pf1, pf2, plt⟩ := (S8.at_ (x0 := .int .i64 (0)) (x1 := .int .i64 (0)) (x2 := .int .i64 (0)) (g := w.heap.size + 1) E (by simp))
  obtain ⟨q0, q1, q2, qf0, qf1, qf2, qlt⟩ := (S8.at_ (x0 := .int .i64 y) (x1 := .int .i64 m) (x2 := .int .i64 d) (g := w.heap.size) E (by simp))
  go_wp2_with fail
  refine (refright_any _ _ _ _ E.out.tab).mono ?_; rintro e w1 ⟨rfl, hb⟩; replace E := Lib.hid (S8.step E.out hb); clear hb
  rw [HR.out]
  clear p0 p1 p2 pf0 pf1 pf2 plt q0 q1 q2 qf0 qf1 qf2 qlt
  obtain ⟨p0, p1, p2, pf0, pf1, pf2, plt⟩ := (S8.at_ (x0 := .int .i64 (0)) (x1 := .int .i64 (0)) (x2 := .int .i64 (0)) (g := w.heap.size + 1) E (by simp))
  obtain ⟨q0, q1, q2, qf0, qf1, qf2, qlt⟩ := (S8.at_ (x0 := .int .i64 y) (x1 := .int .i64 m) (x2 := .int .i64 d) (g := w.heap.size) E (by simp))
  go_wp2_with fail
  clear p0 p1 p2 pf0 pf1 pf2 plt q0 q1 q2 qf0 qf1 qf2 qlt
  replace E := Lib.hid (S8.store E.out (g := w.heap.size + 1) (x0 := .int .i64 (0)) (x1 := .int .i64 (0)) (x2 := .int .i64 (0)) (by simp) (by omega) [(w.heap.size, .int .i64 y, .int .i64 m, .int .i64 d)] (fun q hq => by simp at hq ⊢; (try rcases hq with rfl <;> simp)) (.int .i64 (0)) (.int .i64 (0)) (.int .i64 (0)) (fun w_ hb => HT.out.on hb))
  obtain ⟨e0, e1, e2, _, _, _, _⟩ := (S8.at_ (x0 := .int .i64 (0)) (x1 := .int .i64 (0)) (x2 := .int .i64 (0)) (g := w.heap.size + 1) E (by simp))
  exact bodyPost_ret (v := .tuple #[.agg #[.int .i64 (0), .int .i64 (0), .int .i64 (0)], .int .i64 1]) (by simp [results, Tryd.results28, go_sem, e0, e1, e2]) rfl ⟨rfl, E.out.bel⟩

set_option maxHeartbeats 4000000 in
set_option maxRecDepth 100000 in
theorem add_yes (y m d k Y M : Int) (hr : ok8 y m d = true) (k1 : -120000 ≤ k) (k2 : k ≤ 120000) (ha : 0 ≤ mo8 y m + k ∧ mo8 y m + k < 119988) (hY : (mo8 y m + k) / 12 + 1 = Y) (hM : (mo8 y m + k) % 12 + 1 = M)  (w : World) (hT : Tabs w) : Calls Tryd.prog 27 #[.agg #[.int .i64 y, .int .i64 m, .int .i64 d], .int .i64 k] w (Ret8 w (.tuple #[.agg #[.int .i64 Y, .int .i64 M, .int .i64 ((min d (len8 Y M)))], .int .i64 0])) := by
  have HT := Lib.hid hT
  clear hT
  obtain ⟨h1, h2, h3, h4, h5, h6⟩ := ok8_iff.1 hr
  have hl := len8_bd Y M
  have t1 : 1 ≤ Y := by omega
  have t2 : Y ≤ 9999 := by omega
  have t3 : 1 ≤ M := by omega
  have t4 : M ≤ 12 := by omega
  obtain ⟨z, hz⟩ : ∃ z, mo8 y m = z := ⟨_, rfl⟩
  rw [hz] at ha hY hM
  have a1 : 0 ≤ z + k := by omega
  have a2 : z + k < 119988 := by omega
  have b : 0 ≤ z ∧ z ≤ 200000 := by unfold mo8 at hz; omega
  obtain ⟨b1, b2⟩ := b
  have HYM : Hid ((z + k) / 12 + 1 = Y ∧ (z + k) % 12 + 1 = M) := by show _ ∧ _; omega
  have HZ := Lib.hid hz
  have HR := Lib.hid hr
  clear hr h5 h6 hz ha hY hM
  obtain ⟨L, hL⟩ : ∃ L, len8 Y M = L := ⟨_, rfl⟩
  rw [hL] at hl
  obtain ⟨hl1, hl2⟩ := hl
  have HL := Lib.hid hL
  clear hL
  go_enter Tryd.func27, Tryd.ntmps27
  go_wp2_with fail
  generalize hW : World.alloc (World.alloc w _) _ = W0
  have E0 : S8 w W0 [(w.heap.size + 1, .int .i64 (0), .int .i64 (0), .int .i64 (0)), (w.heap.size, .int .i64 y, .int .i64 m, .int .i64 d)] := by rw [← hW]; exact (((S8.start w HT.out).lay rfl).lay (by simp))
  have E := Lib.hid E0
  clear hW E0
  obtain ⟨p0, p1, p2, pf0, pf1, pf2, plt⟩ := (S8.at_ (x0 := .int .i64 (0)) (x1 := .int .i64 (0)) (x2 := .int .i64 (0)) (g := w.heap.size + 1) E (by simp))
  obtain ⟨q0, q1, q2, qf0, qf1, qf2, qlt⟩ := (S8.at_ (x0 := .int .i64 y) (x1 := .int .i64 m) (x2 := .int .i64 d) (g := w.heap.size) E (by simp))
  go_wp2_with fail
  refine (right_any _ _ _ _ E.out.tab).mono ?_; rintro e w1 ⟨rfl, hb⟩; replace E := Lib.hid (S8.step E.out hb); clear hb
  rw [HR.out]
  clear p0 p1 p2 pf0 pf1 pf2 plt q0 q1 q2 qf0 qf1 qf2 qlt
  obtain ⟨p0, p1, p2, pf0, pf1, pf2, plt⟩ := (S8.at_ (x0 := .int .i64 (0)) (x1 := .int .i64 (0)) (x2 := .int .i64 (0)) (g := w.heap.size + 1) E (by simp))
  obtain ⟨q0, q1, q2, qf0, qf1, qf2, qlt⟩ := (S8.at_ (x0 := .int .i64 y) (x1 := .int .i64 m) (x2 := .int .i64 d) (g := w.heap.size) E (by simp))
  go_wp2_with fail
  refine (monthsAhead_is E.out.tab HR.out HZ.out).mono ?_; rintro e w2 ⟨rfl, hb⟩; replace E := Lib.hid (S8.step E.out hb); clear hb
  clear p0 p1 p2 pf0 pf1 pf2 plt q0 q1 q2 qf0 qf1 qf2 qlt
  obtain ⟨p0, p1, p2, pf0, pf1, pf2, plt⟩ := (S8.at_ (x0 := .int .i64 (0)) (x1 := .int .i64 (0)) (x2 := .int .i64 (0)) (g := w.heap.size + 1) E (by simp))
  obtain ⟨q0, q1, q2, qf0, qf1, qf2, qlt⟩ := (S8.at_ (x0 := .int .i64 y) (x1 := .int .i64 m) (x2 := .int .i64 d) (g := w.heap.size) E (by simp))
  go_wp2_with fail
  obtain ⟨hy1, hy2⟩ := HYM.out
  rw [hy1, hy2]
  clear hy1 hy2
  clear p0 p1 p2 pf0 pf1 pf2 plt q0 q1 q2 qf0 qf1 qf2 qlt
  replace E := Lib.hid (S8.drew E.out)
  go_region_held3 (fun v => v.cell? ⟨w.heap.size, 0, none⟩ = some (.int .i64 y) ∧ v.cell? ⟨w.heap.size, 1, none⟩ = some (.int .i64 m) ∧ v.cell? ⟨w.heap.size, 2, none⟩ = some (.int .i64 d)) (first | (with_reducible exact ⟨(S8.at_ (x0 := .int .i64 y) (x1 := .int .i64 m) (x2 := .int .i64 d) (g := w.heap.size) E (by simp)).c0, (S8.at_ (x0 := .int .i64 y) (x1 := .int .i64 m) (x2 := .int .i64 d) (g := w.heap.size) E (by simp)).c1, (S8.at_ (x0 := .int .i64 y) (x1 := .int .i64 m) (x2 := .int .i64 d) (g := w.heap.size) E (by simp)).c2⟩) | (with_reducible exact ⟨((S8.at_ (x0 := .int .i64 y) (x1 := .int .i64 m) (x2 := .int .i64 d) (g := w.heap.size) E (by simp)).apart (g' := w.heap.size + 1) _ _ _ (by omega)).c0, ((S8.at_ (x0 := .int .i64 y) (x1 := .int .i64 m) (x2 := .int .i64 d) (g := w.heap.size) E (by simp)).apart (g' := w.heap.size + 1) _ _ _ (by omega)).c1, ((S8.at_ (x0 := .int .i64 y) (x1 := .int .i64 m) (x2 := .int .i64 d) (g := w.heap.size) E (by simp)).apart (g' := w.heap.size + 1) _ _ _ (by omega)).c2⟩))
    ((go_at_call 41; refine (length_ret _ _ _ E.out.tab t3 t4 HL.out).mono ?_; rintro e wl ⟨rfl, hb⟩; replace E := Lib.hid (S8.step E.out hb); clear hb; obtain ⟨r0, r1, r2, rf0, rf1, rf2, rlt⟩ := (S8.at_ (x0 := .int .i64 (0)) (x1 := .int .i64 (0)) (x2 := .int .i64 (0)) (g := w.heap.size + 1) E (by simp))))
  go_wp2_with fail
  replace E := Lib.hid (S8.store E.out (g := w.heap.size + 1) (x0 := .int .i64 (0)) (x1 := .int .i64 (0)) (x2 := .int .i64 (0)) (by simp) (by omega) [(w.heap.size, .int .i64 y, .int .i64 m, .int .i64 d)] (fun q hq => by simp at hq ⊢; (try rcases hq with rfl <;> simp)) (.int .i64 Y) (.int .i64 M) (.int .i64 ((min d L))) (fun w_ hb => HT.out.on hb))
  obtain ⟨e0, e1, e2, _, _, _, _⟩ := (S8.at_ (x0 := .int .i64 Y) (x1 := .int .i64 M) (x2 := .int .i64 ((min d L))) (g := w.heap.size + 1) E (by simp))
  exact bodyPost_ret (v := .tuple #[.agg #[.int .i64 Y, .int .i64 M, .int .i64 ((min d L))], .int .i64 0]) (by simp [results, Tryd.results27, go_sem, e0, e1, e2]) rfl ⟨by rw [HL.out], E.out.bel⟩

theorem add_any (y m d k : Int) (w : World) (hT : Tabs w) : Calls Tryd.prog 27 #[.agg #[.int .i64 y, .int .i64 m, .int .i64 d], .int .i64 k] w (Ret8 w (.tuple #[.agg #[.int .i64 (add8 y m d k).1, .int .i64 (add8 y m d k).2.1, .int .i64 (add8 y m d k).2.2], .int .i64 (if addOk y m d k = true then 0 else 1)])) := by
  cases hr : ok8 y m d with
  | false => rw [add8_not (by rw [addOk_iff, hr]; simp)]; rw [if_neg (by rw [addOk_iff, hr]; simp)]; exact add_no0 y m d k hr w hT
  | true =>
    by_cases k1 : k < -120000
    · rw [add8_not (by rw [addOk_iff]; omega)]; rw [if_neg (by rw [addOk_iff]; omega)]; exact add_no1 y m d k hr k1 w hT
    · by_cases k2 : 120000 < k
      · rw [add8_not (by rw [addOk_iff]; omega)]; rw [if_neg (by rw [addOk_iff]; omega)]; exact add_no2 y m d k hr k2 w hT
      · by_cases k3 : mo8 y m + k < 0
        · rw [add8_not (by rw [addOk_iff]; omega)]; rw [if_neg (by rw [addOk_iff]; omega)]; exact add_no3 y m d k hr (by omega) (by omega) k3 w hT
        · by_cases k4 : 119988 ≤ mo8 y m + k
          · rw [add8_not (by rw [addOk_iff]; omega)]; rw [if_neg (by rw [addOk_iff]; omega)]; exact add_no4 y m d k hr (by omega) (by omega) k4 w hT
          · have h : addOk y m d k = true := by rw [addOk_iff]; exact ⟨hr, by omega, by omega, by omega, by omega⟩
            rw [add8_ok h, if_pos h]
            exact add_yes y m d k _ _ hr (by omega) (by omega) (by omega) rfl rfl w hT

set_option maxHeartbeats 4000000 in
set_option maxRecDepth 100000 in
theorem refadd_yes (y m d k Y M : Int) (hr : ok8 y m d = true) (k1 : -120000 ≤ k) (k2 : k ≤ 120000) (ha : 0 ≤ mo8 y m + k ∧ mo8 y m + k < 119988) (hY : (mo8 y m + k) / 12 + 1 = Y) (hM : (mo8 y m + k) % 12 + 1 = M)  (w : World) (hT : Tabs w) : Calls Tryd.prog 28 #[.agg #[.int .i64 y, .int .i64 m, .int .i64 d], .int .i64 k] w (Ret8 w (.tuple #[.agg #[.int .i64 Y, .int .i64 M, .int .i64 ((min d (len8 Y M)))], .int .i64 0])) := by
  have HT := Lib.hid hT
  clear hT
  obtain ⟨h1, h2, h3, h4, h5, h6⟩ := ok8_iff.1 hr
  have hl := len8_bd Y M
  have t1 : 1 ≤ Y := by omega
  have t2 : Y ≤ 9999 := by omega
  have t3 : 1 ≤ M := by omega
  have t4 : M ≤ 12 := by omega
  obtain ⟨z, hz⟩ : ∃ z, mo8 y m = z := ⟨_, rfl⟩
  rw [hz] at ha hY hM
  have a1 : 0 ≤ z + k := by omega
  have a2 : z + k < 119988 := by omega
  have b : 0 ≤ z ∧ z ≤ 200000 := by unfold mo8 at hz; omega
  obtain ⟨b1, b2⟩ := b
  have a3 : 0 ≤ 12 * (y - 1) + m - 1 + k := by unfold mo8 at hz; omega
  have a4 : 12 * (y - 1) + m - 1 + k < 119988 := by unfold mo8 at hz; omega
  have HYM : Hid ((12 * (y - 1) + m - 1 + k) / 12 + 1 = Y ∧ (12 * (y - 1) + m - 1 + k) % 12 + 1 = M) := by show _ ∧ _; unfold mo8 at hz; omega
  have HR := Lib.hid hr
  clear hr h5 h6 hz ha hY hM
  obtain ⟨L, hL⟩ : ∃ L, len8 Y M = L := ⟨_, rfl⟩
  rw [hL] at hl
  obtain ⟨hl1, hl2⟩ := hl
  have HL := Lib.hid hL
  clear hL
  go_enter Tryd.func28, Tryd.ntmps28
  go_wp2_with fail
  generalize hW : World.alloc (World.alloc w _) _ = W0
  have E0 : S8 w W0 [(w.heap.size + 1, .int .i64 (0), .int .i64 (0), .int .i64 (0)), (w.heap.size, .int .i64 y, .int .i64 m, .int .i64 d)] := by rw [← hW]; exact (((S8.start w HT.out).lay rfl).lay (by simp))
  have E := Lib.hid E0
  clear hW E0
  obtain ⟨p0, p1, p2, pf0, pf1, pf2, plt⟩ := (S8.at_ (x0 := .int .i64 (0)) (x1 := .int .i64 (0)) (x2 := .int .i64 (0)) (g := w.heap.size + 1) E (by simp))
  obtain ⟨q0, q1, q2, qf0, qf1, qf2, qlt⟩ := (S8.at_ (x0 := .int .i64 y) (x1 := .int .i64 m) (x2 := .int .i64 d) (g := w.heap.size) E (by simp))
  go_wp2_with fail
  refine (refright_any _ _ _ _ E.out.tab).mono ?_; rintro e w1 ⟨rfl, hb⟩; replace E := Lib.hid (S8.step E.out hb); clear hb
  rw [HR.out]
  clear p0 p1 p2 pf0 pf1 pf2 plt q0 q1 q2 qf0 qf1 qf2 qlt
  obtain ⟨p0, p1, p2, pf0, pf1, pf2, plt⟩ := (S8.at_ (x0 := .int .i64 (0)) (x1 := .int .i64 (0)) (x2 := .int .i64 (0)) (g := w.heap.size + 1) E (by simp))
  obtain ⟨q0, q1, q2, qf0, qf1, qf2, qlt⟩ := (S8.at_ (x0 := .int .i64 y) (x1 := .int .i64 m) (x2 := .int .i64 d) (g := w.heap.size) E (by simp))
  go_wp2_with fail
  obtain ⟨hy1, hy2⟩ := HYM.out
  rw [hy1, hy2]
  clear hy1 hy2
  clear p0 p1 p2 pf0 pf1 pf2 plt q0 q1 q2 qf0 qf1 qf2 qlt
  replace E := Lib.hid (S8.drew E.out)
  go_region_held3 (fun v => v.cell? ⟨w.heap.size, 0, none⟩ = some (.int .i64 y) ∧ v.cell? ⟨w.heap.size, 1, none⟩ = some (.int .i64 m) ∧ v.cell? ⟨w.heap.size, 2, none⟩ = some (.int .i64 d)) (first | (with_reducible exact ⟨(S8.at_ (x0 := .int .i64 y) (x1 := .int .i64 m) (x2 := .int .i64 d) (g := w.heap.size) E (by simp)).c0, (S8.at_ (x0 := .int .i64 y) (x1 := .int .i64 m) (x2 := .int .i64 d) (g := w.heap.size) E (by simp)).c1, (S8.at_ (x0 := .int .i64 y) (x1 := .int .i64 m) (x2 := .int .i64 d) (g := w.heap.size) E (by simp)).c2⟩) | (with_reducible exact ⟨((S8.at_ (x0 := .int .i64 y) (x1 := .int .i64 m) (x2 := .int .i64 d) (g := w.heap.size) E (by simp)).apart (g' := w.heap.size + 1) _ _ _ (by omega)).c0, ((S8.at_ (x0 := .int .i64 y) (x1 := .int .i64 m) (x2 := .int .i64 d) (g := w.heap.size) E (by simp)).apart (g' := w.heap.size + 1) _ _ _ (by omega)).c1, ((S8.at_ (x0 := .int .i64 y) (x1 := .int .i64 m) (x2 := .int .i64 d) (g := w.heap.size) E (by simp)).apart (g' := w.heap.size + 1) _ _ _ (by omega)).c2⟩))
    ((go_at_call 42; refine (reflong_is _ _ _ t3 t4 HL.out).mono ?_; rintro e wl ⟨rfl, hb⟩; replace E := Lib.hid (S8.step E.out hb); clear hb; obtain ⟨r0, r1, r2, rf0, rf1, rf2, rlt⟩ := (S8.at_ (x0 := .int .i64 (0)) (x1 := .int .i64 (0)) (x2 := .int .i64 (0)) (g := w.heap.size + 1) E (by simp))))
  go_wp2_with fail
  replace E := Lib.hid (S8.store E.out (g := w.heap.size + 1) (x0 := .int .i64 (0)) (x1 := .int .i64 (0)) (x2 := .int .i64 (0)) (by simp) (by omega) [(w.heap.size, .int .i64 y, .int .i64 m, .int .i64 d)] (fun q hq => by simp at hq ⊢; (try rcases hq with rfl <;> simp)) (.int .i64 Y) (.int .i64 M) (.int .i64 ((min d L))) (fun w_ hb => HT.out.on hb))
  obtain ⟨e0, e1, e2, _, _, _, _⟩ := (S8.at_ (x0 := .int .i64 Y) (x1 := .int .i64 M) (x2 := .int .i64 ((min d L))) (g := w.heap.size + 1) E (by simp))
  exact bodyPost_ret (v := .tuple #[.agg #[.int .i64 Y, .int .i64 M, .int .i64 ((min d L))], .int .i64 0]) (by simp [results, Tryd.results28, go_sem, e0, e1, e2]) rfl ⟨by rw [HL.out], E.out.bel⟩

theorem refadd_any (y m d k : Int) (w : World) (hT : Tabs w) : Calls Tryd.prog 28 #[.agg #[.int .i64 y, .int .i64 m, .int .i64 d], .int .i64 k] w (Ret8 w (.tuple #[.agg #[.int .i64 (add8 y m d k).1, .int .i64 (add8 y m d k).2.1, .int .i64 (add8 y m d k).2.2], .int .i64 (if addOk y m d k = true then 0 else 1)])) := by
  cases hr : ok8 y m d with
  | false => rw [add8_not (by rw [addOk_iff, hr]; simp)]; rw [if_neg (by rw [addOk_iff, hr]; simp)]; exact refadd_no0 y m d k hr w hT
  | true =>
    by_cases k1 : k < -120000
    · rw [add8_not (by rw [addOk_iff]; omega)]; rw [if_neg (by rw [addOk_iff]; omega)]; exact refadd_no1 y m d k hr k1 w hT
    · by_cases k2 : 120000 < k
      · rw [add8_not (by rw [addOk_iff]; omega)]; rw [if_neg (by rw [addOk_iff]; omega)]; exact refadd_no2 y m d k hr k2 w hT
      · by_cases k3 : mo8 y m + k < 0
        · rw [add8_not (by rw [addOk_iff]; omega)]; rw [if_neg (by rw [addOk_iff]; omega)]; exact refadd_no3 y m d k hr (by omega) (by omega) k3 w hT
        · by_cases k4 : 119988 ≤ mo8 y m + k
          · rw [add8_not (by rw [addOk_iff]; omega)]; rw [if_neg (by rw [addOk_iff]; omega)]; exact refadd_no4 y m d k hr (by omega) (by omega) k4 w hT
          · have h : addOk y m d k = true := by rw [addOk_iff]; exact ⟨hr, by omega, by omega, by omega, by omega⟩
            rw [add8_ok h, if_pos h]
            exact refadd_yes y m d k _ _ hr (by omega) (by omega) (by omega) rfl rfl w hT

end Go.Proofs.YtnndamhilbcdfaaDoor
