/-
  Contracts of layer 8, the third part: the document's Right, Compare, Cmp and the document's.
-/
import Derived.Test.YtnndamhilbcdfaaDoorDatB
set_option linter.unusedVariables false
set_option linter.unusedSimpArgs false
set_option linter.unusedVariables false
set_option linter.unusedSimpArgs false
set_option linter.unusedVariables false
set_option linter.unusedSimpArgs false
namespace Go.Proofs.YtnndamhilbcdfaaDoor
open Go.RowKit

set_option maxHeartbeats 2000000 in
set_option maxRecDepth 100000 in
theorem compare_any (x y z : Int) (w : World) (h : (if x < y then -1 else if y < x then 1 else 0) = z) : Calls Tryd.prog 45 #[.int .i64 x, .int .i64 y] w fun e w' => e = .returned (.int .i64 z) ∧ w = w' := by
  subst h
  go_enter Tryd.func45, Tryd.ntmps45
  go_wp2
  all_goals
    go_ret
    exact ⟨rfl, rfl⟩
theorem compare_q (x y z : Int) (w : World) (h : (if x < y then -1 else if y < x then 1 else 0) = z) : Calls Tryd.prog 45 #[.int .i64 x, .int .i64 y] w fun e w' => e = .returned (.int .i64 z) ∧ w' = w :=
  (compare_any x y z w h).mono fun _ _ h => ⟨h.1, h.2.symm⟩

set_option maxHeartbeats 4000000 in
set_option maxRecDepth 100000 in
theorem refright_any (y m d : Int) (w : World) (hT : Tabs w) : Calls Tryd.prog 20 #[.agg #[.int .i64 y, .int .i64 m, .int .i64 d]] w (Ret8 w (.bool (ok8 y m d))) := by
  have HT := Lib.hid hT
  clear hT
  by_cases hr : 1 ≤ y ∧ y ≤ 9999 ∧ 1 ≤ m ∧ m ≤ 12 ∧ 1 ≤ d
  · obtain ⟨h1, h2, h3, h4, h5⟩ := hr
    have EE : Hid (decide (d ≤ len8 y m) = ok8 y m d) := by
      show _ = _
      rw [Bool.eq_iff_iff, decide_eq_true_iff, ok8_iff]; omega
    go_enter Tryd.func20, Tryd.ntmps20
    go_wp2_with fail
    generalize hW : World.alloc w _ = W0
    have E0 : S8 w W0 [(w.heap.size, .int .i64 y, .int .i64 m, .int .i64 d)] := by rw [← hW]; exact ((S8.start w HT.out).lay rfl)
    have E := Lib.hid E0
    clear hW E0
    replace E := Lib.hid (S8.drew E.out)
    go_region_held3 (fun v => v.cell? ⟨w.heap.size, 0, none⟩ = some (.int .i64 y) ∧ v.cell? ⟨w.heap.size, 1, none⟩ = some (.int .i64 m) ∧ v.cell? ⟨w.heap.size, 2, none⟩ = some (.int .i64 d)) (with_reducible exact ⟨(S8.at_ (x0 := .int .i64 y) (x1 := .int .i64 m) (x2 := .int .i64 d) (g := w.heap.size) E (by simp)).c0, (S8.at_ (x0 := .int .i64 y) (x1 := .int .i64 m) (x2 := .int .i64 d) (g := w.heap.size) E (by simp)).c1, (S8.at_ (x0 := .int .i64 y) (x1 := .int .i64 m) (x2 := .int .i64 d) (g := w.heap.size) E (by simp)).c2⟩)
      ((go_at_call 42; refine (reflong_any _ _ _ h3 h4).mono ?_; rintro e w1 ⟨rfl, hb⟩; replace E := Lib.hid (S8.step E.out hb); clear hb))
    go_wp2_with fail
    go_ret
    exact ⟨rb8 EE.out, E.out.bel⟩
  · have EE : ok8 y m d = false := by
      rw [Bool.eq_false_iff, Ne, ok8_iff]; omega
    rw [EE]
    clear EE
    by_cases n0 : y < 1
    · have D0 : decide (1 ≤ y) = false := decide_eq_false (by omega)
      clear hr
      go_enter Tryd.func20, Tryd.ntmps20
      go_wp2_with fail
      generalize hW : World.alloc w _ = W0
      have E0 : S8 w W0 [(w.heap.size, .int .i64 y, .int .i64 m, .int .i64 d)] := by rw [← hW]; exact ((S8.start w HT.out).lay rfl)
      have E := Lib.hid E0
      clear hW E0
      obtain ⟨p0, p1, p2, pf0, pf1, pf2, plt⟩ := (S8.at_ (x0 := .int .i64 y) (x1 := .int .i64 m) (x2 := .int .i64 d) (g := w.heap.size) E (by simp))
      go_wp2_with fail
      go_quiet ((fail))
      replace E := Lib.hid (S8.drewN E.out nq)
      go_wp2_with fail
      go_ret
      exact ⟨rfl, E.out.bel⟩
    · skip
      by_cases n1 : 9999 < y
      · have D1 : decide (y ≤ 9999) = false := decide_eq_false (by omega)
        have C0 : 1 ≤ y := by omega
        clear hr
        go_enter Tryd.func20, Tryd.ntmps20
        go_wp2_with fail
        generalize hW : World.alloc w _ = W0
        have E0 : S8 w W0 [(w.heap.size, .int .i64 y, .int .i64 m, .int .i64 d)] := by rw [← hW]; exact ((S8.start w HT.out).lay rfl)
        have E := Lib.hid E0
        clear hW E0
        obtain ⟨p0, p1, p2, pf0, pf1, pf2, plt⟩ := (S8.at_ (x0 := .int .i64 y) (x1 := .int .i64 m) (x2 := .int .i64 d) (g := w.heap.size) E (by simp))
        go_wp2_with fail
        go_quiet ((fail))
        replace E := Lib.hid (S8.drewN E.out nq)
        go_wp2_with fail
        go_ret
        exact ⟨rfl, E.out.bel⟩
      · skip
        by_cases n2 : m < 1
        · have D2 : decide (1 ≤ m) = false := decide_eq_false (by omega)
          have C0 : 1 ≤ y := by omega
          have C1 : y ≤ 9999 := by omega
          clear hr
          go_enter Tryd.func20, Tryd.ntmps20
          go_wp2_with fail
          generalize hW : World.alloc w _ = W0
          have E0 : S8 w W0 [(w.heap.size, .int .i64 y, .int .i64 m, .int .i64 d)] := by rw [← hW]; exact ((S8.start w HT.out).lay rfl)
          have E := Lib.hid E0
          clear hW E0
          obtain ⟨p0, p1, p2, pf0, pf1, pf2, plt⟩ := (S8.at_ (x0 := .int .i64 y) (x1 := .int .i64 m) (x2 := .int .i64 d) (g := w.heap.size) E (by simp))
          go_wp2_with fail
          go_quiet ((fail))
          replace E := Lib.hid (S8.drewN E.out nq)
          go_wp2_with fail
          go_ret
          exact ⟨rfl, E.out.bel⟩
        · skip
          by_cases n3 : 12 < m
          · have D3 : decide (m ≤ 12) = false := decide_eq_false (by omega)
            have C0 : 1 ≤ y := by omega
            have C1 : y ≤ 9999 := by omega
            have C2 : 1 ≤ m := by omega
            clear hr
            go_enter Tryd.func20, Tryd.ntmps20
            go_wp2_with fail
            generalize hW : World.alloc w _ = W0
            have E0 : S8 w W0 [(w.heap.size, .int .i64 y, .int .i64 m, .int .i64 d)] := by rw [← hW]; exact ((S8.start w HT.out).lay rfl)
            have E := Lib.hid E0
            clear hW E0
            obtain ⟨p0, p1, p2, pf0, pf1, pf2, plt⟩ := (S8.at_ (x0 := .int .i64 y) (x1 := .int .i64 m) (x2 := .int .i64 d) (g := w.heap.size) E (by simp))
            go_wp2_with fail
            go_quiet ((fail))
            replace E := Lib.hid (S8.drewN E.out nq)
            go_wp2_with fail
            go_ret
            exact ⟨rfl, E.out.bel⟩
          · skip
            have n4 : d < 1 := by omega
            have D4 : decide (1 ≤ d) = false := decide_eq_false (by omega)
            have C0 : 1 ≤ y := by omega
            have C1 : y ≤ 9999 := by omega
            have C2 : 1 ≤ m := by omega
            have C3 : m ≤ 12 := by omega
            clear hr
            go_enter Tryd.func20, Tryd.ntmps20
            go_wp2_with fail
            generalize hW : World.alloc w _ = W0
            have E0 : S8 w W0 [(w.heap.size, .int .i64 y, .int .i64 m, .int .i64 d)] := by rw [← hW]; exact ((S8.start w HT.out).lay rfl)
            have E := Lib.hid E0
            clear hW E0
            obtain ⟨p0, p1, p2, pf0, pf1, pf2, plt⟩ := (S8.at_ (x0 := .int .i64 y) (x1 := .int .i64 m) (x2 := .int .i64 d) (g := w.heap.size) E (by simp))
            go_wp2_with fail
            go_quiet ((fail))
            replace E := Lib.hid (S8.drewN E.out nq)
            go_wp2_with fail
            go_ret
            exact ⟨rfl, E.out.bel⟩

set_option maxHeartbeats 4000000 in
set_option maxRecDepth 100000 in
theorem cmp_same (y m d : Int) (w : World) (hT : Tabs w) : Calls Tryd.prog 21 #[.agg #[.int .i64 y, .int .i64 m, .int .i64 d], .agg #[.int .i64 y, .int .i64 m, .int .i64 d]] w (Ret8 w (.int .i64 0)) := by
  have HT := Lib.hid hT
  clear hT
  go_enter Tryd.func21, Tryd.ntmps21
  go_wp2_with fail
  generalize hW : World.alloc (World.alloc w _) _ = W0
  have E0 : S8 w W0 [(w.heap.size + 1, .int .i64 y, .int .i64 m, .int .i64 d), (w.heap.size, .int .i64 y, .int .i64 m, .int .i64 d)] := by rw [← hW]; exact (((S8.start w HT.out).lay rfl).lay (by simp))
  have E := Lib.hid E0
  clear hW E0
  obtain ⟨p0, p1, p2, pf0, pf1, pf2, plt⟩ := (S8.at_ (x0 := .int .i64 y) (x1 := .int .i64 m) (x2 := .int .i64 d) (g := w.heap.size + 1) E (by simp))
  obtain ⟨q0, q1, q2, qf0, qf1, qf2, qlt⟩ := (S8.at_ (x0 := .int .i64 y) (x1 := .int .i64 m) (x2 := .int .i64 d) (g := w.heap.size) E (by simp))
  go_wp2_with fail
  go_ret
  exact ⟨rfl, E.out.bel⟩

set_option maxHeartbeats 4000000 in
set_option maxRecDepth 100000 in
theorem cmp_year (y m d y' m' d' : Int) (hy : y ≠ y')  (w : World) (hT : Tabs w) : Calls Tryd.prog 21 #[.agg #[.int .i64 y, .int .i64 m, .int .i64 d], .agg #[.int .i64 y', .int .i64 m', .int .i64 d']] w (Ret8 w (.int .i64 (cmp8 y m d y' m' d'))) := by
  have HT := Lib.hid hT
  clear hT
  have HZ : Hid ((if y < y' then -1 else if y' < y then 1 else 0) = cmp8 y m d y' m' d') := by show _ = _; unfold cmp8; (repeat' split) <;> first | rfl | omega
  have n1 : (y == y') = false := by simpa using hy
  have n2 : (y != y') = true := by simpa using hy
  clear hy
  go_enter Tryd.func21, Tryd.ntmps21
  go_wp2_with fail
  generalize hW : World.alloc (World.alloc w _) _ = W0
  have E0 : S8 w W0 [(w.heap.size + 1, .int .i64 y', .int .i64 m', .int .i64 d'), (w.heap.size, .int .i64 y, .int .i64 m, .int .i64 d)] := by rw [← hW]; exact (((S8.start w HT.out).lay rfl).lay (by simp))
  have E := Lib.hid E0
  clear hW E0
  obtain ⟨p0, p1, p2, pf0, pf1, pf2, plt⟩ := (S8.at_ (x0 := .int .i64 y') (x1 := .int .i64 m') (x2 := .int .i64 d') (g := w.heap.size + 1) E (by simp))
  obtain ⟨q0, q1, q2, qf0, qf1, qf2, qlt⟩ := (S8.at_ (x0 := .int .i64 y) (x1 := .int .i64 m) (x2 := .int .i64 d) (g := w.heap.size) E (by simp))
  go_wp2_with fail
  refine (compare_any _ _ _ _ HZ.out).mono ?_; rintro e w_ ⟨rfl, rfl⟩
  go_wp2_with fail
  go_ret
  exact ⟨rfl, E.out.bel⟩

set_option maxHeartbeats 4000000 in
set_option maxRecDepth 100000 in
theorem cmp_month (y m d m' d' : Int) (hy : m ≠ m')  (w : World) (hT : Tabs w) : Calls Tryd.prog 21 #[.agg #[.int .i64 y, .int .i64 m, .int .i64 d], .agg #[.int .i64 y, .int .i64 m', .int .i64 d']] w (Ret8 w (.int .i64 (cmp8 y m d y m' d'))) := by
  have HT := Lib.hid hT
  clear hT
  have HZ : Hid ((if m < m' then -1 else if m' < m then 1 else 0) = cmp8 y m d y m' d') := by show _ = _; unfold cmp8; (repeat' split) <;> first | rfl | omega
  have n1 : (m == m') = false := by simpa using hy
  have n2 : (m != m') = true := by simpa using hy
  clear hy
  go_enter Tryd.func21, Tryd.ntmps21
  go_wp2_with fail
  generalize hW : World.alloc (World.alloc w _) _ = W0
  have E0 : S8 w W0 [(w.heap.size + 1, .int .i64 y, .int .i64 m', .int .i64 d'), (w.heap.size, .int .i64 y, .int .i64 m, .int .i64 d)] := by rw [← hW]; exact (((S8.start w HT.out).lay rfl).lay (by simp))
  have E := Lib.hid E0
  clear hW E0
  obtain ⟨p0, p1, p2, pf0, pf1, pf2, plt⟩ := (S8.at_ (x0 := .int .i64 y) (x1 := .int .i64 m') (x2 := .int .i64 d') (g := w.heap.size + 1) E (by simp))
  obtain ⟨q0, q1, q2, qf0, qf1, qf2, qlt⟩ := (S8.at_ (x0 := .int .i64 y) (x1 := .int .i64 m) (x2 := .int .i64 d) (g := w.heap.size) E (by simp))
  go_wp2_with fail
  refine (compare_any _ _ _ _ HZ.out).mono ?_; rintro e w_ ⟨rfl, rfl⟩
  go_wp2_with fail
  go_ret
  exact ⟨rfl, E.out.bel⟩

set_option maxHeartbeats 4000000 in
set_option maxRecDepth 100000 in
theorem cmp_day (y m d d' : Int) (hy : d ≠ d')  (w : World) (hT : Tabs w) : Calls Tryd.prog 21 #[.agg #[.int .i64 y, .int .i64 m, .int .i64 d], .agg #[.int .i64 y, .int .i64 m, .int .i64 d']] w (Ret8 w (.int .i64 (cmp8 y m d y m d'))) := by
  have HT := Lib.hid hT
  clear hT
  have HZ : Hid ((if d < d' then -1 else if d' < d then 1 else 0) = cmp8 y m d y m d') := by show _ = _; unfold cmp8; (repeat' split) <;> first | rfl | omega
  have n1 : (d == d') = false := by simpa using hy
  have n2 : (d != d') = true := by simpa using hy
  clear hy
  go_enter Tryd.func21, Tryd.ntmps21
  go_wp2_with fail
  generalize hW : World.alloc (World.alloc w _) _ = W0
  have E0 : S8 w W0 [(w.heap.size + 1, .int .i64 y, .int .i64 m, .int .i64 d'), (w.heap.size, .int .i64 y, .int .i64 m, .int .i64 d)] := by rw [← hW]; exact (((S8.start w HT.out).lay rfl).lay (by simp))
  have E := Lib.hid E0
  clear hW E0
  obtain ⟨p0, p1, p2, pf0, pf1, pf2, plt⟩ := (S8.at_ (x0 := .int .i64 y) (x1 := .int .i64 m) (x2 := .int .i64 d') (g := w.heap.size + 1) E (by simp))
  obtain ⟨q0, q1, q2, qf0, qf1, qf2, qlt⟩ := (S8.at_ (x0 := .int .i64 y) (x1 := .int .i64 m) (x2 := .int .i64 d) (g := w.heap.size) E (by simp))
  go_wp2_with fail
  refine (compare_any _ _ _ _ HZ.out).mono ?_; rintro e w_ ⟨rfl, rfl⟩
  go_wp2_with fail
  go_ret
  exact ⟨rfl, E.out.bel⟩

theorem cmp_any (y m d y' m' d' : Int) (w : World) (hT : Tabs w) : Calls Tryd.prog 21 #[.agg #[.int .i64 y, .int .i64 m, .int .i64 d], .agg #[.int .i64 y', .int .i64 m', .int .i64 d']] w (Ret8 w (.int .i64 (cmp8 y m d y' m' d'))) := by
  by_cases hy : y = y'
  · subst hy
    by_cases hm : m = m'
    · subst hm
      by_cases hd : d = d'
      · subst hd
        rw [cmp8_same]
        exact cmp_same y m d w hT
      · exact cmp_day y m d d' hd w hT
    · exact cmp_month y m d m' d' hm w hT
  · exact cmp_year y m d y' m' d' hy w hT

end Go.Proofs.YtnndamhilbcdfaaDoor
