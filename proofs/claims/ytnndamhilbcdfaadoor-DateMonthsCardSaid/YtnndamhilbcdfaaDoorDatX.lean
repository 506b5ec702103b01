/-
  Contracts of layer 8, the twelfth part: the document's Cmp.
-/
import Derived.Test.YtnndamhilbcdfaaDoorDatT
set_option linter.unusedVariables false
set_option linter.unusedSimpArgs false
set_option linter.unusedVariables false
set_option linter.unusedSimpArgs false
set_option linter.unusedVariables false
set_option linter.unusedSimpArgs false
namespace Go.Proofs.YtnndamhilbcdfaaDoor
open Go.RowKit

/-- How far two days are alike. -/
def Far8 (z y m d y' m' d' : Int) : Prop := z = 0 ∨ (z = 1 ∧ y = y') ∨ (z = 2 ∧ y = y' ∧ m = m') ∨ (z = 3 ∧ y = y' ∧ m = m' ∧ d = d')

set_option maxHeartbeats 4000000 in
set_option maxRecDepth 100000 in
theorem refcmp_any (y m d y' m' d' : Int)  (w : World) (hT : Tabs w) : Calls Tryd.prog 22 #[.agg #[.int .i64 y, .int .i64 m, .int .i64 d], .agg #[.int .i64 y', .int .i64 m', .int .i64 d']] w (Ret8 w (.int .i64 (cmp8 y m d y' m' d'))) := by
  have HT := Lib.hid hT
  clear hT
  obtain ⟨c, hc⟩ : ∃ c, cmp8 y m d y' m' d' = c := ⟨_, rfl⟩
  have HC := Lib.hid hc
  rw [hc]
  clear hc
  go_enter Tryd.func22, Tryd.ntmps22
  go_wp2_with fail
  generalize hW : World.alloc (World.alloc (World.alloc (World.alloc w _) _) _) _ = W0
  have E0 : S8 w W0 [(w.heap.size + 1 + 1 + 1, .int .i64 y', .int .i64 m', .int .i64 d'), (w.heap.size + 1 + 1, .int .i64 y, .int .i64 m, .int .i64 d), (w.heap.size + 1, .int .i64 y', .int .i64 m', .int .i64 d'), (w.heap.size, .int .i64 y, .int .i64 m, .int .i64 d)] := by rw [← hW]; exact (((((S8.start w HT.out).lay rfl).lay (by simp)).lay (by simp)).lay (by simp))
  have E := Lib.hid E0
  clear hW E0
  go_loopw [22] (fun i wr => ∃ z : Int, i = .int .i64 z ∧ Far8 z y m d y' m' d' ∧ S8 w wr [(w.heap.size + 1 + 1 + 1, .int .i64 y', .int .i64 m', .int .i64 d'), (w.heap.size + 1 + 1, .int .i64 y, .int .i64 m, .int .i64 d), (w.heap.size + 1, .int .i64 y', .int .i64 m', .int .i64 d'), (w.heap.size, .int .i64 y, .int .i64 m, .int .i64 d)]) (fun i _ => (3 - intOf i).toNat)
  case atStart => exact ⟨0, rfl, .inl rfl, E.out⟩
  case round =>
    obtain ⟨z, rfl, hf, hE⟩ := hrel
    clear E
    have E := Lib.hid hE
    clear hE
    rcases hf with rfl | ⟨rfl, hy⟩ | ⟨rfl, hy, hm⟩ | ⟨rfl, hy, hm, hd⟩
    ·
      by_cases h1 : y < y'
      ·
        have HZ : Hid (c = -1) := by show _ = _; rw [← HC.out]; unfold cmp8; have := HC.out;  (repeat' split) <;> omega
        have d1 : decide (y < y') = true := by exact decide_eq_true h1
        clear h1
        obtain ⟨p0, p1, p2, pf0, pf1, pf2, plt⟩ := (S8.at_ (x0 := .int .i64 y') (x1 := .int .i64 m') (x2 := .int .i64 d') (g := w.heap.size + 1 + 1 + 1) E (by simp))
        obtain ⟨q0, q1, q2, qf0, qf1, qf2, qlt⟩ := (S8.at_ (x0 := .int .i64 y) (x1 := .int .i64 m) (x2 := .int .i64 d) (g := w.heap.size + 1 + 1) E (by simp))
        obtain ⟨r0, r1, r2, rf0, rf1, rf2, rlt⟩ := (S8.at_ (x0 := .int .i64 y') (x1 := .int .i64 m') (x2 := .int .i64 d') (g := w.heap.size + 1) E (by simp))
        obtain ⟨s0, s1, s2, sf0, sf1, sf2, slt⟩ := (S8.at_ (x0 := .int .i64 y) (x1 := .int .i64 m) (x2 := .int .i64 d) (g := w.heap.size) E (by simp))
        go_wp2_with fail
        go_quiet ((fail))
        replace E := Lib.hid (S8.drewN E.out nq)
        go_wp2_with fail
        go_ret
        exact ⟨ri8 HZ.out.symm, E.out.bel⟩
      ·
        by_cases h2 : y' < y
        ·
          have HZ : Hid (c = 1) := by show _ = _; rw [← HC.out]; unfold cmp8; have := HC.out;  (repeat' split) <;> omega
          have d1 : decide (y < y') = false := by exact decide_eq_false h1
          have d2 : decide (y' < y) = true := by exact decide_eq_true h2
          clear h1 h2
          obtain ⟨p0, p1, p2, pf0, pf1, pf2, plt⟩ := (S8.at_ (x0 := .int .i64 y') (x1 := .int .i64 m') (x2 := .int .i64 d') (g := w.heap.size + 1 + 1 + 1) E (by simp))
          obtain ⟨q0, q1, q2, qf0, qf1, qf2, qlt⟩ := (S8.at_ (x0 := .int .i64 y) (x1 := .int .i64 m) (x2 := .int .i64 d) (g := w.heap.size + 1 + 1) E (by simp))
          obtain ⟨r0, r1, r2, rf0, rf1, rf2, rlt⟩ := (S8.at_ (x0 := .int .i64 y') (x1 := .int .i64 m') (x2 := .int .i64 d') (g := w.heap.size + 1) E (by simp))
          obtain ⟨s0, s1, s2, sf0, sf1, sf2, slt⟩ := (S8.at_ (x0 := .int .i64 y) (x1 := .int .i64 m) (x2 := .int .i64 d) (g := w.heap.size) E (by simp))
          go_wp2_with fail
          go_quiet ((fail))
          replace E := Lib.hid (S8.drewN E.out nq)
          go_wp2_with fail
          obtain ⟨W1, hW1⟩ : ∃ v, v = World.drewN wr nq := ⟨_, rfl⟩
          rw [← hW1] at E ⊢
          clear hW1
          clear p0 p1 p2 pf0 pf1 pf2 plt q0 q1 q2 qf0 qf1 qf2 qlt r0 r1 r2 rf0 rf1 rf2 rlt s0 s1 s2 sf0 sf1 sf2 slt
          obtain ⟨p0, p1, p2, pf0, pf1, pf2, plt⟩ := (S8.at_ (x0 := .int .i64 y') (x1 := .int .i64 m') (x2 := .int .i64 d') (g := w.heap.size + 1 + 1 + 1) E (by simp))
          obtain ⟨q0, q1, q2, qf0, qf1, qf2, qlt⟩ := (S8.at_ (x0 := .int .i64 y) (x1 := .int .i64 m) (x2 := .int .i64 d) (g := w.heap.size + 1 + 1) E (by simp))
          obtain ⟨r0, r1, r2, rf0, rf1, rf2, rlt⟩ := (S8.at_ (x0 := .int .i64 y') (x1 := .int .i64 m') (x2 := .int .i64 d') (g := w.heap.size + 1) E (by simp))
          obtain ⟨s0, s1, s2, sf0, sf1, sf2, slt⟩ := (S8.at_ (x0 := .int .i64 y) (x1 := .int .i64 m) (x2 := .int .i64 d) (g := w.heap.size) E (by simp))
          go_quiet ((fail))
          replace E := Lib.hid (S8.drewN E.out nq)
          go_wp2_with fail
          go_ret
          exact ⟨ri8 HZ.out.symm, E.out.bel⟩
        ·
          have heq : y = y' := by omega
          have HEQ := Lib.hid heq
          clear heq
          have d1 : decide (y < y') = false := by exact decide_eq_false h1
          have d2 : decide (y' < y) = false := by exact decide_eq_false h2
          clear h1 h2
          obtain ⟨p0, p1, p2, pf0, pf1, pf2, plt⟩ := (S8.at_ (x0 := .int .i64 y') (x1 := .int .i64 m') (x2 := .int .i64 d') (g := w.heap.size + 1 + 1 + 1) E (by simp))
          obtain ⟨q0, q1, q2, qf0, qf1, qf2, qlt⟩ := (S8.at_ (x0 := .int .i64 y) (x1 := .int .i64 m) (x2 := .int .i64 d) (g := w.heap.size + 1 + 1) E (by simp))
          obtain ⟨r0, r1, r2, rf0, rf1, rf2, rlt⟩ := (S8.at_ (x0 := .int .i64 y') (x1 := .int .i64 m') (x2 := .int .i64 d') (g := w.heap.size + 1) E (by simp))
          obtain ⟨s0, s1, s2, sf0, sf1, sf2, slt⟩ := (S8.at_ (x0 := .int .i64 y) (x1 := .int .i64 m) (x2 := .int .i64 d) (g := w.heap.size) E (by simp))
          go_wp2_with fail
          go_quiet ((fail))
          replace E := Lib.hid (S8.drewN E.out nq)
          go_wp2_with fail
          obtain ⟨W1, hW1⟩ : ∃ v, v = World.drewN wr nq := ⟨_, rfl⟩
          rw [← hW1] at E ⊢
          clear hW1
          clear p0 p1 p2 pf0 pf1 pf2 plt q0 q1 q2 qf0 qf1 qf2 qlt r0 r1 r2 rf0 rf1 rf2 rlt s0 s1 s2 sf0 sf1 sf2 slt
          obtain ⟨p0, p1, p2, pf0, pf1, pf2, plt⟩ := (S8.at_ (x0 := .int .i64 y') (x1 := .int .i64 m') (x2 := .int .i64 d') (g := w.heap.size + 1 + 1 + 1) E (by simp))
          obtain ⟨q0, q1, q2, qf0, qf1, qf2, qlt⟩ := (S8.at_ (x0 := .int .i64 y) (x1 := .int .i64 m) (x2 := .int .i64 d) (g := w.heap.size + 1 + 1) E (by simp))
          obtain ⟨r0, r1, r2, rf0, rf1, rf2, rlt⟩ := (S8.at_ (x0 := .int .i64 y') (x1 := .int .i64 m') (x2 := .int .i64 d') (g := w.heap.size + 1) E (by simp))
          obtain ⟨s0, s1, s2, sf0, sf1, sf2, slt⟩ := (S8.at_ (x0 := .int .i64 y) (x1 := .int .i64 m) (x2 := .int .i64 d) (g := w.heap.size) E (by simp))
          go_quiet ((fail))
          replace E := Lib.hid (S8.drewN E.out nq)
          go_wp2_with fail
          go_roundw
          case rel => exact ⟨1, by go_num, .inr (.inl ⟨rfl, HEQ.out⟩), E.out⟩
          case measure => simp [intOf]
    ·
      have Hhy := Lib.hid hy
      clear hy
      by_cases h1 : m < m'
      ·
        have HZ : Hid (c = -1) := by show _ = _; rw [← HC.out]; unfold cmp8; have := HC.out; have := Hhy.out; (repeat' split) <;> omega
        have d1 : decide (m < m') = true := by exact decide_eq_true h1
        clear h1
        obtain ⟨p0, p1, p2, pf0, pf1, pf2, plt⟩ := (S8.at_ (x0 := .int .i64 y') (x1 := .int .i64 m') (x2 := .int .i64 d') (g := w.heap.size + 1 + 1 + 1) E (by simp))
        obtain ⟨q0, q1, q2, qf0, qf1, qf2, qlt⟩ := (S8.at_ (x0 := .int .i64 y) (x1 := .int .i64 m) (x2 := .int .i64 d) (g := w.heap.size + 1 + 1) E (by simp))
        obtain ⟨r0, r1, r2, rf0, rf1, rf2, rlt⟩ := (S8.at_ (x0 := .int .i64 y') (x1 := .int .i64 m') (x2 := .int .i64 d') (g := w.heap.size + 1) E (by simp))
        obtain ⟨s0, s1, s2, sf0, sf1, sf2, slt⟩ := (S8.at_ (x0 := .int .i64 y) (x1 := .int .i64 m) (x2 := .int .i64 d) (g := w.heap.size) E (by simp))
        go_wp2_with fail
        go_quiet ((fail))
        replace E := Lib.hid (S8.drewN E.out nq)
        go_wp2_with fail
        go_ret
        exact ⟨ri8 HZ.out.symm, E.out.bel⟩
      ·
        by_cases h2 : m' < m
        ·
          have HZ : Hid (c = 1) := by show _ = _; rw [← HC.out]; unfold cmp8; have := HC.out; have := Hhy.out; (repeat' split) <;> omega
          have d1 : decide (m < m') = false := by exact decide_eq_false h1
          have d2 : decide (m' < m) = true := by exact decide_eq_true h2
          clear h1 h2
          obtain ⟨p0, p1, p2, pf0, pf1, pf2, plt⟩ := (S8.at_ (x0 := .int .i64 y') (x1 := .int .i64 m') (x2 := .int .i64 d') (g := w.heap.size + 1 + 1 + 1) E (by simp))
          obtain ⟨q0, q1, q2, qf0, qf1, qf2, qlt⟩ := (S8.at_ (x0 := .int .i64 y) (x1 := .int .i64 m) (x2 := .int .i64 d) (g := w.heap.size + 1 + 1) E (by simp))
          obtain ⟨r0, r1, r2, rf0, rf1, rf2, rlt⟩ := (S8.at_ (x0 := .int .i64 y') (x1 := .int .i64 m') (x2 := .int .i64 d') (g := w.heap.size + 1) E (by simp))
          obtain ⟨s0, s1, s2, sf0, sf1, sf2, slt⟩ := (S8.at_ (x0 := .int .i64 y) (x1 := .int .i64 m) (x2 := .int .i64 d) (g := w.heap.size) E (by simp))
          go_wp2_with fail
          go_quiet ((fail))
          replace E := Lib.hid (S8.drewN E.out nq)
          go_wp2_with fail
          obtain ⟨W1, hW1⟩ : ∃ v, v = World.drewN wr nq := ⟨_, rfl⟩
          rw [← hW1] at E ⊢
          clear hW1
          clear p0 p1 p2 pf0 pf1 pf2 plt q0 q1 q2 qf0 qf1 qf2 qlt r0 r1 r2 rf0 rf1 rf2 rlt s0 s1 s2 sf0 sf1 sf2 slt
          obtain ⟨p0, p1, p2, pf0, pf1, pf2, plt⟩ := (S8.at_ (x0 := .int .i64 y') (x1 := .int .i64 m') (x2 := .int .i64 d') (g := w.heap.size + 1 + 1 + 1) E (by simp))
          obtain ⟨q0, q1, q2, qf0, qf1, qf2, qlt⟩ := (S8.at_ (x0 := .int .i64 y) (x1 := .int .i64 m) (x2 := .int .i64 d) (g := w.heap.size + 1 + 1) E (by simp))
          obtain ⟨r0, r1, r2, rf0, rf1, rf2, rlt⟩ := (S8.at_ (x0 := .int .i64 y') (x1 := .int .i64 m') (x2 := .int .i64 d') (g := w.heap.size + 1) E (by simp))
          obtain ⟨s0, s1, s2, sf0, sf1, sf2, slt⟩ := (S8.at_ (x0 := .int .i64 y) (x1 := .int .i64 m) (x2 := .int .i64 d) (g := w.heap.size) E (by simp))
          go_quiet ((fail))
          replace E := Lib.hid (S8.drewN E.out nq)
          go_wp2_with fail
          go_ret
          exact ⟨ri8 HZ.out.symm, E.out.bel⟩
        ·
          have heq : m = m' := by omega
          have HEQ := Lib.hid heq
          clear heq
          have d1 : decide (m < m') = false := by exact decide_eq_false h1
          have d2 : decide (m' < m) = false := by exact decide_eq_false h2
          clear h1 h2
          obtain ⟨p0, p1, p2, pf0, pf1, pf2, plt⟩ := (S8.at_ (x0 := .int .i64 y') (x1 := .int .i64 m') (x2 := .int .i64 d') (g := w.heap.size + 1 + 1 + 1) E (by simp))
          obtain ⟨q0, q1, q2, qf0, qf1, qf2, qlt⟩ := (S8.at_ (x0 := .int .i64 y) (x1 := .int .i64 m) (x2 := .int .i64 d) (g := w.heap.size + 1 + 1) E (by simp))
          obtain ⟨r0, r1, r2, rf0, rf1, rf2, rlt⟩ := (S8.at_ (x0 := .int .i64 y') (x1 := .int .i64 m') (x2 := .int .i64 d') (g := w.heap.size + 1) E (by simp))
          obtain ⟨s0, s1, s2, sf0, sf1, sf2, slt⟩ := (S8.at_ (x0 := .int .i64 y) (x1 := .int .i64 m) (x2 := .int .i64 d) (g := w.heap.size) E (by simp))
          go_wp2_with fail
          go_quiet ((fail))
          replace E := Lib.hid (S8.drewN E.out nq)
          go_wp2_with fail
          obtain ⟨W1, hW1⟩ : ∃ v, v = World.drewN wr nq := ⟨_, rfl⟩
          rw [← hW1] at E ⊢
          clear hW1
          clear p0 p1 p2 pf0 pf1 pf2 plt q0 q1 q2 qf0 qf1 qf2 qlt r0 r1 r2 rf0 rf1 rf2 rlt s0 s1 s2 sf0 sf1 sf2 slt
          obtain ⟨p0, p1, p2, pf0, pf1, pf2, plt⟩ := (S8.at_ (x0 := .int .i64 y') (x1 := .int .i64 m') (x2 := .int .i64 d') (g := w.heap.size + 1 + 1 + 1) E (by simp))
          obtain ⟨q0, q1, q2, qf0, qf1, qf2, qlt⟩ := (S8.at_ (x0 := .int .i64 y) (x1 := .int .i64 m) (x2 := .int .i64 d) (g := w.heap.size + 1 + 1) E (by simp))
          obtain ⟨r0, r1, r2, rf0, rf1, rf2, rlt⟩ := (S8.at_ (x0 := .int .i64 y') (x1 := .int .i64 m') (x2 := .int .i64 d') (g := w.heap.size + 1) E (by simp))
          obtain ⟨s0, s1, s2, sf0, sf1, sf2, slt⟩ := (S8.at_ (x0 := .int .i64 y) (x1 := .int .i64 m) (x2 := .int .i64 d) (g := w.heap.size) E (by simp))
          go_quiet ((fail))
          replace E := Lib.hid (S8.drewN E.out nq)
          go_wp2_with fail
          go_roundw
          case rel => exact ⟨2, by go_num, .inr (.inr (.inl ⟨rfl, Hhy.out, HEQ.out⟩)), E.out⟩
          case measure => simp [intOf]
    ·
      have Hhy := Lib.hid hy
      clear hy
      have Hhm := Lib.hid hm
      clear hm
      by_cases h1 : d < d'
      ·
        have HZ : Hid (c = -1) := by show _ = _; rw [← HC.out]; unfold cmp8; have := HC.out; have := Hhy.out; have := Hhm.out; (repeat' split) <;> omega
        have d1 : decide (d < d') = true := by exact decide_eq_true h1
        clear h1
        obtain ⟨p0, p1, p2, pf0, pf1, pf2, plt⟩ := (S8.at_ (x0 := .int .i64 y') (x1 := .int .i64 m') (x2 := .int .i64 d') (g := w.heap.size + 1 + 1 + 1) E (by simp))
        obtain ⟨q0, q1, q2, qf0, qf1, qf2, qlt⟩ := (S8.at_ (x0 := .int .i64 y) (x1 := .int .i64 m) (x2 := .int .i64 d) (g := w.heap.size + 1 + 1) E (by simp))
        obtain ⟨r0, r1, r2, rf0, rf1, rf2, rlt⟩ := (S8.at_ (x0 := .int .i64 y') (x1 := .int .i64 m') (x2 := .int .i64 d') (g := w.heap.size + 1) E (by simp))
        obtain ⟨s0, s1, s2, sf0, sf1, sf2, slt⟩ := (S8.at_ (x0 := .int .i64 y) (x1 := .int .i64 m) (x2 := .int .i64 d) (g := w.heap.size) E (by simp))
        go_wp2_with fail
        go_quiet ((fail))
        replace E := Lib.hid (S8.drewN E.out nq)
        go_wp2_with fail
        go_ret
        exact ⟨ri8 HZ.out.symm, E.out.bel⟩
      ·
        by_cases h2 : d' < d
        ·
          have HZ : Hid (c = 1) := by show _ = _; rw [← HC.out]; unfold cmp8; have := HC.out; have := Hhy.out; have := Hhm.out; (repeat' split) <;> omega
          have d1 : decide (d < d') = false := by exact decide_eq_false h1
          have d2 : decide (d' < d) = true := by exact decide_eq_true h2
          clear h1 h2
          obtain ⟨p0, p1, p2, pf0, pf1, pf2, plt⟩ := (S8.at_ (x0 := .int .i64 y') (x1 := .int .i64 m') (x2 := .int .i64 d') (g := w.heap.size + 1 + 1 + 1) E (by simp))
          obtain ⟨q0, q1, q2, qf0, qf1, qf2, qlt⟩ := (S8.at_ (x0 := .int .i64 y) (x1 := .int .i64 m) (x2 := .int .i64 d) (g := w.heap.size + 1 + 1) E (by simp))
          obtain ⟨r0, r1, r2, rf0, rf1, rf2, rlt⟩ := (S8.at_ (x0 := .int .i64 y') (x1 := .int .i64 m') (x2 := .int .i64 d') (g := w.heap.size + 1) E (by simp))
          obtain ⟨s0, s1, s2, sf0, sf1, sf2, slt⟩ := (S8.at_ (x0 := .int .i64 y) (x1 := .int .i64 m) (x2 := .int .i64 d) (g := w.heap.size) E (by simp))
          go_wp2_with fail
          go_quiet ((fail))
          replace E := Lib.hid (S8.drewN E.out nq)
          go_wp2_with fail
          obtain ⟨W1, hW1⟩ : ∃ v, v = World.drewN wr nq := ⟨_, rfl⟩
          rw [← hW1] at E ⊢
          clear hW1
          clear p0 p1 p2 pf0 pf1 pf2 plt q0 q1 q2 qf0 qf1 qf2 qlt r0 r1 r2 rf0 rf1 rf2 rlt s0 s1 s2 sf0 sf1 sf2 slt
          obtain ⟨p0, p1, p2, pf0, pf1, pf2, plt⟩ := (S8.at_ (x0 := .int .i64 y') (x1 := .int .i64 m') (x2 := .int .i64 d') (g := w.heap.size + 1 + 1 + 1) E (by simp))
          obtain ⟨q0, q1, q2, qf0, qf1, qf2, qlt⟩ := (S8.at_ (x0 := .int .i64 y) (x1 := .int .i64 m) (x2 := .int .i64 d) (g := w.heap.size + 1 + 1) E (by simp))
          obtain ⟨r0, r1, r2, rf0, rf1, rf2, rlt⟩ := (S8.at_ (x0 := .int .i64 y') (x1 := .int .i64 m') (x2 := .int .i64 d') (g := w.heap.size + 1) E (by simp))
          obtain ⟨s0, s1, s2, sf0, sf1, sf2, slt⟩ := (S8.at_ (x0 := .int .i64 y) (x1 := .int .i64 m) (x2 := .int .i64 d) (g := w.heap.size) E (by simp))
          go_quiet ((fail))
          replace E := Lib.hid (S8.drewN E.out nq)
          go_wp2_with fail
          go_ret
          exact ⟨ri8 HZ.out.symm, E.out.bel⟩
        ·
          have heq : d = d' := by omega
          have HEQ := Lib.hid heq
          clear heq
          have d1 : decide (d < d') = false := by exact decide_eq_false h1
          have d2 : decide (d' < d) = false := by exact decide_eq_false h2
          clear h1 h2
          obtain ⟨p0, p1, p2, pf0, pf1, pf2, plt⟩ := (S8.at_ (x0 := .int .i64 y') (x1 := .int .i64 m') (x2 := .int .i64 d') (g := w.heap.size + 1 + 1 + 1) E (by simp))
          obtain ⟨q0, q1, q2, qf0, qf1, qf2, qlt⟩ := (S8.at_ (x0 := .int .i64 y) (x1 := .int .i64 m) (x2 := .int .i64 d) (g := w.heap.size + 1 + 1) E (by simp))
          obtain ⟨r0, r1, r2, rf0, rf1, rf2, rlt⟩ := (S8.at_ (x0 := .int .i64 y') (x1 := .int .i64 m') (x2 := .int .i64 d') (g := w.heap.size + 1) E (by simp))
          obtain ⟨s0, s1, s2, sf0, sf1, sf2, slt⟩ := (S8.at_ (x0 := .int .i64 y) (x1 := .int .i64 m) (x2 := .int .i64 d) (g := w.heap.size) E (by simp))
          go_wp2_with fail
          go_quiet ((fail))
          replace E := Lib.hid (S8.drewN E.out nq)
          go_wp2_with fail
          obtain ⟨W1, hW1⟩ : ∃ v, v = World.drewN wr nq := ⟨_, rfl⟩
          rw [← hW1] at E ⊢
          clear hW1
          clear p0 p1 p2 pf0 pf1 pf2 plt q0 q1 q2 qf0 qf1 qf2 qlt r0 r1 r2 rf0 rf1 rf2 rlt s0 s1 s2 sf0 sf1 sf2 slt
          obtain ⟨p0, p1, p2, pf0, pf1, pf2, plt⟩ := (S8.at_ (x0 := .int .i64 y') (x1 := .int .i64 m') (x2 := .int .i64 d') (g := w.heap.size + 1 + 1 + 1) E (by simp))
          obtain ⟨q0, q1, q2, qf0, qf1, qf2, qlt⟩ := (S8.at_ (x0 := .int .i64 y) (x1 := .int .i64 m) (x2 := .int .i64 d) (g := w.heap.size + 1 + 1) E (by simp))
          obtain ⟨r0, r1, r2, rf0, rf1, rf2, rlt⟩ := (S8.at_ (x0 := .int .i64 y') (x1 := .int .i64 m') (x2 := .int .i64 d') (g := w.heap.size + 1) E (by simp))
          obtain ⟨s0, s1, s2, sf0, sf1, sf2, slt⟩ := (S8.at_ (x0 := .int .i64 y) (x1 := .int .i64 m) (x2 := .int .i64 d) (g := w.heap.size) E (by simp))
          go_quiet ((fail))
          replace E := Lib.hid (S8.drewN E.out nq)
          go_wp2_with fail
          go_roundw
          case rel => exact ⟨3, by go_num, .inr (.inr (.inr ⟨rfl, Hhy.out, Hhm.out, HEQ.out⟩)), E.out⟩
          case measure => simp [intOf]
    ·
      have HZ : Hid (c = 0) := by show _ = _; rw [← HC.out]; exact (cmp8_zero ..).2 ⟨hy, hm, hd⟩
      clear hy hm hd
      go_wp2_with fail
      go_ret
      exact ⟨ri8 HZ.out.symm, E.out.bel⟩

end Go.Proofs.YtnndamhilbcdfaaDoor
