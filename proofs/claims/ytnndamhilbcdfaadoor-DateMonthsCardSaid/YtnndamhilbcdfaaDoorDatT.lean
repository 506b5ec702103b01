/-
  The examples of layer 8 (awake) answer true, whatever the memory.
-/
import Derived.Test.YtnndamhilbcdfaaDoorDatL
set_option linter.unusedVariables false
set_option linter.unusedSimpArgs false
set_option linter.unusedVariables false
set_option linter.unusedSimpArgs false
set_option linter.unusedVariables false
set_option linter.unusedSimpArgs false
namespace Go.Proofs.YtnndamhilbcdfaaDoor
open Go.RowKit

theorem leap_ret {y : Int} {b : Bool} {w : World} (h : leap8 y = b) : Calls Tryd.prog 17 #[.int .i64 y] w (Ret8 w (.bool b)) := by
  subst h; exact (leap_any y w).mono fun _ _ h => ⟨h.1, by rw [← h.2]; exact Below.refl _ _⟩
theorem refleap_ret {y : Int} {b : Bool} {w : World} (h : leap8 y = b) : Calls Tryd.prog 18 #[.int .i64 y] w (Ret8 w (.bool b)) := by
  subst h; exact (refleap_any y w).mono fun _ _ h => ⟨h.1, by rw [← h.2]; exact Below.refl _ _⟩

set_option maxHeartbeats 4000000 in
set_option maxRecDepth 100000 in
theorem awake8  (w : World) (hT : Tabs w) : Calls Tryd.prog 8 #[] w (Ret8 w (.bool true)) := by
  have HT := Lib.hid hT
  clear hT
  have Pf : Hid (frm8 ⟨#[50, 48, 50, 52, 45, 48, 50, 45, 50, 57]⟩ = true) := (by show _ = _; decide)
  have Py : Hid (prY ⟨#[50, 48, 50, 52, 45, 48, 50, 45, 50, 57]⟩ = 2024) := (by show _ = _; decide)
  have Pm : Hid (prM ⟨#[50, 48, 50, 52, 45, 48, 50, 45, 50, 57]⟩ = 2) := (by show _ = _; decide)
  have Pd : Hid (prD ⟨#[50, 48, 50, 52, 45, 48, 50, 45, 50, 57]⟩ = 29) := (by show _ = _; decide)
  have Po : Hid (ok8 2024 2 29 = true) := (by show _ = _; decide)
  have Qf : Hid (frm8 ⟨#[50, 48, 50, 52, 47, 48, 51, 47, 48, 49]⟩ = true) := (by show _ = _; decide)
  have Qy : Hid (prY ⟨#[50, 48, 50, 52, 47, 48, 51, 47, 48, 49]⟩ = 2024) := (by show _ = _; decide)
  have Qm : Hid (prM ⟨#[50, 48, 50, 52, 47, 48, 51, 47, 48, 49]⟩ = 3) := (by show _ = _; decide)
  have Qd : Hid (prD ⟨#[50, 48, 50, 52, 47, 48, 51, 47, 48, 49]⟩ = 1) := (by show _ = _; decide)
  have Qo : Hid (ok8 2024 3 1 = true) := (by show _ = _; decide)
  have Rn : Hid (prOk ⟨#[50, 48, 50, 51, 45, 48, 50, 45, 50, 57]⟩ = false) := (by show _ = _; decide)
  have NX : Hid (Nxt 2024 2 29 2024 3 1) := (.inr (.inl ⟨by decide, by decide, rfl, rfl, rfl⟩))
  have DY : Hid (days8 2024 2 29 = 738945) := (by show _ = _; decide)
  have NM : Hid (num8 2024 2 29 = 738945) := (by show _ = _; decide)
  have D1 : Hid (days8 1 1 1 = 1) := (by show _ = _; decide)
  have CM : Hid (cmp8 2024 2 29 2024 3 1 = -1) := (by show _ = _; decide)
  have TX : Hid (text8 2024 3 1 = ⟨#[50, 48, 50, 52, 45, 48, 51, 45, 48, 49]⟩) := (by show _ = _; decide)
  have TZ : Hid (text8 0 0 0 = ⟨#[]⟩) := (by show _ = _; decide)
  have L0 : Hid (leap8 2000 = true) := (by show _ = _; decide)
  have L9 : Hid (leap8 1900 = false) := (by show _ = _; decide)
  have E : Hid (S8 w w []) := S8.start w HT.out
  go_enter Tryd.func8, Tryd.ntmps8
  go_wp2_with fail
  refine (parse_is E.out.tab Pf.out Py.out Pm.out Pd.out Po.out).mono ?_; rintro e w1 ⟨rfl, hb⟩; replace E := Lib.hid (S8.step E.out hb); clear hb
  go_wp2_with fail
  replace E := Lib.hid (S8.lay (t := 23) (x0 := .int .i64 (2024)) (x1 := .int .i64 (2)) (x2 := .int .i64 (29)) (g := w1.heap.size) E.out rfl)
  generalize hW2 : World.alloc w1 _ = V1 at E ⊢
  clear hW2
  refine (parse_no E.out.tab (by decide) Rn.out).mono ?_; rintro e w2 ⟨rfl, hb⟩; replace E := Lib.hid (S8.step E.out hb); clear hb
  go_wp2_with fail
  replace E := Lib.hid (S8.lay (t := 23) (x0 := .int .i64 (0)) (x1 := .int .i64 (0)) (x2 := .int .i64 (0)) (g := w2.heap.size) E.out rfl)
  generalize hW2 : World.alloc w2 _ = V2 at E ⊢
  clear hW2
  refine (parse_is E.out.tab Qf.out Qy.out Qm.out Qd.out Qo.out).mono ?_; rintro e w3 ⟨rfl, hb⟩; replace E := Lib.hid (S8.step E.out hb); clear hb
  obtain ⟨q0, q1, q2, qf0, qf1, qf2, qlt⟩ := (S8.at_ (x0 := .int .i64 (2024)) (x1 := .int .i64 (2)) (x2 := .int .i64 (29)) (g := w1.heap.size) E (by simp))
  go_wp2_with fail
  clear q0 q1 q2 qf0 qf1 qf2 qlt
  replace E := Lib.hid (S8.lay (t := 23) (x0 := .int .i64 (2024)) (x1 := .int .i64 (3)) (x2 := .int .i64 (1)) (g := w3.heap.size) E.out rfl)
  generalize hW2 : World.alloc w3 _ = V3 at E ⊢
  clear hW2
  refine (next_is E.out.tab Po.out NX.out).mono ?_; rintro e w4 ⟨rfl, hb⟩; replace E := Lib.hid (S8.step E.out hb); clear hb
  obtain ⟨p0, p1, p2, pf0, pf1, pf2, plt⟩ := (S8.at_ (x0 := .int .i64 (2024)) (x1 := .int .i64 (3)) (x2 := .int .i64 (1)) (g := w3.heap.size) E (by simp))
  go_wp2_with fail
  clear p0 p1 p2 pf0 pf1 pf2 plt
  replace E := Lib.hid (S8.lay (t := 23) (x0 := .int .i64 (2024)) (x1 := .int .i64 (3)) (x2 := .int .i64 (1)) (g := w4.heap.size) E.out rfl)
  generalize hW2 : World.alloc w4 _ = V4 at E ⊢
  clear hW2
  refine (before_is E.out.tab Qo.out Po.out NX.out).mono ?_; rintro e w5 ⟨rfl, hb⟩; replace E := Lib.hid (S8.step E.out hb); clear hb
  obtain ⟨s0, s1, s2, sf0, sf1, sf2, slt⟩ := (S8.at_ (x0 := .int .i64 (2024)) (x1 := .int .i64 (2)) (x2 := .int .i64 (29)) (g := w1.heap.size) E (by simp))
  go_wp2_with fail
  clear s0 s1 s2 sf0 sf1 sf2 slt
  replace E := Lib.hid (S8.lay (t := 23) (x0 := .int .i64 (2024)) (x1 := .int .i64 (2)) (x2 := .int .i64 (29)) (g := w5.heap.size) E.out rfl)
  generalize hW2 : World.alloc w5 _ = V5 at E ⊢
  clear hW2
  refine (days_is E.out.tab DY.out).mono ?_; rintro e w6 ⟨rfl, hb⟩; replace E := Lib.hid (S8.step E.out hb); clear hb
  go_wp2_with fail
  refine (of_is E.out.tab Po.out NM.out).mono ?_; rintro e w7 ⟨rfl, hb⟩; replace E := Lib.hid (S8.step E.out hb); clear hb
  go_wp2_with fail
  replace E := Lib.hid (S8.lay (t := 23) (x0 := .int .i64 (2024)) (x1 := .int .i64 (2)) (x2 := .int .i64 (29)) (g := w7.heap.size) E.out rfl)
  generalize hW2 : World.alloc w7 _ = V6 at E ⊢
  clear hW2
  refine (of_no (.inl (by decide))).mono ?_; rintro e w8 ⟨rfl, hb⟩; replace E := Lib.hid (S8.step E.out hb); clear hb
  go_wp2_with fail
  replace E := Lib.hid (S8.lay (t := 23) (x0 := .int .i64 (0)) (x1 := .int .i64 (0)) (x2 := .int .i64 (0)) (g := w8.heap.size) E.out rfl)
  generalize hW2 : World.alloc w8 _ = V7 at E ⊢
  clear hW2
  refine (next_no E.out.tab (.inr ⟨rfl, rfl, rfl⟩)).mono ?_; rintro e w9 ⟨rfl, hb⟩; replace E := Lib.hid (S8.step E.out hb); clear hb
  obtain ⟨q0, q1, q2, qf0, qf1, qf2, qlt⟩ := (S8.at_ (x0 := .int .i64 (2024)) (x1 := .int .i64 (2)) (x2 := .int .i64 (29)) (g := w7.heap.size) E (by simp))
  obtain ⟨r0, r1, r2, rf0, rf1, rf2, rlt⟩ := (S8.at_ (x0 := .int .i64 (2024)) (x1 := .int .i64 (2)) (x2 := .int .i64 (29)) (g := w5.heap.size) E (by simp))
  obtain ⟨s0, s1, s2, sf0, sf1, sf2, slt⟩ := (S8.at_ (x0 := .int .i64 (2024)) (x1 := .int .i64 (3)) (x2 := .int .i64 (1)) (g := w4.heap.size) E (by simp))
  obtain ⟨t0, t1, t2, tf0, tf1, tf2, tlt⟩ := (S8.at_ (x0 := .int .i64 (2024)) (x1 := .int .i64 (3)) (x2 := .int .i64 (1)) (g := w3.heap.size) E (by simp))
  obtain ⟨v0, v1, v2, vf0, vf1, vf2, vlt⟩ := (S8.at_ (x0 := .int .i64 (2024)) (x1 := .int .i64 (2)) (x2 := .int .i64 (29)) (g := w1.heap.size) E (by simp))
  go_wp2_with fail
  clear q0 q1 q2 qf0 qf1 qf2 qlt r0 r1 r2 rf0 rf1 rf2 rlt s0 s1 s2 sf0 sf1 sf2 slt t0 t1 t2 tf0 tf1 tf2 tlt v0 v1 v2 vf0 vf1 vf2 vlt
  replace E := Lib.hid (S8.lay (t := 23) (x0 := .int .i64 (0)) (x1 := .int .i64 (0)) (x2 := .int .i64 (0)) (g := w9.heap.size) E.out rfl)
  generalize hW2 : World.alloc w9 _ = V9 at E ⊢
  clear hW2
  refine (days_is E.out.tab D1.out).mono ?_; rintro e w10 ⟨rfl, hb⟩; replace E := Lib.hid (S8.step E.out hb); clear hb
  obtain ⟨u0, u1, u2, uf0, uf1, uf2, ult⟩ := (S8.at_ (x0 := .int .i64 (2024)) (x1 := .int .i64 (3)) (x2 := .int .i64 (1)) (g := w3.heap.size) E (by simp))
  obtain ⟨a0, a1, a2, af0, af1, af2, alt⟩ := (S8.at_ (x0 := .int .i64 (2024)) (x1 := .int .i64 (2)) (x2 := .int .i64 (29)) (g := w1.heap.size) E (by simp))
  go_wp2_with fail
  clear u0 u1 u2 uf0 uf1 uf2 ult a0 a1 a2 af0 af1 af2 alt
  refine (cmp_is E.out.tab CM.out).mono ?_; rintro e w11 ⟨rfl, hb⟩; replace E := Lib.hid (S8.step E.out hb); clear hb
  obtain ⟨u0, u1, u2, uf0, uf1, uf2, ult⟩ := (S8.at_ (x0 := .int .i64 (2024)) (x1 := .int .i64 (3)) (x2 := .int .i64 (1)) (g := w3.heap.size) E (by simp))
  go_wp2_with fail
  clear u0 u1 u2 uf0 uf1 uf2 ult
  refine (text_is E.out.tab TX.out).mono ?_; rintro e w12 ⟨rfl, hb⟩; replace E := Lib.hid (S8.step E.out hb); clear hb
  go_wp2_with fail
  refine (text_is E.out.tab TZ.out).mono ?_; rintro e w13 ⟨rfl, hb⟩; replace E := Lib.hid (S8.step E.out hb); clear hb
  go_wp2_with fail
  refine (leap_ret L0.out).mono ?_; rintro e w14 ⟨rfl, hb⟩; replace E := Lib.hid (S8.step E.out hb); clear hb
  go_wp2_with fail
  refine (leap_ret L9.out).mono ?_; rintro e w15 ⟨rfl, hb⟩; replace E := Lib.hid (S8.step E.out hb); clear hb
  obtain ⟨a0, a1, a2, af0, af1, af2, alt⟩ := (S8.at_ (x0 := .int .i64 (2024)) (x1 := .int .i64 (2)) (x2 := .int .i64 (29)) (g := w1.heap.size) E (by simp))
  go_wp2_with fail
  clear a0 a1 a2 af0 af1 af2 alt
  refine (right_is E.out.tab Po.out).mono ?_; rintro e w16 ⟨rfl, hb⟩; replace E := Lib.hid (S8.step E.out hb); clear hb
  go_wp2_with fail
  go_ret
  exact ⟨rfl, E.out.bel⟩

end Go.Proofs.YtnndamhilbcdfaaDoor
