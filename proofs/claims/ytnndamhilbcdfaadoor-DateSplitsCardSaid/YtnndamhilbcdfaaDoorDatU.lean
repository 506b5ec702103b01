/-
  DateRows answers true.
-/
import Derived.Test.YtnndamhilbcdfaaDoorDatT
set_option linter.unusedVariables false
set_option linter.unusedSimpArgs false
set_option linter.unusedVariables false
set_option linter.unusedSimpArgs false
namespace Go.Proofs.YtnndamhilbcdfaaDoor
open Go.RowKit

theorem u64_bd (n : Int) : 0 ≤ IntKind.u64.wrap n ∧ IntKind.u64.wrap n < 18446744073709551616 := by
  exact ⟨Int.emod_nonneg _ (by decide), Int.emod_lt_of_pos _ (by decide)⟩
/-- What is told is read. -/
theorem isd8_dg (k : Nat) (h : k < 10) : isd8 (dg8 k) = true ∧ (dg8 k).toNat - 48 = k := by
  have : k = 0 ∨ k = 1 ∨ k = 2 ∨ k = 3 ∨ k = 4 ∨ k = 5 ∨ k = 6 ∨ k = 7 ∨ k = 8 ∨ k = 9 := by omega
  rcases this with rfl | rfl | rfl | rfl | rfl | rfl | rfl | rfl | rfl | rfl <;> decide
theorem nm8_two {n : Nat} (h : n < 100) : nm8 (two8 n) = n := by
  have a := isd8_dg (n / 10 % 10) (by omega)
  have b := isd8_dg (n % 10) (by omega)
  unfold nm8 two8
  rw [if_pos (by simp [a.1, b.1])]
  unfold nmv8
  simp only [List.foldl_cons, List.foldl_nil, a.2, b.2]
  omega
theorem nm8_four {n : Nat} (h : n < 10000) : nm8 (four8 n) = n := by
  have a := isd8_dg (n / 1000 % 10) (by omega)
  have b := isd8_dg (n / 100 % 10) (by omega)
  have c := isd8_dg (n / 10 % 10) (by omega)
  have d := isd8_dg (n % 10) (by omega)
  unfold nm8 four8
  rw [if_pos (by simp [a.1, b.1, c.1, d.1])]
  unfold nmv8
  simp only [List.foldl_cons, List.foldl_nil, a.2, b.2, c.2, d.2]
  omega
theorem txt8_size (y m d : Nat) : (txt8 y m d).size = 10 := rfl
theorem told8 {y m d : Nat} (hy : y < 10000) (hm : m < 100) (hd : d < 100) : frm8 (txt8 y m d) = true ∧ prY (txt8 y m d) = y ∧ prM (txt8 y m d) = m ∧ prD (txt8 y m d) = d := by
  refine ⟨?_, ?_, ?_, ?_⟩
  · rw [frm8_iff (txt8_size y m d)]
    exact ⟨rfl, .inl rfl⟩
  · exact (show prY (txt8 y m d) = nm8 (four8 y) by rfl).trans (nm8_four hy)
  · exact (show prM (txt8 y m d) = nm8 (two8 m) by rfl).trans (nm8_two hm)
  · exact (show prD (txt8 y m d) = nm8 (two8 d) by rfl).trans (nm8_two hd)
theorem told_day {y m d : Int} (h : ok8 y m d = true) : (text8 y m d).size = 10 ∧ frm8 (text8 y m d) = true ∧ prY (text8 y m d) = y ∧ prM (text8 y m d) = m ∧ prD (text8 y m d) = d := by
  obtain ⟨h1, h2, h3, h4, h5, h6⟩ := ok8_iff.1 h
  have hl := len8_bd y m
  rw [text8_ok h]
  obtain ⟨g1, g2, g3, g4⟩ := told8 (y := y.toNat) (m := m.toNat) (d := d.toNat) (by omega) (by omega) (by omega)
  exact ⟨txt8_size _ _ _, g1, by rw [g2]; omega, by rw [g3]; omega, by rw [g4]; omega⟩

set_option maxHeartbeats 4000000 in
set_option maxRecDepth 100000 in
theorem rows8_law (n : Int)  (w : World) (hT : Tabs w) : Calls Tryd.prog 4 #[.int .i64 n] w (Ret8 w (.bool true)) := by
  have HT := Lib.hid hT
  clear hT
  obtain ⟨u, hu⟩ : ∃ u, IntKind.u64.wrap n = u := ⟨_, rfl⟩
  have hub := u64_bd n
  rw [hu] at hub
  obtain ⟨u0, u1⟩ := hub
  obtain ⟨k, hk⟩ : ∃ k, u % 3652058 + 1 = k := ⟨_, rfl⟩
  have k1 : 1 ≤ k := by omega
  have k2 : k ≤ 3652058 := by omega
  have e2 : 1 + u % 3652058 = k := by omega
  obtain ⟨y, m, d, hr, hn⟩ := day_of k1 (by omega)
  obtain ⟨Y, M, Z, hx⟩ := nxt_of hr (not_last hr (by omega))
  have hro := hx.ok hr
  obtain ⟨t1, t2, t3, t4, t5⟩ := told_day hr
  obtain ⟨S, hS⟩ : ∃ S, text8 y m d = S := ⟨_, rfl⟩
  rw [hS] at t1 t2 t3 t4 t5
  have HS := Lib.hid hS
  have T2 := Lib.hid t2
  have T3 := Lib.hid t3
  have T4 := Lib.hid t4
  have T5 := Lib.hid t5
  have z1 : (S.size : Int) = 10 := by omega
  have HR := Lib.hid hr
  have HN := Lib.hid hn
  have HX := Lib.hid hx
  have HO := Lib.hid hro
  have HD : Hid (days8 y m d = k) := (days8_ok hr).trans hn
  have HE : Hid (days8 Y M Z = k + 1) := by show _ = _; rw [days8_ok hro, hx.num hr, hn]
  have HC : Hid (cmp8 y m d Y M Z = -1) := hx.lt
  clear hk hr hn hx hro hS t1 t2 t3 t4 t5
  have E : Hid (S8 w w []) := S8.start w HT.out
  go_enter Tryd.func4, Tryd.ntmps4
  go_wp2_with fail
  refine (of_is E.out.tab HR.out HN.out).mono ?_; rintro e w1 ⟨rfl, hb⟩; replace E := Lib.hid (S8.step E.out hb); clear hb
  go_wp2_with fail
  replace E := Lib.hid (S8.lay (t := 23) (x0 := .int .i64 y) (x1 := .int .i64 m) (x2 := .int .i64 d) (g := w1.heap.size) E.out rfl)
  generalize hW2 : World.alloc w1 _ = V1 at E ⊢
  clear hW2
  refine (next_is E.out.tab HR.out HX.out).mono ?_; rintro e w2 ⟨rfl, hb⟩; replace E := Lib.hid (S8.step E.out hb); clear hb
  go_wp2_with fail
  replace E := Lib.hid (S8.lay (t := 23) (x0 := .int .i64 Y) (x1 := .int .i64 M) (x2 := .int .i64 Z) (g := w2.heap.size) E.out rfl)
  generalize hW2 : World.alloc w2 _ = V2 at E ⊢
  clear hW2
  refine (before_is E.out.tab HO.out HR.out HX.out).mono ?_; rintro e w3 ⟨rfl, hb⟩; replace E := Lib.hid (S8.step E.out hb); clear hb
  obtain ⟨q0, q1, q2, qf0, qf1, qf2, qlt⟩ := (S8.at_ (x0 := .int .i64 y) (x1 := .int .i64 m) (x2 := .int .i64 d) (g := w1.heap.size) E (by simp))
  go_wp2_with fail
  clear q0 q1 q2 qf0 qf1 qf2 qlt
  replace E := Lib.hid (S8.lay (t := 23) (x0 := .int .i64 y) (x1 := .int .i64 m) (x2 := .int .i64 d) (g := w3.heap.size) E.out rfl)
  generalize hW2 : World.alloc w3 _ = V3 at E ⊢
  clear hW2
  refine (text_is E.out.tab HS.out).mono ?_; rintro e w4 ⟨rfl, hb⟩; replace E := Lib.hid (S8.step E.out hb); clear hb
  go_wp2_with fail
  refine (parse_is E.out.tab T2.out T3.out T4.out T5.out HR.out).mono ?_; rintro e w5 ⟨rfl, hb⟩; replace E := Lib.hid (S8.step E.out hb); clear hb
  obtain ⟨p0, p1, p2, pf0, pf1, pf2, plt⟩ := (S8.at_ (x0 := .int .i64 y) (x1 := .int .i64 m) (x2 := .int .i64 d) (g := w3.heap.size) E (by simp))
  obtain ⟨q0, q1, q2, qf0, qf1, qf2, qlt⟩ := (S8.at_ (x0 := .int .i64 Y) (x1 := .int .i64 M) (x2 := .int .i64 Z) (g := w2.heap.size) E (by simp))
  obtain ⟨r0, r1, r2, rf0, rf1, rf2, rlt⟩ := (S8.at_ (x0 := .int .i64 y) (x1 := .int .i64 m) (x2 := .int .i64 d) (g := w1.heap.size) E (by simp))
  go_wp2_with fail
  clear p0 p1 p2 pf0 pf1 pf2 plt q0 q1 q2 qf0 qf1 qf2 qlt r0 r1 r2 rf0 rf1 rf2 rlt
  replace E := Lib.hid (S8.lay (t := 23) (x0 := .int .i64 y) (x1 := .int .i64 m) (x2 := .int .i64 d) (g := w5.heap.size) E.out rfl)
  generalize hW2 : World.alloc w5 _ = V9 at E ⊢
  clear hW2
  refine (right_is E.out.tab HR.out).mono ?_; rintro e w6 ⟨rfl, hb⟩; replace E := Lib.hid (S8.step E.out hb); clear hb
  obtain ⟨s0, s1, s2, sf0, sf1, sf2, slt⟩ := (S8.at_ (x0 := .int .i64 y) (x1 := .int .i64 m) (x2 := .int .i64 d) (g := w1.heap.size) E (by simp))
  go_wp2_with fail
  clear s0 s1 s2 sf0 sf1 sf2 slt
  refine (days_is E.out.tab HD.out).mono ?_; rintro e w7 ⟨rfl, hb⟩; replace E := Lib.hid (S8.step E.out hb); clear hb
  obtain ⟨r0, r1, r2, rf0, rf1, rf2, rlt⟩ := (S8.at_ (x0 := .int .i64 Y) (x1 := .int .i64 M) (x2 := .int .i64 Z) (g := w2.heap.size) E (by simp))
  go_wp2_with fail
  clear r0 r1 r2 rf0 rf1 rf2 rlt
  refine (days_is E.out.tab HE.out).mono ?_; rintro e w8 ⟨rfl, hb⟩; replace E := Lib.hid (S8.step E.out hb); clear hb
  obtain ⟨p0, p1, p2, pf0, pf1, pf2, plt⟩ := (S8.at_ (x0 := .int .i64 y) (x1 := .int .i64 m) (x2 := .int .i64 d) (g := w5.heap.size) E (by simp))
  obtain ⟨q0, q1, q2, qf0, qf1, qf2, qlt⟩ := (S8.at_ (x0 := .int .i64 y) (x1 := .int .i64 m) (x2 := .int .i64 d) (g := w3.heap.size) E (by simp))
  obtain ⟨r0, r1, r2, rf0, rf1, rf2, rlt⟩ := (S8.at_ (x0 := .int .i64 Y) (x1 := .int .i64 M) (x2 := .int .i64 Z) (g := w2.heap.size) E (by simp))
  obtain ⟨s0, s1, s2, sf0, sf1, sf2, slt⟩ := (S8.at_ (x0 := .int .i64 y) (x1 := .int .i64 m) (x2 := .int .i64 d) (g := w1.heap.size) E (by simp))
  go_wp2_with fail
  clear p0 p1 p2 pf0 pf1 pf2 plt q0 q1 q2 qf0 qf1 qf2 qlt r0 r1 r2 rf0 rf1 rf2 rlt s0 s1 s2 sf0 sf1 sf2 slt
  refine (cmp_is E.out.tab HC.out).mono ?_; rintro e w9 ⟨rfl, hb⟩; replace E := Lib.hid (S8.step E.out hb); clear hb
  obtain ⟨s0, s1, s2, sf0, sf1, sf2, slt⟩ := (S8.at_ (x0 := .int .i64 y) (x1 := .int .i64 m) (x2 := .int .i64 d) (g := w1.heap.size) E (by simp))
  go_wp2_with fail
  clear s0 s1 s2 sf0 sf1 sf2 slt
  refine (text_is E.out.tab HS.out).mono ?_; rintro e w10 ⟨rfl, hb⟩; replace E := Lib.hid (S8.step E.out hb); clear hb
  go_wp2_with fail
  refine (awake8 _ E.out.tab).mono ?_; rintro e w11 ⟨rfl, hb⟩; replace E := Lib.hid (S8.step E.out hb); clear hb
  go_wp2_with fail
  go_ret
  exact ⟨rfl, E.out.bel⟩

end Go.Proofs.YtnndamhilbcdfaaDoor
