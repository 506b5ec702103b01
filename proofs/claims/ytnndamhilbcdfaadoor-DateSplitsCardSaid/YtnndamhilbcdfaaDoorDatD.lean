/-
  Contracts of layer 8, the fourth part: Days and the document's, daysAhead, yearOf.
-/
import Derived.Test.YtnndamhilbcdfaaDoorDatC
set_option linter.unusedVariables false
set_option linter.unusedSimpArgs false
set_option linter.unusedVariables false
set_option linter.unusedSimpArgs false
set_option linter.unusedVariables false
set_option linter.unusedSimpArgs false
namespace Go.Proofs.YtnndamhilbcdfaaDoor
open Go.RowKit

set_option maxHeartbeats 2000000 in
set_option maxRecDepth 100000 in
theorem ahead_any (y : Int) (w : World) (h1 : 1 ≤ y) (h2 : y ≤ 10001) : Calls Tryd.prog 40 #[.int .i64 y] w fun e w' => e = .returned (.int .i64 (dby8 y)) ∧ w = w' := by
  go_enter Tryd.func40, Tryd.ntmps40
  go_wp2
  go_ret
  exact ⟨rfl, rfl⟩
theorem ahead_q (y : Int) (w : World) (h1 : 1 ≤ y) (h2 : y ≤ 10001) : Calls Tryd.prog 40 #[.int .i64 y] w fun e w' => e = .returned (.int .i64 (dby8 y)) ∧ w' = w :=
  (ahead_any y w h1 h2).mono fun _ _ h => ⟨h.1, h.2.symm⟩

theorem ahead_is {x y : Int} {w : World} (hx : x = y) (h1 : 1 ≤ y) (h2 : y ≤ 10001) : Calls Tryd.prog 40 #[.int .i64 x] w fun e w' => e = .returned (.int .i64 (dby8 y)) ∧ w = w' := by
  subst hx; exact ahead_any x w h1 h2
theorem ahead_qis {y b : Int} {w : World} (hb : dby8 y = b) (h1 : 1 ≤ y) (h2 : y ≤ 10001) : Calls Tryd.prog 40 #[.int .i64 y] w fun e w' => e = .returned (.int .i64 b) ∧ w' = w := by
  subst hb; exact ahead_q y w h1 h2

set_option maxHeartbeats 2000000 in
set_option maxRecDepth 100000 in
theorem yearOf_any (n y : Int) (w : World) (h1 : 1 ≤ y) (h2 : y ≤ 9999) (h3 : dby8 y < n) (h4 : n ≤ dby8 (y + 1)) : Calls Tryd.prog 39 #[.int .i64 n] w fun e w' => e = .returned (.int .i64 y) ∧ w = w' := by
  have hb := dby8_bd (y := y) h1 (by omega)
  have hb' := dby8_bd (y := y + 1) (by omega) (by omega)
  have n1 : 1 ≤ n := by omega
  have n2 : n ≤ 3652425 := by omega
  have hg := guess8 h1 h3 h4
  by_cases hy : (n - 1) * 400 / 146097 + 1 = y
  · have D4 : decide (dby8 (y + 1) < n) = false := decide_eq_false (by omega)
    have HY := Lib.hid hy
    clear hg h3 h4 hb hb' hy
    go_enter Tryd.func39, Tryd.ntmps39
    go_wp2_with fail
    refine (ahead_is (y := y + 1) (by rw [HY.out]) (by omega) (by omega)).mono ?_; rintro e w1 ⟨rfl, rfl⟩
    go_wp2_with fail
    go_ret
    exact ⟨ri8 HY.out, rfl⟩
  · have hy2 : (n - 1) * 400 / 146097 + 1 = y - 1 := by omega
    have D4 : decide (dby8 y < n) = true := decide_eq_true (by omega)
    have HY : Hid ((n - 1) * 400 / 146097 + 1 + 1 = y) := by show _ = _; omega
    clear hg h3 h4 hb hb' hy hy2
    go_enter Tryd.func39, Tryd.ntmps39
    go_wp2_with fail
    refine (ahead_is (y := y) HY.out (by omega) (by omega)).mono ?_; rintro e w1 ⟨rfl, rfl⟩
    go_wp2_with fail
    go_ret
    exact ⟨ri8 HY.out, rfl⟩

theorem ok8_nat {y m d : Int} (h : ok8 y m d = true) : ∃ M : Nat, m = (M : Int) + 1 ∧ M < 12 := by
  obtain ⟨h1, h2, h3, h4, h5, h6⟩ := ok8_iff.1 h
  exact ⟨(m - 1).toNat, by omega, by omega⟩


set_option maxHeartbeats 4000000 in
set_option maxRecDepth 100000 in
theorem days_not (y m d : Int) (hr : ok8 y m d = false)  (w : World) (hT : Tabs w) : Calls Tryd.prog 23 #[.agg #[.int .i64 y, .int .i64 m, .int .i64 d]] w (Ret8 w (.int .i64 0)) := by
  have HT := Lib.hid hT
  clear hT
  have HR := Lib.hid hr
  clear hr
  go_enter Tryd.func23, Tryd.ntmps23
  go_wp2_with fail
  generalize hW : World.alloc w _ = W0
  have E0 : S8 w W0 [(w.heap.size, .int .i64 y, .int .i64 m, .int .i64 d)] := by rw [← hW]; exact ((S8.start w HT.out).lay rfl)
  have E := Lib.hid E0
  clear hW E0
  obtain ⟨p0, p1, p2, pf0, pf1, pf2, plt⟩ := (S8.at_ (x0 := .int .i64 y) (x1 := .int .i64 m) (x2 := .int .i64 d) (g := w.heap.size) E (by simp))
  go_wp2_with fail
  refine (right_any _ _ _ _ E.out.tab).mono ?_; rintro e w1 ⟨rfl, hb⟩; replace E := Lib.hid (S8.step E.out hb); clear hb
  rw [HR.out]
  clear p0 p1 p2 pf0 pf1 pf2 plt
  go_wp2_with fail
  go_ret
  exact ⟨rfl, E.out.bel⟩

set_option maxHeartbeats 4000000 in
set_option maxRecDepth 100000 in
theorem refdays_not (y m d : Int) (hr : ok8 y m d = false)  (w : World) (hT : Tabs w) : Calls Tryd.prog 24 #[.agg #[.int .i64 y, .int .i64 m, .int .i64 d]] w (Ret8 w (.int .i64 0)) := by
  have HT := Lib.hid hT
  clear hT
  have HR := Lib.hid hr
  clear hr
  go_enter Tryd.func24, Tryd.ntmps24
  go_wp2_with fail
  generalize hW : World.alloc w _ = W0
  have E0 : S8 w W0 [(w.heap.size, .int .i64 y, .int .i64 m, .int .i64 d)] := by rw [← hW]; exact ((S8.start w HT.out).lay rfl)
  have E := Lib.hid E0
  clear hW E0
  obtain ⟨p0, p1, p2, pf0, pf1, pf2, plt⟩ := (S8.at_ (x0 := .int .i64 y) (x1 := .int .i64 m) (x2 := .int .i64 d) (g := w.heap.size) E (by simp))
  go_wp2_with fail
  refine (refright_any _ _ _ _ E.out.tab).mono ?_; rintro e w1 ⟨rfl, hb⟩; replace E := Lib.hid (S8.step E.out hb); clear hb
  rw [HR.out]
  clear p0 p1 p2 pf0 pf1 pf2 plt
  go_wp2_with fail
  go_ret
  exact ⟨rfl, E.out.bel⟩

set_option maxHeartbeats 4000000 in
set_option maxRecDepth 100000 in
theorem days_yes (y d : Int) (M : Nat) (hr : ok8 y ((M : Int) + 1) d = true)  (w : World) (hT : Tabs w) : Calls Tryd.prog 23 #[.agg #[.int .i64 y, .int .i64 (((M : Int) + 1)), .int .i64 d]] w (Ret8 w (.int .i64 (num8 y ((M : Int) + 1) d))) := by
  have HT := Lib.hid hT
  clear hT
  obtain ⟨h1, h2, h3, h4, h5, h6⟩ := ok8_iff.1 hr
  have hl := len8_bd y ((M : Int) + 1)
  have d31 : d ≤ 31 := by omega
  have hM : M < 12 := by omega
  have hdb := dby8_bd (y := y) h1 (by omega)
  have hn : num8 y ((M : Int) + 1) d = dby8 y + cum8 y M + d := by unfold num8; rw [show ((M : Int) + 1 - 1).toNat = M by omega]
  have HN := Lib.hid hn
  have HR := Lib.hid hr
  clear hr hl hn h3 h4 h6
  obtain ⟨b, hb⟩ : ∃ b, dby8 y = b := ⟨_, rfl⟩
  have HB := Lib.hid hb
  rw [hb] at hdb
  clear hb
  obtain ⟨hb0, hb1⟩ := hdb
  go_enter Tryd.func23, Tryd.ntmps23
  go_wp2_with fail
  generalize hW : World.alloc w _ = W0
  have E0 : S8 w W0 [(w.heap.size, .int .i64 y, .int .i64 (((M : Int) + 1)), .int .i64 d)] := by rw [← hW]; exact ((S8.start w HT.out).lay rfl)
  have E := Lib.hid E0
  clear hW E0
  obtain ⟨p0, p1, p2, pf0, pf1, pf2, plt⟩ := (S8.at_ (x0 := .int .i64 y) (x1 := .int .i64 (((M : Int) + 1))) (x2 := .int .i64 d) (g := w.heap.size) E (by simp))
  go_wp2_with fail
  refine (right_any _ _ _ _ E.out.tab).mono ?_; rintro e w1 ⟨rfl, hb⟩; replace E := Lib.hid (S8.step E.out hb); clear hb
  rw [HR.out]
  clear p0 p1 p2 pf0 pf1 pf2 plt
  obtain ⟨p0, p1, p2, pf0, pf1, pf2, plt⟩ := (S8.at_ (x0 := .int .i64 y) (x1 := .int .i64 (((M : Int) + 1))) (x2 := .int .i64 d) (g := w.heap.size) E (by simp))
  go_wp2_with fail
  have sm : IntKind.i64.wrap (b + d) = b + d := IntWalk.i64_in _ ⟨by omega, by omega⟩
  go_quiet ((go_at_call 40; exact Calls.quiet_of_same (ahead_qis HB.out h1 (by omega))))
  replace E := Lib.hid (S8.drewN E.out nq)
  clear sm
  clear p0 p1 p2 pf0 pf1 pf2 plt
  obtain ⟨p0, p1, p2, pf0, pf1, pf2, plt⟩ := (S8.at_ (x0 := .int .i64 y) (x1 := .int .i64 (((M : Int) + 1))) (x2 := .int .i64 d) (g := w.heap.size) E (by simp))
  go_wp2_with fail
  go_loop [3, 4] (fun t k => ∃ j : Nat, j ≤ M ∧ k = .int .i64 ((j : Int) + 1) ∧ t = .int .i64 (b + d + cum8 y j)) (fun _ k => (12 - intOf k).toNat)
  case atStart => exact ⟨0, by omega, by go_num, by simp [cum8]⟩
  case round =>
    obtain ⟨j, hj, rfl, rfl⟩ := hrel
    have hc := cum8_bd y j
    have hs := cum8_step y j
    have HS := Lib.hid hs
    have hlj := len8_bd y ((j : Int) + 1)
    clear hs
    by_cases hjm : j < M
    ·
      go_wp2_with fail
      refine (length_any _ _ _ E.out.tab (by omega) (by omega)).mono ?_; rintro e w_ ⟨rfl, rfl⟩
      go_wp2_with fail
      go_round
      case rel => exact ⟨j + 1, by omega, by go_num, by rw [HS.out]; go_num⟩
      case measure => simp [intOf]; omega
    ·
      obtain rfl : j = M := by omega
      go_wp2_with fail
      go_ret
      exact ⟨ri8 (by rw [HN.out, HB.out]; omega), E.out.bel⟩

set_option maxHeartbeats 4000000 in
set_option maxRecDepth 100000 in
theorem refdays_yes (y d : Int) (M : Nat) (hr : ok8 y ((M : Int) + 1) d = true)  (w : World) (hT : Tabs w) : Calls Tryd.prog 24 #[.agg #[.int .i64 y, .int .i64 (((M : Int) + 1)), .int .i64 d]] w (Ret8 w (.int .i64 (num8 y ((M : Int) + 1) d))) := by
  have HT := Lib.hid hT
  clear hT
  obtain ⟨h1, h2, h3, h4, h5, h6⟩ := ok8_iff.1 hr
  have hl := len8_bd y ((M : Int) + 1)
  have d31 : d ≤ 31 := by omega
  have hM : M < 12 := by omega
  have hdb := dby8_bd (y := y) h1 (by omega)
  have hn : num8 y ((M : Int) + 1) d = dby8 y + cum8 y M + d := by unfold num8; rw [show ((M : Int) + 1 - 1).toNat = M by omega]
  have HN := Lib.hid hn
  have HR := Lib.hid hr
  clear hr hl hn h3 h4 h6
  have HDB := Lib.hid hdb
  clear hdb
  go_enter Tryd.func24, Tryd.ntmps24
  go_wp2_with fail
  generalize hW : World.alloc w _ = W0
  have E0 : S8 w W0 [(w.heap.size, .int .i64 y, .int .i64 (((M : Int) + 1)), .int .i64 d)] := by rw [← hW]; exact ((S8.start w HT.out).lay rfl)
  have E := Lib.hid E0
  clear hW E0
  obtain ⟨p0, p1, p2, pf0, pf1, pf2, plt⟩ := (S8.at_ (x0 := .int .i64 y) (x1 := .int .i64 (((M : Int) + 1))) (x2 := .int .i64 d) (g := w.heap.size) E (by simp))
  go_wp2_with fail
  refine (refright_any _ _ _ _ E.out.tab).mono ?_; rintro e w1 ⟨rfl, hb⟩; replace E := Lib.hid (S8.step E.out hb); clear hb
  rw [HR.out]
  clear p0 p1 p2 pf0 pf1 pf2 plt
  obtain ⟨p0, p1, p2, pf0, pf1, pf2, plt⟩ := (S8.at_ (x0 := .int .i64 y) (x1 := .int .i64 (((M : Int) + 1))) (x2 := .int .i64 d) (g := w.heap.size) E (by simp))
  go_wp2_with fail
  obtain ⟨b, hb⟩ : ∃ b, dby8 y = b := ⟨_, rfl⟩
  have HB := Lib.hid hb
  have HF : 365 * (y - 1) + (y - 1) / 4 - (y - 1) / 100 + (y - 1) / 400 = b := by rw [← hb]; unfold dby8; omega
  rw [HF]
  have hdb := HDB.out
  rw [hb] at hdb
  clear hb HF
  obtain ⟨hb0, hb1⟩ := hdb
  clear p0 p1 p2 pf0 pf1 pf2 plt
  go_loopw [4, 5] (fun t k wr => ∃ j : Nat, j ≤ M ∧ k = .int .i64 ((j : Int) + 1) ∧ t = .int .i64 (b + cum8 y j) ∧ S8 w wr [(w.heap.size, .int .i64 y, .int .i64 (((M : Int) + 1)), .int .i64 d)]) (fun _ k _ => (12 - intOf k).toNat)
  case atStart => exact ⟨0, by omega, by go_num, by simp [cum8], E.out⟩
  case round =>
    obtain ⟨j, hj, rfl, rfl, hE⟩ := hrel
    clear E
    have E := Lib.hid hE
    clear hE
    have hc := cum8_bd y j
    have hs := cum8_step y j
    have HS := Lib.hid hs
    have hlj := len8_bd y ((j : Int) + 1)
    clear hs
    obtain ⟨p0, p1, p2, pf0, pf1, pf2, plt⟩ := (S8.at_ (x0 := .int .i64 y) (x1 := .int .i64 (((M : Int) + 1))) (x2 := .int .i64 d) (g := w.heap.size) E (by simp))
    by_cases hjm : j < M
    ·
      go_wp2_with fail
      refine (reflong_any _ _ _ (by omega) (by omega)).mono ?_; rintro e w2 ⟨rfl, hb⟩; replace E := Lib.hid (S8.step E.out hb); clear hb
      clear p0 p1 p2 pf0 pf1 pf2 plt
      go_wp2_with fail
      go_roundw
      case rel => exact ⟨j + 1, by omega, by go_num, by rw [HS.out]; go_num, E.out⟩
      case measure => simp [intOf]; omega
    ·
      obtain rfl : j = M := by omega
      go_wp2_with fail
      go_ret
      exact ⟨ri8 (by rw [HN.out, HB.out]), E.out.bel⟩

theorem days_any (y m d : Int) (w : World) (hT : Tabs w) : Calls Tryd.prog 23 #[.agg #[.int .i64 y, .int .i64 m, .int .i64 d]] w (Ret8 w (.int .i64 (days8 y m d))) := by
  cases hr : ok8 y m d with
  | false => rw [days8_not hr]; exact days_not y m d hr w hT
  | true =>
    rw [days8_ok hr]
    obtain ⟨M, rfl, -⟩ := ok8_nat hr
    exact days_yes y d M hr w hT
theorem days_is {y m d n : Int} {w : World} (hT : Tabs w) (hn : days8 y m d = n) : Calls Tryd.prog 23 #[.agg #[.int .i64 y, .int .i64 m, .int .i64 d]] w (Ret8 w (.int .i64 n)) := by
  subst hn; exact days_any y m d w hT

theorem refdays_any (y m d : Int) (w : World) (hT : Tabs w) : Calls Tryd.prog 24 #[.agg #[.int .i64 y, .int .i64 m, .int .i64 d]] w (Ret8 w (.int .i64 (days8 y m d))) := by
  cases hr : ok8 y m d with
  | false => rw [days8_not hr]; exact refdays_not y m d hr w hT
  | true =>
    rw [days8_ok hr]
    obtain ⟨M, rfl, -⟩ := ok8_nat hr
    exact refdays_yes y d M hr w hT
theorem refdays_is {y m d n : Int} {w : World} (hT : Tabs w) (hn : days8 y m d = n) : Calls Tryd.prog 24 #[.agg #[.int .i64 y, .int .i64 m, .int .i64 d]] w (Ret8 w (.int .i64 n)) := by
  subst hn; exact refdays_any y m d w hT

end Go.Proofs.YtnndamhilbcdfaaDoor
