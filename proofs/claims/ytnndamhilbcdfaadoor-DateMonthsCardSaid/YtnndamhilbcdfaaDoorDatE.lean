/-
  Contracts of layer 8, the fifth part: Of and the document's.
-/
import Derived.Test.YtnndamhilbcdfaaDoorDatD
set_option linter.unusedVariables false
set_option linter.unusedSimpArgs false
set_option linter.unusedVariables false
set_option linter.unusedSimpArgs false
set_option linter.unusedVariables false
set_option linter.unusedSimpArgs false
namespace Go.Proofs.YtnndamhilbcdfaaDoor
open Go.RowKit

theorem jan8 {y : Int} (h1 : 1 ≤ y) (h2 : y ≤ 9999) : days8 y 1 1 = dby8 y + 1 := by
  have h := (len8_dec y).2
  rw [days8_ok (ok8_iff.2 ⟨h1, h2, by omega, by omega, by omega, by omega⟩)]
  unfold num8
  show dby8 y + cum8 y 0 + 1 = _
  simp [cum8]

set_option maxHeartbeats 4000000 in
set_option maxRecDepth 100000 in
theorem of_no0 (n : Int) (hn : n < 1)  (w : World) : Calls Tryd.prog 9 #[.int .i64 n] w (Ret8 w (.tuple #[.agg #[.int .i64 (0), .int .i64 (0), .int .i64 (0)], .int .i64 1])) := by
  go_enter Tryd.func9, Tryd.ntmps9
  go_wp2_with fail
  exact bodyPost_ret (v := .tuple #[.agg #[.int .i64 (0), .int .i64 (0), .int .i64 (0)], .int .i64 1]) (by simp [results, Tryd.results9, go_sem]) rfl ⟨rfl, (Below.refl _ _).alloc (Nat.le_refl _) _⟩

set_option maxHeartbeats 4000000 in
set_option maxRecDepth 100000 in
theorem of_no1 (n : Int) (hn : 3652059 < n)  (w : World) : Calls Tryd.prog 9 #[.int .i64 n] w (Ret8 w (.tuple #[.agg #[.int .i64 (0), .int .i64 (0), .int .i64 (0)], .int .i64 1])) := by
  have h1 : 1 ≤ n := by omega
  go_enter Tryd.func9, Tryd.ntmps9
  go_wp2_with fail
  exact bodyPost_ret (v := .tuple #[.agg #[.int .i64 (0), .int .i64 (0), .int .i64 (0)], .int .i64 1]) (by simp [results, Tryd.results9, go_sem]) rfl ⟨rfl, (Below.refl _ _).alloc (Nat.le_refl _) _⟩

set_option maxHeartbeats 4000000 in
set_option maxRecDepth 100000 in
theorem refof_no0 (n : Int) (hn : n < 1)  (w : World) : Calls Tryd.prog 10 #[.int .i64 n] w (Ret8 w (.tuple #[.agg #[.int .i64 (0), .int .i64 (0), .int .i64 (0)], .int .i64 1])) := by
  go_enter Tryd.func10, Tryd.ntmps10
  go_wp2_with fail
  exact bodyPost_ret (v := .tuple #[.agg #[.int .i64 (0), .int .i64 (0), .int .i64 (0)], .int .i64 1]) (by simp [results, Tryd.results10, go_sem]) rfl ⟨rfl, (Below.refl _ _).alloc (Nat.le_refl _) _⟩

set_option maxHeartbeats 4000000 in
set_option maxRecDepth 100000 in
theorem refof_no1 (n : Int) (hn : 3652059 < n)  (w : World) : Calls Tryd.prog 10 #[.int .i64 n] w (Ret8 w (.tuple #[.agg #[.int .i64 (0), .int .i64 (0), .int .i64 (0)], .int .i64 1])) := by
  have h1 : 1 ≤ n := by omega
  go_enter Tryd.func10, Tryd.ntmps10
  go_wp2_with fail
  exact bodyPost_ret (v := .tuple #[.agg #[.int .i64 (0), .int .i64 (0), .int .i64 (0)], .int .i64 1]) (by simp [results, Tryd.results10, go_sem]) rfl ⟨rfl, (Below.refl _ _).alloc (Nat.le_refl _) _⟩

set_option maxHeartbeats 4000000 in
set_option maxRecDepth 100000 in
theorem of_yes (n y d : Int) (M : Nat) (hr : ok8 y ((M : Int) + 1) d = true) (hn : num8 y ((M : Int) + 1) d = n)  (w : World) (hT : Tabs w) : Calls Tryd.prog 9 #[.int .i64 n] w (Ret8 w (.tuple #[.agg #[.int .i64 y, .int .i64 (((M : Int) + 1)), .int .i64 d], .int .i64 0])) := by
  have HT := Lib.hid hT
  clear hT
  obtain ⟨h1, h2, h3, h4, h5, h6⟩ := ok8_iff.1 hr
  have hbd := num8_bd hr
  obtain ⟨hy1, hy2⟩ := num8_year hr
  rw [hn] at hbd hy1 hy2
  obtain ⟨n1, n2⟩ := hbd
  have hM : M < 12 := by omega
  have hdb := dby8_bd (y := y) h1 (by omega)
  have hdc := dby8_bd (y := y + 1) (by omega) (by omega)
  have hl := len8_bd y ((M : Int) + 1)
  have d31 : d ≤ 31 := by omega
  have hcm := cum8_bd y M
  have hn2 : n = dby8 y + cum8 y M + d := by rw [← hn]; unfold num8; rw [show ((M : Int) + 1 - 1).toNat = M by omega]
  obtain ⟨b, hb⟩ : ∃ b, dby8 y = b := ⟨_, rfl⟩
  rw [hb] at hdb hn2
  have HB := Lib.hid hb
  have HN2 := Lib.hid hn2
  have H6 := Lib.hid h6
  have HY1 := Lib.hid hy1
  have HY2 := Lib.hid hy2
  have r1 : 0 ≤ n - b := by omega
  have r2 : n - b ≤ 10000 := by omega
  have b0 : 0 ≤ b := by omega
  have b1 : b ≤ 3652425 := by omega
  clear hr hn hb hn2 h3 h4 h6 hl hdb hdc hcm hy1 hy2
  go_enter Tryd.func9, Tryd.ntmps9
  go_wp2_with fail
  generalize hW : World.alloc w _ = W0
  have E0 : S8 w W0 [(w.heap.size, .int .i64 (0), .int .i64 (0), .int .i64 (0))] := by rw [← hW]; exact ((S8.start w HT.out).lay rfl)
  have E := Lib.hid E0
  clear hW E0
  refine (yearOf_any n y _ h1 h2 HY1.out HY2.out).mono ?_; rintro e w_ ⟨rfl, rfl⟩
  go_wp2_with fail
  refine (ahead_is (y := y) rfl h1 (by omega)).mono ?_; rintro e w_ ⟨rfl, rfl⟩
  rw [HB.out]
  go_wp2_with fail
  go_loop [5, 6] (fun k t => ∃ j : Nat, j ≤ M ∧ k = .int .i64 ((j : Int) + 1) ∧ t = .int .i64 (n - b - cum8 y j)) (fun k _ => (12 - intOf k).toNat)
  case atStart => exact ⟨0, by omega, by go_num, by simp [cum8]⟩
  case round =>
    obtain ⟨j, hj, rfl, rfl⟩ := hrel
    have hc := cum8_bd y j
    have hs := cum8_step y j
    have HS := Lib.hid hs
    have hlj := len8_bd y ((j : Int) + 1)
    by_cases hjm : j < M
    ·
      have hmo := cum8_mono y (k := j + 1) (l := M) (by omega)
      have D1 : decide (len8 y ((j : Int) + 1) < n - b - cum8 y j) = true := decide_eq_true (by have := HN2.out; omega)
      clear hs hmo
      go_wp2_with fail
      refine (length_any _ _ _ E.out.tab (by omega) (by omega)).mono ?_; rintro e w_ ⟨rfl, rfl⟩
      go_wp2_with fail
      refine (length_any _ _ _ E.out.tab (by omega) (by omega)).mono ?_; rintro e w_ ⟨rfl, rfl⟩
      go_wp2_with fail
      go_round
      case rel => exact ⟨j + 1, by omega, by go_num, by rw [HS.out]; go_num⟩
      case measure => simp [intOf]; omega
    ·
      obtain rfl : j = M := by omega
      have D1 : decide (len8 y ((j : Int) + 1) < n - b - cum8 y j) = false := decide_eq_false (by have := HN2.out; have := H6.out; omega)
      have DD : Hid (n - b - cum8 y j = d) := by show _ = _; have := HN2.out; omega
      clear hs
      go_wp2_with fail
      refine (length_any _ _ _ E.out.tab (by omega) (by omega)).mono ?_; rintro e w_ ⟨rfl, rfl⟩
      obtain ⟨p0, p1, p2, pf0, pf1, pf2, plt⟩ := (S8.at_ (x0 := .int .i64 (0)) (x1 := .int .i64 (0)) (x2 := .int .i64 (0)) (g := w.heap.size) E (by simp))
      go_wp2_with fail
      clear p0 p1 p2 pf0 pf1 pf2 plt
      replace E := Lib.hid (S8.store E.out (g := w.heap.size) (x0 := .int .i64 (0)) (x1 := .int .i64 (0)) (x2 := .int .i64 (0)) (by simp) (by omega) [] (fun q hq => by simp at hq ⊢; (try rcases hq with rfl <;> simp)) (.int .i64 y) (.int .i64 (((j : Int) + 1))) (.int .i64 ((n - b - cum8 y j))) (fun w_ hb => HT.out.on hb))
      rw [← DD.out]
      obtain ⟨e0, e1, e2, _, _, _, _⟩ := (S8.at_ (x0 := .int .i64 y) (x1 := .int .i64 (((j : Int) + 1))) (x2 := .int .i64 ((n - b - cum8 y j))) (g := w.heap.size) E (by simp))
      exact bodyPost_ret (v := .tuple #[.agg #[.int .i64 y, .int .i64 (((j : Int) + 1)), .int .i64 ((n - b - cum8 y j))], .int .i64 0]) (by simp [results, Tryd.results9, go_sem, e0, e1, e2]) rfl ⟨rfl, E.out.bel⟩

set_option maxHeartbeats 4000000 in
set_option maxRecDepth 100000 in
theorem refof_yes (n y d : Int) (M : Nat) (hr : ok8 y ((M : Int) + 1) d = true) (hn : num8 y ((M : Int) + 1) d = n)  (w : World) (hT : Tabs w) : Calls Tryd.prog 10 #[.int .i64 n] w (Ret8 w (.tuple #[.agg #[.int .i64 y, .int .i64 (((M : Int) + 1)), .int .i64 d], .int .i64 0])) := by
  have HT := Lib.hid hT
  clear hT
  obtain ⟨h1, h2, h3, h4, h5, h6⟩ := ok8_iff.1 hr
  have hbd := num8_bd hr
  obtain ⟨hy1, hy2⟩ := num8_year hr
  rw [hn] at hbd hy1 hy2
  obtain ⟨n1, n2⟩ := hbd
  have hM : M < 12 := by omega
  have hdb := dby8_bd (y := y) h1 (by omega)
  have hdc := dby8_bd (y := y + 1) (by omega) (by omega)
  have hl := len8_bd y ((M : Int) + 1)
  have d31 : d ≤ 31 := by omega
  have hcm := cum8_bd y M
  have hn2 : n = dby8 y + cum8 y M + d := by rw [← hn]; unfold num8; rw [show ((M : Int) + 1 - 1).toNat = M by omega]
  have hg := guess366 h1 hy1 hy2
  have HJ : Hid (∀ g : Int, 1 ≤ g → g ≤ 9999 → days8 g 1 1 = dby8 g + 1) := fun g a c => jan8 a c
  obtain ⟨b, hb⟩ : ∃ b, dby8 y = b := ⟨_, rfl⟩
  have HJY : Hid (days8 y 1 1 = b + 1) := by show _ = _; rw [← hb]; exact jan8 h1 h2
  rw [hb] at hdb hn2
  have HB := Lib.hid hb
  have HN2 := Lib.hid hn2
  have H6 := Lib.hid h6
  have HY1 := Lib.hid hy1
  have HY2 := Lib.hid hy2
  have r1 : 1 ≤ n - b := by omega
  have r2 : n - b ≤ 10000 := by omega
  have b0 : 0 ≤ b := by omega
  have b1 : b ≤ 3652425 := by omega
  have HG : Hid (n / 366 + 1 ≤ y) := hg
  clear hr hn hb hn2 h3 h4 h6 hl hdb hdc hcm hy1 hy2 hg
  go_enter Tryd.func10, Tryd.ntmps10
  go_wp2_with fail
  generalize hW : World.alloc w _ = W0
  have E0 : S8 w W0 [(w.heap.size, .int .i64 (0), .int .i64 (0), .int .i64 (0))] := by rw [← hW]; exact ((S8.start w HT.out).lay rfl)
  have E := Lib.hid E0
  clear hW E0
  go_wp2_with fail
  go_loopw [4] (fun t wr => ∃ g : Int, 1 ≤ g ∧ g ≤ y ∧ t = .int .i64 g ∧ S8 w wr [(w.heap.size, .int .i64 (0), .int .i64 (0), .int .i64 (0))]) (fun t _ => (9999 - intOf t).toNat)
  case atStart => exact ⟨_, by omega, HG.out, rfl, E.out⟩
  case round =>
    obtain ⟨g, hg1, hg2, rfl, hE⟩ := hrel
    clear E
    have E := Lib.hid hE
    clear hE
    by_cases hgy : g < y
    ·
      have HD : Hid (days8 (g + 1) 1 1 = dby8 (g + 1) + 1) := HJ.out _ (by omega) (by omega)
      have hm := dby8_mono (a := g + 1) (b := y) (by omega) (by omega)
      have D1 : decide (dby8 (g + 1) + 1 ≤ n) = true := decide_eq_true (by have := HY1.out; omega)
      have L9 : g < 9999 := by omega
      clear hm
      go_wp2_with fail
      refine (refdays_is E.out.tab HD.out).mono ?_; rintro e w1 ⟨rfl, hb⟩; replace E := Lib.hid (S8.step E.out hb); clear hb
      go_wp2_with fail
      go_roundw
      case rel => exact ⟨g + 1, by omega, by omega, rfl, E.out⟩
      case measure => simp [intOf]; omega
    ·
      obtain rfl : g = y := by omega
      by_cases L9 : g < 9999
      ·
        have HD : Hid (days8 (g + 1) 1 1 = dby8 (g + 1) + 1) := HJ.out _ (by omega) (by omega)
        have D1 : decide (dby8 (g + 1) + 1 ≤ n) = false := decide_eq_false (by have := HY2.out; omega)
        go_wp2_with fail
        refine (refdays_is E.out.tab HD.out).mono ?_; rintro e w2 ⟨rfl, hb⟩; replace E := Lib.hid (S8.step E.out hb); clear hb
        go_wp2_with fail
        refine (refdays_is E.out.tab HJY.out).mono ?_; rintro e w3 ⟨rfl, hb⟩; replace E := Lib.hid (S8.step E.out hb); clear hb
        go_wp2_with fail
        go_loopw [0, 5] (fun t k wr => ∃ j : Nat, j ≤ M ∧ k = .int .i64 ((j : Int) + 1) ∧ t = .int .i64 (n - (b + 1) - cum8 g j) ∧ S8 w wr [(w.heap.size, .int .i64 (0), .int .i64 (0), .int .i64 (0))]) (fun _ k _ => (12 - intOf k).toNat)
        case atStart => exact ⟨0, by omega, by go_num, by simp [cum8], E.out⟩
        case round =>
          obtain ⟨j, hj, rfl, rfl, hE⟩ := hrel
          clear E
          have E := Lib.hid hE
          clear hE
          have hc := cum8_bd g j
          have hs := cum8_step g j
          have HS := Lib.hid hs
          have hlj := len8_bd g ((j : Int) + 1)
          by_cases hjm : j < M
          ·
            have hmo := cum8_mono g (k := j + 1) (l := M) (by omega)
            have D2 : decide (len8 g ((j : Int) + 1) ≤ n - (b + 1) - cum8 g j) = true := decide_eq_true (by have := HN2.out; omega)
            clear hs hmo
            go_wp2_with fail
            refine (reflong_any _ _ _ (by omega) (by omega)).mono ?_; rintro e w4 ⟨rfl, hb⟩; replace E := Lib.hid (S8.step E.out hb); clear hb
            go_wp2_with fail
            refine (reflong_any _ _ _ (by omega) (by omega)).mono ?_; rintro e w5 ⟨rfl, hb⟩; replace E := Lib.hid (S8.step E.out hb); clear hb
            go_wp2_with fail
            go_roundw
            case rel => exact ⟨j + 1, by omega, by go_num, by rw [HS.out]; go_num, E.out⟩
            case measure => simp [intOf]; omega
          ·
            obtain rfl : j = M := by omega
            have D2 : decide (len8 g ((j : Int) + 1) ≤ n - (b + 1) - cum8 g j) = false := decide_eq_false (by have := HN2.out; have := H6.out; omega)
            have DD : Hid (n - (b + 1) - cum8 g j + 1 = d) := by show _ = _; have := HN2.out; omega
            clear hs
            go_wp2_with fail
            refine (reflong_any _ _ _ (by omega) (by omega)).mono ?_; rintro e w6 ⟨rfl, hb⟩; replace E := Lib.hid (S8.step E.out hb); clear hb
            obtain ⟨p0, p1, p2, pf0, pf1, pf2, plt⟩ := (S8.at_ (x0 := .int .i64 (0)) (x1 := .int .i64 (0)) (x2 := .int .i64 (0)) (g := w.heap.size) E (by simp))
            go_wp2_with fail
            clear p0 p1 p2 pf0 pf1 pf2 plt
            replace E := Lib.hid (S8.store E.out (g := w.heap.size) (x0 := .int .i64 (0)) (x1 := .int .i64 (0)) (x2 := .int .i64 (0)) (by simp) (by omega) [] (fun q hq => by simp at hq ⊢; (try rcases hq with rfl <;> simp)) (.int .i64 g) (.int .i64 (((j : Int) + 1))) (.int .i64 ((n - (b + 1) - cum8 g j + 1))) (fun w_ hb => HT.out.on hb))
            rw [← DD.out]
            obtain ⟨e0, e1, e2, _, _, _, _⟩ := (S8.at_ (x0 := .int .i64 g) (x1 := .int .i64 (((j : Int) + 1))) (x2 := .int .i64 ((n - (b + 1) - cum8 g j + 1))) (g := w.heap.size) E (by simp))
            exact bodyPost_ret (v := .tuple #[.agg #[.int .i64 g, .int .i64 (((j : Int) + 1)), .int .i64 ((n - (b + 1) - cum8 g j + 1))], .int .i64 0]) (by simp [results, Tryd.results10, go_sem, e0, e1, e2]) rfl ⟨rfl, E.out.bel⟩
      ·
        go_wp2_with fail
        refine (refdays_is E.out.tab HJY.out).mono ?_; rintro e w7 ⟨rfl, hb⟩; replace E := Lib.hid (S8.step E.out hb); clear hb
        go_wp2_with fail
        go_loopw [0, 5] (fun t k wr => ∃ j : Nat, j ≤ M ∧ k = .int .i64 ((j : Int) + 1) ∧ t = .int .i64 (n - (b + 1) - cum8 g j) ∧ S8 w wr [(w.heap.size, .int .i64 (0), .int .i64 (0), .int .i64 (0))]) (fun _ k _ => (12 - intOf k).toNat)
        case atStart => exact ⟨0, by omega, by go_num, by simp [cum8], E.out⟩
        case round =>
          obtain ⟨j, hj, rfl, rfl, hE⟩ := hrel
          clear E
          have E := Lib.hid hE
          clear hE
          have hc := cum8_bd g j
          have hs := cum8_step g j
          have HS := Lib.hid hs
          have hlj := len8_bd g ((j : Int) + 1)
          by_cases hjm : j < M
          ·
            have hmo := cum8_mono g (k := j + 1) (l := M) (by omega)
            have D2 : decide (len8 g ((j : Int) + 1) ≤ n - (b + 1) - cum8 g j) = true := decide_eq_true (by have := HN2.out; omega)
            clear hs hmo
            go_wp2_with fail
            refine (reflong_any _ _ _ (by omega) (by omega)).mono ?_; rintro e w8 ⟨rfl, hb⟩; replace E := Lib.hid (S8.step E.out hb); clear hb
            go_wp2_with fail
            refine (reflong_any _ _ _ (by omega) (by omega)).mono ?_; rintro e w9 ⟨rfl, hb⟩; replace E := Lib.hid (S8.step E.out hb); clear hb
            go_wp2_with fail
            go_roundw
            case rel => exact ⟨j + 1, by omega, by go_num, by rw [HS.out]; go_num, E.out⟩
            case measure => simp [intOf]; omega
          ·
            obtain rfl : j = M := by omega
            have D2 : decide (len8 g ((j : Int) + 1) ≤ n - (b + 1) - cum8 g j) = false := decide_eq_false (by have := HN2.out; have := H6.out; omega)
            have DD : Hid (n - (b + 1) - cum8 g j + 1 = d) := by show _ = _; have := HN2.out; omega
            clear hs
            go_wp2_with fail
            refine (reflong_any _ _ _ (by omega) (by omega)).mono ?_; rintro e w10 ⟨rfl, hb⟩; replace E := Lib.hid (S8.step E.out hb); clear hb
            obtain ⟨p0, p1, p2, pf0, pf1, pf2, plt⟩ := (S8.at_ (x0 := .int .i64 (0)) (x1 := .int .i64 (0)) (x2 := .int .i64 (0)) (g := w.heap.size) E (by simp))
            go_wp2_with fail
            clear p0 p1 p2 pf0 pf1 pf2 plt
            replace E := Lib.hid (S8.store E.out (g := w.heap.size) (x0 := .int .i64 (0)) (x1 := .int .i64 (0)) (x2 := .int .i64 (0)) (by simp) (by omega) [] (fun q hq => by simp at hq ⊢; (try rcases hq with rfl <;> simp)) (.int .i64 g) (.int .i64 (((j : Int) + 1))) (.int .i64 ((n - (b + 1) - cum8 g j + 1))) (fun w_ hb => HT.out.on hb))
            rw [← DD.out]
            obtain ⟨e0, e1, e2, _, _, _, _⟩ := (S8.at_ (x0 := .int .i64 g) (x1 := .int .i64 (((j : Int) + 1))) (x2 := .int .i64 ((n - (b + 1) - cum8 g j + 1))) (g := w.heap.size) E (by simp))
            exact bodyPost_ret (v := .tuple #[.agg #[.int .i64 g, .int .i64 (((j : Int) + 1)), .int .i64 ((n - (b + 1) - cum8 g j + 1))], .int .i64 0]) (by simp [results, Tryd.results10, go_sem, e0, e1, e2]) rfl ⟨rfl, E.out.bel⟩

theorem of_is {n y m d : Int} {w : World} (hT : Tabs w) (hr : ok8 y m d = true) (hn : num8 y m d = n) : Calls Tryd.prog 9 #[.int .i64 n] w (Ret8 w (.tuple #[.agg #[.int .i64 y, .int .i64 m, .int .i64 d], .int .i64 0])) := by
  obtain ⟨M, rfl, -⟩ := ok8_nat hr
  exact of_yes n y d M hr hn w hT
theorem of_no {n : Int} {w : World} (hn : n < 1 ∨ 3652059 < n) : Calls Tryd.prog 9 #[.int .i64 n] w (Ret8 w (.tuple #[.agg #[.int .i64 (0), .int .i64 (0), .int .i64 (0)], .int .i64 1])) := by
  by_cases h : n < 1
  · exact of_no0 n h w
  · exact of_no1 n (by omega) w

theorem refof_is {n y m d : Int} {w : World} (hT : Tabs w) (hr : ok8 y m d = true) (hn : num8 y m d = n) : Calls Tryd.prog 10 #[.int .i64 n] w (Ret8 w (.tuple #[.agg #[.int .i64 y, .int .i64 m, .int .i64 d], .int .i64 0])) := by
  obtain ⟨M, rfl, -⟩ := ok8_nat hr
  exact refof_yes n y d M hr hn w hT
theorem refof_no {n : Int} {w : World} (hn : n < 1 ∨ 3652059 < n) : Calls Tryd.prog 10 #[.int .i64 n] w (Ret8 w (.tuple #[.agg #[.int .i64 (0), .int .i64 (0), .int .i64 (0)], .int .i64 1])) := by
  by_cases h : n < 1
  · exact refof_no0 n h w
  · exact refof_no1 n (by omega) w

end Go.Proofs.YtnndamhilbcdfaaDoor
