/-
  Layer 8: months added and taken away; the pieces of a stretch; weekdays that follow.
-/
import Derived.Test.YtnndamhilbcdfaaDoorDatMo
set_option linter.unusedVariables false
set_option linter.unusedSimpArgs false
namespace Go.Proofs.YtnndamhilbcdfaaDoor
open Go.RowKit

theorem num8_le_cmp {a b c a' b' c' : Int} (h : ok8 a b c = true) (h' : ok8 a' b' c' = true) (hn : num8 a b c ≤ num8 a' b' c') : cmp8 a b c a' b' c' ≤ 0 := by
  rcases cmp8_three a b c a' b' c' with e | e | e
  · omega
  · omega
  · have h1 : cmp8 a' b' c' a b c = -1 := by rw [cmp8_turn a b c a' b' c', e]
    have := num8_lt h' h h1
    omega
/-- Months that are added are there, and taken away lead to the same month. -/
theorem add_back {y m d k : Int} (h : ok8 y m d = true) (hn : num8 y m d ≤ 3600000) (h0 : 0 ≤ k) (h1 : k < 500) : ∃ Y M Z Y2 M2 Z2, addOk y m d k = true ∧ add8 y m d k = (Y, M, Z) ∧ ok8 Y M Z = true ∧ months8 y m d Y M Z = k ∧ Z ≤ d ∧
    addOk Y M Z (-k) = true ∧ add8 Y M Z (-k) = (Y2, M2, Z2) ∧ months8 Y2 M2 Z2 y m d = 0 := by
  obtain ⟨a1, a2, a3, a4, a5, a6⟩ := ok8_iff.1 h
  have hy := (num8_year h).1
  have hy2 : y < 9900 := by
    unfold dby8 at hy
    omega
  have hok : addOk y m d k = true := addOk_iff.2 ⟨h, by omega, by omega, by unfold mo8; omega, by unfold mo8; omega⟩
  obtain ⟨Y, hY⟩ : ∃ Y, (mo8 y m + k) / 12 + 1 = Y := ⟨_, rfl⟩
  obtain ⟨M, hM⟩ : ∃ M, (mo8 y m + k) % 12 + 1 = M := ⟨_, rfl⟩
  have hl := len8_bd Y M
  have e1 := add8_ok hok
  rw [hY, hM] at e1
  have hmo : mo8 Y M = mo8 y m + k := by unfold mo8 at hY hM ⊢; omega
  have hz : 1 ≤ min d (len8 Y M) ∧ min d (len8 Y M) ≤ len8 Y M ∧ min d (len8 Y M) ≤ d := by omega
  have okc : ok8 Y M (min d (len8 Y M)) = true := by
    unfold mo8 at hY hM
    exact ok8_iff.2 ⟨by omega, by omega, by omega, by omega, hz.1, hz.2.1⟩
  have hok2 : addOk Y M (min d (len8 Y M)) (-k) = true := addOk_iff.2 ⟨okc, by omega, by omega, by rw [hmo]; unfold mo8; omega, by rw [hmo]; unfold mo8; omega⟩
  have e2 := add8_ok hok2
  have hY2 : (mo8 Y M + -k) / 12 + 1 = y := by rw [hmo]; unfold mo8; omega
  have hM2 : (mo8 Y M + -k) % 12 + 1 = m := by rw [hmo]; unfold mo8; omega
  rw [hY2, hM2] at e2
  have hl2 := len8_bd y m
  have ok2 : ok8 y m (min (min d (len8 Y M)) (len8 y m)) = true := ok8_iff.2 ⟨a1, a2, a3, a4, by omega, by omega⟩
  exact ⟨Y, M, _, _, _, _, hok, e1, okc, by rw [months8_ok h okc, hmo]; omega, hz.2.2, hok2, e2, by rw [months8_ok ok2 h]; omega⟩
/-- What is asked of a piece. -/
def Piece (q : D6) : Prop := ok8 q.1.1 q.1.2.1 q.1.2.2 = true ∧ ok8 q.2.1 q.2.2.1 q.2.2.2 = true ∧ cmp8 q.1.1 q.1.2.1 q.1.2.2 q.2.1 q.2.2.1 q.2.2.2 ≤ 0 ∧ q.1.1 = q.2.1 ∧ q.1.2.1 = q.2.2.1
abbrev z6 : D6 := ((0, 0, 0), (0, 0, 0))
theorem spl8_facts : ∀ (k : Nat) (y m d y' m' d' : Int), ok8 y m d = true → ok8 y' m' d' = true → cmp8 y m d y' m' d' ≤ 0 → mo8 y' m' - mo8 y m < k →
    ((spl8 k (y, m, d) (y', m', d')).length : Int) = mo8 y' m' - mo8 y m + 1 ∧ ((spl8 k (y, m, d) (y', m', d')).getD 0 z6).1 = (y, m, d) ∧
    ((spl8 k (y, m, d) (y', m', d')).getD ((spl8 k (y, m, d) (y', m', d')).length - 1) z6).2 = (y', m', d') ∧
    (∀ i, i < (spl8 k (y, m, d) (y', m', d')).length → Piece ((spl8 k (y, m, d) (y', m', d')).getD i z6)) ∧
    (∀ i, i + 1 < (spl8 k (y, m, d) (y', m', d')).length → ∃ a b c a' b' c', ((spl8 k (y, m, d) (y', m', d')).getD (i + 1) z6).1 = (a, b, c) ∧ ((spl8 k (y, m, d) (y', m', d')).getD i z6).2 = (a', b', c') ∧ days8 a b c = days8 a' b' c' + 1)
  | 0, y, m, d, y', m', d', h, h', hc, hk => by
    obtain ⟨a1, a2, a3, a4, a5, a6⟩ := ok8_iff.1 h
    obtain ⟨b1, b2, b3, b4, b5, b6⟩ := ok8_iff.1 h'
    have : ¬ cmp8 y m d y' m' d' = 1 := by omega
    rw [cmp8_pos] at this
    unfold mo8 at hk
    omega
  | k + 1, y, m, d, y', m', d', h, h', hc, hk => by
    by_cases hs : y = y' ∧ m = m'
    · rw [spl8_same (f := (y, m, d)) (t := (y', m', d')) hs]
      obtain ⟨rfl, rfl⟩ := hs
      refine ⟨by simp, rfl, rfl, fun i hi => ?_, fun i hi => by simp at hi⟩
      obtain rfl : i = 0 := by simpa using hi
      exact ⟨h, h', hc, rfl, rfl⟩
    · rw [spl8_on (f := (y, m, d)) (t := (y', m', d')) hs]
      obtain ⟨f1, ⟨Y, M, Z, f2, f3, f4, f5⟩, f6, f7⟩ := nxm8_facts h h' hc hs
      obtain ⟨a1, a2, a3, a4, a5, a6⟩ := ok8_iff.1 h
      have hmo : mo8 Y M = mo8 y m + 1 := by
        unfold Nxt at f3; unfold mo8; omega
      rw [f2]
      have ih := spl8_facts k Y M Z y' m' d' f4 h' f5 (by rw [hmo]; omega)
      obtain ⟨L, hL⟩ : ∃ L, spl8 k (Y, M, Z) (y', m', d') = L := ⟨_, rfl⟩
      rw [hL] at ih ⊢
      obtain ⟨i1, i2, i3, i4, i5⟩ := ih
      have hL1 : 1 ≤ L.length := by
        have : ¬ cmp8 Y M Z y' m' d' = 1 := by omega
        rw [cmp8_pos] at this
        obtain ⟨c1, c2, c3, c4, c5, c6⟩ := ok8_iff.1 f4
        obtain ⟨b1, b2, b3, b4, b5, b6⟩ := ok8_iff.1 h'
        unfold mo8 at i1
        omega
      refine ⟨by rw [List.length_cons, hmo] at *; push_cast; omega, rfl, ?_, fun i hi => ?_, fun i hi => ?_⟩
      · rw [List.length_cons, show L.length + 1 - 1 = (L.length - 1) + 1 by omega, List.getD_cons_succ]; exact i3
      · cases i with
        | zero => exact ⟨h, f1, by show cmp8 y m d y m (len8 y m) ≤ 0; have : ¬ cmp8 y m d y m (len8 y m) = 1 := by rw [cmp8_pos]; omega
                                   rcases cmp8_three y m d y m (len8 y m) with e | e | e <;> omega, rfl, rfl⟩
        | succ i => rw [List.getD_cons_succ]; exact i4 i (by simpa using hi)
      · cases i with
        | zero => exact ⟨Y, M, Z, y, m, len8 y m, by rw [List.getD_cons_succ]; exact i2, rfl, by rw [days8_ok f4, days8_ok f1, f3.num f1]⟩
        | succ i => rw [List.getD_cons_succ, List.getD_cons_succ]; exact i5 i (by simpa using hi)
/-- The pieces of a stretch of at most 799 days. -/
theorem split8_facts {y m d y' m' d' : Int} (h : ok8 y m d = true) (h' : ok8 y' m' d' = true) (hn : num8 y m d ≤ num8 y' m' d') (hd : num8 y' m' d' - num8 y m d < 800) : ∃ G, split8 y m d y' m' d' = G ∧ G.length ≤ 1200 ∧ 1 ≤ G.length ∧ months8 y m d y' m' d' = G.length - 1 ∧
    (G.getD 0 z6).1 = (y, m, d) ∧ (G.getD (G.length - 1) z6).2 = (y', m', d') ∧ (∀ i, i < G.length → Piece (G.getD i z6)) ∧
    (∀ i, i + 1 < G.length → ∃ a b c a' b' c', (G.getD (i + 1) z6).1 = (a, b, c) ∧ (G.getD i z6).2 = (a', b', c') ∧ days8 a b c = days8 a' b' c' + 1) := by
  obtain ⟨a1, a2, a3, a4, a5, a6⟩ := ok8_iff.1 h
  obtain ⟨b1, b2, b3, b4, b5, b6⟩ := ok8_iff.1 h'
  have hc := num8_le_cmp h h' hn
  have y1 := (num8_year h).2
  have y2 := (num8_year h').1
  have hyy : y' ≤ y + 4 := by
    apply Decidable.byContradiction
    intro hx
    have := dby8_mono (a := y + 1) (b := y') (by omega) (by omega)
    omega
  have e : split8 y m d y' m' d' = spl8 1200 (y, m, d) (y', m', d') := if_pos ⟨h, h', hc⟩
  obtain ⟨f1, f2, f3, f4, f5⟩ := spl8_facts 1200 y m d y' m' d' h h' hc (by unfold mo8; omega)
  have hnc : ¬ cmp8 y m d y' m' d' = 1 := by omega
  rw [cmp8_pos] at hnc
  have hge : 0 ≤ mo8 y' m' - mo8 y m := by unfold mo8; omega
  refine ⟨_, e, ?_, by omega, ?_, f2, f3, f4, f5⟩
  · exact spl8_len 1200 _ _
  · rw [months8_ok h h']; omega
theorem wd8_bd {y m d : Int} (h : ok8 y m d = true) : 1 ≤ wd8 y m d ∧ wd8 y m d ≤ 7 := by rw [wd8_ok h]; omega
theorem wd8_on {y m d y' m' d' t : Int} (h : ok8 y m d = true) (h' : ok8 y' m' d' = true) (hd : num8 y' m' d' - num8 y m d = t) : (wd8 y' m' d' - wd8 y m d - t).tmod 7 = 0 := by
  rw [wd8_ok h, wd8_ok h', tm_zero]; omega
theorem qu8_bd {y m d : Int} (h : ok8 y m d = true) : 1 ≤ qu8 y m d ∧ qu8 y m d ≤ 4 := by
  obtain ⟨a1, a2, a3, a4, a5, a6⟩ := ok8_iff.1 h
  rw [qu8_ok h]; omega
end Go.Proofs.YtnndamhilbcdfaaDoor
