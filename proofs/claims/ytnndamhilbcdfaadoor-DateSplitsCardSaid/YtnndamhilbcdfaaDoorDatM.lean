/-
  Layer 8: what two splits answer alike; rows of pairs of days that are read; a frame opened again.
-/
import Derived.Test.YtnndamhilbcdfaaDoorDatZ
import Derived.Test.YtnndamhilbcdfaaDoorDatZr
set_option linter.unusedVariables false
set_option linter.unusedSimpArgs false
set_option linter.unusedVariables false
set_option linter.unusedSimpArgs false
namespace Go.Proofs.YtnndamhilbcdfaaDoor
open Go.RowKit

theorem Fr.list8 {N : Nat} {a : Act} {l : List (Nat × Value)} (h : Fr N a l) : ∃ us : Nat → Value, a = ⟨((List.range N).map us).toArray, []⟩ ∧ ∀ q ∈ l, us q.1 = q.2 := by
  obtain ⟨h1, h2, h3⟩ := h
  refine ⟨fun i => a.tmps.getD i undef, ?_, fun q hq => ?_⟩
  · obtain ⟨t, ds⟩ := a
    simp only at h1 h2
    subst h2
    congr 1
    apply Array.ext
    · simp [h1]
    · intro i hi _
      simp [Array.getD_eq_getD_getElem?, Array.getElem?_eq_getElem hi]
  · simp only
    rw [Array.getD_eq_getD_getElem?, h3 q hq]; rfl

/-- A row of pairs of days that is read. -/
def Rd8 (w : World) (v : Value) (l : List D6) : Prop := (l = [] ∧ v = .slice none 0 0) ∨ ∃ b c, v = .slice (some ⟨b, 0, none⟩) l.length c ∧ b < w.heap.size ∧ l.length ≤ c ∧ c ≤ maxLen ∧ ∀ j u, (row8 l)[j]? = some u → w.cell? ⟨b, j, none⟩ = some u
theorem Rd8.on {w w' : World} {v : Value} {l : List D6} (h : Rd8 w v l) (hb : Below w.heap.size w w') : Rd8 w' v l := by
  rcases h with h | ⟨b, c, h1, h2, h4, h5, h3⟩
  · exact .inl h
  · exact .inr ⟨b, c, h1, Nat.lt_of_lt_of_le h2 hb.size, h4, h5, fun j u hu => (hb.cell (p := ⟨b, j, none⟩) h2).trans (h3 j u hu)⟩
theorem Own8.rd {w : World} {base : Nat} {v : Value} {l : List D6} (h : Own8 w base v l) : Rd8 w v l := by
  have hlt := World.ownsRow.lt h
  have hc := fun g e => World.ownsRow.cells h (g := g) e
  rcases h.2 with ⟨rfl, h0⟩ | ⟨g, cap, cur, rfl, hb, hg, h3, h4, _⟩
  · exact .inl ⟨List.eq_nil_of_length_eq_zero h0, rfl⟩
  · refine .inr ⟨g, cap, rfl, (hlt g rfl).2, h3, h4, fun j u hu => ?_⟩
    have := hc g rfl j u hu
    rwa [Addr.add_lit, Nat.zero_add] at this
theorem Rd8.len {w : World} {v : Value} {l : List D6} (h : Rd8 w v l) : ∃ A c, v = .slice A l.length c := by
  rcases h with ⟨rfl, rfl⟩ | ⟨b, c, rfl, _⟩
  · exact ⟨none, 0, rfl⟩
  · exact ⟨_, _, rfl⟩
theorem Rd8.at_ {w : World} {v : Value} {l : List D6} (h : Rd8 w v l) {k : Nat} (hk : k < l.length) : ∃ b c, v = .slice (some ⟨b, 0, none⟩) l.length c ∧ l.length ≤ c ∧ c ≤ maxLen ∧
    w.cell? ⟨b, k * 6, none⟩ = some (.int .i64 (l.getD k ((0, 0, 0), (0, 0, 0))).1.1) ∧ w.cell? ⟨b, k * 6 + 1, none⟩ = some (.int .i64 (l.getD k ((0, 0, 0), (0, 0, 0))).1.2.1) ∧ w.cell? ⟨b, k * 6 + 2, none⟩ = some (.int .i64 (l.getD k ((0, 0, 0), (0, 0, 0))).1.2.2) ∧
    w.cell? ⟨b, k * 6 + 3, none⟩ = some (.int .i64 (l.getD k ((0, 0, 0), (0, 0, 0))).2.1) ∧ w.cell? ⟨b, k * 6 + 4, none⟩ = some (.int .i64 (l.getD k ((0, 0, 0), (0, 0, 0))).2.2.1) ∧ w.cell? ⟨b, k * 6 + 5, none⟩ = some (.int .i64 (l.getD k ((0, 0, 0), (0, 0, 0))).2.2.2) := by
  rcases h with ⟨rfl, rfl⟩ | ⟨b, c, rfl, h2, h4, h5, h3⟩
  · simp at hk
  · exact ⟨b, c, rfl, h4, h5, h3 _ _ (row8_get l k 0 hk (by omega)), h3 _ _ (row8_get l k 1 hk (by omega)), h3 _ _ (row8_get l k 2 hk (by omega)), h3 _ _ (row8_get l k 3 hk (by omega)), h3 _ _ (row8_get l k 4 hk (by omega)), h3 _ _ (row8_get l k 5 hk (by omega))⟩
theorem spl8_len : ∀ (k : Nat) (f t : D3), (spl8 k f t).length ≤ k
  | 0, _, _ => Nat.le_refl _
  | k + 1, f, t => by
    unfold spl8
    split
    · simp
    · have := spl8_len k (nxm8 f) t; simp; omega
/-- What a split hands back, to be read. -/
def RetRd8 (W : World) (l : List D6) (e : Ending) (w' : World) : Prop := ∃ v, e = .returned v ∧ Rd8 w' v l ∧ Below W.heap.size W w'
theorem RetRow8.rd {W w' : World} {l : List D6} {e : Ending} (h : RetRow8 W l e w') : RetRd8 W l e w' := by
  obtain ⟨v, h1, h2, h3⟩ := h
  exact ⟨v, h1, h2.rd, h3⟩
/-- The pieces from one day to another. -/
def split8 (y m d y' m' d' : Int) : List D6 := if ok8 y m d = true ∧ ok8 y' m' d' = true ∧ cmp8 y m d y' m' d' ≤ 0 then spl8 1200 (y, m, d) (y', m', d') else []
theorem split8_len (y m d y' m' d' : Int) : (split8 y m d y' m' d').length ≤ 1200 := by
  unfold split8
  split
  · exact spl8_len _ _ _
  · simp
theorem split_is (y m d y' m' d' : Int) (w : World) (hT : Tabs w) : Calls Tryd.prog 37 #[.agg #[.int .i64 y, .int .i64 m, .int .i64 d], .agg #[.int .i64 y', .int .i64 m', .int .i64 d']] w (RetRd8 w (split8 y m d y' m' d')) := by
  unfold split8
  cases hr : ok8 y m d with
  | false => rw [if_neg (by simp)]; exact (split_no0 y m d y' m' d' hr w hT).mono fun _ _ h => h.rd
  | true =>
    cases hr' : ok8 y' m' d' with
    | false => rw [if_neg (by simp)]; exact (split_no1 y m d y' m' d' hr hr' w hT).mono fun _ _ h => h.rd
    | true =>
      by_cases hc : cmp8 y m d y' m' d' ≤ 0
      · rw [if_pos ⟨rfl, rfl, hc⟩]; exact (split_yes y m d y' m' d' hr hr' hc w hT).mono fun _ _ h => h.rd
      · rw [if_neg (fun h => hc h.2.2)]
        have h1 : cmp8 y m d y' m' d' = 1 := by have := cmp8_three y m d y' m' d'; omega
        exact (split_no2 y m d y' m' d' hr hr' (by rw [cmp8_turn, h1]) w hT).mono fun _ _ h => h.rd
theorem refsplit_is (y m d y' m' d' : Int) (w : World) (hT : Tabs w) : Calls Tryd.prog 38 #[.agg #[.int .i64 y, .int .i64 m, .int .i64 d], .agg #[.int .i64 y', .int .i64 m', .int .i64 d']] w (RetRd8 w (split8 y m d y' m' d')) := by
  unfold split8
  cases hr : ok8 y m d with
  | false => rw [if_neg (by simp)]; exact (refsplit_no0 y m d y' m' d' hr w hT).mono fun _ _ h => h.rd
  | true =>
    cases hr' : ok8 y' m' d' with
    | false => rw [if_neg (by simp)]; exact (refsplit_no1 y m d y' m' d' hr hr' w hT).mono fun _ _ h => h.rd
    | true =>
      have h := refsplit_yes y m d y' m' d' hr hr' w hT
      by_cases hc : cmp8 y m d y' m' d' ≤ 0
      · rw [if_pos ⟨rfl, rfl, hc⟩]
        rw [rem8_on (f := (y, m, d)) (t := (y', m', d')) hc] at h
        exact h.mono fun _ _ h => h.rd
      · rw [if_neg (fun h => hc h.2.2)]
        have h1 : cmp8 y m d y' m' d' = 1 := by have := cmp8_three y m d y' m' d'; omega
        rw [rem8_past (f := (y, m, d)) (t := (y', m', d')) h1] at h
        exact h.mono fun _ _ h => h.rd

end Go.Proofs.YtnndamhilbcdfaaDoor
