/- What the proofs of this layer need of the layer Div, in one text. -/
import Derived.Test.YtjkandnbjbfeiaaDoorAllDivB
import Derived.ScopeJumps
import Derived.Test.YtjkandnbjbfeiaaDoorAllMulC
set_option linter.unusedVariables false
set_option linter.unusedSimpArgs false

/-
  Contract of layer 3: guess: a limb is guessed, and gone round by goto until it is not too much.
-/
namespace Go.Proofs.YtjkandnbjbfeiaaDoor.Num
open Go.RowKit

section
variable {P : Program} {a : Act} {w : World} {Q : Exit → Act → World → Prop}
/-- A scope in which the run jumps back to one label: what follows the label is walked once. -/
theorem wp_scope_two {c rest : Code} (l : Nat) (J : Act → World → Prop) (μ : Act → World → Nat) (hf : findLabel c l = some (Code.skip.seq rest))
    (pass : ∀ a w, J a w → rest.wp P (Exit.jump l (fun a' w' => J a' w' ∧ μ a' w' < μ a w) Q) a w)
    (first : Hid (∀ a w, J a w → rest.wp P (Exit.jump l J Q) a w) → c.wp P (Exit.jump l J Q) a w) : (Code.scope c).wp P Q a w := by
  refine wp_scope_jumps l J μ hf (first fun a w hJ => wp_mono (pass a w hJ) ?_) fun a w hJ => wp_seq (wp_skip (pass a w hJ))
  intro e a' w' h
  cases e with
  | goto l' => exact ⟨h.1, h.2.1⟩
  | normal => exact h
  | exit id => exact h
  | ret => exact h
  | panic ch => exact h
  | outgrown => exact h
end

theorem guess_move {T L v1 : Nat} (h : 0 < T) : (T - 1) * v1 + (L + v1) = T * v1 + L := by
  obtain ⟨t, rfl⟩ : ∃ t, T = t + 1 := ⟨T - 1, by omega⟩
  rw [Nat.add_sub_cancel, Nat.add_mul]; omega

/-- How the frame stands at guess's label: how often (T), and what is left (L). -/
def GuessAt (R S : Value) (n v1 v2 high m : Nat) (w0 : World) (a : Act) (w : World) : Prop :=
  ∃ (T L : Nat) (u11 u12 u13 u14 u15 u16 u17 u18 u19 u20 u21 u22 u23 u24 u25 u26 u27 u28 u29 u30 u31 u32 u33 u34 u35 u36 u37 u38 u39 u40 u41 u42 u43 u44 u45 u46 u47 u48 u49 u50 u51 u52 u53 u54 u55 u56 u57 u58 u59 u60 u61 u62 u63 u64 u65 u66 u67 : Value), a = { tmps := #[R, S, undef, undef, .int .u32 0, .int .i64 n, .int .u64 v1, .int .u64 v2, .int .u64 high, .int .u64 T, .int .u64 L, u11, u12, u13, u14, u15, u16, u17, u18, u19, u20, u21, u22, u23, u24, u25, u26, u27, u28, u29, u30, u31, u32, u33, u34, u35, u36, u37, u38, u39, u40, u41, u42, u43, u44, u45, u46, u47, u48, u49, u50, u51, u52, u53, u54, u55, u56, u57, u58, u59, u60, u61, u62, u63, u64, u65, u66, u67, undef, undef], defers := [] } ∧
    T * v1 + L = high ∧ m ≤ T ∧ L < 1000000000 ∧ T ≤ high ∧ Below w0.heap.size w0 w

end Go.Proofs.YtjkandnbjbfeiaaDoor.Num

/-
  Contract of layer 3: long: quotient and rest, limb by limb, gone round by goto.
-/
namespace Go.Proofs.YtjkandnbjbfeiaaDoor.Num
open Go.RowKit

section
variable {P : Program} {a : Act} {w : World} {Q : Exit → Act → World → Prop}
theorem wp_scope_three {c rest : Code} (l : Nat) (J : Act → World → Prop) (μ : Act → World → Nat) (hf : findLabel c l = some (Code.skip.seq rest))
    (pass : ∀ a w n, J a w → μ a w = n → rest.wp P (Exit.jump l (fun a' w' => J a' w' ∧ μ a' w' < n) Q) a w)
    (first : Hid (∀ a w, J a w → rest.wp P (Exit.jump l J Q) a w) → c.wp P (Exit.jump l J Q) a w) : (Code.scope c).wp P Q a w :=
  wp_scope_two l J μ hf (fun a w hJ => pass a w _ hJ rfl) first
end

theorem Own.below {w w' : World} {g B : Nat} {zs : List Nat} (h : Own w g zs) (hb : Below B w w') (hg : g < B) : Own w' g zs := by
  unfold Own at h ⊢; rw [hb.block g hg]; exact h
theorem Own.kept {w w' : World} {g g' : Nat} {zs : List Nat} (h : Own w g zs) (hk : Kept g' w w') (hg : g ≠ g') : Own w' g zs := by
  unfold Own at h ⊢; rw [hk.block g hg]; exact h
theorem Own.other {w : World} {g g' : Nat} {zs : List Nat} (h : Own w g zs) (i : Nat) (v : Value) (hg : g ≠ g') : Own (w.setCell ⟨g', i, none⟩ v) g zs :=
  h.kept ((Kept.refl g' w).setCell i v) hg
/-- A part of a block of limbs. -/
theorem Own.part {w : World} {g i p c : Nat} {zs : List Nat} (h : Own w g zs) (hl : limbs zs) (hp : i + p ≤ zs.length) (hc : p ≤ c) (hc2 : c ≤ 1000000000) : Lim w w.heap.size (some ⟨g, i, none⟩) p c ((zs.drop i).take p) := by
  refine ⟨by rw [List.length_take, List.length_drop]; omega, hc, by unfold maxLen; omega, fun x hx => ?_, .inr ⟨g, i, rfl, h.lt, fun j u hu => ?_⟩, fun h => by cases h⟩
  · have := limbs_take (limbs_drop hl i) p x hx; omega
  · rw [cell_of_row w g (i + j) _ _ (0, 0) h]
    rw [vals, List.getElem?_map, List.getElem?_take] at hu
    split at hu
    · rw [List.getElem?_drop] at hu
      simpa [vals] using hu
    · cases hu
theorem gd_part {zs : List Nat} {i p j : Nat} (h : j < p) : gd ((zs.drop i).take p) j = gd zs (i + j) := by
  unfold gd
  rw [List.getD_eq_getElem?_getD, List.getD_eq_getElem?_getD, List.getElem?_take_of_lt h, List.getElem?_drop]

/-- What is guessed of the limbs of zs from place i on is the quotient there, or one more. -/
theorem guess_good {zs : List Nat} {i k b : Nat} (hl : limbs zs) (hb : (dg b).length = k + 2) (h : val zs < 1000000000 ^ (i + 1) * b) :
    gd zs (i + (k + 2)) ≤ gd (dg b) (k + 1) ∧ 0 < gd (dg b) (k + 1) ∧ val zs < 1000000000 ^ (i + (k + 3)) ∧
      (guessN ((gd zs (i + (k + 2)) * 1000000000 + gd zs (i + (k + 1))) * 1000000000 + gd zs (i + k)) (gd (dg b) (k + 1) * 1000000000 + gd (dg b) k) = val zs / (1000000000 ^ i * b) ∨
       guessN ((gd zs (i + (k + 2)) * 1000000000 + gd zs (i + (k + 1))) * 1000000000 + gd zs (i + k)) (gd (dg b) (k + 1) * 1000000000 + gd (dg b) k) = val zs / (1000000000 ^ i * b) + 1) := by
  have hlt := lt_pow_dg b
  rw [hb] at hlt
  have hZM : val zs < 1000000000 ^ (i + (k + 3)) := by
    refine Nat.lt_trans h ?_
    have e : 1000000000 ^ (i + (k + 3)) = 1000000000 ^ (i + 1) * 1000000000 ^ (k + 2) := by rw [← Nat.pow_add]; congr 1; omega
    rw [e]
    exact Nat.mul_lt_mul_of_pos_left hlt (Nat.pow_pos (by omega))
  have ev := top_two hb
  have hbl := val_take_lt (limbs_dg b) k
  have eZ := top_three (zs := zs) (e := i + k) (by rw [Nat.add_assoc]; exact hZM) (val_take_lt hl _)
  have hzl := val_take_lt hl (i + k)
  rw [Nat.add_assoc i k 2, Nat.add_assoc i k 1] at eZ
  have hv1 : 0 < gd (dg b) (k + 1) := by
    rcases Nat.eq_zero_or_pos (gd (dg b) (k + 1)) with h0 | h0
    · exfalso
      apply dg_last b
      rw [List.getLast?_eq_getElem?, hb, show k + 2 - 1 = k + 1 from rfl, gd_of_lt (by omega), h0]
    · exact h0
  have hv2 := gd_lt (limbs_dg b) k
  have hu1 := gd_lt hl (i + (k + 1))
  have hu2 := gd_lt hl (i + k)
  have eD : 1000000000 ^ i * b = 1000000000 ^ i * val ((dg b).take k) + 1000000000 ^ (i + k) * (gd (dg b) (k + 1) * 1000000000 + gd (dg b) k) := by
    rw [Nat.pow_add, Nat.mul_assoc, ← Nat.mul_add, ← ev]
  have hdl : 1000000000 ^ i * val ((dg b).take k) < 1000000000 ^ (i + k) := by
    rw [Nat.pow_add]; exact Nat.mul_lt_mul_of_pos_left hbl (Nat.pow_pos (by omega))
  have hq : val zs < 1000000000 * (1000000000 ^ i * b) := by
    rw [Nat.pow_succ, Nat.mul_comm (1000000000 ^ i) 1000000000, Nat.mul_assoc] at h; exact h
  refine ⟨?_, hv1, hZM, guess_near eZ hzl eD hdl (by omega) hq⟩
  clear hlt hZM ev hbl h
  rw [eD] at hq
  generalize 1000000000 ^ i * val ((dg b).take k) = dl at *
  generalize 1000000000 ^ (i + k) = E at *
  generalize gd zs (i + (k + 2)) = u0 at *
  generalize gd zs (i + (k + 1)) = u1 at *
  generalize gd zs (i + k) = u2 at *
  generalize gd (dg b) (k + 1) = v1 at *
  generalize gd (dg b) k = v2 at *
  have h1 : E * ((u0 * 1000000000 + u1) * 1000000000 + u2) < E * (1000000000 * (v1 * 1000000000 + v2 + 1)) := by
    have e2 : E * (1000000000 * (v1 * 1000000000 + v2 + 1)) = 1000000000 * (E * (v1 * 1000000000 + v2)) + 1000000000 * E := by
      rw [Nat.mul_left_comm, Nat.mul_add E, Nat.mul_one, Nat.mul_add]
    rw [e2]; omega
  have h2 := Nat.lt_of_mul_lt_mul_left h1
  omega

/-- What a round of long comes to: the limb G fits. -/
theorem round_fits {zs ys : List Nat} {i k b G cy : Nat} (hZM : val zs < 1000000000 ^ (i + (k + 3))) (hy : limbs ys) (ha : Above (i + (k + 3)) zs ys) (h : val ys + 1000000000 ^ i * (G * b) = val zs + cy * 1000000000 ^ (i + (k + 3))) (hG : G = val zs / (1000000000 ^ i * b)) :
    cy = 0 ∧ val ys = val zs % (1000000000 ^ i * b) := by
  have hZ1 : val ys < 1000000000 ^ (i + (k + 3)) := val_lt_above hy (fun j hj => (ha j hj).trans (gd_zero_of_lt hZM j hj))
  rw [Nat.mul_left_comm] at h
  exact long_fits h hG hZ1
theorem round_much {zs ys : List Nat} {i k b G cy : Nat} (hb : b < 1000000000 ^ (k + 2)) (hb0 : 0 < b) (hZM : val zs < 1000000000 ^ (i + (k + 3))) (hy : limbs ys) (ha : Above (i + (k + 3)) zs ys) (h : val ys + 1000000000 ^ i * (G * b) = val zs + cy * 1000000000 ^ (i + (k + 3))) (hG : G = val zs / (1000000000 ^ i * b) + 1) :
    0 < cy ∧ ∀ (xs : List Nat) (cy2 : Nat), limbs xs → Above (i + (k + 3)) ys xs → val xs + cy2 * 1000000000 ^ (i + (k + 3)) = val ys + 1000000000 ^ i * b → val xs = val zs % (1000000000 ^ i * b) := by
  have hz := gd_zero_of_lt hZM
  have hZ1 : val ys < 1000000000 ^ (i + (k + 3)) := val_lt_above hy (fun j hj => (ha j hj).trans (hz j hj))
  have hDM : 1000000000 ^ i * b < 1000000000 ^ (i + (k + 3)) := by
    rw [Nat.pow_add]
    refine Nat.mul_lt_mul_of_pos_left (Nat.lt_of_lt_of_le hb (Nat.pow_le_pow_right (by omega) (by omega))) (Nat.pow_pos (by omega))
  have hD : 0 < 1000000000 ^ i * b := Nat.mul_pos (Nat.pow_pos (by omega)) hb0
  rw [Nat.mul_left_comm] at h
  have key : ∀ (Z2 cy2 : Nat), Z2 + cy2 * 1000000000 ^ (i + (k + 3)) = val ys + 1000000000 ^ i * b → Z2 < 1000000000 ^ (i + (k + 3)) → 0 < cy ∧ Z2 = val zs % (1000000000 ^ i * b) := fun Z2 cy2 h2 hZ2 => long_back h hG hD hZ1 hZM hDM h2 hZ2
  constructor
  · have h1 := Nat.div_add_mod (val ys + 1000000000 ^ i * b) (1000000000 ^ (i + (k + 3)))
    rw [Nat.add_comm, Nat.mul_comm (1000000000 ^ (i + (k + 3)))] at h1
    exact (key _ _ h1 (Nat.mod_lt _ (Nat.pow_pos (by omega)))).1
  · intro xs cy2 hx hax h2
    exact (key _ _ h2 (val_lt_above hx (fun j hj => (hax j hj).trans ((ha j hj).trans (hz j hj))))).2

/-- How the frame stands at long's label: room reads as zs, the quotient as qs; the limbs up to i are still to be found. -/
def LongAt (V0 : Value) (k n m d b T : Nat) (W0 : World) (a : Act) (w : World) : Prop :=
  ∃ (i : Nat) (zs qs : List Nat) (w1 : World) (A1 : Option Addr) (c1 g2 : Nat) (us : Nat → Value), a = { tmps := #[V0, .slice A1 (k + 2) c1, undef, undef, .slice (some ⟨g2, 0, none⟩) m m, .slice none 0 0, .int .u32 d, .slice (some ⟨w1.heap.size, 0, none⟩) (n + 1) (n + 1), .int .i64 i, us 9, us 10, us 11, us 12, us 13, us 14, us 15, us 16, us 17, us 18, us 19, us 20, us 21, us 22, us 23, us 24, us 25, us 26, us 27, us 28, us 29, us 30, us 31, us 32, us 33, us 34, us 35, us 36, us 37, us 38, us 39, us 40, us 41, us 42, us 43, us 44, us 45, us 46, us 47, us 48, us 49, us 50, us 51, us 52, us 53, us 54, us 55, us 56, us 57, us 58, us 59, us 60, us 61, us 62, us 63, us 64, us 65, us 66, us 67, us 68, us 69, us 70, us 71, us 72, us 73, undef, undef, undef, undef, undef, undef, undef, undef, undef, undef, undef], defers := [] } ∧
    i < m ∧ zs.length = n + 1 ∧ limbs zs ∧ qs.length = m ∧ limbs qs ∧ (∀ j, j < i + 1 → gd qs j = 0) ∧ T = val qs * b + val zs ∧ val zs < 1000000000 ^ (i + 1) * b ∧ Own w w1.heap.size zs ∧ Own w g2 qs ∧ Below w1.heap.size w1 w ∧ Num w1 w1.heap.size A1 (k + 2) c1 b ∧ Below W0.heap.size W0 w1 ∧ w1.heap.size < g2

theorem LongAt.make {V0 : Value} {k n m d b T : Nat} {W0 w : World} {i : Nat} {zs qs : List Nat} {w1 : World} {A1 : Option Addr} {c1 g2 : Nat} {u9 u10 u11 u12 u13 u14 u15 u16 u17 u18 u19 u20 u21 u22 u23 u24 u25 u26 u27 u28 u29 u30 u31 u32 u33 u34 u35 u36 u37 u38 u39 u40 u41 u42 u43 u44 u45 u46 u47 u48 u49 u50 u51 u52 u53 u54 u55 u56 u57 u58 u59 u60 u61 u62 u63 u64 u65 u66 u67 u68 u69 u70 u71 u72 u73 : Value} (h1 : i < m) (h2 : zs.length = n + 1) (h3 : limbs zs) (h4 : qs.length = m) (h5 : limbs qs) (h6 : (∀ j, j < i + 1 → gd qs j = 0)) (h7 : T = val qs * b + val zs) (h8 : val zs < 1000000000 ^ (i + 1) * b) (h9 : Own w w1.heap.size zs) (h10 : Own w g2 qs) (h11 : Below w1.heap.size w1 w) (h12 : Num w1 w1.heap.size A1 (k + 2) c1 b) (h13 : Below W0.heap.size W0 w1) (h14 : w1.heap.size < g2) : LongAt V0 k n m d b T W0 { tmps := #[V0, .slice A1 (k + 2) c1, undef, undef, .slice (some ⟨g2, 0, none⟩) m m, .slice none 0 0, .int .u32 d, .slice (some ⟨w1.heap.size, 0, none⟩) (n + 1) (n + 1), .int .i64 i, u9, u10, u11, u12, u13, u14, u15, u16, u17, u18, u19, u20, u21, u22, u23, u24, u25, u26, u27, u28, u29, u30, u31, u32, u33, u34, u35, u36, u37, u38, u39, u40, u41, u42, u43, u44, u45, u46, u47, u48, u49, u50, u51, u52, u53, u54, u55, u56, u57, u58, u59, u60, u61, u62, u63, u64, u65, u66, u67, u68, u69, u70, u71, u72, u73, undef, undef, undef, undef, undef, undef, undef, undef, undef, undef, undef], defers := [] } w :=
  ⟨i, zs, qs, w1, A1, c1, g2, fun j => (#[u9, u10, u11, u12, u13, u14, u15, u16, u17, u18, u19, u20, u21, u22, u23, u24, u25, u26, u27, u28, u29, u30, u31, u32, u33, u34, u35, u36, u37, u38, u39, u40, u41, u42, u43, u44, u45, u46, u47, u48, u49, u50, u51, u52, u53, u54, u55, u56, u57, u58, u59, u60, u61, u62, u63, u64, u65, u66, u67, u68, u69, u70, u71, u72, u73] : Array Value).getD (j - 9) undef, rfl, h1, h2, h3, h4, h5, h6, h7, h8, h9, h10, h11, h12, h13, h14⟩

theorem LongAt.elim {X : Act → World → Prop} {V0 : Value} {k n m d b T : Nat} {W0 : World} (h : ∀ (w : World) (i : Nat) (zs qs : List Nat) (w1 : World) (A1 : Option Addr) (c1 g2 : Nat) (us : Nat → Value), i < m → zs.length = n + 1 → limbs zs → qs.length = m → limbs qs → (∀ j, j < i + 1 → gd qs j = 0) → T = val qs * b + val zs → val zs < 1000000000 ^ (i + 1) * b → Own w w1.heap.size zs → Own w g2 qs → Below w1.heap.size w1 w → Num w1 w1.heap.size A1 (k + 2) c1 b → Below W0.heap.size W0 w1 → w1.heap.size < g2 → X { tmps := #[V0, .slice A1 (k + 2) c1, undef, undef, .slice (some ⟨g2, 0, none⟩) m m, .slice none 0 0, .int .u32 d, .slice (some ⟨w1.heap.size, 0, none⟩) (n + 1) (n + 1), .int .i64 i, us 9, us 10, us 11, us 12, us 13, us 14, us 15, us 16, us 17, us 18, us 19, us 20, us 21, us 22, us 23, us 24, us 25, us 26, us 27, us 28, us 29, us 30, us 31, us 32, us 33, us 34, us 35, us 36, us 37, us 38, us 39, us 40, us 41, us 42, us 43, us 44, us 45, us 46, us 47, us 48, us 49, us 50, us 51, us 52, us 53, us 54, us 55, us 56, us 57, us 58, us 59, us 60, us 61, us 62, us 63, us 64, us 65, us 66, us 67, us 68, us 69, us 70, us 71, us 72, us 73, undef, undef, undef, undef, undef, undef, undef, undef, undef, undef, undef], defers := [] } w) (a : Act) (w : World) (hJ : LongAt V0 k n m d b T W0 a w) : X a w := by
  unfold LongAt at hJ
  rcases hJ with ⟨i, zs, qs, w1, A1, c1, g2, us, rfl, h1, h2, h3, h4, h5, h6, h7, h8, h9, h10, h11, h12, h13, h14⟩
  exact h w i zs qs w1 A1 c1 g2 us h1 h2 h3 h4 h5 h6 h7 h8 h9 h10 h11 h12 h13 h14

/-- What long hands back. -/
def RetTwo (W : World) (q r : Nat) (e : Ending) (w' : World) : Prop :=
  ∃ A n c A' n' c', e = .returned (.tuple #[.slice A n c, .slice A' n' c']) ∧ Num w' w'.heap.size A n c q ∧ Num w' w'.heap.size A' n' c' r ∧ Below W.heap.size W w'

end Go.Proofs.YtjkandnbjbfeiaaDoor.Num

/-
  Contracts of layer 3: Div, Near, Gcd.
-/
namespace Go.Proofs.YtjkandnbjbfeiaaDoor.Num
open Go.RowKit

theorem dg_one {b : Nat} (h : (dg b).length = 1) : dg b = [b] ∧ b < 1000000000 := by
  have hb : 0 < b := by
    rcases Nat.eq_zero_or_pos b with h0 | h0
    · rw [h0, dg_zero] at h; simp at h
    · exact h0
  rw [dg_pos hb] at h ⊢
  have h1 : dg (b / 1000000000) = [] := List.eq_nil_of_length_eq_zero (by simpa using h)
  rw [h1]
  rw [dg_eq_nil] at h1
  have : b < 1000000000 := by omega
  exact ⟨by rw [Nat.mod_eq_of_lt this], this⟩
theorem dg_len_pos {b n : Nat} (h : (dg b).length = n) (hb : 0 < b) : 0 < n := by
  rcases Nat.eq_zero_or_pos n with h0 | h0
  · subst h0
    have := dg_eq_nil.1 (List.eq_nil_of_length_eq_zero h)
    omega
  · exact h0

/-- Of two numbers' quotient the nearest one, the even one if both are as near. -/
def nearN (a b : Nat) : Nat := if b < 2 * (a % b) then a / b + 1 else if 2 * (a % b) = b ∧ a / b % 2 = 1 then a / b + 1 else a / b

theorem div_len_le {a b n : Nat} (h : (dg a).length = n) : (dg (a / b)).length ≤ n := by
  rw [← h]; exact dg_len_mono (Nat.div_le_self _ _)
theorem mod_len_le {a b n : Nat} (h : (dg a).length = n) : (dg (a % b)).length ≤ n := by
  rw [← h]; exact dg_len_mono (Nat.mod_le _ _)

end Go.Proofs.YtjkandnbjbfeiaaDoor.Num

/-
  Contracts of layer 3: the document's Div, Small, Near, Gcd.
-/
namespace Go.Proofs.YtjkandnbjbfeiaaDoor.Num
open Go.RowKit

theorem limbs_fit {xs : List Nat} (h : limbs xs) : ∀ x ∈ xs, x < 4294967296 := fun x hx => by have := h x hx; omega
theorem rdiv_step {xs zs : List Nat} {k b r R q : Nat} (h : val (xs.drop (k + 1)) = b * val zs + r) (hR : R = gd xs k + 1000000000 * r) (hq : q = R / b) : val (xs.drop k) = b * val (q :: zs) + R % b := by
  rw [val_drop, h, val, hq]
  have e := Nat.div_add_mod R b
  generalize R / b = Q at *
  generalize R % b = s at *
  generalize val zs = z at *
  rw [Nat.mul_add, Nat.mul_add, Nat.mul_left_comm b 1000000000]
  omega
theorem rdiv_half {b L H R : Nat} (h1 : b * L ≤ R) (h2 : R < b * H) (h : H = L + 1) : L = R / b ∧ R - b * L = R % b := by
  subst h
  have hb : 0 < b := by
    rcases Nat.eq_zero_or_pos b with h0 | h0
    · subst h0; omega
    · exact h0
  have e1 : R / b = L := by
    apply Nat.le_antisymm
    · have : R / b < L + 1 := Nat.div_lt_of_lt_mul h2
      omega
    · rw [Nat.le_div_iff_mul_le hb, Nat.mul_comm]; exact h1
  refine ⟨e1.symm, ?_⟩
  have := Nat.div_add_mod R b
  rw [e1] at this
  omega
theorem rdiv_len {b r g n : Nat} (hr : r < b) (hg : g < 1000000000) (hn : (dg b).length = n) : (dg (g + 1000000000 * r)).length ≤ n + 1 := by
  apply dg_len_le
  have := lt_pow_dg b
  rw [hn] at this
  rw [Nat.pow_succ]
  omega
theorem rdiv_top {b r g : Nat} (hr : r < b) (hg : g < 1000000000) : g + 1000000000 * r < b * 1000000000 := by omega

end Go.Proofs.YtjkandnbjbfeiaaDoor.Num
