/-
 What is allocated, plain: the largest rests get what is left of the total; rows of decimals in memory of a call's own.
-/
import Derived.Test.YthlhpgphmfnlgaaGreatAllRouHA
import Derived.Test.YthlhpgphmfnlgaaGreatAllDecG
set_option maxRecDepth 100000
set_option maxHeartbeats 32000000
set_option linter.unusedVariables false
set_option linter.unusedSimpArgs false
namespace Go.Proofs.YthlhpgphmfnlgaaGreat
open Go.RowKit
def sumN (f : Nat → Nat) : Nat → Nat
 | 0 => 0
 | m + 1 => sumN f m + f m
theorem sumN_congr {f g : Nat → Nat} : ∀ {m : Nat}, (∀ j, j < m → f j = g j) → sumN f m = sumN g m
 | 0, _ => rfl
 | m + 1, h => by
   show sumN f m + f m = sumN g m + g m
   rw [sumN_congr (m := m) (fun j hj => h j (by omega)), h m (by omega)]
theorem sumN_le {f g : Nat → Nat} : ∀ {m : Nat}, (∀ j, j < m → f j ≤ g j) → sumN f m ≤ sumN g m
 | 0, _ => Nat.le_refl _
 | m + 1, h => Nat.add_le_add (sumN_le (m := m) (fun j hj => h j (by omega))) (h m (by omega))
theorem sumN_mul (c : Nat) (f : Nat → Nat) : ∀ m, sumN (fun j => c * f j) m = c * sumN f m
 | 0 => by simp [sumN]
 | m + 1 => by show sumN (fun j => c * f j) m + c * f m = c * (sumN f m + f m); rw [sumN_mul c f m, Nat.mul_add]
theorem sumN_add (f g : Nat → Nat) : ∀ m, sumN (fun j => f j + g j) m = sumN f m + sumN g m
 | 0 => rfl
 | m + 1 => by
   show sumN (fun j => f j + g j) m + (f m + g m) = (sumN f m + f m) + (sumN g m + g m)
   rw [sumN_add f g m]; omega
theorem sumN_one {f : Nat → Nat} {t : Nat} : ∀ {m : Nat}, t < m → sumN (fun j => if j = t then f j + 1 else f j) m = sumN f m + 1
 | 0, h => absurd h (Nat.not_lt_zero _)
 | m + 1, h => by
   show sumN (fun j => if j = t then f j + 1 else f j) m + (if m = t then f m + 1 else f m) = (sumN f m + f m) + 1
   by_cases e : m = t
   · rw [if_pos e, sumN_congr (g := f) (fun j hj => if_neg (by omega))]; omega
   · rw [if_neg e, sumN_one (m := m) (by omega)]; omega
theorem sumN_ge {f : Nat → Nat} {t : Nat} : ∀ {m : Nat}, t < m → f t ≤ sumN f m
 | 0, h => absurd h (Nat.not_lt_zero _)
 | m + 1, h => by
   show f t ≤ sumN f m + f m
   rcases Nat.lt_or_ge t m with h1 | h1
   · have := sumN_ge (f := f) h1; omega
   · obtain rfl : t = m := by omega
     omega
theorem sumN_few {f : Nat → Nat} {t : Nat} : ∀ {m : Nat}, t < m → (∀ j, j < m → f j ≤ 1) → f t = 0 → sumN f m < m
 | 0, h, _, _ => absurd h (Nat.not_lt_zero _)
 | m + 1, h, h1, h0 => by
   show sumN f m + f m < m + 1
   have hm := h1 m (by omega)
   rcases Nat.lt_or_ge t m with h2 | h2
   · have := sumN_few (m := m) h2 (fun j hj => h1 j (by omega)) h0; omega
   · obtain rfl : t = m := by omega
     have h3 : sumN f t ≤ sumN (fun _ => 1) t := sumN_le (fun j hj => h1 j (by omega))
     have h4 : ∀ k, sumN (fun _ => 1) k = k := fun k => by
       induction k with
       | zero => rfl
       | succ k ih => show sumN (fun _ => 1) k + 1 = k + 1; rw [ih]
     rw [h4] at h3
     omega
def xtr (F : Nat → Nat) (zs : List Nat) : Nat → Nat → Nat
 | 0, j => F j
 | a + 1, j => if j = gd zs a then xtr F zs a j + 1 else xtr F zs a j
section
variable {F : Nat → Nat} {zs : List Nat} {r : Nat → Int} {m : Nat}
theorem xtr_sum (h : ∀ a, a < m → gd zs a < m) : ∀ a, a ≤ m → sumN (xtr F zs a) m = sumN F m + a
 | 0, _ => rfl
 | a + 1, ha => by
   have e := sumN_one (f := xtr F zs a) (t := gd zs a) (m := m) (h a (by omega))
   rw [xtr_sum h a (by omega)] at e
   exact e
theorem xtr_not {j : Nat} : ∀ a, (∀ b, b < a → gd zs b ≠ j) → xtr F zs a j = F j
 | 0, _ => rfl
 | a + 1, h => by
   show (if j = gd zs a then _ else _) = _
   rw [if_neg (fun e => h a (by omega) e.symm), xtr_not a (fun b hb => h b (by omega))]
theorem xtr_mono {j : Nat} : ∀ {b a : Nat}, b ≤ a → xtr F zs b j ≤ xtr F zs a j := by
 intro b a h
 induction a with
 | zero => obtain rfl : b = 0 := by omega
           exact Nat.le_refl _
 | succ a ih =>
   rcases Nat.lt_or_ge b (a + 1) with h1 | h1
   · have h2 := ih (by omega)
     show _ ≤ (if j = gd zs a then _ else _)
     split <;> omega
   · obtain rfl : b = a + 1 := by omega
     exact Nat.le_refl _
theorem srt_ne (h : Srt r zs m) {a b : Nat} (hab : a < b) (hb : b < m) : gd zs a ≠ gd zs b := fun e => by
 have := h.2 a b hab hb
 unfold Bef at this
 rw [e] at this
 omega
theorem xtr_at (h : Srt r zs m) {b : Nat} (hb : b < m) : xtr F zs b (gd zs b) = F (gd zs b) := xtr_not b (fun c hc => srt_ne h hc hb)
theorem xtr_two (h : Srt r zs m) {j : Nat} : ∀ a, a ≤ m → xtr F zs a j = F j ∨ (xtr F zs a j = F j + 1 ∧ ∃ b, b < a ∧ gd zs b = j)
 | 0, _ => .inl rfl
 | a + 1, ha => by
   show (if j = gd zs a then xtr F zs a j + 1 else xtr F zs a j) = F j ∨ ((if j = gd zs a then xtr F zs a j + 1 else xtr F zs a j) = F j + 1 ∧ _)
   by_cases e : j = gd zs a
   · rw [if_pos e]
     have h1 : xtr F zs a j = F j := by rw [e]; exact xtr_at h (by omega)
     exact .inr ⟨by rw [h1], a, by omega, e.symm⟩
   · rw [if_neg e]
     rcases xtr_two h (j := j) a (by omega) with h1 | ⟨h1, b, hb, hj⟩
     · exact .inl h1
     · exact .inr ⟨h1, b, by omega, hj⟩
theorem xtr_hit (h : Srt r zs m) {b a : Nat} (hb : b < a) (ha : a ≤ m) : xtr F zs a (gd zs b) = F (gd zs b) + 1 := by
 have h1 : xtr F zs (b + 1) (gd zs b) = F (gd zs b) + 1 := by
   show (if gd zs b = gd zs b then _ else _) = _
   rw [if_pos rfl, xtr_at h (by omega)]
 have h2 := xtr_mono (F := F) (zs := zs) (j := gd zs b) (show b + 1 ≤ a by omega)
 rcases xtr_two (F := F) h (j := gd zs b) a ha with h3 | ⟨h3, -⟩ <;> omega
theorem srt_all (h : Srt r zs m) {j : Nat} (hj : j < m) : ∃ b, b < m ∧ gd zs b = j := by
 refine Decidable.byContradiction fun hn => ?_
 have h0 : xtr (fun _ => 0) zs m j = 0 := xtr_not m (fun b hb e => hn ⟨b, hb, e⟩)
 have h1 : ∀ k, k < m → xtr (fun _ => 0) zs m k ≤ 1 := fun k _ => by
   rcases xtr_two (F := fun _ => 0) h (j := k) m (Nat.le_refl _) with h | ⟨h, -⟩ <;> rw [h] <;> simp
 have h2 := sumN_few hj h1 h0
 have h3 := xtr_sum (F := fun _ => 0) h.1 m (Nat.le_refl _)
 omega
theorem srt_le (h : Srt r zs m) {a b : Nat} (hab : a ≤ b) (hb : b < m) : r (gd zs b) ≤ r (gd zs a) := by
 rcases Nat.lt_or_ge a b with h1 | h1
 · have := h.2 a b h1 hb
   unfold Bef at this
   omega
 · obtain rfl : a = b := by omega
   exact Int.le_refl _
end
theorem left_out {P : Nat → Nat} {zs : List Nat} {m W z : Nat} (hW : 0 < W) (hP : sumN P m = W) (h : Srt (fun j => ((z * P j % W : Nat) : Int)) zs m) :
   ∃ K, sumN (fun j => z * P j / W) m + K = z ∧ K < m ∧ ∀ a, a < K → 0 < z * P (gd zs a) % W := by
 have h1 : W * sumN (fun j => z * P j / W) m + sumN (fun j => z * P j % W) m = z * W := by
   rw [← sumN_mul, ← sumN_add, ← hP, ← sumN_mul]
   exact sumN_congr fun j _ => by rw [hP]; exact Nat.div_add_mod _ _
 have hm : 0 < m := by
   rcases Nat.eq_zero_or_pos m with h0 | h0
   · rw [h0] at hP; simp [sumN] at hP; omega
   · exact h0
 obtain ⟨A, hA⟩ : ∃ A, A = sumN (fun j => z * P j / W) m := ⟨_, rfl⟩
 obtain ⟨B, hB⟩ : ∃ B, B = sumN (fun j => z * P j % W) m := ⟨_, rfl⟩
 rw [← hA, ← hB] at h1
 have hAz : A ≤ z := by
   refine Nat.le_of_mul_le_mul_left (c := W) ?_ hW
   rw [Nat.mul_comm W z]; omega
 have hK : B = W * (z - A) := by rw [Nat.mul_sub, Nat.mul_comm W z]; omega
 have bound : ∀ a, a ≤ m → (∀ b, a ≤ b → b < m → z * P (gd zs b) % W = 0) → B ≤ (W - 1) * a := by
   intro a ha h0
   have e := xtr_sum (F := fun _ => 0) h.1 a ha
   have e0 : ∀ k, sumN (fun _ => 0) k = 0 := fun k => by
     induction k with
     | zero => rfl
     | succ k ih => show sumN (fun _ => 0) k + 0 = 0; rw [ih]
   rw [e0, Nat.zero_add] at e
   rw [hB]
   refine Nat.le_trans (sumN_le (g := fun j => (W - 1) * xtr (fun _ => 0) zs a j) fun j hj => ?_) (by rw [sumN_mul, e]; exact Nat.le_refl _)
   obtain ⟨b, hb, rfl⟩ := srt_all h hj
   rcases Nat.lt_or_ge b a with h2 | h2
   · rw [xtr_hit h h2 ha]
     have := Nat.mod_lt (z * P (gd zs b)) hW
     show _ ≤ (W - 1) * (0 + 1)
     omega
   · rw [h0 b h2 hb]; exact Nat.zero_le _
 refine ⟨z - A, by rw [← hA]; omega, ?_, fun a ha => ?_⟩
 · have h2 := bound m (Nat.le_refl _) (fun b h3 h4 => by omega)
   rw [hK] at h2
   refine Decidable.byContradiction fun hn => ?_
   have h3 : W * m ≤ W * (z - A) := Nat.mul_le_mul_left _ (by omega)
   have h4 : (W - 1) * m + m = W * m := by
     have : W = (W - 1) + 1 := by omega
     conv => rhs; rw [this, Nat.add_mul, Nat.one_mul]
   omega
 · refine Decidable.byContradiction fun hn => ?_
   have hz0 : z * P (gd zs a) % W = 0 := by omega
   have ham : a ≤ m := by
     refine Decidable.byContradiction fun h5 => ?_
     have h2 := bound m (Nat.le_refl _) (fun b h3 h4 => by omega)
     rw [hK] at h2
     have h3 : W * m ≤ W * (z - A) := Nat.mul_le_mul_left _ (by omega)
     have h4 : (W - 1) * m + m = W * m := by
       have : W = (W - 1) + 1 := by omega
       conv => rhs; rw [this, Nat.add_mul, Nat.one_mul]
     omega
   have h2 := bound a ham (fun b h3 h4 => by
     have := srt_le h h3 h4
     rw [hz0] at this
     omega)
   rw [hK] at h2
   have h3 : W * (a + 1) ≤ W * (z - A) := Nat.mul_le_mul_left _ (by omega)
   have h4 : (W - 1) * a + a = W * a := by
     have : W = (W - 1) + 1 := by omega
     conv => rhs; rw [this, Nat.add_mul, Nat.one_mul]
   rw [Nat.mul_add, Nat.mul_one] at h3
   omega
theorem tot_nat {d : Nat → Int × Nat} {M : Nat} : ∀ {k : Nat}, (∀ j, j < k → 0 ≤ up (d j).1 (d j).2 M) → tot d M k = ((sumN (fun j => (up (d j).1 (d j).2 M).natAbs) k : Nat) : Int)
 | 0, _ => rfl
 | k + 1, h => by
   have h1 := tot_nat (k := k) (fun j hj => h j (by omega))
   have h2 := h k (by omega)
   show tot d M k + up (d k).1 (d k).2 M = ((sumN _ k + (up (d k).1 (d k).2 M).natAbs : Nat) : Int)
   rw [h1]
   omega
theorem shS_nonneg {d : Nat → Int × Nat} {j : Nat} (h : 0 ≤ (d j).1) : 0 ≤ (shS d j).1 := by
 show 0 ≤ stripI _ _ _
 have h1 : ngB (d j).1 = false := decide_eq_false (by omega)
 unfold stripI sgn
 rw [h1]
 exact Int.natCast_nonneg _
theorem up_nonneg {i : Int} {s M : Nat} (h : 0 ≤ i) : 0 ≤ up i s M := Int.mul_nonneg h (Int.natCast_nonneg _)
theorem parts_sum {d : Nat → Int × Nat} {m : Nat} (h : ∀ j, j < m → 0 ≤ (d j).1) : sumN (partP d m) m = wholeW d m := by
 have h1 := sum_up (d := shS d) (M := sumS (shS d) m) (k := m) (fun j hj => sumS_ge hj)
 rw [up_same] at h1
 have h2 := tot_nat (d := shS d) (M := sumS (shS d) m) (k := m) (fun j hj => up_nonneg (shS_nonneg (h j hj)))
 rw [← h1.2] at h2
 show sumN (fun j => (up (shS d j).1 (shS d j).2 (sumS (shS d) m)).natAbs) m = (sumI (shS d) m).natAbs
 omega
theorem part_pos {d : Nat → Int × Nat} {m j : Nat} (h : (d j).1 ≠ 0) : 0 < partP d m j := by
 show 0 < (up _ _ _).natAbs
 rw [abs_up]
 have h1 : (shS d j).1 ≠ 0 := fun e => h (strip_zero' e)
 exact Nat.mul_pos (by omega) (ten_pos _)
theorem whole_pos {d : Nat → Int × Nat} {m : Nat} (h : ∀ j, j < m → 0 ≤ (d j).1) (hp : ∃ j, j < m ∧ 0 < (d j).1) : 0 < wholeW d m := by
 obtain ⟨j, hj, h0⟩ := hp
 rw [← parts_sum h]
 exact Nat.lt_of_lt_of_le (part_pos (m := m) (by omega)) (sumN_ge hj)
theorem sum_same {d : Nat → Int × Nat} {x : Nat → Nat} {S : Nat} : ∀ {m : Nat}, (∀ j, j < m → d j = (((x j : Nat) : Int), S)) → sumI d m = ((sumN x m : Nat) : Int) ∧ (0 < m → sumS d m = S) ∧ sumS d m ≤ S
 | 0, _ => ⟨rfl, fun h => absurd h (Nat.not_lt_zero _), Nat.zero_le _⟩
 | m + 1, h => by
   obtain ⟨h1, h2, h3⟩ := sum_same (m := m) (fun j hj => h j (by omega))
   have h4 := h m (by omega)
   have h5 : sumS d (m + 1) = S := by
     show max (sumS d m) (d m).2 = S
     rw [h4]; show max (sumS d m) S = S; omega
   refine ⟨?_, fun _ => h5, by omega⟩
   show addZ (sumI d m) (sumS d m) (d m).1 (d m).2 = ((sumN x m + x m : Nat) : Int)
   have h6 : max (sumS d m) S = S := by omega
   rw [h4, h1]
   show up _ _ (max (sumS d m) S) + up _ S (max (sumS d m) S) = _
   rw [h6, up_same]
   rcases Nat.eq_zero_or_pos m with h0 | h0
   · subst h0; show up ((0 : Nat) : Int) _ _ + _ = _; rw [show ((0 : Nat) : Int) = 0 from rfl, up_zero]; simp [sumN]
   · rw [h2 h0, up_same]; omega
structure RowQ (w : World) (g : Nat) (l : List DQ) : Prop where
 cell : ∀ k u, (drow l)[k]? = some u → w.cell? ⟨g, k, none⟩ = some u
 free : ∀ k, k < (drow l).length → w.frozen? ⟨g, k, none⟩ = false
 lt : g < w.heap.size
section
variable {w w' : World} {g : Nat} {l : List DQ}
theorem RowQ.on (h : RowQ w g l) (hb : Below w.heap.size w w') : RowQ w' g l :=
 ⟨fun k u hu => (hb.cell (p := ⟨g, k, none⟩) h.lt).trans (h.cell k u hu), fun k hk => (hb.frozen (p := ⟨g, k, none⟩) h.lt).trans (h.free k hk), Nat.lt_of_lt_of_le h.lt hb.size⟩
theorem RowQ.cells {j : Nat} (h : RowQ w g l) (hj : j < l.length) : w.cell? ⟨g, j * 3, none⟩ = some (.bool (ngB (dOf l j).1)) ∧ w.cell? ⟨g, j * 3 + 1, none⟩ = some (.slice (pOf l j).1 (pOf l j).2.1 (pOf l j).2.2) ∧ w.cell? ⟨g, j * 3 + 2, none⟩ = some (.int .i64 ((dOf l j).2 : Int)) := by
 have D := drow_at (of_at hj)
 exact ⟨h.cell _ _ D.1, h.cell _ _ D.2.1, h.cell _ _ D.2.2⟩
theorem RowQ.frees {j : Nat} (h : RowQ w g l) (hj : j < l.length) : w.frozen? ⟨g, j * 3, none⟩ = false ∧ w.frozen? ⟨g, j * 3 + 1, none⟩ = false ∧ w.frozen? ⟨g, j * 3 + 2, none⟩ = false := by
 have hl := drow_len l
 exact ⟨h.free _ (by omega), h.free _ (by omega), h.free _ (by omega)⟩
theorem put_cell {w : World} {g i k : Nat} {u v : Value} {xs : List Value} (h : ∀ k u, xs[k]? = some u → w.cell? ⟨g, k, none⟩ = some u) (hi : i < xs.length) (hu : (xs.set i v)[k]? = some u) : (w.setCell ⟨g, i, none⟩ v).cell? ⟨g, k, none⟩ = some u := by
 by_cases e : i = k
 · subst e
   rw [List.getElem?_set_self hi] at hu
   injection hu with hu
   subst hu
   exact World.cell?_setCell_same _ _ _ (h i _ (List.getElem?_eq_getElem hi))
 · rw [List.getElem?_set_ne e] at hu
   rw [World.cell?_setCell_other _ _ _ _ (by simp only [ne_eq, Addr.mk.injEq]; omega)]
   exact h k u hu
theorem RowQ.store (h : RowQ w g l) {j : Nat} (hj : j < l.length) (q : DQ) : RowQ (((w.setCell ⟨g, j * 3, none⟩ (.bool (ngB q.1.1))).setCell ⟨g, j * 3 + 1, none⟩ (.slice q.2.1 q.2.2.1 q.2.2.2)).setCell ⟨g, j * 3 + 2, none⟩ (.int .i64 (q.1.2 : Int))) g (l.set j q) := by
 have hl := drow_len l
 refine ⟨fun k u hu => ?_, fun k hk => ?_, by have := h.lt; simpa using this⟩
 · rw [drow_set] at hu
   exact put_cell (fun k u hu => put_cell (fun k u hu => put_cell h.cell (by omega) hu) (by rw [List.length_set]; omega) hu) (by rw [List.length_set, List.length_set]; omega) hu
 · rw [World.frozen?_setCell, World.frozen?_setCell, World.frozen?_setCell]
   refine h.free k ?_
   rw [drow_len, List.length_set] at hk
   omega
theorem RowQ.far (h : RowQ w g l) (a : Addr) (v : Value) (hp : a.block ≠ g) : RowQ (w.setCell a v) g l :=
 ⟨fun k u hu => (World.cell?_setCell_far w a ⟨g, k, none⟩ v hp).trans (h.cell k u hu), fun k hk => by rw [World.frozen?_setCell]; exact h.free k hk, by have := h.lt; simpa using this⟩
theorem RowQ.num_put {B n c : Nat} {A : Option Addr} {xs : List Nat} (h : Lim w B A n c xs) (ho : RowQ w g l) {j : Nat} (hj : j < l.length) (v1 v2 v3 : Value) : Lim (((w.setCell ⟨g, j * 3, none⟩ v1).setCell ⟨g, j * 3 + 1, none⟩ v2).setCell ⟨g, j * 3 + 2, none⟩ v3) B A n c xs := by
 have C := ho.cells hj
 refine ⟨h.len, h.cap, h.room, h.fit, ?_, h.addr⟩
 rcases h.row with h' | ⟨b, o, rfl, hb, hc⟩
 · exact .inl h'
 · refine .inr ⟨b, o, rfl, hb, fun t u hu => ?_⟩
   have hk := hc t u hu
   obtain ⟨x, hx⟩ : ∃ x : Nat, u = .int .u32 (x : Int) := by
     have := List.mem_of_getElem? hu
     unfold vals at this
     obtain ⟨x, _, rfl⟩ := List.mem_map.1 this
     exact ⟨x, rfl⟩
   have ne : ∀ k z, w.cell? ⟨g, k, none⟩ = some z → NoLimb z → (⟨g, k, none⟩ : Addr) ≠ ⟨b, o + t, none⟩ := fun k z hz hn he => by
     rw [he, hk] at hz
     injection hz with hz
     exact hn x (hz.symm.trans hx)
   rw [World.cell?_setCell_other _ _ _ _ (ne _ _ C.2.2 (noLimb_int _)), World.cell?_setCell_other _ _ _ _ (ne _ _ C.2.1 (noLimb_slice _ _ _)), World.cell?_setCell_other _ _ _ _ (ne _ _ C.1 (noLimb_bool _))]
   exact hk
theorem RowQ.of_own {base n : Nat} {A : Option Addr} {c : Nat} (h : w.ownsRow base 25 3 (.slice A n c) l.length (drow l)) (hl : 0 < l.length) : ∃ g, A = some ⟨g, 0, none⟩ ∧ base ≤ g ∧ RowQ w g l ∧ n = l.length ∧ l.length ≤ c ∧ c ≤ maxLen := by
 rcases h.2 with ⟨_, h2⟩ | ⟨g, cap, cur, hv, hb, hh, hn, hcm, hs, ht⟩
 · omega
 · injection hv with h1 h2 h3
   have hdl := drow_len l
   have hcell : ∀ k u, (drow l)[k]? = some u → w.cell? ⟨g, k, none⟩ = some u := fun k u hu => by
     rw [cell_of_row w g _ _ _ (0, 0) hh, ← Array.getElem?_toList]
     have hk : k < l.length * 3 := by
       rcases Nat.lt_or_ge k (drow l).length with h' | h'
       · omega
       · rw [List.getElem?_eq_none h'] at hu; cases hu
     rw [← ht, List.getElem?_take_of_lt hk] at hu
     exact hu
   refine ⟨g, h1, hb, ⟨hcell, fun k hk => frozen_of_row w g k _ _ hh, ?_⟩, h2, by rw [h3]; exact hn, by rw [h3]; exact hcm⟩
   rcases Nat.lt_or_ge g w.heap.size with h' | h'
   · exact h'
   · rw [Array.getElem?_eq_none h'] at hh; cases hh
theorem RowQ.spot {j s : Nat} {i : Int} {A : Option Addr} {n c : Nat} (h : RowQ w g l) (hj : j < l.length) (hd : dOf l j = (i, s)) (hp : pOf l j = (A, n, c)) : w.cell? ⟨g, j * 3, none⟩ = some (.bool (ngB i)) ∧ w.cell? ⟨g, j * 3 + 1, none⟩ = some (.slice A n c) ∧ w.cell? ⟨g, j * 3 + 2, none⟩ = some (.int .i64 (s : Int)) := by
 have C := h.cells hj
 rw [hd, hp] at C
 exact C
theorem RowQ.decs {L S n c : Nat} {d : Nat → Int × Nat} (h : RowQ w g l) (hl : l.length = n) (hc : n ≤ c) (hm : c ≤ maxLen) (hd : ∀ j, j < n → dOf l j = d j) (hnum : ∀ j, j < n → Num w w.heap.size (pOf l j).1 (pOf l j).2.1 (pOf l j).2.2 (d j).1.natAbs) (hs : ∀ j, j < n → (dg (d j).1.natAbs).length ≤ L ∧ (d j).2 ≤ S) : DecsG L S w w.heap.size (some ⟨g, 0, none⟩) n c d (pOf l) := by
 subst hl
 refine ⟨hc, hm, .inr ⟨g, 0, rfl, h.lt, fun j hj => ?_⟩, hnum, hs, fun h => by cases h⟩
 have := h.cells hj
 rw [hd j hj] at this
 simpa using this
end
structure AL (w0 w : World) (ns : List (Option Addr × Nat × Nat × Nat)) (bs : List (Nat × Value × Value × Value)) (g : Nat) (l : List DQ) (gz : Nat) (zs : List Nat) : Prop where
 st : St w0 w ns bs
 row : RowQ w g l
 num : ∀ j, j < l.length → Num w w.heap.size (pOf l j).1 (pOf l j).2.1 (pOf l j).2.2 (dOf l j).1.natAbs
 zrow : OwnI w gz zs
 far : g ≠ gz ∧ w0.heap.size ≤ g ∧ ∀ q ∈ bs, q.1 ≠ g ∧ q.1 ≠ gz
section
variable {w0 w w' : World} {ns : List (Option Addr × Nat × Nat × Nat)} {bs : List (Nat × Value × Value × Value)} {g gz : Nat} {l : List DQ} {zs : List Nat}
theorem AL.step (h : AL w0 w ns bs g l gz zs) (hb : Below w.heap.size w w') : AL w0 w' ns bs g l gz zs :=
 ⟨h.st.step hb, h.row.on hb, fun j hj => (h.num j hj).on hb, h.zrow.on hb, h.far⟩
theorem AL.push (h : AL w0 w ns bs g l gz zs) (hb : Below w.heap.size w w') {A : Option Addr} {n c a : Nat} (hn : Num w' w'.heap.size A n c a) : AL w0 w' ((A, n, c, a) :: ns) bs g l gz zs :=
 ⟨h.st.push hb hn, h.row.on hb, fun j hj => (h.num j hj).on hb, h.zrow.on hb, h.far⟩
theorem AL.sub {ns' : List (Option Addr × Nat × Nat × Nat)} {bs' : List (Nat × Value × Value × Value)} (h : AL w0 w ns bs g l gz zs) (h1 : ∀ q ∈ ns', q ∈ ns) (h2 : ∀ q ∈ bs', q ∈ bs) : AL w0 w ns' bs' g l gz zs :=
 ⟨⟨h.st.bel, fun q hq => h.st.num q (h1 q hq), fun q hq => h.st.box q (h2 q hq)⟩, h.row, h.num, h.zrow, h.far.1, h.far.2.1, fun q hq => h.far.2.2 q (h2 q hq)⟩
theorem AL.put (h : AL w0 w ns bs g l gz zs) {j : Nat} (hj : j < l.length) (q : DQ) (hq : Num w w.heap.size q.2.1 q.2.2.1 q.2.2.2 q.1.1.natAbs) : AL w0 (((w.setCell ⟨g, j * 3, none⟩ (.bool (ngB q.1.1))).setCell ⟨g, j * 3 + 1, none⟩ (.slice q.2.1 q.2.2.1 q.2.2.2)).setCell ⟨g, j * 3 + 2, none⟩ (.int .i64 (q.1.2 : Int))) ns bs g (l.set j q) gz zs := by
 have hz : (((w.setCell ⟨g, j * 3, none⟩ (.bool (ngB q.1.1))).setCell ⟨g, j * 3 + 1, none⟩ (.slice q.2.1 q.2.2.1 q.2.2.2)).setCell ⟨g, j * 3 + 2, none⟩ (.int .i64 (q.1.2 : Int))).heap.size = w.heap.size := by simp
 have fit : ∀ {A : Option Addr} {n c a : Nat}, Num w w.heap.size A n c a → Num (((w.setCell ⟨g, j * 3, none⟩ (.bool (ngB q.1.1))).setCell ⟨g, j * 3 + 1, none⟩ (.slice q.2.1 q.2.2.1 q.2.2.2)).setCell ⟨g, j * 3 + 2, none⟩ (.int .i64 (q.1.2 : Int))) (((w.setCell ⟨g, j * 3, none⟩ (.bool (ngB q.1.1))).setCell ⟨g, j * 3 + 1, none⟩ (.slice q.2.1 q.2.2.1 q.2.2.2)).setCell ⟨g, j * 3 + 2, none⟩ (.int .i64 (q.1.2 : Int))).heap.size A n c a := fun h' => by
   rw [hz]; exact RowQ.num_put h' h.row hj _ _ _
 refine ⟨⟨?_, fun q' hq' => fit (h.st.num q' hq'), fun q' hq' => ⟨(((h.st.box q' hq').1.far _ _ ?_).far _ _ ?_).far _ _ ?_, (h.st.box q' hq').2⟩⟩, h.row.store hj q, fun k hk => ?_, ?_, h.far⟩
 · exact (((h.st.bel.setCell (p := ⟨g, j * 3, none⟩) h.far.2.1 _).setCell (p := ⟨g, j * 3 + 1, none⟩) h.far.2.1 _).setCell (p := ⟨g, j * 3 + 2, none⟩) h.far.2.1 _)
 · exact fun e => (h.far.2.2 q' hq').1 e.symm
 · exact fun e => (h.far.2.2 q' hq').1 e.symm
 · exact fun e => (h.far.2.2 q' hq').1 e.symm
 · rw [List.length_set] at hk
   rw [pOf_set hj, dOf_set hj]
   by_cases e : k = j
   · rw [if_pos e, if_pos e]; exact fit hq
   · rw [if_neg e, if_neg e]; exact fit (h.num k hk)
 · exact (heap_setCell_other _ ⟨g, j * 3 + 2, none⟩ gz _ (fun e => h.far.1 e.symm)).trans ((heap_setCell_other _ ⟨g, j * 3 + 1, none⟩ gz _ (fun e => h.far.1 e.symm)).trans ((heap_setCell_other _ ⟨g, j * 3, none⟩ gz _ (fun e => h.far.1 e.symm)).trans h.zrow))
theorem AL.store {k : Nat} {x0 x1 x2 : Value} (h : AL w0 w ns bs g l gz zs) (hm : (k, x0, x1, x2) ∈ bs) (h0 : NoLimb x0) (h1 : NoLimb x1) (h2 : NoLimb x2) (bs' : List (Nat × Value × Value × Value)) (hs : ∀ q ∈ bs', q ∈ bs ∧ k ≠ q.1) (y0 y1 y2 : Value) :
   AL w0 (put3 w k y0 y1 y2) ns ((k, y0, y1, y2) :: bs') g l gz zs := by
 have X := h.st.box _ hm
 have F := h.far.2.2 _ hm
 refine ⟨h.st.store hm h0 h1 h2 bs' hs y0 y1 y2, ((h.row.far _ _ F.1).far _ _ F.1).far _ _ F.1, fun j hj => ?_, ?_, h.far.1, h.far.2.1, fun q hq => ?_⟩
 · have e : (put3 w k y0 y1 y2).heap.size = w.heap.size := by simp
   rw [e]; exact Lim.put3 (h.num j hj) X.1 h0 h1 h2 y0 y1 y2
 · exact (heap_setCell_other _ ⟨k, 2, none⟩ gz _ (fun e => F.2 e.symm)).trans ((heap_setCell_other _ ⟨k, 1, none⟩ gz _ (fun e => F.2 e.symm)).trans ((heap_setCell_other _ ⟨k, 0, none⟩ gz _ (fun e => F.2 e.symm)).trans h.zrow))
 · rcases List.mem_cons.1 hq with rfl | hq
   · exact F
   · exact h.far.2.2 q (hs q hq).1
end
end Go.Proofs.YthlhpgphmfnlgaaGreat
