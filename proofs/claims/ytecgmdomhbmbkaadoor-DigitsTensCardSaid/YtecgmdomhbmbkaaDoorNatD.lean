/-
  Contract of layer 1: Add.
-/
import Derived.Test.YtecgmdomhbmbkaaDoorNatC
import Derived.Laws.CopyOwn
namespace Go.Proofs.YtecgmdomhbmbkaaDoor
open Go.RowKit

/-- Block g is just the limbs zs. -/
def Own (w : World) (g : Nat) (zs : List Nat) : Prop := w.heap[g]? = some (.cells (vals zs).toArray 36 (0, 0))

theorem Own.cell {w : World} {g : Nat} {zs : List Nat} (h : Own w g zs) {i : Nat} (hi : i < zs.length) : w.cell? ⟨g, i, none⟩ = some (.int .u32 (gd zs i : Nat)) := by
  rw [cell_of_row w g i _ _ (0, 0) h]
  simpa using vals_get hi
theorem Own.frozen {w : World} {g : Nat} {zs : List Nat} (h : Own w g zs) (i : Nat) : w.frozen? ⟨g, i, none⟩ = false := frozen_of_row w g i _ _ h
theorem Own.lt {w : World} {g : Nat} {zs : List Nat} (h : Own w g zs) : g < w.heap.size := by
  rcases Nat.lt_or_ge g w.heap.size with hlt | hge
  · exact hlt
  · unfold Own at h; rw [Array.getElem?_eq_none hge] at h; cases h
theorem Own.store {w : World} {g : Nat} {zs : List Nat} (h : Own w g zs) (i : Nat) (x : Nat) (v : Int) (hv : v = x) : Own (w.setCell ⟨g, i, none⟩ (.int .u32 v)) g (zs.set i x) := by
  subst hv
  unfold Own at h ⊢
  rw [heap_setCell_same w g i _ _ _ h, vals_set]
  simp
theorem Own.lim {w : World} {g : Nat} {zs : List Nat} (h : Own w g zs) (hz : limbs zs) (hl : zs.length ≤ 1000000000000) : Lim w w.heap.size (some ⟨g, 0, none⟩) zs.length zs.length zs := by
  refine ⟨rfl, Nat.le_refl _, by unfold maxLen; omega, fun x hx => by have := hz x hx; omega, .inr ⟨g, 0, rfl, h.lt, fun j u hu => ?_⟩, fun h => by cases h⟩
  rw [cell_of_row w g (0 + j) _ _ (0, 0) h, Nat.zero_add]
  simpa using hu
theorem Own.drew {w : World} {g : Nat} {zs : List Nat} (h : Own w g zs) : Own w.drew g zs := h
theorem Own.of_made {w : World} {base n : Nat} (h : w.ownsRow base 36 1 (.slice (some ⟨base, 0, none⟩) n n) n (madeCells (Value.int .u32 0).cells (n * 1)).toList) : Own w base (List.replicate n 0) := by
  have e : (madeCells (Value.int .u32 0).cells (n * 1)).toList = vals (List.replicate n 0) := by
    rw [Nat.mul_one]
    show (madeCells #[Value.int .u32 0] n).toList = _
    rw [toList_madeCells_one]
    simp [vals]
  rw [e] at h
  rcases h.2 with ⟨h1, _⟩ | ⟨g, cap, cur, hv, _, hh, _, _, hsz, htk⟩
  · cases h1
  · injection hv with h1 h2 h3
    injection h1 with h1
    injection h1 with h1
    subst h1; subst h3
    unfold Own
    rw [hh, ← htk, List.take_of_length_le (by simp; omega)]
theorem splice_vals (n : Nat) (xs : List Nat) (_h : xs.length ≤ n) : splice (vals (List.replicate n 0)) 0 (vals xs) = vals (xs ++ List.replicate (n - xs.length) 0) := by
  simp [splice, vals, List.map_append, List.drop_replicate]

theorem add_step {zs ys : List Nat} {i v cy cy' T : Nat} (h : val zs + cy * 1000000000 ^ i + 1000000000 ^ i * val (ys.drop i) = T) (hi : i < zs.length) (hv : gd zs i + gd ys i + cy = v + cy' * 1000000000) :
    val (zs.set i v) + cy' * 1000000000 ^ (i + 1) + 1000000000 ^ (i + 1) * val (ys.drop (i + 1)) = T := by
  have e1 := val_set zs i v hi
  have e2 := val_drop ys i
  generalize hP : 1000000000 ^ i = P at *
  have e3 : P * (gd zs i + gd ys i + cy) = P * (v + cy' * 1000000000) := by rw [hv]
  rw [Nat.pow_succ, hP]
  rw [e2] at h
  have e4 : P * (cy' * 1000000000) = cy' * (P * 1000000000) := by rw [Nat.mul_left_comm]
  have e5 : P * (1000000000 * val (ys.drop (i + 1))) = P * 1000000000 * val (ys.drop (i + 1)) := by rw [Nat.mul_assoc]
  rw [Nat.mul_add, e5] at h
  rw [Nat.mul_add, Nat.mul_add, Nat.mul_add, e4] at e3
  rw [Nat.mul_comm cy P] at h
  omega
theorem add_end {zs ys : List Nat} {i cy a b n : Nat} (h : val zs + cy * 1000000000 ^ i + 1000000000 ^ i * val (ys.drop i) = a + b) (hz : limbs zs) (hlen : zs.length = n + 1) (hi : i = n + 1) (hy : ys.length ≤ n) (ha : a < 1000000000 ^ n) (hb : b < 1000000000 ^ n) : val zs = a + b := by
  have hl := hlen
  subst hi
  rw [List.drop_of_length_le (by omega), val, Nat.mul_zero] at h
  have := val_lt hz
  rw [hl] at this
  rw [Nat.pow_succ] at h this
  rcases Nat.eq_zero_or_pos cy with h0 | h0
  · subst h0; omega
  · have : 1 * (1000000000 ^ n * 1000000000) ≤ cy * (1000000000 ^ n * 1000000000) := Nat.mul_le_mul_right _ h0
    omega
theorem add_break {zs ys : List Nat} {i T : Nat} (h : val zs + 0 * 1000000000 ^ i + 1000000000 ^ i * val (ys.drop i) = T) (hy : ys.length ≤ i) : val zs = T := by
  rw [List.drop_of_length_le hy, val, Nat.mul_zero, Nat.zero_mul] at h
  omega
theorem pow_of_len {a n m : Nat} (h : (dg a).length = n) (hm : n ≤ m) : a < 1000000000 ^ m :=
  Nat.lt_of_lt_of_le (by have := lt_pow_dg a; rwa [h] at this) (Nat.pow_le_pow_right (by omega) hm)

theorem lim_src {w : World} {B n c : Nat} {A : Option Addr} {xs : List Nat} (h : Lim w B A n c xs) (hp : 0 < (vals xs).length) : ∃ ad, A = some ad ∧ ∀ j v, (vals xs)[j]? = some v → w.cell? (ad.add j) = some v := by
  rcases h.row with h0 | ⟨b, o, rfl, _, hc⟩
  · rw [h0] at hp; simp at hp
  · exact ⟨_, rfl, fun j v hv => by rw [Addr.add_lit]; exact hc j v hv⟩
theorem copy_len {w : World} {B n c k : Nat} {A : Option Addr} {xs : List Nat} (h : Lim w B A n c xs) (hk : n ≤ k) : (vals xs).length = Nat.min n k ∧ 0 + (vals xs).length ≤ (vals (List.replicate k 0)).length := by
  rw [vals_len, vals_len, h.len, List.length_replicate]
  exact ⟨(Nat.min_eq_left hk).symm, by omega⟩
theorem own_copied {w w' : World} {B g n c k : Nat} {A : Option Addr} {xs : List Nat} (h : Lim w B A n c xs) (hk : n ≤ k) (hg : Hid (w'.heap[g]? = some (.cells (splice (vals (List.replicate k 0)) 0 (vals xs)).toArray 36 (0, 0)))) : Own w' g (xs ++ List.replicate (k - n) 0) := by
  have := hg.out
  rw [splice_vals k xs (by rw [h.len]; exact hk), h.len] at this
  exact this

theorem info_one : (Tryd.prog.info? 36).map (·.size) = some 1 := by kernel_rfl

end Go.Proofs.YtecgmdomhbmbkaaDoor
