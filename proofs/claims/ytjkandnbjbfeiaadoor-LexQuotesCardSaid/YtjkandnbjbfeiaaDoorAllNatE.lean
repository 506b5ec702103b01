/- What the proofs of this layer need of the layer Nat, in one text. -/
import Derived.Test.YtjkandnbjbfeiaaDoorAllNatD
import Derived.Laws.CopyOwn
import Derived.Test.YtjkandnbjbfeiaaDoorAllNatA
set_option linter.unusedVariables false
set_option linter.unusedSimpArgs false

/-
  Contract of layer 1: Add.
-/
namespace Go.Proofs.YtjkandnbjbfeiaaDoor.Num
open Go.RowKit

/-- Block g is just the limbs zs. -/
def Own (w : World) (g : Nat) (zs : List Nat) : Prop := w.heap[g]? = some (.cells (vals zs).toArray 88 (0, 0))

theorem Own.cell {w : World} {g : Nat} {zs : List Nat} (h : Own w g zs) {i : Nat} (hi : i < zs.length) : w.cell? ⟨g, i, none⟩ = some (.int .u32 (gd zs i : Nat)) := by
  rw [cell_of_row w g i _ _ (0, 0) h]
  simpa using vals_get hi
theorem Own.frozen {w : World} {g : Nat} {zs : List Nat} (h : Own w g zs) (i : Nat) : w.frozen? ⟨g, i, none⟩ = false := frozen_of_row w g i _ _ h
theorem Own.lt {w : World} {g : Nat} {zs : List Nat} (h : Own w g zs) : g < w.heap.size := by
  rcases Nat.lt_or_ge g w.heap.size with hlt | hge
  · exact hlt
  · unfold Own at h; rw [Array.getElem?_eq_none hge] at h; cases h
theorem Own.store {w : World} {g : Nat} {zs : List Nat} (h : Own w g zs) (i : Nat) (x : Nat) (v : Int) (hv : v = x) : Own (w.setCell ⟨g, i, none⟩ (.int .u32 v)) g (zs.set i x) := by
  subst hv
  unfold Own at h ⊢
  rw [heap_setCell_same w g i _ _ _ h, vals_set]
  simp
theorem Own.lim {w : World} {g : Nat} {zs : List Nat} (h : Own w g zs) (hz : limbs zs) (hl : zs.length ≤ 1000000000000) : Lim w w.heap.size (some ⟨g, 0, none⟩) zs.length zs.length zs := by
  refine ⟨rfl, Nat.le_refl _, by unfold maxLen; omega, fun x hx => by have := hz x hx; omega, .inr ⟨g, 0, rfl, h.lt, fun j u hu => ?_⟩, fun h => by cases h⟩
  rw [cell_of_row w g (0 + j) _ _ (0, 0) h, Nat.zero_add]
  simpa using hu
theorem Own.drew {w : World} {g : Nat} {zs : List Nat} (h : Own w g zs) : Own w.drew g zs := h
theorem Own.of_made {w : World} {base n : Nat} (h : w.ownsRow base 88 1 (.slice (some ⟨base, 0, none⟩) n n) n (madeCells (Value.int .u32 0).cells (n * 1)).toList) : Own w base (List.replicate n 0) := by
  have e : (madeCells (Value.int .u32 0).cells (n * 1)).toList = vals (List.replicate n 0) := by
    rw [Nat.mul_one]
    show (madeCells #[Value.int .u32 0] n).toList = _
    rw [toList_madeCells_one]
    simp [vals]
  rw [e] at h
  rcases h.2 with ⟨h1, _⟩ | ⟨g, cap, cur, hv, _, hh, _, _, hsz, htk⟩
  · cases h1
  · injection hv with h1 h2 h3
    injection h1 with h1
    injection h1 with h1
    subst h1; subst h3
    unfold Own
    rw [hh, ← htk, List.take_of_length_le (by simp; omega)]
theorem splice_vals (n : Nat) (xs : List Nat) (_h : xs.length ≤ n) : splice (vals (List.replicate n 0)) 0 (vals xs) = vals (xs ++ List.replicate (n - xs.length) 0) := by
  simp [splice, vals, List.map_append, List.drop_replicate]

theorem add_step {zs ys : List Nat} {i v cy cy' T : Nat} (h : val zs + cy * 1000000000 ^ i + 1000000000 ^ i * val (ys.drop i) = T) (hi : i < zs.length) (hv : gd zs i + gd ys i + cy = v + cy' * 1000000000) :
    val (zs.set i v) + cy' * 1000000000 ^ (i + 1) + 1000000000 ^ (i + 1) * val (ys.drop (i + 1)) = T := by
  have e1 := val_set zs i v hi
  have e2 := val_drop ys i
  generalize hP : 1000000000 ^ i = P at *
  have e3 : P * (gd zs i + gd ys i + cy) = P * (v + cy' * 1000000000) := by rw [hv]
  rw [Nat.pow_succ, hP]
  rw [e2] at h
  have e4 : P * (cy' * 1000000000) = cy' * (P * 1000000000) := by rw [Nat.mul_left_comm]
  have e5 : P * (1000000000 * val (ys.drop (i + 1))) = P * 1000000000 * val (ys.drop (i + 1)) := by rw [Nat.mul_assoc]
  rw [Nat.mul_add, e5] at h
  rw [Nat.mul_add, Nat.mul_add, Nat.mul_add, e4] at e3
  rw [Nat.mul_comm cy P] at h
  omega
theorem add_end {zs ys : List Nat} {i cy a b n : Nat} (h : val zs + cy * 1000000000 ^ i + 1000000000 ^ i * val (ys.drop i) = a + b) (hz : limbs zs) (hlen : zs.length = n + 1) (hi : i = n + 1) (hy : ys.length ≤ n) (ha : a < 1000000000 ^ n) (hb : b < 1000000000 ^ n) : val zs = a + b := by
  have hl := hlen
  subst hi
  rw [List.drop_of_length_le (by omega), val, Nat.mul_zero] at h
  have := val_lt hz
  rw [hl] at this
  rw [Nat.pow_succ] at h this
  rcases Nat.eq_zero_or_pos cy with h0 | h0
  · subst h0; omega
  · have : 1 * (1000000000 ^ n * 1000000000) ≤ cy * (1000000000 ^ n * 1000000000) := Nat.mul_le_mul_right _ h0
    omega
theorem add_break {zs ys : List Nat} {i T : Nat} (h : val zs + 0 * 1000000000 ^ i + 1000000000 ^ i * val (ys.drop i) = T) (hy : ys.length ≤ i) : val zs = T := by
  rw [List.drop_of_length_le hy, val, Nat.mul_zero, Nat.zero_mul] at h
  omega
theorem pow_of_len {a n m : Nat} (h : (dg a).length = n) (hm : n ≤ m) : a < 1000000000 ^ m :=
  Nat.lt_of_lt_of_le (by have := lt_pow_dg a; rwa [h] at this) (Nat.pow_le_pow_right (by omega) hm)

theorem lim_src {w : World} {B n c : Nat} {A : Option Addr} {xs : List Nat} (h : Lim w B A n c xs) (hp : 0 < (vals xs).length) : ∃ ad, A = some ad ∧ ∀ j v, (vals xs)[j]? = some v → w.cell? (ad.add j) = some v := by
  rcases h.row with h0 | ⟨b, o, rfl, _, hc⟩
  · rw [h0] at hp; simp at hp
  · exact ⟨_, rfl, fun j v hv => by rw [Addr.add_lit]; exact hc j v hv⟩
theorem copy_len {w : World} {B n c k : Nat} {A : Option Addr} {xs : List Nat} (h : Lim w B A n c xs) (hk : n ≤ k) : (vals xs).length = Nat.min n k ∧ 0 + (vals xs).length ≤ (vals (List.replicate k 0)).length := by
  rw [vals_len, vals_len, h.len, List.length_replicate]
  exact ⟨(Nat.min_eq_left hk).symm, by omega⟩
theorem own_copied {w w' : World} {B g n c k : Nat} {A : Option Addr} {xs : List Nat} (h : Lim w B A n c xs) (hk : n ≤ k) (hg : Hid (w'.heap[g]? = some (.cells (splice (vals (List.replicate k 0)) 0 (vals xs)).toArray 88 (0, 0)))) : Own w' g (xs ++ List.replicate (k - n) 0) := by
  have := hg.out
  rw [splice_vals k xs (by rw [h.len]; exact hk), h.len] at this
  exact this

theorem info_one : (Tryd.prog.info? 88).map (·.size) = some 1 := by kernel_rfl

end Go.Proofs.YtjkandnbjbfeiaaDoor.Num

/-
  Contract of layer 1: Sub.
-/
namespace Go.Proofs.YtjkandnbjbfeiaaDoor.Num
open Go.RowKit

def RetSub (W : World) (m : Nat) (e : Ending) (w' : World) : Prop :=
  ∃ A n c, e = .returned (.tuple #[.slice A n c, .int .i64 0]) ∧ Num w' w'.heap.size A n c m ∧ Below W.heap.size W w'

end Go.Proofs.YtjkandnbjbfeiaaDoor.Num

/-
  Contracts of layer 1: the document's Add and Sub.
-/
namespace Go.Proofs.YtjkandnbjbfeiaaDoor.Num
open Go.RowKit

end Go.Proofs.YtjkandnbjbfeiaaDoor.Num

/-
  The law's own examples (awake) answer true, whatever the memory.
-/
namespace Go.Proofs.YtjkandnbjbfeiaaDoor.Num
open Go.RowKit

/-- From the world w0 on nothing that was there has turned, and in w these slices read as these numbers. -/
def Env (w0 w : World) (l : List (Option Addr × Nat × Nat × Nat)) : Prop :=
  Below w0.heap.size w0 w ∧ ∀ q ∈ l, Num w w.heap.size q.1 q.2.1 q.2.2.1 q.2.2.2

theorem Env.get {w0 w : World} {l : List (Option Addr × Nat × Nat × Nat)} (h : Hid (Env w0 w l)) {A : Option Addr} {n c a : Nat} (hm : (A, n, c, a) ∈ l) : Num w w.heap.size A n c a := h.out.2 _ hm
theorem Env.step {w0 w w' : World} {l : List (Option Addr × Nat × Nat × Nat)} (h : Hid (Env w0 w l)) (hb : Below w.heap.size w w') : Hid (Env w0 w' l) :=
  ⟨h.out.1.trans (hb.mono h.out.1.size), fun q hq => ((h.out.2 q hq).below hb).more hb.size⟩
theorem Env.push {w0 w w' : World} {l : List (Option Addr × Nat × Nat × Nat)} (h : Hid (Env w0 w l)) (hb : Below w.heap.size w w') {A : Option Addr} {n c a : Nat} (hn : Num w' w'.heap.size A n c a) : Hid (Env w0 w' ((A, n, c, a) :: l)) := by
  have h2 := Env.step h hb
  refine ⟨h2.out.1, fun q hq => ?_⟩
  rcases List.mem_cons.1 hq with rfl | hq
  · exact hn
  · exact h2.out.2 q hq
theorem Env.refl (w : World) : Hid (Env w w []) := ⟨Below.refl _ _, fun q hq => by cases hq⟩
theorem Env.alloc {w0 w : World} {l : List (Option Addr × Nat × Nat × Nat)} (h : Hid (Env w0 w l)) (o : Obj) : Hid (Env w0 (w.alloc o) l) := Env.step h ((Below.refl _ _).alloc (Nat.le_refl _) o)

theorem Lim.lit (w : World) (xs : List Nat) (vs : Array Value) (h : vs.toList = vals xs) (hf : ∀ x ∈ xs, x < 4294967296) (hl : xs.length ≤ 1000) (t : TypeId) : Lim (w.alloc (.cells vs t)) (w.alloc (.cells vs t)).heap.size (some ⟨w.heap.size, 0, none⟩) xs.length xs.length xs := by
  refine ⟨rfl, Nat.le_refl _, by unfold maxLen; omega, hf, .inr ⟨w.heap.size, 0, rfl, by simp, fun j u hu => ?_⟩, fun h => by cases h⟩
  rw [cell_of_row _ w.heap.size _ _ t (0, 0) (heap_alloc_new w _), ← Array.getElem?_toList, h, Nat.zero_add]
  exact hu

set_option maxRecDepth 100000 in
theorem trim_is {A : Option Addr} {n c m : Nat} {xs : List Nat} {w : World} (h : Lim w w.heap.size A n c xs) (hx : limbs xs) (hn : n ≤ 1000000000) (hm : val xs = m) :
    Calls Tryd.prog 57 #[.slice A n c] w (RetNum w m) := by
  subst hm; exact trim_any A n c xs w h hx hn

def n1 : Nat := 1000000005
def n2 : Nat := 999999999
def n3 : Nat := 2000000004
def big : Nat := 100000000000000000000
theorem dg_n1 : dg n1 = [5, 1] := by unfold n1; rw [dg_pos (by omega), dg_pos (by omega), dg_zero]
theorem dg_n2 : dg n2 = [999999999] := by unfold n2; rw [dg_pos (by omega), dg_zero]
theorem dg_n3 : dg n3 = [4, 2] := by unfold n3; rw [dg_pos (by omega), dg_pos (by omega), dg_zero]
theorem dg_big : dg big = [0, 0, 100] := by unfold big; rw [dg_pos (by omega), dg_pos (by omega), dg_pos (by omega), dg_zero]
theorem dg_7 : dg 7 = [7] := by rw [dg_pos (by omega), dg_zero]

theorem lit_100 (w : World) : Num (w.alloc (.cells #[.int .u32 0, .int .u32 0, .int .u32 100] 88)) (w.alloc (.cells #[.int .u32 0, .int .u32 0, .int .u32 100] 88)).heap.size (some ⟨w.heap.size, 0, none⟩) 3 3 big := by
  rw [Num, dg_big]; exact Lim.lit w [0, 0, 100] _ rfl (by decide) (by decide) _
theorem lit_0 (w : World) : Lim (w.alloc (.cells #[.int .u32 0] 88)) (w.alloc (.cells #[.int .u32 0] 88)).heap.size (some ⟨w.heap.size, 0, none⟩) 1 1 [0] := Lim.lit w [0] _ rfl (by decide) (by decide) _
theorem lit_base (w : World) : Lim (w.alloc (.cells #[.int .u32 1000000000] 88)) (w.alloc (.cells #[.int .u32 1000000000] 88)).heap.size (some ⟨w.heap.size, 0, none⟩) 1 1 [1000000000] := Lim.lit w [1000000000] _ rfl (by decide) (by decide) _
theorem lit_7 (w : World) : Lim (w.alloc (.cells #[.int .u32 7, .int .u32 0, .int .u32 0] 88)) (w.alloc (.cells #[.int .u32 7, .int .u32 0, .int .u32 0] 88)).heap.size (some ⟨w.heap.size, 0, none⟩) 3 3 [7, 0, 0] := Lim.lit w [7, 0, 0] _ rfl (by decide) (by decide) _
set_option maxRecDepth 100000 in
theorem call_7 (w : World) (g : Nat) (hg : g = w.heap.size) : Calls Tryd.prog 57 #[.slice (some ⟨g, 0, none⟩) 3 3] (w.alloc (.cells #[.int .u32 7, .int .u32 0, .int .u32 0] 88)) (RetNum (w.alloc (.cells #[.int .u32 7, .int .u32 0, .int .u32 0] 88)) 7) := by subst hg; exact trim_is (lit_7 w) (by unfold limbs; decide) (by decide) rfl

end Go.Proofs.YtjkandnbjbfeiaaDoor.Num

/-
  The walks of the laws NatRing and NatOrder.
-/
namespace Go.Proofs.YtjkandnbjbfeiaaDoor.Num
open Go.RowKit

theorem Lim.num {w : World} {B n c : Nat} {A : Option Addr} {xs : List Nat} (h : Lim w B A n c xs) (hr : rightB xs = true) : Num w B A n c (val xs) := by
  rw [Num, dg_of_right hr]; exact h

theorem bad_or_good (n1 n2 n3 : Nat) (x1 x2 x3 : List Nat) :
    (decide (60 < (n1 : Int)) = true) ∨ (decide (60 < (n1 : Int)) = false ∧ decide (60 < (n2 : Int)) = true) ∨ (decide (60 < (n1 : Int)) = false ∧ decide (60 < (n2 : Int)) = false ∧ decide (60 < (n3 : Int)) = true) ∨
    (decide (60 < (n1 : Int)) = false ∧ decide (60 < (n2 : Int)) = false ∧ decide (60 < (n3 : Int)) = false ∧ rightB x1 = false) ∨
    (decide (60 < (n1 : Int)) = false ∧ decide (60 < (n2 : Int)) = false ∧ decide (60 < (n3 : Int)) = false ∧ rightB x1 = true ∧ rightB x2 = false) ∨
    (decide (60 < (n1 : Int)) = false ∧ decide (60 < (n2 : Int)) = false ∧ decide (60 < (n3 : Int)) = false ∧ rightB x1 = true ∧ rightB x2 = true ∧ rightB x3 = false) ∨
    (decide (60 < (n1 : Int)) = false ∧ decide (60 < (n2 : Int)) = false ∧ decide (60 < (n3 : Int)) = false ∧ rightB x1 = true ∧ rightB x2 = true ∧ rightB x3 = true) := by
  cases decide (60 < (n1 : Int)) <;> cases decide (60 < (n2 : Int)) <;> cases decide (60 < (n3 : Int)) <;> cases rightB x1 <;> cases rightB x2 <;> cases rightB x3 <;> simp

theorem len_small {n : Nat} (h : decide (60 < (n : Int)) = false) : n ≤ 60 := by
  rw [decide_eq_false_iff_not] at h; omega
theorem sum_len {w : World} {B k c k1 k2 a b : Nat} {A : Option Addr} (h : Num w B A k c (a + b)) (ha : (dg a).length ≤ k1) (hb : (dg b).length ≤ k2) : k ≤ max k1 k2 + 1 := by
  have := dg_len_add a b
  rw [h.len] at this
  omega

theorem Env.three {w : World} {A1 A2 A3 : Option Addr} {n1 n2 n3 c1 c2 c3 a b c : Nat} (h1 : Num w w.heap.size A1 n1 c1 a) (h2 : Num w w.heap.size A2 n2 c2 b) (h3 : Num w w.heap.size A3 n3 c3 c) : Hid (Env w w [(A1, n1, c1, a), (A2, n2, c2, b), (A3, n3, c3, c)]) := by
  refine ⟨Below.refl _ _, fun q hq => ?_⟩
  rcases List.mem_cons.1 hq with rfl | hq
  · exact h1
  · rcases List.mem_cons.1 hq with rfl | hq
    · exact h2
    · rcases List.mem_cons.1 hq with rfl | hq
      · exact h3
      · cases hq

end Go.Proofs.YtjkandnbjbfeiaaDoor.Num
