/- What the proofs of this layer need of the layer Nat, in one text. -/
import Derived.WalkKit
import Derived.Below
import Derived.Laws.OwnMore
import Derived.Deep.AppendLies
import Derived.Deep.Draws
import Derived.Lib.Hide
import Derived.Test.YtafbkoejobkncaaChecked
import Derived.KernelRfl
import Derived.Deep.QuietTactic
import Derived.BigQuiet
import Derived.Outline
import Derived.WalkMore
import Derived.Deep.LoopGhost
import Derived.Laws.AppendOwnNone
import Derived.Deep.DeepMust
import Derived.Laws.CopyOwn
import Derived.Test.YtafbkoejobkncaaRows
import Derived.ProofKit
import Derived.OpenShut
import Derived.ShutString
import Derived.ChangeOld

/-
  Plain mathematics of layer 1: limbs to the base 10^9, low limb first; a number's own limbs; which of two numbers is above.
-/
namespace Go.Proofs.Ytafbkoejobkncaa

/-- The number that limbs make, the low one first. -/
def val : List Nat → Nat
  | [] => 0
  | x :: xs => x + 1000000000 * val xs

/-- A number's own limbs. -/
def dg (n : Nat) : List Nat := if h : n = 0 then [] else n % 1000000000 :: dg (n / 1000000000)
termination_by n
decreasing_by omega

/-- Each limb is below the base. -/
def limbs (xs : List Nat) : Prop := ∀ x ∈ xs, x < 1000000000
/-- The limb at a place; nought behind the last one. -/
def gd (xs : List Nat) (i : Nat) : Nat := xs.getD i 0
def rightB (xs : List Nat) : Bool := xs.all (fun x => decide (x < 1000000000)) && decide (xs.getLast? ≠ some 0)
def cmpN (a b : Nat) : Int := if a < b then -1 else if b < a then 1 else 0

theorem dg_zero : dg 0 = [] := by rw [dg]; simp
theorem dg_pos {n : Nat} (h : 0 < n) : dg n = n % 1000000000 :: dg (n / 1000000000) := by
  rw [dg, dif_neg (by omega)]
theorem val_dg (n : Nat) : val (dg n) = n := by
  induction n using Nat.strongRecOn with
  | ind n ih =>
    rcases Nat.eq_zero_or_pos n with h | h
    · subst h; rw [dg_zero]; rfl
    · rw [dg_pos h, val, ih (n / 1000000000) (by omega)]; omega
theorem limbs_nil : limbs [] := fun _ h => by cases h
theorem limbs_cons {x : Nat} {xs : List Nat} : limbs (x :: xs) ↔ x < 1000000000 ∧ limbs xs := by
  unfold limbs; simp
theorem limbs_append {xs ys : List Nat} : limbs (xs ++ ys) ↔ limbs xs ∧ limbs ys := by
  unfold limbs
  constructor
  · intro h; exact ⟨fun x hx => h x (List.mem_append_left _ hx), fun x hx => h x (List.mem_append_right _ hx)⟩
  · rintro ⟨h, k⟩ x hx
    rcases List.mem_append.1 hx with hx | hx
    · exact h x hx
    · exact k x hx
theorem limbs_dg (n : Nat) : limbs (dg n) := by
  induction n using Nat.strongRecOn with
  | ind n ih =>
    rcases Nat.eq_zero_or_pos n with h | h
    · subst h; rw [dg_zero]; exact limbs_nil
    · rw [dg_pos h]; exact limbs_cons.2 ⟨by omega, ih _ (by omega)⟩
theorem gd_cons_zero (x : Nat) (xs : List Nat) : gd (x :: xs) 0 = x := rfl
theorem gd_cons_succ (x : Nat) (xs : List Nat) (i : Nat) : gd (x :: xs) (i + 1) = gd xs i := by simp [gd]
theorem gd_nil (i : Nat) : gd [] i = 0 := by simp [gd]
theorem gd_lt {xs : List Nat} (h : limbs xs) (i : Nat) : gd xs i < 1000000000 := by
  unfold gd
  rcases Nat.lt_or_ge i xs.length with hi | hi
  · rw [List.getD_eq_getElem?_getD, List.getElem?_eq_getElem hi]; exact h _ (List.getElem_mem hi)
  · rw [List.getD_eq_getElem?_getD, List.getElem?_eq_none hi]; simp
theorem gd_of_ge {xs : List Nat} {i : Nat} (h : xs.length ≤ i) : gd xs i = 0 := by
  unfold gd; rw [List.getD_eq_getElem?_getD, List.getElem?_eq_none h]; rfl
theorem gd_of_lt {xs : List Nat} {i : Nat} (h : i < xs.length) : xs[i]? = some (gd xs i) := by
  unfold gd; rw [List.getD_eq_getElem?_getD, List.getElem?_eq_getElem h]; rfl

theorem val_lt {xs : List Nat} (h : limbs xs) : val xs < 1000000000 ^ xs.length := by
  induction xs with
  | nil => simp [val]
  | cons x xs ih =>
    obtain ⟨hx, hxs⟩ := limbs_cons.1 h
    have := ih hxs
    rw [val, List.length_cons, Nat.pow_succ]
    omega
theorem val_append (xs ys : List Nat) : val (xs ++ ys) = val xs + 1000000000 ^ xs.length * val ys := by
  induction xs with
  | nil => simp [val]
  | cons x xs ih =>
    rw [List.cons_append, val, val, ih, List.length_cons, Nat.pow_succ, Nat.mul_add, ← Nat.mul_assoc, Nat.mul_comm 1000000000 (1000000000 ^ xs.length)]
    omega
theorem val_take_drop (xs : List Nat) (i : Nat) (h : i ≤ xs.length) : val xs = val (xs.take i) + 1000000000 ^ i * val (xs.drop i) := by
  have e := val_append (xs.take i) (xs.drop i)
  rw [List.take_append_drop, List.length_take, Nat.min_eq_left h] at e
  exact e
theorem val_drop (xs : List Nat) (i : Nat) : val (xs.drop i) = gd xs i + 1000000000 * val (xs.drop (i + 1)) := by
  rcases Nat.lt_or_ge i xs.length with h | h
  · rw [List.drop_eq_getElem_cons h, val]
    have : gd xs i = xs[i] := by unfold gd; rw [List.getD_eq_getElem?_getD, List.getElem?_eq_getElem h]; rfl
    rw [this]
  · rw [List.drop_of_length_le h, List.drop_of_length_le (by omega), gd_of_ge h]; rfl
theorem val_zeros (k : Nat) : val (List.replicate k 0) = 0 := by
  induction k with
  | zero => rfl
  | succ k ih => rw [List.replicate_succ, val, ih]
theorem val_set (xs : List Nat) (i v : Nat) (h : i < xs.length) : val (xs.set i v) + 1000000000 ^ i * gd xs i = val xs + 1000000000 ^ i * v := by
  induction xs generalizing i with
  | nil => simp at h
  | cons x xs ih =>
    cases i with
    | zero => simp only [List.set_cons_zero, val, gd_cons_zero, Nat.pow_zero, Nat.one_mul]; omega
    | succ i =>
      have := ih i (by simpa using h)
      rw [List.set_cons_succ, val, val, gd_cons_succ, Nat.pow_succ]
      have e1 : 1000000000 ^ i * 1000000000 * gd xs i = 1000000000 * (1000000000 ^ i * gd xs i) := by rw [Nat.mul_comm (1000000000 ^ i), Nat.mul_assoc]
      have e2 : 1000000000 ^ i * 1000000000 * v = 1000000000 * (1000000000 ^ i * v) := by rw [Nat.mul_comm (1000000000 ^ i), Nat.mul_assoc]
      rw [e1, e2]; omega
theorem limbs_set {xs : List Nat} (h : limbs xs) (i : Nat) {v : Nat} (hv : v < 1000000000) : limbs (xs.set i v) := by
  intro x hx
  rcases List.mem_or_eq_of_mem_set hx with hx | hx
  · exact h x hx
  · rw [hx]; exact hv
theorem limbs_take {xs : List Nat} (h : limbs xs) (i : Nat) : limbs (xs.take i) := fun x hx => h x (List.mem_of_mem_take hx)
theorem limbs_drop {xs : List Nat} (h : limbs xs) (i : Nat) : limbs (xs.drop i) := fun x hx => h x (List.mem_of_mem_drop hx)

/-! Limbs whose last one is not nought are the number's own. -/
theorem dg_val {xs : List Nat} (h : limbs xs) (hl : xs.getLast? ≠ some 0) : dg (val xs) = xs := by
  induction xs with
  | nil => rw [val, dg_zero]
  | cons x xs ih =>
    obtain ⟨hx, hxs⟩ := limbs_cons.1 h
    have hv : 0 < val (x :: xs) := by
      rw [val]
      cases xs with
      | nil => simp at hl; omega
      | cons y ys =>
        have hi := ih hxs (by simpa [List.getLast?_cons_cons] using hl)
        have : 0 < val (y :: ys) := by
          rcases Nat.eq_zero_or_pos (val (y :: ys)) with h0 | h0
          · rw [h0, dg_zero] at hi; cases hi
          · exact h0
        omega
    rw [dg_pos hv, val]
    have e1 : (x + 1000000000 * val xs) % 1000000000 = x := by omega
    have e2 : (x + 1000000000 * val xs) / 1000000000 = val xs := by omega
    rw [e1, e2]
    cases xs with
    | nil => rw [val, dg_zero]
    | cons y ys => rw [ih hxs (by simpa [List.getLast?_cons_cons] using hl)]
theorem dg_last (n : Nat) : (dg n).getLast? ≠ some 0 := by
  induction n using Nat.strongRecOn with
  | ind n ih =>
    rcases Nat.eq_zero_or_pos n with h | h
    · subst h; rw [dg_zero]; simp
    · rw [dg_pos h]
      rcases Nat.eq_zero_or_pos (n / 1000000000) with h0 | h0
      · rw [h0, dg_zero]; simp; omega
      · have := ih (n / 1000000000) (by omega)
        rw [dg_pos h0] at this ⊢
        rw [List.getLast?_cons_cons]
        exact this
theorem rightB_iff {xs : List Nat} : rightB xs = true ↔ limbs xs ∧ xs.getLast? ≠ some 0 := by
  unfold rightB limbs; simp
theorem dg_of_right {xs : List Nat} (h : rightB xs = true) : dg (val xs) = xs := dg_val (rightB_iff.1 h).1 (rightB_iff.1 h).2
theorem right_dg (n : Nat) : rightB (dg n) = true := rightB_iff.2 ⟨limbs_dg n, dg_last n⟩
theorem dg_inj {a b : Nat} (h : dg a = dg b) : a = b := by rw [← val_dg a, ← val_dg b, h]

/-! Limbs with noughts at their end. -/
theorem dg_cut {xs : List Nat} (h : limbs xs) {n : Nat} (hz : ∀ j, n ≤ j → gd xs j = 0) (hn : n = 0 ∨ gd xs (n - 1) ≠ 0) (hle : n ≤ xs.length) : dg (val xs) = xs.take n := by
  have hv : val xs = val (xs.take n) := by
    rw [val_take_drop xs n hle]
    have : val (xs.drop n) = 0 := by
      have : ∀ k i, xs.length - i = k → n ≤ i → val (xs.drop i) = 0 := by
        intro k
        induction k with
        | zero => intro i hk _; rw [List.drop_of_length_le (by omega)]; rfl
        | succ k ih => intro i hk hi; rw [val_drop, hz i hi, ih (i + 1) (by omega) (by omega)]
      exact this _ n rfl (Nat.le_refl _)
    rw [this]; simp
  rw [hv]
  refine dg_val (limbs_take h n) ?_
  rcases hn with rfl | hn
  · simp
  · rcases Nat.eq_zero_or_pos n with h0 | h0
    · subst h0; simp
    · rw [List.getLast?_eq_getElem?, List.length_take, Nat.min_eq_left hle, List.getElem?_take_of_lt (by omega), gd_of_lt (by omega)]
      intro he; exact hn (Option.some.inj he)

/-! Which of two is above: by the highest limb that is another one. -/
theorem val_eq_of_gd : ∀ (xs ys : List Nat), (∀ j, gd xs j = gd ys j) → val xs = val ys := by
  have aux : ∀ (k : Nat) (xs ys : List Nat), xs.length + ys.length = k → (∀ j, gd xs j = gd ys j) → val xs = val ys := by
    intro k
    induction k using Nat.strongRecOn with
    | ind k ih =>
      intro xs ys hk h
      have e := val_drop xs 0
      have f := val_drop ys 0
      simp only [List.drop_zero, Nat.zero_add, List.drop_one] at e f
      cases xs with
      | nil =>
        cases ys with
        | nil => rfl
        | cons y ys =>
          have := ih ([].length + ys.length) (by simp at hk ⊢; omega) [] ys rfl (fun j => by have := h (j + 1); rw [gd_cons_succ] at this; rw [← this, gd_nil, gd_nil])
          have h0 := h 0
          rw [gd_nil, gd_cons_zero] at h0
          show val [] = y + 1000000000 * val ys
          rw [← this, ← h0]; rfl
      | cons x xs =>
        cases ys with
        | nil =>
          have := ih (xs.length + [].length) (by simp at hk ⊢; omega) xs [] rfl (fun j => by have := h (j + 1); rw [gd_cons_succ] at this; rw [this, gd_nil, gd_nil])
          have h0 := h 0
          rw [gd_nil, gd_cons_zero] at h0
          show x + 1000000000 * val xs = val []
          rw [this, h0]; rfl
        | cons y ys =>
          have := ih (xs.length + ys.length) (by simp at hk ⊢; omega) xs ys rfl (fun j => by have := h (j + 1); rwa [gd_cons_succ, gd_cons_succ] at this)
          have h0 := h 0
          rw [gd_cons_zero, gd_cons_zero] at h0
          rw [val, val, this, h0]
  exact fun xs ys h => aux _ xs ys rfl h

theorem gd_drop (xs : List Nat) (i j : Nat) : gd (xs.drop i) j = gd xs (i + j) := by
  unfold gd; rw [List.getD_eq_getElem?_getD, List.getD_eq_getElem?_getD, List.getElem?_drop]

theorem val_lt_of_gd {xs ys : List Nat} (hx : limbs xs) : ∀ {i : Nat}, (∀ j, i < j → gd xs j = gd ys j) → gd xs i < gd ys i → val xs < val ys := by
  intro i h hlt
  have key : ∀ k, k ≤ i → val (xs.drop (i - k)) < val (ys.drop (i - k)) := by
    intro k
    induction k with
    | zero =>
      intro _
      have e : val (xs.drop (i + 1)) = val (ys.drop (i + 1)) := val_eq_of_gd _ _ (fun j => by rw [gd_drop, gd_drop]; exact h _ (by omega))
      rw [Nat.sub_zero, val_drop xs, val_drop ys, e]; omega
    | succ k ih =>
      intro hk
      have := ih (by omega)
      have e : i - (k + 1) + 1 = i - k := by omega
      rw [val_drop xs (i - (k + 1)), val_drop ys (i - (k + 1)), e]
      have := gd_lt hx (i - (k + 1))
      omega
  have := key i (Nat.le_refl _)
  rwa [Nat.sub_self, List.drop_zero, List.drop_zero] at this

theorem cmpN_lt {a b : Nat} (h : a < b) : cmpN a b = -1 := by unfold cmpN; rw [if_pos h]
theorem cmpN_gt {a b : Nat} (h : b < a) : cmpN a b = 1 := by unfold cmpN; rw [if_neg (by omega), if_pos h]
theorem cmpN_eq {a b : Nat} (h : a = b) : cmpN a b = 0 := by unfold cmpN; rw [if_neg (by omega), if_neg (by omega)]
theorem cmpN_cases (a b : Nat) : (a < b ∧ cmpN a b = -1) ∨ (a = b ∧ cmpN a b = 0) ∨ (b < a ∧ cmpN a b = 1) := by
  rcases Nat.lt_trichotomy a b with h | h | h
  · exact .inl ⟨h, cmpN_lt h⟩
  · exact .inr (.inl ⟨h, cmpN_eq h⟩)
  · exact .inr (.inr ⟨h, cmpN_gt h⟩)
theorem cmpN_neg (a b : Nat) : (cmpN a b < 0) ↔ a < b := by
  rcases cmpN_cases a b with ⟨h, e⟩ | ⟨h, e⟩ | ⟨h, e⟩ <;> rw [e] <;> omega
theorem cmpN_zero (a b : Nat) : (cmpN a b = 0) ↔ a = b := by
  rcases cmpN_cases a b with ⟨h, e⟩ | ⟨h, e⟩ | ⟨h, e⟩ <;> rw [e] <;> omega
theorem cmpN_pos (a b : Nat) : (0 < cmpN a b) ↔ b < a := by
  rcases cmpN_cases a b with ⟨h, e⟩ | ⟨h, e⟩ | ⟨h, e⟩ <;> rw [e] <;> omega

/-- More limbs, the last one not nought: above. -/
theorem val_lt_of_length {xs ys : List Nat} (hx : limbs xs) (hy : ys.getLast? ≠ some 0) (h : xs.length < ys.length) : val xs < val ys := by
  have hl : gd ys (ys.length - 1) ≠ 0 := by
    intro he
    apply hy
    rw [List.getLast?_eq_getElem?, gd_of_lt (by omega), he]
  refine val_lt_of_gd hx (i := ys.length - 1) (fun j hj => ?_) ?_
  · rw [gd_of_ge (by omega), gd_of_ge (by omega)]
  · rw [gd_of_ge (by omega)]; omega
theorem dg_len_mono {a b : Nat} (h : a ≤ b) : (dg a).length ≤ (dg b).length := by
  rcases Nat.lt_or_ge (dg b).length (dg a).length with hl | hl
  · have := val_lt_of_length (limbs_dg b) (dg_last a) hl
    rw [val_dg, val_dg] at this
    omega
  · exact hl
theorem dg_len_le {a n : Nat} (h : a < 1000000000 ^ n) : (dg a).length ≤ n := by
  rcases Nat.lt_or_ge n (dg a).length with hl | hl
  · exfalso
    have hg : gd (dg a) ((dg a).length - 1) ≠ 0 := by
      intro he
      apply dg_last a
      rw [List.getLast?_eq_getElem?, gd_of_lt (by omega), he]
    have e := val_take_drop (dg a) ((dg a).length - 1) (by omega)
    rw [val_drop, val_dg] at e
    have hp : 1000000000 ^ n ≤ 1000000000 ^ ((dg a).length - 1) := Nat.pow_le_pow_right (by omega) (by omega)
    have : 1000000000 ^ ((dg a).length - 1) * 1 ≤ 1000000000 ^ ((dg a).length - 1) * (gd (dg a) ((dg a).length - 1) + 1000000000 * val ((dg a).drop ((dg a).length - 1 + 1))) := Nat.mul_le_mul_left _ (by omega)
    omega
  · exact hl
theorem lt_pow_dg (a : Nat) : a < 1000000000 ^ (dg a).length := by
  have := val_lt (limbs_dg a); rwa [val_dg] at this
theorem pow_le_of_dg {a : Nat} (h : 0 < a) : 1000000000 ^ ((dg a).length - 1) ≤ a := by
  rcases Nat.lt_or_ge a (1000000000 ^ ((dg a).length - 1)) with hl | hl
  · have := dg_len_le hl
    have : 0 < (dg a).length := by rw [dg_pos h]; simp
    omega
  · exact hl
theorem dg_len_add (a b : Nat) : (dg (a + b)).length ≤ max (dg a).length (dg b).length + 1 := by
  apply dg_len_le
  have ha := lt_pow_dg a
  have hb := lt_pow_dg b
  have h1 : 1000000000 ^ (dg a).length ≤ 1000000000 ^ max (dg a).length (dg b).length := Nat.pow_le_pow_right (by omega) (by omega)
  have h2 : 1000000000 ^ (dg b).length ≤ 1000000000 ^ max (dg a).length (dg b).length := Nat.pow_le_pow_right (by omega) (by omega)
  rw [Nat.pow_succ]; omega
theorem even_dg (n : Nat) : (gd (dg n) 0 % 2 = 0) ↔ n % 2 = 0 := by
  have e := val_drop (dg n) 0
  rw [List.drop_zero, val_dg] at e
  omega
theorem dg_eq_nil {n : Nat} : dg n = [] ↔ n = 0 := by
  constructor
  · intro h; rw [← val_dg n, h]; rfl
  · rintro rfl; exact dg_zero
end Go.Proofs.Ytafbkoejobkncaa

/-
  Memory words of layer 1: a slice of uint32 that reads as a list of limbs; what keeps it.
-/
namespace Go.Proofs.Ytafbkoejobkncaa
open Go.RowKit

/-- The cells vs lie at A, below block B (where there are none: anywhere, or nowhere). -/
def Row (w : World) (B : Nat) (A : Option Addr) (vs : List Value) : Prop :=
  vs = [] ∨ ∃ b o, A = some ⟨b, o, none⟩ ∧ b < B ∧ ∀ j u, vs[j]? = some u → w.cell? ⟨b, o + j, none⟩ = some u

/-- Limbs as they lie in cells. -/
def vals (xs : List Nat) : List Value := xs.map (fun (x : Nat) => Value.int .u32 (x : Int))
theorem vals_get {xs : List Nat} {j : Nat} (h : j < xs.length) : (vals xs)[j]? = some (.int .u32 (gd xs j : Nat)) := by
  unfold vals; rw [List.getElem?_map, gd_of_lt h]; rfl
theorem vals_len (xs : List Nat) : (vals xs).length = xs.length := by simp [vals]
theorem vals_one (xs : List Nat) : ∀ u ∈ vals xs, u.oneCell' = true := by
  intro u hu
  obtain ⟨x, _, rfl⟩ := List.mem_map.1 hu
  rfl
theorem vals_append (xs ys : List Nat) : vals (xs ++ ys) = vals xs ++ vals ys := by simp [vals]
theorem vals_take (xs : List Nat) (n : Nat) : vals (xs.take n) = (vals xs).take n := by simp [vals, List.map_take]
theorem vals_set (xs : List Nat) (i x : Nat) : vals (xs.set i x) = (vals xs).set i (.int .u32 (x : Int)) := by simp [vals, List.map_set]

/-- The slice at A of n elements and capacity c reads as the limbs xs. -/
structure Lim (w : World) (B : Nat) (A : Option Addr) (n c : Nat) (xs : List Nat) : Prop where
  len : xs.length = n
  cap : n ≤ c
  room : c ≤ maxLen
  fit : ∀ x ∈ xs, x < 4294967296
  row : Row w B A (vals xs)
  addr : A = none → c = 0

section
variable {w w' : World} {B n c : Nat} {A : Option Addr} {xs : List Nat}
theorem Row.keep {vs : List Value} (h : Row w B A vs) (hk : ∀ p : Addr, p.block < B → w'.cell? p = w.cell? p) : Row w' B A vs := by
  rcases h with h | ⟨b, o, rfl, hb, hc⟩
  · exact .inl h
  · exact .inr ⟨b, o, rfl, hb, fun j u hu => (hk ⟨b, o + j, none⟩ hb).trans (hc j u hu)⟩
theorem Row.more {B' : Nat} {vs : List Value} (h : Row w B A vs) (hB : B ≤ B') : Row w B' A vs := by
  rcases h with h | ⟨b, o, rfl, hb, hc⟩
  · exact .inl h
  · exact .inr ⟨b, o, rfl, by omega, hc⟩
theorem Lim.keep (h : Lim w B A n c xs) (hk : ∀ p : Addr, p.block < B → w'.cell? p = w.cell? p) : Lim w' B A n c xs := ⟨h.len, h.cap, h.room, h.fit, h.row.keep hk, h.addr⟩
theorem Lim.more {B' : Nat} (h : Lim w B A n c xs) (hB : B ≤ B') : Lim w B' A n c xs := ⟨h.len, h.cap, h.room, h.fit, h.row.more hB, h.addr⟩
theorem Lim.below (h : Lim w B A n c xs) (hb : Below B w w') : Lim w' B A n c xs := h.keep fun _ hp => hb.cell hp
theorem Lim.step (h : Lim w B A n c xs) (hB : B ≤ w.heap.size) (hb : Below w.heap.size w w') : Lim w' B A n c xs := h.below (hb.mono hB)
theorem Lim.at_ {k : Nat} (h : Lim w B A n c xs) (hk : k < n) : ∃ b o, A = some ⟨b, o, none⟩ ∧ b < B ∧ w.cell? ⟨b, o + k, none⟩ = some (.int .u32 (gd xs k : Nat)) := by
  rcases h.row with h0 | ⟨b, o, rfl, hb, hc⟩
  · have := congrArg List.length h0
    rw [vals_len, h.len] at this
    simp at this; omega
  · exact ⟨b, o, rfl, hb, hc k _ (vals_get (by rw [h.len]; exact hk))⟩
theorem Lim.gd_lt (h : Lim w B A n c xs) (k : Nat) : gd xs k < 4294967296 := by
  unfold gd
  rcases Nat.lt_or_ge k xs.length with hi | hi
  · rw [List.getD_eq_getElem?_getD, List.getElem?_eq_getElem hi]; exact h.fit _ (List.getElem_mem hi)
  · rw [List.getD_eq_getElem?_getD, List.getElem?_eq_none hi]; simp
theorem Lim.nil : Lim w B none 0 0 [] := ⟨rfl, Nat.le_refl _, by simp [maxLen], (fun _ h => by cases h), .inl rfl, fun _ => rfl⟩
/-- The first of them. -/
theorem Lim.take {k : Nat} (h : Lim w B A n c xs) (hk : k ≤ n) : Lim w B A k c (xs.take k) := by
  refine ⟨by rw [List.length_take, h.len]; omega, Nat.le_trans hk h.cap, h.room, fun x hx => h.fit x (List.mem_of_mem_take hx), ?_, h.addr⟩
  rcases h.row with h0 | ⟨b, o, rfl, hb, hc⟩
  · left; rw [vals_take, h0]; simp
  · refine .inr ⟨b, o, rfl, hb, fun j u hu => hc j u ?_⟩
    rw [vals_take, List.getElem?_take] at hu
    split at hu
    · exact hu
    · cases hu
/-- A row of the call's own, read. -/
theorem Lim.of_own {base : Nat} {e : TypeId} (h : w.ownsRow base e 1 (.slice A n c) n (vals xs)) (hfit : ∀ x ∈ xs, x < 4294967296) : Lim w w.heap.size A n c xs := by
  have hl : xs.length = n := by have := h.1; rw [vals_len] at this; omega
  rcases h.2 with ⟨h1, h2⟩ | ⟨g, cap, cur, hv, hg, hh, hnc, hcm, hsz, htk⟩
  · injection h1 with h1 h3 h4
    subst h1; subst h4
    subst h3
    obtain rfl : xs = [] := List.eq_nil_of_length_eq_zero hl
    exact Lim.nil
  · injection hv with h1 h3 h4
    subst h1; subst h4
    refine ⟨hl, hnc, hcm, hfit, .inr ⟨g, 0, rfl, ?_, fun j u hu => ?_⟩, fun h => by cases h⟩
    · rcases Nat.lt_or_ge g w.heap.size with hlt | hge
      · exact hlt
      · rw [Array.getElem?_eq_none hge] at hh; cases hh
    · have := h.cells (g := g) rfl j u hu
      simpa [Addr.add_lit] using this
end

/-- The slice reads as the number a. -/
abbrev Num (w : World) (B : Nat) (A : Option Addr) (n c : Nat) (a : Nat) : Prop := Lim w B A n c (dg a)

/-- What a call hands back that makes limbs: they lie in the world behind it; nothing that was there has turned. -/
def RetLim (W : World) (xs : List Nat) (e : Ending) (w' : World) : Prop :=
  ∃ A n c, e = .returned (.slice A n c) ∧ Lim w' w'.heap.size A n c xs ∧ Below W.heap.size W w'
abbrev RetNum (W : World) (a : Nat) (e : Ending) (w' : World) : Prop := RetLim W (dg a) e w'

/-- What a call hands back that computes a value. -/
def RetVal (W : World) (v : Value) (e : Ending) (w' : World) : Prop := e = .returned v ∧ Below W.heap.size W w'

theorem below_drewN {B : Nat} {a w : World} (h : Below B a w) (n : Nat) : Below B a (w.drewN n) := ⟨h.os, h.tape, h.output, h.size, h.block⟩
theorem Below.of_quiet {B : Nat} {W : World} {n : Nat} : Below B W (W.drewN n) := below_drewN (Below.refl _ _) n

end Go.Proofs.Ytafbkoejobkncaa

/-
  Contracts of layer 1 that only read: at, Right, Cmp, Same, Even, Long.
-/
namespace Go.Proofs.Ytafbkoejobkncaa
open Go.RowKit

theorem at_any (A : Option Addr) (n c i B : Nat) (xs : List Nat) (w : World) (h : Lim w B A n c xs) :
    Calls Try.prog 77 #[.slice A n c, .int .i64 i] w fun e w' => e = .returned (.int .u32 (gd xs i : Nat)) ∧ w = w' := by
  have hm := h.room
  have hn := h.cap
  unfold maxLen at hm
  by_cases hi : i < n
  · obtain ⟨b, o, rfl, _, hc⟩ := h.at_ hi
    have hg := h.gd_lt i
    clear h
    go_enter Try.func77, Try.ntmps77
    go_wp2
    go_ret
    exact ⟨rfl, rfl⟩
  · have e : gd xs i = 0 := gd_of_ge (by rw [h.len]; omega)
    rw [e]
    clear h e
    go_enter Try.func77, Try.ntmps77
    go_wp2
    go_ret
    exact ⟨rfl, rfl⟩


theorem right_last {xs : List Nat} {n : Nat} (hl : xs.length = n) (h : limbs xs) : rightB xs = decide (n = 0 ∨ gd xs (n - 1) ≠ 0) := by
  subst hl
  rw [Bool.eq_iff_iff, rightB_iff, decide_eq_true_iff, List.getLast?_eq_getElem?]
  rcases Nat.eq_zero_or_pos xs.length with h0 | h0
  · obtain rfl : xs = [] := List.eq_nil_of_length_eq_zero h0
    simp [limbs_nil]
  · rw [gd_of_lt (by omega)]
    simp only [h, true_and, ne_eq, Option.some.injEq]
    constructor
    · intro hh; exact .inr hh
    · rintro (hh | hh)
      · omega
      · exact hh
theorem right_no {xs : List Nat} {k : Nat} (h : 1000000000 ≤ gd xs k) : rightB xs = false := by
  rw [Bool.eq_false_iff]
  intro hr
  have := gd_lt (rightB_iff.1 hr).1 k
  omega
theorem limbs_of_gd {xs : List Nat} (h : ∀ j, j < xs.length → gd xs j < 1000000000) : limbs xs := by
  intro x hx
  obtain ⟨j, hj, rfl⟩ := List.getElem_of_mem hx
  have := h j hj
  unfold gd at this
  rwa [List.getD_eq_getElem?_getD, List.getElem?_eq_getElem hj] at this
theorem all_succ {xs : List Nat} {k : Nat} (h : ∀ j, j < k → gd xs j < 1000000000) (hk : gd xs k < 1000000000) : ∀ j, j < k + 1 → gd xs j < 1000000000 := by
  intro j hj
  rcases Nat.lt_or_ge j k with h1 | h1
  · exact h j h1
  · obtain rfl : j = k := by omega
    exact hk

theorem ret_bool {a b : Bool} (h : a = b) : Ending.returned (.bool a) = .returned (.bool b) := by rw [h]
theorem ret_int {k : IntKind} {a b : Int} (h : a = b) : Ending.returned (.int k a) = .returned (.int k b) := by rw [h]

theorem right_any (A : Option Addr) (n c B : Nat) (xs : List Nat) (w : World) (h : Lim w B A n c xs) :
    Calls Try.prog 44 #[.slice A n c] w fun e w' => e = .returned (.bool (rightB xs)) ∧ w = w' := by
  have hm := h.room
  have hn := h.cap
  unfold maxLen at hm
  go_enter Try.func44, Try.ntmps44
  go_wp2
  go_loop [7] (fun i => ∃ k : Nat, k ≤ n ∧ i = .int .i64 k ∧ ∀ j, j < k → gd xs j < 1000000000) (fun i => n - (intOf i).toNat)
  case atStart => exact ⟨0, Nat.zero_le _, rfl, fun j hj => absurd hj (by omega)⟩
  case round =>
    obtain ⟨k, hk, rfl, hall⟩ := hrel
    have HALL := Lib.hid hall
    clear hall
    by_cases hkn : k < n
    · obtain ⟨b, o, rfl, _, hc⟩ := h.at_ hkn
      have hg := h.gd_lt k
      have H := Lib.hid h
      clear h
      by_cases hbig : (1000000000 : Int) ≤ (gd xs k : Nat)
      · have E := Lib.hid (right_no (xs := xs) (k := k) (by omega))
        go_wp2
        go_ret
        exact ⟨ret_bool E.out.symm, rfl⟩
      · go_wp2
        go_round
        case rel => exact ⟨k + 1, by omega, by go_num, all_succ HALL.out (by omega)⟩
        case measure => simp [intOf]; omega
    · obtain rfl : k = n := by omega
      have hl := h.len
      have hlim : limbs xs := limbs_of_gd (fun j hj => HALL.out j (by omega))
      have E := Lib.hid (right_last hl hlim)
      clear hl hlim HALL
      rcases Nat.eq_zero_or_pos k with h0 | h0
      · subst h0
        clear h
        go_wp2
        go_ret
        exact ⟨ret_bool (by rw [E.out]; simp), rfl⟩
      · obtain ⟨b, o, rfl, _, hc⟩ := h.at_ (show k - 1 < k by omega)
        clear h
        go_wp2
        go_ret
        exact ⟨ret_bool (by rw [E.out, Bool.eq_iff_iff]; simp), rfl⟩


theorem refRight_any (A : Option Addr) (n c B : Nat) (xs : List Nat) (w : World) (h : Lim w B A n c xs) :
    Calls Try.prog 45 #[.slice A n c] w fun e w' => e = .returned (.bool (rightB xs)) ∧ w = w' := by
  have hm := h.room
  have hn := h.cap
  unfold maxLen at hm
  go_enter Try.func45, Try.ntmps45
  go_wp2
  go_loop [3] (fun i => ∃ k : Nat, k ≤ n ∧ i = .int .i64 k ∧ ∀ j, j < k → gd xs j < 1000000000) (fun i => n - (intOf i).toNat)
  case atStart => exact ⟨0, Nat.zero_le _, rfl, fun j hj => absurd hj (by omega)⟩
  case round =>
    obtain ⟨k, hk, rfl, hall⟩ := hrel
    have HALL := Lib.hid hall
    clear hall
    by_cases hkn : k < n
    · obtain ⟨b, o, rfl, _, hc⟩ := h.at_ hkn
      have hg := h.gd_lt k
      have H := Lib.hid h
      clear h
      by_cases hbig : (1000000000 : Int) ≤ (gd xs k : Nat)
      · have E := Lib.hid (right_no (xs := xs) (k := k) (by omega))
        go_wp2
        go_ret
        exact ⟨ret_bool E.out.symm, rfl⟩
      · go_wp2
        go_round
        case rel => exact ⟨k + 1, by omega, by go_num, all_succ HALL.out (by omega)⟩
        case measure => simp [intOf]; omega
    · obtain rfl : k = n := by omega
      have hl := h.len
      have hlim : limbs xs := limbs_of_gd (fun j hj => HALL.out j (by omega))
      have E := Lib.hid (right_last hl hlim)
      clear hl hlim HALL
      rcases Nat.eq_zero_or_pos k with h0 | h0
      · subst h0
        clear h
        go_wp2
        go_ret
        exact ⟨ret_bool (by rw [E.out]; simp), rfl⟩
      · obtain ⟨b, o, rfl, _, hc⟩ := h.at_ (show k - 1 < k by omega)
        clear h
        go_wp2
        go_ret
        exact ⟨ret_bool (by rw [E.out, Bool.eq_iff_iff]; simp), rfl⟩

theorem cmp_lt_at {a b : Nat} {k : Nat} (hall : ∀ j, k < j → gd (dg a) j = gd (dg b) j) (h : gd (dg a) k < gd (dg b) k) : cmpN a b = -1 := by
  have := val_lt_of_gd (limbs_dg a) hall h
  rw [val_dg, val_dg] at this
  exact cmpN_lt this
theorem cmp_gt_at {a b : Nat} {k : Nat} (hall : ∀ j, k < j → gd (dg a) j = gd (dg b) j) (h : gd (dg b) k < gd (dg a) k) : cmpN a b = 1 := by
  have := val_lt_of_gd (limbs_dg b) (fun j hj => (hall j hj).symm) h
  rw [val_dg, val_dg] at this
  exact cmpN_gt this
theorem cmp_eq_at {a b : Nat} (hall : ∀ j, 0 ≤ j → gd (dg a) j = gd (dg b) j) : cmpN a b = 0 := by
  have := val_eq_of_gd (dg a) (dg b) (fun j => hall j (Nat.zero_le _))
  rw [val_dg, val_dg] at this
  exact cmpN_eq this
theorem all_pred {xs ys : List Nat} {k : Nat} (h : ∀ j, k ≤ j → gd xs j = gd ys j) (hk : gd xs (k - 1) = gd ys (k - 1)) : ∀ j, k - 1 ≤ j → gd xs j = gd ys j := by
  intro j hj
  rcases Nat.lt_or_ge j k with h1 | h1
  · obtain rfl : j = k - 1 := by omega
    exact hk
  · exact h j h1

set_option maxHeartbeats 400000 in
theorem cmp_any (A A' : Option Addr) (n c n' c' a b : Nat) (w : World) (h : Num w w.heap.size A n c a) (h' : Num w w.heap.size A' n' c' b) :
    Calls Try.prog 59 #[.slice A n c, .slice A' n' c'] w (RetVal w (.int .i64 (cmpN a b))) := by
  have hm := h.room
  have hn := h.cap
  have hm' := h'.room
  have hn' := h'.cap
  unfold maxLen at hm hm'
  rcases Nat.lt_trichotomy n n' with hlt | heq | hgt
  · have E := Lib.hid (val_lt_of_length (limbs_dg a) (dg_last b) (by rw [h.len, h'.len]; exact hlt))
    clear h h'
    go_enter Try.func59, Try.ntmps59
    go_wp2
    go_step3
    go_wp2
    try rw [Exit.noGoto_ret]
    go_ret
    exact ⟨ret_int (by have := E.out; rw [val_dg, val_dg] at this; rw [cmpN_lt this]), Below.refl _ _⟩
  · subst heq
    have hg := h.gd_lt
    have hg' := h'.gd_lt
    have GA : Hid (∀ k, gd (dg a) k < 4294967296) := hg
    have GB : Hid (∀ k, gd (dg b) k < 4294967296) := hg'
    clear hg hg'
    have O : Hid (∀ j, n ≤ j → gd (dg a) j = gd (dg b) j) := fun j hj => by rw [gd_of_ge (by rw [h.len]; exact hj), gd_of_ge (by rw [h'.len]; exact hj)]
    have H := Lib.hid h
    have H' := Lib.hid h'
    clear h h'
    go_enter Try.func59, Try.ntmps59
    go_wp2
    go_step3
    go_wp2
    go_step3
    go_wp2
    go_loopw [5, 6] (fun order i wr => ∃ k : Nat, k ≤ n ∧ order = .int .i64 0 ∧ i = .int .i64 ((k : Int) - 1) ∧ (∀ j, k ≤ j → gd (dg a) j = gd (dg b) j) ∧ Below w.heap.size w wr) (fun _ i _ => (intOf i + 1).toNat)
    case atStart => exact ⟨n, Nat.le_refl _, rfl, rfl, O.out, Below.refl _ _⟩
    case round =>
      obtain ⟨k, hk, rfl, rfl, hall, hb⟩ := hrel
      have HALL := Lib.hid hall
      clear hall O
      rcases Nat.eq_zero_or_pos k with h0 | h0
      · subst h0
        go_wp2
        try rw [Exit.noGoto_ret]
        go_ret
        exact ⟨ret_int (by rw [cmp_eq_at HALL.out]), hb⟩
      · obtain ⟨b1, o1, rfl, _, hc⟩ := (H.out.below hb).at_ (k := k - 1) (by omega)
        obtain ⟨b2, o2, rfl, _, hc'⟩ := (H'.out.below hb).at_ (k := k - 1) (by omega)
        have ga := GA.out (k - 1)
        have gb := GB.out (k - 1)
        have HB := Lib.hid hb
        clear hb
        rcases Nat.lt_trichotomy (gd (dg a) (k - 1)) (gd (dg b) (k - 1)) with hlt | he | hgt
        · go_wp2
          go_region
          go_wp2
          try rw [Exit.noGoto_ret]
          go_ret
          exact ⟨ret_int (by rw [cmp_lt_at (fun j hj => HALL.out j (by omega)) hlt]), HB.out.drew⟩
        · have HE := Lib.hid he
          have he' : ¬ ((gd (dg a) (k - 1) : Nat) : Int) < (gd (dg b) (k - 1) : Nat) := by omega
          have he'' : ¬ ((gd (dg b) (k - 1) : Nat) : Int) < (gd (dg a) (k - 1) : Nat) := by omega
          clear he
          go_wp2
          go_region
          go_wp2
          go_region
          go_wp2
          go_roundw
          case rel => exact ⟨k - 1, by omega, rfl, by go_num, all_pred HALL.out HE.out, HB.out.drew.drew⟩
          case measure => simp [intOf]; omega
        · go_wp2
          go_region
          go_wp2
          go_region
          go_wp2
          try rw [Exit.noGoto_ret]
          go_ret
          exact ⟨ret_int (by rw [cmp_gt_at (fun j hj => HALL.out j (by omega)) hgt]), HB.out.drew.drew⟩
  · have E := Lib.hid (val_lt_of_length (limbs_dg b) (dg_last a) (by rw [h.len, h'.len]; exact hgt))
    clear h h'
    go_enter Try.func59, Try.ntmps59
    go_wp2
    go_step3
    go_wp2
    try rw [Exit.noGoto_ret]
    go_ret
    exact ⟨ret_int (by have := E.out; rw [val_dg, val_dg] at this; rw [cmpN_gt this]), Below.refl _ _⟩

end Go.Proofs.Ytafbkoejobkncaa

/-
  Contracts of layer 1 that only read, the second part: the document's Cmp, and Same.
-/
namespace Go.Proofs.Ytafbkoejobkncaa
open Go.RowKit

theorem at_pred (A : Option Addr) (n c k B : Nat) (xs : List Nat) (w : World) (h : Lim w B A n c xs) (hk : 0 < k) :
    Calls Try.prog 77 #[.slice A n c, .int .i64 ((k : Int) - 1)] w fun e w' => e = .returned (.int .u32 (gd xs (k - 1) : Nat)) ∧ w = w' := by
  have e : ((k : Int) - 1) = ((k - 1 : Nat) : Int) := by omega
  rw [e]
  exact at_any A n c (k - 1) B xs w h

set_option maxHeartbeats 1000000 in
theorem refCmp_any (A A' : Option Addr) (n c n' c' a b : Nat) (w : World) (h : Num w w.heap.size A n c a) (h' : Num w w.heap.size A' n' c' b) :
    Calls Try.prog 56 #[.slice A n c, .slice A' n' c'] w (RetVal w (.int .i64 (cmpN a b))) := by
  have hm := h.room
  have hn := h.cap
  have hm' := h'.room
  have hn' := h'.cap
  unfold maxLen at hm hm'
  have GA : Hid (∀ k, gd (dg a) k < 4294967296) := h.gd_lt
  have GB : Hid (∀ k, gd (dg b) k < 4294967296) := h'.gd_lt
  have O : Hid (∀ j, max n n' ≤ j → gd (dg a) j = gd (dg b) j) := fun j hj => by rw [gd_of_ge (by rw [h.len]; omega), gd_of_ge (by rw [h'.len]; omega)]
  have H := Lib.hid h
  have H' := Lib.hid h'
  clear h h'
  go_enter Try.func56, Try.ntmps56
  go_wp2
  all_goals
    go_loopw [5] (fun i wr => ∃ k : Nat, k ≤ max n n' ∧ i = .int .i64 ((k : Int) - 1) ∧ (∀ j, k ≤ j → gd (dg a) j = gd (dg b) j) ∧ Below w.heap.size w wr) (fun i _ => (intOf i + 1).toNat)
    case atStart => exact ⟨max n n', Nat.le_refl _, by go_num, O.out, Below.refl _ _⟩
    case round =>
      obtain ⟨k, hk, rfl, hall, hb⟩ := hrel
      have HALL := Lib.hid hall
      clear hall O
      rcases Nat.eq_zero_or_pos k with h0 | h0
      · subst h0
        go_wp2
        go_ret
        exact ⟨ret_int (by rw [cmp_eq_at HALL.out]), hb⟩
      · have H1 := Lib.hid (H.out.below hb)
        have H1' := Lib.hid (H'.out.below hb)
        have ga := GA.out (k - 1)
        have gb := GB.out (k - 1)
        have HB := Lib.hid hb
        clear hb
        have eK : Hid ((k : Int) - 1 = ((k - 1 : Nat) : Int)) := by show _ = _; omega
        rcases Nat.lt_trichotomy (gd (dg a) (k - 1)) (gd (dg b) (k - 1)) with hlt | he | hgt
        · go_wp2_with (go_at_call 77; first | ((with_reducible refine (at_pred A n c k _ (dg a) _ H1.out h0).mono ?_); rintro e w' ⟨rfl, rfl⟩) | ((with_reducible refine (at_pred A' n' c' k _ (dg b) _ H1'.out h0).mono ?_); rintro e w' ⟨rfl, rfl⟩))
          go_ret
          exact ⟨ret_int (by rw [cmp_lt_at (fun j hj => HALL.out j (by omega)) hlt]), HB.out⟩
        · have HE := Lib.hid he
          have he' : (((gd (dg a) (k - 1) : Nat) : Int) != (gd (dg b) (k - 1) : Nat)) = false := by simp; omega
          clear he
          go_wp2_with (go_at_call 77; first | ((with_reducible refine (at_pred A n c k _ (dg a) _ H1.out h0).mono ?_); rintro e w' ⟨rfl, rfl⟩) | ((with_reducible refine (at_pred A' n' c' k _ (dg b) _ H1'.out h0).mono ?_); rintro e w' ⟨rfl, rfl⟩))
          go_roundw
          case rel => exact ⟨k - 1, by omega, by go_num, all_pred HALL.out HE.out, HB.out⟩
          case measure => simp [intOf]; omega
        · go_wp2_with (go_at_call 77; first | ((with_reducible refine (at_pred A n c k _ (dg a) _ H1.out h0).mono ?_); rintro e w' ⟨rfl, rfl⟩) | ((with_reducible refine (at_pred A' n' c' k _ (dg b) _ H1'.out h0).mono ?_); rintro e w' ⟨rfl, rfl⟩))
          go_ret
          exact ⟨ret_int (by rw [cmp_gt_at (fun j hj => HALL.out j (by omega)) hgt]), HB.out⟩

theorem same_any (A A' : Option Addr) (n c n' c' a b : Nat) (w : World) (h : Num w w.heap.size A n c a) (h' : Num w w.heap.size A' n' c' b) :
    Calls Try.prog 57 #[.slice A n c, .slice A' n' c'] w (RetVal w (.bool (decide (a = b)))) := by
  have H := Lib.hid h
  have H' := Lib.hid h'
  clear h h'
  go_enter Try.func57, Try.ntmps57
  go_wp2_with (go_at_call 59; refine (cmp_any A A' n c n' c' a b _ H.out H'.out).mono ?_; rintro e w' ⟨rfl, hb⟩)
  go_ret
  exact ⟨ret_bool (by rw [Bool.eq_iff_iff, decide_eq_true_iff, ← cmpN_zero]; simp), by assumption⟩

theorem refSame_any (A A' : Option Addr) (n c n' c' a b : Nat) (w : World) (h : Num w w.heap.size A n c a) (h' : Num w w.heap.size A' n' c' b) :
    Calls Try.prog 46 #[.slice A n c, .slice A' n' c'] w (RetVal w (.bool (decide (a = b)))) := by
  have H := Lib.hid h
  have H' := Lib.hid h'
  clear h h'
  go_enter Try.func46, Try.ntmps46
  go_wp2_with (go_at_call 56; refine (refCmp_any A A' n c n' c' a b _ H.out H'.out).mono ?_; rintro e w' ⟨rfl, hb⟩)
  go_ret
  exact ⟨ret_bool (by rw [Bool.eq_iff_iff, decide_eq_true_iff, ← cmpN_zero]; simp), by assumption⟩

end Go.Proofs.Ytafbkoejobkncaa

/-
  A law on append for slices of limbs; contracts of layer 1 that make limbs, the first part: cut, Trim, Make.
-/
namespace Go.Proofs.Ytafbkoejobkncaa
open Go.RowKit

theorem append_types {P : Program} {w : World} {t tx ty e e' : TypeId} {i : TypeInfo} (ht : P.underlying t = some (.slice e)) (htx : P.underlying tx = some (.slice e')) (hi : P.info? e = some i) (A : Option Addr) (n c : Nat) (x : Value) :
    (Builtin.append_ #[t, tx] ty #[.slice A n c, x]).run P w = (Builtin.append_ #[t, t] ty #[.slice A n c, x]).run P w := by
  simp [Builtin.append_, run_underlying ht, run_underlying htx, sizeOf, typeInfo, hi]

theorem own_shape {w : World} {base e : Nat} {v : Value} {n : Nat} {xs : List Value} (h : w.ownsRow base e 1 v n xs) : ∃ A c, v = .slice A n c := by
  rcases h.2 with ⟨rfl, rfl⟩ | ⟨g, cap, cur, rfl, _⟩
  · exact ⟨_, _, rfl⟩
  · exact ⟨_, _, rfl⟩

/-- 'append' of limbs to limbs of the call's own, nil or not. -/
theorem wpList_append_lim {P : Program} {w : World} {ops : Array Oper} {rest : List Oper} {o : Oper} {a : Act} {Q : Exit → Act → World → Prop} (hgd : o.guard = none) (s x : Operand) (t tx : TypeId)
    (ho : o.op = .call { callee := .builtin .append, args := #[s, x], argTypes := #[t, tx] })
    (base e e' : TypeId) (i : TypeInfo) (ht : P.underlying t = some (.slice e)) (htx : P.underlying tx = some (.slice e')) (hi : P.info? e = some i) (hz : i.zero = some (.int .u32 0)) (hz1 : i.size = 1) (hz2 : i.bytes = 4)
    (A : Option Addr) (n c : Nat) (xs : List Nat) (hs : a.eval s = .slice A n c) (hown : w.ownsRow base e 1 (.slice A n c) n (vals xs))
    (B : Nat) (A' : Option Addr) (m c' : Nat) (ys : List Nat) (hx : a.eval x = .slice A' m c') (hy : Lim w B A' m c' ys) (hlen : n + m ≤ 1000000000000) (hbase : base ≤ w.heap.size)
    (h : ∀ A2 c2 w', w'.ownsRow base e 1 (.slice A2 (n + m) c2) (n + m) (vals (xs ++ ys)) → w.grownBy w' (Value.slice A n c).ownBlock → wpList P ops Q rest (a.put o.dst (.slice A2 (n + m) c2)) w') : wpList P ops Q (o :: rest) a w := by
  refine wpList_plain hgd fun K hK => ?_
  cases A' with
  | none =>
    have hc := hy.addr rfl
    have hm : m = 0 := by have := hy.cap; omega
    subst hc; subst hm
    obtain rfl : ys = [] := List.eq_nil_of_length_eq_zero hy.len
    have hrun := run_append_owned_none (P := P) (w := w) base t o.type e i 1 ht hi _ n (vals xs) hown
    rw [← append_types ht htx hi] at hrun
    unfold Oper.wp execOp
    simp only [ho, resolve, invoke, builtin, Sem.run_bind, Sem.run_pure, Result.andThen_ok, List.map_toArray, List.map_cons, List.map_nil, hs, hx, hrun]
    exact hK _ _ (h A c w (by simpa using hown) (World.grownBy.refl _ _))
  | some ad =>
    have hcells : ∀ j u, (vals ys)[j]? = some u → w.cell? (ad.add j) = some u := by
      intro j u hu
      rcases hy.row with h0 | ⟨b, o', he, _, hc⟩
      · rw [h0] at hu; simp at hu
      · injection he with he
        subst he
        rw [Addr.add_lit]
        exact hc j u hu
    obtain ⟨v', w', hr, h2, h3, _⟩ := run_append_own (P := P) w base t o.type e i (.int .u32 0) 1 4 ht hi hz hz1 hz2 rfl (by decide) _ n (vals xs) hown ad m c' (vals ys) (by rw [vals_len, hy.len, Nat.mul_one]) hcells (vals_one ys) (by unfold maxLen; omega) (by omega) hbase
    rw [← append_types ht htx hi] at hr
    obtain ⟨A2, c2, rfl⟩ := own_shape h2
    rw [← vals_append] at h2
    unfold Oper.wp execOp
    simp only [ho, resolve, invoke, builtin, Sem.run_bind, Sem.run_pure, Result.andThen_ok, List.map_toArray, List.map_cons, List.map_nil, hs, hx, hr]
    exact hK _ _ (h A2 c2 w' h2 h3)

theorem Lim.one (w : World) (x : Nat) (v : Int) (hv : v = x) (hx : x < 4294967296) (t : TypeId) : Lim (w.alloc (.cells #[.int .u32 v] t)) (w.heap.size + 1) (some ⟨w.heap.size, 0, none⟩) 1 1 [x] := by
  subst hv
  refine ⟨rfl, Nat.le_refl _, by simp [maxLen], by simpa using hx, .inr ⟨w.heap.size, 0, rfl, Nat.lt_succ_self _, fun j u hu => ?_⟩, fun h => by cases h⟩
  match j, hu with
  | 0, hu =>
    simp [vals] at hu
    subst hu
    rw [cell_of_row _ w.heap.size 0 _ t (0, 0) (heap_alloc_new w _)]
    rfl

theorem cut_any (A : Option Addr) (n c B : Nat) (xs : List Nat) (w : World) (h : Lim w B A n c xs) (hx : limbs xs) :
    Calls Try.prog 74 #[.slice A n c] w fun e w' => (∃ A' n' c', e = .returned (.slice A' n' c') ∧ n' ≤ n ∧ Lim w B A' n' c' (dg (val xs))) ∧ w = w' := by
  have hm := h.room
  have hn := h.cap
  unfold maxLen at hm
  have Z : Hid (∀ j, n ≤ j → gd xs j = 0) := fun j hj => gd_of_ge (by rw [h.len]; exact hj)
  go_enter Try.func74, Try.ntmps74
  go_wp2
  go_loop [3] (fun i => ∃ k : Nat, k ≤ n ∧ i = .int .i64 k ∧ ∀ j, k ≤ j → gd xs j = 0) (fun i => (intOf i).toNat)
  case atStart => exact ⟨n, Nat.le_refl _, rfl, Z.out⟩
  case round =>
    obtain ⟨k, hk, rfl, hall⟩ := hrel
    have HALL := Lib.hid hall
    have H := Lib.hid h
    have hg := h.gd_lt (k - 1)
    clear hall Z
    rcases Nat.eq_zero_or_pos k with h0 | h0
    · subst h0
      clear h hg
      go_wp2
      go_ret
      exact ⟨⟨none, 0, 0, rfl, Nat.zero_le _, by have := dg_cut hx HALL.out (.inl rfl) (Nat.zero_le _); rw [this]; exact Lim.nil⟩, rfl⟩
    · obtain ⟨b, o, rfl, _, hc⟩ := h.at_ (show k - 1 < n by omega)
      clear h
      by_cases hz : gd xs (k - 1) = 0
      · go_wp2
        go_round
        case rel =>
          refine ⟨k - 1, by omega, by go_num, fun j hj => ?_⟩
          rcases Nat.lt_or_ge j k with h1 | h1
          · obtain rfl : j = k - 1 := by omega
            exact hz
          · exact HALL.out j h1
        case measure => simp [intOf]; omega
      · go_wp2
        go_ret
        exact ⟨⟨_, _, _, rfl, hk, by rw [dg_cut hx HALL.out (.inr hz) (by have := H.out.len; omega)]; exact H.out.take hk⟩, rfl⟩

theorem info_limb : (Try.prog.info? 64).map (fun i => (i.zero, i.size, i.bytes)) = some (some (.int .u32 0), 1, 4) := by kernel_rfl

/-- Limbs in a row of the call's own. -/
def RetOwn (W : World) (xs : List Nat) (e : Ending) (w' : World) : Prop :=
  ∃ A n c, e = .returned (.slice A n c) ∧ w'.ownsRow W.heap.size 64 1 (.slice A n c) n (vals xs) ∧ Below W.heap.size W w'

theorem trim_own (A : Option Addr) (n c : Nat) (xs : List Nat) (w : World) (h : Lim w w.heap.size A n c xs) (hx : limbs xs) (hn : n ≤ 1000000000) :
    Calls Try.prog 53 #[.slice A n c] w (RetOwn w (dg (val xs))) := by
  obtain ⟨i0, hi, hz0, hz1, hz2⟩ := info_parts info_limb
  have H := Lib.hid h
  have HX := Lib.hid hx
  clear h hx
  go_enter Try.func53, Try.ntmps53
  go_wp2_with (first | (go_at_call 74; refine (cut_any A n c _ xs _ H.out HX.out).mono ?_; rintro e w' ⟨⟨A', n', c', rfl, hn', h'⟩, rfl⟩; have H' := Lib.hid h'; clear h') | (at_builtin; refine wpList_append_lim rfl (.const (.slice none 0 0)) (.tmp 4) 23 23 rfl w.heap.size 64 64 i0 Try.underlying23 Try.underlying23 hi hz0 hz1 hz2 none 0 0 [] rfl (World.ownsRow_nil _ _ _ _) _ A' n' c' (dg (val xs)) rfl H'.out (by omega) (Nat.le_refl _) ?_; intro A2 c2 w2 hown hgr; simp only [Nat.zero_add, List.nil_append] at hown))
  go_ret
  exact ⟨_, _, _, rfl, hown, (Below.refl _ _).grown hgr (Nat.le_refl _) (fun k hk => by cases hk)⟩

theorem trim_any (A : Option Addr) (n c : Nat) (xs : List Nat) (w : World) (h : Lim w w.heap.size A n c xs) (hx : limbs xs) (hn : n ≤ 1000000000) :
    Calls Try.prog 53 #[.slice A n c] w (RetLim w (dg (val xs))) :=
  (trim_own A n c xs w h hx hn).mono fun _ _ ⟨A', n', c', he, ho, hb⟩ => ⟨A', n', c', he, Lim.of_own ho (fun x hx => by have := limbs_dg _ x hx; omega), hb⟩

theorem make_step {N m : Nat} {xs : List Nat} (h : xs ++ dg m = dg N) (hm : 0 < m) : (xs ++ [m % 1000000000]) ++ dg (m / 1000000000) = dg N := by
  rw [dg_pos hm] at h
  rw [List.append_assoc, ← h]; rfl
theorem make_len {N m k : Nat} {xs : List Nat} (h : xs ++ dg m = dg N) (hN : N < 18446744073709551616) (hk : (vals xs).length = k * 1) : k ≤ 3 := by
  have h1 := congrArg List.length h
  rw [List.length_append] at h1
  have h2 : (dg N).length ≤ 3 := dg_len_le (by omega)
  rw [vals_len] at hk
  omega

theorem u64_div {m N : Nat} (h : m ≤ N) (hN : N < 18446744073709551616) : IntKind.u64.wrap ((m : Int) / 1000000000) = ((m / 1000000000 : Nat) : Int) := by
  rw [IntWalk.u64_in _ ⟨by omega, by omega⟩]; omega
theorem u64_same {m : Nat} (hm : m < 18446744073709551616) : IntKind.u64.wrap (m : Int) = (m : Int) := IntWalk.u64_in _ ⟨by omega, by omega⟩
theorem ret_u64 {a b : Int} (h : a = b) : Value.int .u64 a = .int .u64 b := by rw [h]

set_option maxHeartbeats 400000 in
theorem make_any (N : Nat) (hN : Hid (N < 18446744073709551616)) (w : World) :
    Calls Try.prog 48 #[.int .u64 N] w (RetNum w N) := by
  obtain ⟨i0, hi, hz0, hz1, hz2⟩ := info_parts info_limb
  go_enter Try.func48, Try.ntmps48
  go_wp2
  go_loopw [0, 3] (fun i v wr => ∃ (m : Nat) (A : Option Addr) (k c : Nat) (xs : List Nat), m ≤ N ∧ i = .int .u64 m ∧ v = .slice A k c ∧ wr.ownsRow w.heap.size 64 1 (.slice A k c) k (vals xs) ∧ xs ++ dg m = dg N ∧ limbs xs ∧ Below w.heap.size w wr) (fun i _ _ => (intOf i).toNat)
  case atStart => exact ⟨N, none, 0, 0, [], Nat.le_refl _, rfl, rfl, World.ownsRow_nil _ _ _ _, rfl, limbs_nil, Below.refl _ _⟩
  case round =>
    obtain ⟨m, A, k, c, xs, hm, rfl, rfl, hown, hx, hlim, hb⟩ := hrel
    have K3 := make_len hx hN.out hown.1
    have HX := Lib.hid hx
    have HO := Lib.hid hown
    have HL := Lib.hid hlim
    have HB := Lib.hid hb
    clear hx hown hlim hb
    rcases Nat.eq_zero_or_pos m with h0 | h0
    · subst h0
      go_wp2
      go_ret
      exact ⟨_, _, _, rfl, Lim.of_own (by have := HX.out; rw [dg_zero, List.append_nil] at this; rw [← this]; exact HO.out) (fun x hx => by have := limbs_dg _ x hx; omega), HB.out⟩
    · go_wp2_with (at_builtin; (refine wpList_append_lim rfl (.tmp 8) (.tmp 12) 23 23 rfl w.heap.size 64 64 i0 Try.underlying23 Try.underlying23 hi hz0 hz1 hz2 A k c xs rfl (HO.out.alloc _) _ _ 1 1 [m % 1000000000] rfl (Lim.one _ _ _ (by omega) (by omega) _) (by omega) (Nat.le_trans HB.out.size (by simp)) ?_; intro A2 c2 w2 hown hgr))
      go_roundw
      case rel => exact ⟨m / 1000000000, A2, k + 1, c2, xs ++ [m % 1000000000], by omega, ret_u64 (u64_div hm hN.out), rfl, hown, make_step HX.out h0, limbs_append.2 ⟨HL.out, limbs_cons.2 ⟨by omega, limbs_nil⟩⟩, (HB.out.alloc HB.out.size _).grown hgr (Nat.le_trans HB.out.size (by simp)) (fun g hg => (HO.out.lt g hg).1)⟩
      case measure => simp [intOf]; rw [u64_div hm hN.out]; omega

end Go.Proofs.Ytafbkoejobkncaa

/-
  Contract of layer 1: Add.
-/
namespace Go.Proofs.Ytafbkoejobkncaa
open Go.RowKit

/-- Block g is just the limbs zs. -/
def Own (w : World) (g : Nat) (zs : List Nat) : Prop := w.heap[g]? = some (.cells (vals zs).toArray 64 (0, 0))

theorem Own.cell {w : World} {g : Nat} {zs : List Nat} (h : Own w g zs) {i : Nat} (hi : i < zs.length) : w.cell? ⟨g, i, none⟩ = some (.int .u32 (gd zs i : Nat)) := by
  rw [cell_of_row w g i _ _ (0, 0) h]
  simpa using vals_get hi
theorem Own.frozen {w : World} {g : Nat} {zs : List Nat} (h : Own w g zs) (i : Nat) : w.frozen? ⟨g, i, none⟩ = false := frozen_of_row w g i _ _ h
theorem Own.lt {w : World} {g : Nat} {zs : List Nat} (h : Own w g zs) : g < w.heap.size := by
  rcases Nat.lt_or_ge g w.heap.size with hlt | hge
  · exact hlt
  · unfold Own at h; rw [Array.getElem?_eq_none hge] at h; cases h
theorem Own.store {w : World} {g : Nat} {zs : List Nat} (h : Own w g zs) (i : Nat) (x : Nat) (v : Int) (hv : v = x) : Own (w.setCell ⟨g, i, none⟩ (.int .u32 v)) g (zs.set i x) := by
  subst hv
  unfold Own at h ⊢
  rw [heap_setCell_same w g i _ _ _ h, vals_set]
  simp
theorem Own.lim {w : World} {g : Nat} {zs : List Nat} (h : Own w g zs) (hz : limbs zs) (hl : zs.length ≤ 1000000000000) : Lim w w.heap.size (some ⟨g, 0, none⟩) zs.length zs.length zs := by
  refine ⟨rfl, Nat.le_refl _, by unfold maxLen; omega, fun x hx => by have := hz x hx; omega, .inr ⟨g, 0, rfl, h.lt, fun j u hu => ?_⟩, fun h => by cases h⟩
  rw [cell_of_row w g (0 + j) _ _ (0, 0) h, Nat.zero_add]
  simpa using hu
theorem Own.drew {w : World} {g : Nat} {zs : List Nat} (h : Own w g zs) : Own w.drew g zs := h
theorem Own.of_made {w : World} {base n : Nat} (h : w.ownsRow base 64 1 (.slice (some ⟨base, 0, none⟩) n n) n (madeCells (Value.int .u32 0).cells (n * 1)).toList) : Own w base (List.replicate n 0) := by
  have e : (madeCells (Value.int .u32 0).cells (n * 1)).toList = vals (List.replicate n 0) := by
    rw [Nat.mul_one]
    show (madeCells #[Value.int .u32 0] n).toList = _
    rw [toList_madeCells_one]
    simp [vals]
  rw [e] at h
  rcases h.2 with ⟨h1, _⟩ | ⟨g, cap, cur, hv, _, hh, _, _, hsz, htk⟩
  · cases h1
  · injection hv with h1 h2 h3
    injection h1 with h1
    injection h1 with h1
    subst h1; subst h3
    unfold Own
    rw [hh, ← htk, List.take_of_length_le (by simp; omega)]
theorem splice_vals (n : Nat) (xs : List Nat) (_h : xs.length ≤ n) : splice (vals (List.replicate n 0)) 0 (vals xs) = vals (xs ++ List.replicate (n - xs.length) 0) := by
  simp [splice, vals, List.map_append, List.drop_replicate]

theorem add_step {zs ys : List Nat} {i v cy cy' T : Nat} (h : val zs + cy * 1000000000 ^ i + 1000000000 ^ i * val (ys.drop i) = T) (hi : i < zs.length) (hv : gd zs i + gd ys i + cy = v + cy' * 1000000000) :
    val (zs.set i v) + cy' * 1000000000 ^ (i + 1) + 1000000000 ^ (i + 1) * val (ys.drop (i + 1)) = T := by
  have e1 := val_set zs i v hi
  have e2 := val_drop ys i
  generalize hP : 1000000000 ^ i = P at *
  have e3 : P * (gd zs i + gd ys i + cy) = P * (v + cy' * 1000000000) := by rw [hv]
  rw [Nat.pow_succ, hP]
  rw [e2] at h
  have e4 : P * (cy' * 1000000000) = cy' * (P * 1000000000) := by rw [Nat.mul_left_comm]
  have e5 : P * (1000000000 * val (ys.drop (i + 1))) = P * 1000000000 * val (ys.drop (i + 1)) := by rw [Nat.mul_assoc]
  rw [Nat.mul_add, e5] at h
  rw [Nat.mul_add, Nat.mul_add, Nat.mul_add, e4] at e3
  rw [Nat.mul_comm cy P] at h
  omega
theorem add_end {zs ys : List Nat} {i cy a b n : Nat} (h : val zs + cy * 1000000000 ^ i + 1000000000 ^ i * val (ys.drop i) = a + b) (hz : limbs zs) (hlen : zs.length = n + 1) (hi : i = n + 1) (hy : ys.length ≤ n) (ha : a < 1000000000 ^ n) (hb : b < 1000000000 ^ n) : val zs = a + b := by
  have hl := hlen
  subst hi
  rw [List.drop_of_length_le (by omega), val, Nat.mul_zero] at h
  have := val_lt hz
  rw [hl] at this
  rw [Nat.pow_succ] at h this
  rcases Nat.eq_zero_or_pos cy with h0 | h0
  · subst h0; omega
  · have : 1 * (1000000000 ^ n * 1000000000) ≤ cy * (1000000000 ^ n * 1000000000) := Nat.mul_le_mul_right _ h0
    omega
theorem add_break {zs ys : List Nat} {i T : Nat} (h : val zs + 0 * 1000000000 ^ i + 1000000000 ^ i * val (ys.drop i) = T) (hy : ys.length ≤ i) : val zs = T := by
  rw [List.drop_of_length_le hy, val, Nat.mul_zero, Nat.zero_mul] at h
  omega
theorem pow_of_len {a n m : Nat} (h : (dg a).length = n) (hm : n ≤ m) : a < 1000000000 ^ m :=
  Nat.lt_of_lt_of_le (by have := lt_pow_dg a; rwa [h] at this) (Nat.pow_le_pow_right (by omega) hm)

theorem lim_src {w : World} {B n c : Nat} {A : Option Addr} {xs : List Nat} (h : Lim w B A n c xs) (hp : 0 < (vals xs).length) : ∃ ad, A = some ad ∧ ∀ j v, (vals xs)[j]? = some v → w.cell? (ad.add j) = some v := by
  rcases h.row with h0 | ⟨b, o, rfl, _, hc⟩
  · rw [h0] at hp; simp at hp
  · exact ⟨_, rfl, fun j v hv => by rw [Addr.add_lit]; exact hc j v hv⟩
theorem copy_len {w : World} {B n c k : Nat} {A : Option Addr} {xs : List Nat} (h : Lim w B A n c xs) (hk : n ≤ k) : (vals xs).length = Nat.min n k ∧ 0 + (vals xs).length ≤ (vals (List.replicate k 0)).length := by
  rw [vals_len, vals_len, h.len, List.length_replicate]
  exact ⟨(Nat.min_eq_left hk).symm, by omega⟩
theorem own_copied {w w' : World} {B g n c k : Nat} {A : Option Addr} {xs : List Nat} (h : Lim w B A n c xs) (hk : n ≤ k) (hg : Hid (w'.heap[g]? = some (.cells (splice (vals (List.replicate k 0)) 0 (vals xs)).toArray 64 (0, 0)))) : Own w' g (xs ++ List.replicate (k - n) 0) := by
  have := hg.out
  rw [splice_vals k xs (by rw [h.len]; exact hk), h.len] at this
  exact this

theorem info_one : (Try.prog.info? 64).map (·.size) = some 1 := by kernel_rfl

set_option maxHeartbeats 1000000 in
set_option maxRecDepth 100000 in
/-- The longer one first or second. -/
theorem add_both (A A' : Option Addr) (n c n' c' a b : Nat) (w : World) (h : Num w w.heap.size A n c a) (h' : Num w w.heap.size A' n' c' b) (hn : n ≤ 1000000000) (args : Array Value)
    (hargs : (args = #[.slice A n c, .slice A' n' c'] ∧ n' ≤ n) ∨ (args = #[.slice A' n' c', .slice A n c] ∧ n' < n)) :
    Calls Try.prog 58 args w (RetNum w (a + b)) := by
  obtain ⟨i0, hi, hz0, hz1, hz2⟩ := info_parts info_limb
  have PA := Lib.hid (pow_of_len h.len (Nat.le_refl _))
  have H := Lib.hid h
  have H' := Lib.hid h'
  rcases hargs with ⟨rfl, hle⟩ | ⟨rfl, hle⟩
  all_goals
    have PB := Lib.hid (pow_of_len h'.len (show n' ≤ n by omega))
    clear h h'
    go_enter Try.func58, Try.ntmps58
    go_wp2
    go_step3
    go_wp2_with (first | (at_make; go_must (refine wpList_make_full _ rfl _ _ 23 rfl w.heap.size 64 i0 (.int .u32 0) 1 Try.underlying23 hi hz0 hz1 _ _ _ _ (n + 1) rfl rfl (by omega) (by omega) (by rw [hz2]; omega) (by unfold maxLen; omega) (Nat.le_refl _) ?_; intro w1 hown1 hgr1; have M1 : Hid (Own w1 w.heap.size (List.replicate (n + 1) 0)) := Own.of_made hown1; have HB1 : Hid (Below w.heap.size w w1) := (Below.refl _ _).grown hgr1 (Nat.le_refl _) (fun k hk => by cases hk); clear hown1 hgr1)) | ((with_reducible show wpList _ _ _ (⟨some 21, _, _, _, _, _⟩ :: _) _ _); go_must (refine wpList_copy_splice rfl (.tmp 19) (.tmp 20) 23 23 rfl 64 Try.underlying23 info_one _ _ _ _ _ _ rfl rfl w.heap.size 0 (vals (List.replicate (n + 1) 0)) 64 M1.out (vals (dg a)) (copy_len H.out (show n ≤ n + 1 by omega)).1 (fun hp => ⟨rfl, lim_src (H.out.below HB1.out) hp⟩) (copy_len H.out (show n ≤ n + 1 by omega)).2 (vals_one _) w.heap.size w HB1.out (Nat.le_refl _) ?_; intro w2 hg2 hb2; have O2 := Lib.hid (own_copied H.out (show n ≤ n + 1 by omega) hg2); have HB2 := Lib.hid hb2; clear hg2 hb2)))
    go_step3
    go_wp2
    have e0 : val (dg a ++ List.replicate (n + 1 - n) 0) = a := by rw [val_append, val_zeros, val_dg, Nat.mul_zero, Nat.add_zero]
    have hz0 : limbs (dg a ++ List.replicate (n + 1 - n) 0) := limbs_append.2 ⟨limbs_dg a, fun x hx => by rw [(List.mem_replicate.1 hx).2]; omega⟩
    have hl0 : (dg a ++ List.replicate (n + 1 - n) 0).length = n + 1 := by rw [List.length_append, List.length_replicate, H.out.len]; omega
    have E0 := Lib.hid e0
    have Z0 := Lib.hid hz0
    have L0 := Lib.hid hl0
    clear e0 hz0 hl0
    go_loopw [6, 24] (fun cv iv wr => ∃ (i cy : Nat) (zs : List Nat), i ≤ n + 1 ∧ iv = .int .i64 i ∧ cv = .int .u32 cy ∧ cy ≤ 1 ∧ zs.length = n + 1 ∧ limbs zs ∧ val zs + cy * 1000000000 ^ i + 1000000000 ^ i * val ((dg b).drop i) = a + b ∧ Own wr w.heap.size zs ∧ Below w.heap.size w wr) (fun _ iv _ => n + 1 - (intOf iv).toNat)
    case atStart =>
      exact ⟨0, 0, _, Nat.zero_le _, rfl, rfl, Nat.zero_le _, L0.out, Z0.out, by rw [E0.out, List.drop_zero, val_dg]; omega, O2.out, HB2.out⟩
    case round =>
      obtain ⟨i, cy, zs, hi1, rfl, rfl, hcy, hlen, hlim, hval, hown, hb⟩ := hrel
      clear O2 E0 Z0 L0 M1 HB1 HB2
      have OW := Lib.hid hown
      have HL := Lib.hid hlim
      have HV := Lib.hid hval
      have HB := Lib.hid hb
      have LN := Lib.hid hlen
      clear hown hlim hval hb hlen
      rcases Nat.lt_or_ge i (n + 1) with hin | hin
      · have hcell := OW.out.cell (i := i) (by rw [LN.out]; exact hin)
        have hfr := OW.out.frozen i
        have hz := gd_lt HL.out i
        rcases Nat.lt_or_ge i n' with him | him
        · obtain ⟨b2, o2, rfl, _, hc2⟩ := (H'.out.below HB.out).at_ him
          have hy := gd_lt (limbs_dg b) i
          rcases Nat.lt_or_ge (gd zs i + gd (dg b) i + cy) 1000000000 with hs | hs
          · have HS := Lib.hid hs
            have hd : decide ((1000000000 : Int) ≤ (gd zs i : Nat) + ((gd (dg b) i : Nat) + (cy : Nat))) = false := by rw [decide_eq_false_iff_not]; omega
            clear hs
            go_wp2
            go_region
            go_wp2
            go_roundw
            case rel =>
              have hv : ((gd zs i : Nat) : Int) + ((gd (dg b) i : Nat) + (cy : Nat)) = ((gd zs i + gd (dg b) i + cy : Nat) : Int) := by omega
              exact ⟨i + 1, 0, zs.set i (gd zs i + gd (dg b) i + cy), by omega, by go_num, rfl, Nat.zero_le _, by rw [List.length_set]; exact LN.out, limbs_set HL.out i HS.out, add_step HV.out (by rw [LN.out]; exact hin) (by omega), (OW.out.store i _ _ hv).drew, (HB.out.setCell (Nat.le_refl _) _).drew⟩
            case measure => simp [intOf]; omega
          · have HS := Lib.hid hs
            have hd : decide ((1000000000 : Int) ≤ (gd zs i : Nat) + ((gd (dg b) i : Nat) + (cy : Nat))) = true := by rw [decide_eq_true_iff]; omega
            clear hs
            go_wp2
            go_region
            go_wp2
            go_roundw
            case rel =>
              have hv : ((gd zs i : Nat) : Int) + ((gd (dg b) i : Nat) + (cy : Nat)) = ((gd zs i + gd (dg b) i + cy : Nat) : Int) := by omega
              have hv2 : (((gd zs i : Nat) : Int) + ((gd (dg b) i : Nat) + (cy : Nat)) - 1000000000) % 4294967296 = ((gd zs i + gd (dg b) i + cy - 1000000000 : Nat) : Int) := by have := HS.out; omega
              have h2 := (OW.out.store i _ _ hv).store i _ _ hv2
              rw [List.set_set] at h2
              exact ⟨i + 1, 1, zs.set i (gd zs i + gd (dg b) i + cy - 1000000000), by omega, by go_num, rfl, Nat.le_refl _, by rw [List.length_set]; exact LN.out, limbs_set HL.out i (by omega), add_step HV.out (by rw [LN.out]; exact hin) (by have := HS.out; omega), h2.drew, ((HB.out.setCell (Nat.le_refl _) _).setCell (Nat.le_refl _) _).drew⟩
            case measure => simp [intOf]; omega
        · have hyz : gd (dg b) i = 0 := gd_of_ge (by rw [H'.out.len]; exact him)
          have HY := Lib.hid hyz
          clear hyz
          rcases Nat.eq_zero_or_pos cy with h0 | h0
          · subst h0
            have LZ := OW.out.lim HL.out (by rw [LN.out]; omega)
            rw [LN.out] at LZ
            have HLZ := Lib.hid LZ
            clear LZ
            have eab := add_break HV.out (show (dg b).length ≤ i by rw [H'.out.len]; exact him)
            have EAB := Lib.hid eab
            clear eab
            go_wp2_with (go_at_call 74; refine (cut_any _ _ _ _ _ _ HLZ.out HL.out).mono ?_; rintro e w' ⟨⟨A2, n2, c2, rfl, hn2, h2⟩, rfl⟩; have H2 := Lib.hid h2; clear h2)
            try rw [Exit.noGoto_ret]
            go_ret
            exact ⟨_, _, _, rfl, by rw [← EAB.out]; exact H2.out, HB.out⟩
          · obtain rfl : cy = 1 := by omega
            rcases Nat.lt_or_ge (gd zs i + 1) 1000000000 with hs | hs
            · have HS := Lib.hid hs
              have hd : decide ((1000000000 : Int) ≤ (gd zs i : Nat) + 1) = false := by rw [decide_eq_false_iff_not]; omega
              clear hs
              go_wp2
              go_roundw
              case rel =>
                have hv : ((gd zs i : Nat) : Int) + 1 = ((gd zs i + 1 : Nat) : Int) := by omega
                exact ⟨i + 1, 0, zs.set i (gd zs i + 1), by omega, by go_num, rfl, Nat.zero_le _, by rw [List.length_set]; exact LN.out, limbs_set HL.out i HS.out, add_step HV.out (by rw [LN.out]; exact hin) (by have := HY.out; omega), OW.out.store i _ _ hv, HB.out.setCell (Nat.le_refl _) _⟩
              case measure => simp [intOf]; omega
            · have HS := Lib.hid hs
              have hd : decide ((1000000000 : Int) ≤ (gd zs i : Nat) + 1) = true := by rw [decide_eq_true_iff]; omega
              clear hs
              go_wp2
              go_roundw
              case rel =>
                have hv : ((gd zs i : Nat) : Int) + 1 = ((gd zs i + 1 : Nat) : Int) := by omega
                have hv2 : (((gd zs i : Nat) : Int) + 1 - 1000000000) % 4294967296 = ((gd zs i + 1 - 1000000000 : Nat) : Int) := by have := HS.out; omega
                have h2 := (OW.out.store i _ _ hv).store i _ _ hv2
                rw [List.set_set] at h2
                exact ⟨i + 1, 1, zs.set i (gd zs i + 1 - 1000000000), by omega, by go_num, rfl, Nat.le_refl _, by rw [List.length_set]; exact LN.out, limbs_set HL.out i (by omega), add_step HV.out (by rw [LN.out]; exact hin) (by have := HS.out; have := HY.out; omega), h2, (HB.out.setCell (Nat.le_refl _) _).setCell (Nat.le_refl _) _⟩
              case measure => simp [intOf]; omega
      · obtain rfl : i = n + 1 := by omega
        have LZ := OW.out.lim HL.out (by rw [LN.out]; omega)
        rw [LN.out] at LZ
        have HLZ := Lib.hid LZ
        clear LZ
        have eab := add_end HV.out HL.out LN.out rfl (by rw [H'.out.len]; omega) PA.out PB.out
        have EAB := Lib.hid eab
        clear eab
        go_wp2_with (go_at_call 74; refine (cut_any _ _ _ _ _ _ HLZ.out HL.out).mono ?_; rintro e w' ⟨⟨A2, n2, c2, rfl, hn2, h2⟩, rfl⟩; have H2 := Lib.hid h2; clear h2)
        try rw [Exit.noGoto_ret]
        go_ret
        exact ⟨_, _, _, rfl, by rw [← EAB.out]; exact H2.out, HB.out⟩

theorem add_any (A A' : Option Addr) (n c n' c' a b : Nat) (w : World) (h : Num w w.heap.size A n c a) (h' : Num w w.heap.size A' n' c' b) (hn : n ≤ 1000000000) (hn' : n' ≤ 1000000000) :
    Calls Try.prog 58 #[.slice A n c, .slice A' n' c'] w (RetNum w (a + b)) := by
  rcases Nat.lt_or_ge n n' with hlt | hge
  · rw [Nat.add_comm]
    exact add_both A' A n' c' n c b a w h' h hn' _ (.inr ⟨rfl, hlt⟩)
  · exact add_both A A' n c n' c' a b w h h' hn _ (.inl ⟨rfl, hge⟩)

end Go.Proofs.Ytafbkoejobkncaa

/-
  Plain mathematics of layer 1, the second part: what a round of Add and Sub does to the number that the limbs make.
-/
namespace Go.Proofs.Ytafbkoejobkncaa

theorem sub_step {zs ys : List Nat} {i v bw bw' a b : Nat} (h : val zs + b = a + bw * 1000000000 ^ i + 1000000000 ^ i * val (ys.drop i)) (hi : i < zs.length) (hv : v + bw + gd ys i = gd zs i + bw' * 1000000000) :
    val (zs.set i v) + b = a + bw' * 1000000000 ^ (i + 1) + 1000000000 ^ (i + 1) * val (ys.drop (i + 1)) := by
  have e1 := val_set zs i v hi
  have e2 := val_drop ys i
  generalize hP : 1000000000 ^ i = P at *
  have e3 : P * (v + bw + gd ys i) = P * (gd zs i + bw' * 1000000000) := by rw [hv]
  rw [Nat.pow_succ, hP]
  rw [e2] at h
  have e4 : P * (bw' * 1000000000) = bw' * (P * 1000000000) := by rw [Nat.mul_left_comm]
  have e5 : P * (1000000000 * val (ys.drop (i + 1))) = P * 1000000000 * val (ys.drop (i + 1)) := by rw [Nat.mul_assoc]
  rw [Nat.mul_add, e5] at h
  rw [Nat.mul_add, Nat.mul_add, Nat.mul_add, e4] at e3
  rw [Nat.mul_comm bw P] at h
  omega
theorem sub_end {zs ys : List Nat} {i bw a b n : Nat} (h : val zs + b = a + bw * 1000000000 ^ i + 1000000000 ^ i * val (ys.drop i)) (hz : limbs zs) (hlen : zs.length = n) (hi : i = n) (hy : ys.length ≤ n) (hba : b ≤ a) : val zs = a - b := by
  subst hi
  rw [List.drop_of_length_le (by omega), val, Nat.mul_zero] at h
  have := val_lt hz
  rw [hlen] at this
  rcases Nat.eq_zero_or_pos bw with h0 | h0
  · subst h0; omega
  · have : 1 * 1000000000 ^ i ≤ bw * 1000000000 ^ i := Nat.mul_le_mul_right _ h0
    omega
theorem sub_break {zs ys : List Nat} {i a b : Nat} (h : val zs + b = a + 0 * 1000000000 ^ i + 1000000000 ^ i * val (ys.drop i)) (hy : ys.length ≤ i) : val zs = a - b := by
  rw [List.drop_of_length_le hy, val, Nat.mul_zero, Nat.zero_mul] at h
  omega

theorem val_snoc (zs : List Nat) (d : Nat) : val (zs ++ [d]) = val zs + 1000000000 ^ zs.length * d := by
  rw [val_append]; simp [val]

theorem refAdd_step {zs xs ys : List Nat} {i ov t T : Nat} (hl : zs.length = i) (h : val zs + 1000000000 ^ i * ov + 1000000000 ^ i * (val (xs.drop i) + val (ys.drop i)) = T) (ht : t = ov + (gd xs i + gd ys i)) :
    val (zs ++ [t % 1000000000]) + 1000000000 ^ (i + 1) * (t / 1000000000) + 1000000000 ^ (i + 1) * (val (xs.drop (i + 1)) + val (ys.drop (i + 1))) = T := by
  have e2 := val_drop xs i
  have e3 := val_drop ys i
  rw [val_snoc, hl, Nat.pow_succ, ← h, e2, e3]
  generalize 1000000000 ^ i = P
  have ed : t = 1000000000 * (t / 1000000000) + t % 1000000000 := (Nat.div_add_mod t 1000000000).symm
  have e4 : P * t = P * (1000000000 * (t / 1000000000) + t % 1000000000) := by rw [← ed]
  rw [Nat.mul_add, ← Nat.mul_assoc] at e4
  have e5 : P * t = P * ov + (P * gd xs i + P * gd ys i) := by rw [ht, Nat.mul_add, Nat.mul_add]
  simp only [Nat.mul_add, ← Nat.mul_assoc]
  omega
theorem refAdd_fin {v P ov a b : Nat} (h : v + P * 1000000000 * ov = a + b) (ha : a < P) (hb : b < P) : v = a + b := by
  rcases Nat.eq_zero_or_pos ov with h0 | h0
  · subst h0; rw [Nat.mul_zero, Nat.add_zero] at h; exact h
  · have h1 : P * 1000000000 ≤ P * 1000000000 * ov := Nat.le_mul_of_pos_right _ h0
    omega
theorem refAdd_end {zs xs ys : List Nat} {i ov a b m : Nat} (h : val zs + 1000000000 ^ i * ov + 1000000000 ^ i * (val (xs.drop i) + val (ys.drop i)) = a + b) (hi : i = m + 1) (hx : xs.length ≤ m) (hy : ys.length ≤ m) (ha : a < 1000000000 ^ m) (hb : b < 1000000000 ^ m) : val zs = a + b := by
  have hx' : xs.drop i = [] := List.drop_of_length_le (by omega)
  have hy' : ys.drop i = [] := List.drop_of_length_le (by omega)
  have hv : val ([] : List Nat) = 0 := rfl
  have e : 1000000000 ^ i = 1000000000 ^ m * 1000000000 := by rw [hi, Nat.pow_succ]
  rw [hx', hy', hv, Nat.add_zero, Nat.mul_zero, Nat.add_zero, e] at h
  exact refAdd_fin h ha hb
theorem refSub_step {zs xs ys : List Nat} {i ls t a b : Nat} (hl : zs.length = i) (h : val zs + 1000000000 ^ i * val (xs.drop i) + b = a + ls * 1000000000 ^ i + 1000000000 ^ i * val (ys.drop i)) (ht : t + gd ys i + ls = gd xs i + 1000000000) (hq : t / 1000000000 ≤ 1) :
    val (zs ++ [t % 1000000000]) + 1000000000 ^ (i + 1) * val (xs.drop (i + 1)) + b = a + (1 - t / 1000000000) * 1000000000 ^ (i + 1) + 1000000000 ^ (i + 1) * val (ys.drop (i + 1)) := by
  have e2 := val_drop xs i
  have e3 := val_drop ys i
  rw [e2, e3] at h
  rw [val_snoc, hl, Nat.pow_succ]
  generalize 1000000000 ^ i = P at *
  have ed : t % 1000000000 + gd ys i + ls = gd xs i + (1 - t / 1000000000) * 1000000000 := by omega
  have e4 : P * (t % 1000000000 + gd ys i + ls) = P * (gd xs i + (1 - t / 1000000000) * 1000000000) := by rw [ed]
  generalize 1 - t / 1000000000 = q at *
  simp only [Nat.mul_add, ← Nat.mul_assoc] at h e4 ⊢
  rw [Nat.mul_comm P q] at e4
  rw [Nat.mul_comm ls P] at h
  have e6 : q * (P * 1000000000) = q * P * 1000000000 := by rw [Nat.mul_assoc]
  omega
theorem refSub_end {zs xs ys : List Nat} {i ls a b n : Nat} (h : val zs + 1000000000 ^ i * val (xs.drop i) + b = a + ls * 1000000000 ^ i + 1000000000 ^ i * val (ys.drop i)) (hz : limbs zs) (hlen : zs.length = i) (hi : i = n) (hx : xs.length ≤ n) (hy : ys.length ≤ n) (hba : b ≤ a) : val zs = a - b := by
  refine sub_end (i := i) (bw := ls) (ys := ys) ?_ hz (hlen.trans hi) hi hy hba
  rw [List.drop_of_length_le (by omega), val, Nat.mul_zero] at h
  omega


end Go.Proofs.Ytafbkoejobkncaa

/-
  Contract of layer 1: Sub.
-/
namespace Go.Proofs.Ytafbkoejobkncaa
open Go.RowKit

theorem sub_lt (A A' : Option Addr) (n c n' c' a b : Nat) (w : World) (h : Num w w.heap.size A n c a) (h' : Num w w.heap.size A' n' c' b) (hab : a < b) :
    Calls Try.prog 60 #[.slice A n c, .slice A' n' c'] w (RetVal w (.tuple #[.slice none 0 0, .int .i64 1])) := by
  have H := Lib.hid h
  have H' := Lib.hid h'
  have e := cmpN_lt hab
  have C := cmp_any A A' n c n' c' a b w h h'
  rw [e] at C
  have CC := Lib.hid C
  clear h h' hab e C
  go_enter Try.func60, Try.ntmps60
  go_wp2
  go_step3
  go_wp2_with (go_at_call 59; refine CC.out.mono ?_; rintro e w1 ⟨rfl, hb1⟩; have HB1 := Lib.hid hb1; clear hb1)
  try rw [Exit.noGoto_ret]
  go_ret2
  exact ⟨rfl, HB1.out⟩

def RetSub (W : World) (m : Nat) (e : Ending) (w' : World) : Prop :=
  ∃ A n c, e = .returned (.tuple #[.slice A n c, .int .i64 0]) ∧ Num w' w'.heap.size A n c m ∧ Below W.heap.size W w'

set_option maxHeartbeats 1000000 in
set_option maxRecDepth 100000 in
theorem sub_ge (A A' : Option Addr) (n c n' c' a b : Nat) (w : World) (h : Num w w.heap.size A n c a) (h' : Num w w.heap.size A' n' c' b) (hn : n ≤ 1000000000) (hab : b ≤ a) :
    Calls Try.prog 60 #[.slice A n c, .slice A' n' c'] w (RetSub w (a - b)) := by
  obtain ⟨i0, hi, hz0, hz1, hz2⟩ := info_parts info_limb
  have HAB := Lib.hid hab
  have hnn : n' ≤ n := by have := dg_len_mono hab; rw [h.len, h'.len] at this; exact this
  have H := Lib.hid h
  have H' := Lib.hid h'
  have C := cmp_any A A' n c n' c' a b w h h'
  have hc : 0 ≤ cmpN a b := by
    rcases Int.lt_or_le (cmpN a b) 0 with h1 | h1
    · rw [cmpN_neg] at h1; omega
    · exact h1
  clear h h' hab
  have CC := Lib.hid C
  clear C
  generalize cmpN a b = s at *
  go_enter Try.func60, Try.ntmps60
  go_wp2
  go_step3
  go_wp2_with (first | (go_at_call 59; refine CC.out.mono ?_; rintro e w1 ⟨rfl, hb1⟩; have HB1 := Lib.hid hb1; clear hb1) | (at_make; go_must (refine wpList_make_full _ rfl _ _ 23 rfl w1.heap.size 64 i0 (.int .u32 0) 1 Try.underlying23 hi hz0 hz1 _ _ _ _ n rfl rfl (by omega) (by omega) (by rw [hz2]; omega) (by unfold maxLen; omega) (Nat.le_refl _) ?_; intro w2 hown1 hgr1; have M1 : Hid (Own w2 w1.heap.size (List.replicate n 0)) := Own.of_made hown1; have HB2 : Hid (Below w.heap.size w w2) := HB1.out.grown hgr1 HB1.out.size (fun k hk => by cases hk); clear hown1 hgr1)) | ((with_reducible show wpList _ _ _ (⟨some 19, _, _, _, _, _⟩ :: _) _ _); go_must (refine wpList_copy_splice rfl (.tmp 17) (.tmp 18) 23 23 rfl 64 Try.underlying23 info_one _ _ _ _ _ _ rfl rfl w1.heap.size 0 (vals (List.replicate n 0)) 64 M1.out (vals (dg a)) (copy_len H.out (Nat.le_refl n)).1 (fun hp => ⟨rfl, lim_src (H.out.below HB2.out) hp⟩) (copy_len H.out (Nat.le_refl n)).2 (vals_one _) w.heap.size w HB2.out HB1.out.size ?_; intro w3 hg2 hb2; have O2 := Lib.hid (own_copied H.out (Nat.le_refl n) hg2); have HB3 := Lib.hid hb2; clear hg2 hb2)))
  go_step3
  go_wp2
  have SZ := HB1.out.size
  have e0 : val (dg a ++ List.replicate (n - n) 0) = a := by rw [val_append, val_zeros, val_dg, Nat.mul_zero, Nat.add_zero]
  have hz0 : limbs (dg a ++ List.replicate (n - n) 0) := limbs_append.2 ⟨limbs_dg a, fun x hx => by rw [(List.mem_replicate.1 hx).2]; omega⟩
  have hl0 : (dg a ++ List.replicate (n - n) 0).length = n := by rw [List.length_append, List.length_replicate, H.out.len]; omega
  have E0 := Lib.hid e0
  have Z0 := Lib.hid hz0
  have L0 := Lib.hid hl0
  clear e0 hz0 hl0 hc
  go_loopw [7, 22] (fun cv iv wr => ∃ (i bw : Nat) (zs : List Nat), i ≤ n ∧ iv = .int .i64 i ∧ cv = .int .u32 bw ∧ bw ≤ 1 ∧ zs.length = n ∧ limbs zs ∧ val zs + b = a + bw * 1000000000 ^ i + 1000000000 ^ i * val ((dg b).drop i) ∧ Own wr w1.heap.size zs ∧ Below w.heap.size w wr) (fun _ iv _ => n - (intOf iv).toNat)
  case atStart =>
    exact ⟨0, 0, _, Nat.zero_le _, rfl, rfl, Nat.zero_le _, L0.out, Z0.out, by rw [E0.out, List.drop_zero, val_dg]; omega, O2.out, HB3.out⟩
  case round =>
    obtain ⟨i, bw, zs, hi1, rfl, rfl, hbw, hlen, hlim, hval, hown, hb⟩ := hrel
    clear O2 E0 Z0 L0 M1 HB2 HB3
    have OW := Lib.hid hown
    have HL := Lib.hid hlim
    have HV := Lib.hid hval
    have HB := Lib.hid hb
    have LN := Lib.hid hlen
    clear hown hlim hval hb hlen
    rcases Nat.lt_or_ge i n with hin | hin
    · have hcell := OW.out.cell (i := i) (by rw [LN.out]; exact hin)
      have hfr := OW.out.frozen i
      have hz := gd_lt HL.out i
      rcases Nat.lt_or_ge i n' with him | him
      · obtain ⟨b2, o2, rfl, _, hc2⟩ := (H'.out.below HB.out).at_ him
        have hy := gd_lt (limbs_dg b) i
        rcases Nat.lt_or_ge (gd zs i) (bw + gd (dg b) i) with hs | hs
        · have HS := Lib.hid hs
          have hd : decide (((gd zs i : Nat) : Int) < (bw : Nat) + (gd (dg b) i : Nat)) = true := by rw [decide_eq_true_iff]; omega
          clear hs
          go_wp2
          go_roundw
          case rel =>
            have hv : ((gd zs i : Nat) : Int) + 1000000000 = ((gd zs i + 1000000000 : Nat) : Int) := by omega
            have hv2 : ((gd zs i : Nat) : Int) + 1000000000 - ((bw : Nat) + (gd (dg b) i : Nat)) = ((gd zs i + 1000000000 - (bw + gd (dg b) i) : Nat) : Int) := by omega
            have h2 := (OW.out.store i _ _ hv).store i _ _ hv2
            rw [List.set_set] at h2
            exact ⟨i + 1, 1, zs.set i (gd zs i + 1000000000 - (bw + gd (dg b) i)), by omega, by go_num, rfl, Nat.le_refl _, by rw [List.length_set]; exact LN.out, limbs_set HL.out i (by have := HS.out; omega), sub_step HV.out (by rw [LN.out]; exact hin) (by omega), h2, (HB.out.setCell SZ _).setCell SZ _⟩
          case measure => simp [intOf]; omega
        · have HS := Lib.hid hs
          have hd : decide (((gd zs i : Nat) : Int) < (bw : Nat) + (gd (dg b) i : Nat)) = false := by rw [decide_eq_false_iff_not]; omega
          clear hs
          go_wp2
          go_roundw
          case rel =>
            have hv2 : (((gd zs i : Nat) : Int) - ((bw : Nat) + (gd (dg b) i : Nat))) % 4294967296 = ((gd zs i - (bw + gd (dg b) i) : Nat) : Int) := by have := HS.out; omega
            exact ⟨i + 1, 0, zs.set i (gd zs i - (bw + gd (dg b) i)), by omega, by go_num, rfl, Nat.zero_le _, by rw [List.length_set]; exact LN.out, limbs_set HL.out i (by omega), sub_step HV.out (by rw [LN.out]; exact hin) (by have := HS.out; omega), OW.out.store i _ _ hv2, HB.out.setCell SZ _⟩
          case measure => simp [intOf]; omega
      · have hyz : gd (dg b) i = 0 := gd_of_ge (by rw [H'.out.len]; exact him)
        have HY := Lib.hid hyz
        clear hyz
        rcases Nat.eq_zero_or_pos bw with h0 | h0
        · subst h0
          have LZ := OW.out.lim HL.out (by rw [LN.out]; omega)
          rw [LN.out] at LZ
          have HLZ := Lib.hid LZ
          clear LZ
          have eab := sub_break HV.out (show (dg b).length ≤ i by rw [H'.out.len]; exact him)
          have EAB := Lib.hid eab
          clear eab
          go_wp2_with (go_at_call 74; refine (cut_any _ _ _ _ _ _ HLZ.out HL.out).mono ?_; rintro e w' ⟨⟨A2, n2, c2, rfl, hn2, h2⟩, rfl⟩; have H2 := Lib.hid h2; clear h2)
          try rw [Exit.noGoto_ret]
          go_ret2
          exact ⟨_, _, _, rfl, by rw [← EAB.out]; exact H2.out, HB.out⟩
        · obtain rfl : bw = 1 := by omega
          rcases Nat.lt_or_ge (gd zs i) 1 with hs | hs
          · have HS := Lib.hid hs
            have hd : decide (((gd zs i : Nat) : Int) < 1) = true := by rw [decide_eq_true_iff]; omega
            clear hs
            go_wp2
            go_roundw
            case rel =>
              have hv : ((gd zs i : Nat) : Int) + 1000000000 = ((gd zs i + 1000000000 : Nat) : Int) := by omega
              have hv2 : ((gd zs i : Nat) : Int) + 1000000000 - 1 = ((gd zs i + 1000000000 - 1 : Nat) : Int) := by omega
              have h2 := (OW.out.store i _ _ hv).store i _ _ hv2
              rw [List.set_set] at h2
              exact ⟨i + 1, 1, zs.set i (gd zs i + 1000000000 - 1), by omega, by go_num, rfl, Nat.le_refl _, by rw [List.length_set]; exact LN.out, limbs_set HL.out i (by have := HS.out; omega), sub_step HV.out (by rw [LN.out]; exact hin) (by have := HY.out; omega), h2, (HB.out.setCell SZ _).setCell SZ _⟩
            case measure => simp [intOf]; omega
          · have HS := Lib.hid hs
            have hd : decide (((gd zs i : Nat) : Int) < 1) = false := by rw [decide_eq_false_iff_not]; omega
            clear hs
            go_wp2
            go_roundw
            case rel =>
              have hv2 : (((gd zs i : Nat) : Int) - 1) % 4294967296 = ((gd zs i - 1 : Nat) : Int) := by have := HS.out; omega
              exact ⟨i + 1, 0, zs.set i (gd zs i - 1), by omega, by go_num, rfl, Nat.zero_le _, by rw [List.length_set]; exact LN.out, limbs_set HL.out i (by omega), sub_step HV.out (by rw [LN.out]; exact hin) (by have := HS.out; have := HY.out; omega), OW.out.store i _ _ hv2, HB.out.setCell SZ _⟩
            case measure => simp [intOf]; omega
    · obtain rfl : i = n := by omega
      have LZ := OW.out.lim HL.out (by rw [LN.out]; omega)
      rw [LN.out] at LZ
      have HLZ := Lib.hid LZ
      clear LZ
      have eab := sub_end HV.out HL.out LN.out rfl (by rw [H'.out.len]; omega) HAB.out
      have EAB := Lib.hid eab
      clear eab
      go_wp2_with (go_at_call 74; refine (cut_any _ _ _ _ _ _ HLZ.out HL.out).mono ?_; rintro e w' ⟨⟨A2, n2, c2, rfl, hn2, h2⟩, rfl⟩; have H2 := Lib.hid h2; clear h2)
      try rw [Exit.noGoto_ret]
      go_ret2
      exact ⟨_, _, _, rfl, by rw [← EAB.out]; exact H2.out, HB.out⟩

end Go.Proofs.Ytafbkoejobkncaa

/-
  Contracts of layer 1: Small; the document's Make and Trim.
-/
namespace Go.Proofs.Ytafbkoejobkncaa
open Go.RowKit

/-- The greatest of 64 bits. -/
def top64 : Nat := 18446744073709551615

theorem val_drop_le (a k : Nat) : val ((dg a).drop k) ≤ a := by
  rcases Nat.lt_or_ge (dg a).length k with h | h
  · rw [List.drop_of_length_le (by omega)]; exact Nat.zero_le _
  · have e := val_take_drop (dg a) k h
    rw [val_dg] at e
    have : 1 * val ((dg a).drop k) ≤ 1000000000 ^ k * val ((dg a).drop k) := Nat.mul_le_mul_right _ (Nat.one_le_pow _ _ (by omega))
    omega
theorem small_step {a k : Nat} (ha : a ≤ top64) (hk : 0 < k) : IntKind.u64.wrap (IntKind.u64.wrap (((val ((dg a).drop k) : Nat) : Int) * 1000000000) + ((gd (dg a) (k - 1) : Nat) : Int)) = ((val ((dg a).drop (k - 1)) : Nat) : Int) := by
  have e := val_drop (dg a) (k - 1)
  have hle := val_drop_le a (k - 1)
  rw [show k - 1 + 1 = k by omega] at e
  unfold top64 at ha
  rw [IntWalk.u64_in (((val ((dg a).drop k) : Nat) : Int) * 1000000000) ⟨by omega, by omega⟩, IntWalk.u64_in _ ⟨by omega, by omega⟩]
  omega

theorem ret_small {a b : Int} {t : Bool} (h : a = b) : Ending.returned (.tuple #[.int .u64 a, .bool t]) = .returned (.tuple #[.int .u64 b, .bool t]) := by rw [h]

theorem make_top (w : World) : Calls Try.prog 48 #[.int .u64 18446744073709551615] w (RetNum w top64) :=
  make_any top64 (show _ < _ by decide) w

theorem own_below {w w' : World} {base : Nat} {e : TypeId} {v : Value} {n : Nat} {xs : List Value} (h : w.ownsRow base e 1 v n xs) (hb : Below w.heap.size w w') : w'.ownsRow base e 1 v n xs :=
  h.kept (row := none) ⟨hb.os, hb.tape, hb.output, hb.size, fun k hk _ => hb.block k hk⟩ (by
    cases hv : v.ownBlock with
    | none => exact .inl rfl
    | some g => exact .inr (by simp))

theorem own_block_le {b n c g : Nat} (h : (Value.slice (some ⟨b, 0, none⟩) n c).ownBlock = some g) : b ≤ g := by
  have : b = g := by simpa [Value.ownBlock] using h
  omega

theorem own_one (w : World) (x : Nat) (v : Int) (hv : v = x) (base : Nat) (hbase : base ≤ w.heap.size) : (w.alloc (.cells #[.int .u32 v] 64)).ownsRow base 64 1 (.slice (some ⟨w.heap.size, 0, none⟩) 1 1) 1 (vals [x]) := by
  subst hv
  exact World.ownsRow_lit w #[.int .u32 (x : Int)] 1 hbase (by simp [maxLen]) rfl

theorem dg_len_div {N : Nat} (h : N < 18446744073709551616) : (dg (N / 1000000000)).length ≤ 3 := dg_len_le (by omega)

set_option maxHeartbeats 400000 in
theorem refMake_any (k : Nat) : ∀ (N : Nat) (w : World), Hid (N < 18446744073709551616) → Hid ((dg N).length ≤ k) →
    Calls Try.prog 50 #[.int .u64 N] w (RetNum w N) := by
  obtain ⟨i0, hi, hz0, hz1, hz2⟩ := info_parts info_limb
  induction k with
  | zero =>
    intro N w hN hk
    obtain rfl : N = 0 := dg_eq_nil.1 (List.eq_nil_of_length_eq_zero (by have := hk.out; omega))
    go_enter Try.func50, Try.ntmps50
    go_wp2_with fail
    go_ret
    exact ⟨_, _, _, rfl, by rw [dg_zero]; exact Lim.nil, Below.refl _ _⟩
  | succ k ih =>
    intro N w hN hk
    rcases Nat.eq_zero_or_pos N with h0 | h0
    · subst h0
      go_enter Try.func50, Try.ntmps50
      go_wp2_with fail
      go_ret
      exact ⟨_, _, _, rfl, by rw [dg_zero]; exact Lim.nil, Below.refl _ _⟩
    · have IH := Lib.hid (fun W => ih (N / 1000000000) W (show _ < _ by have := hN.out; omega) (show _ ≤ _ by have := hk.out; rw [dg_pos h0, List.length_cons] at this; omega))
      clear ih hk
      have hdiv : IntKind.u64.wrap ((N : Int) / 1000000000) = ((N / 1000000000 : Nat) : Int) := u64_div (Nat.le_refl _) hN.out
      have HD := Lib.hid hdiv
      clear hdiv
      go_enter Try.func50, Try.ntmps50
      go_wp2_with fail
      rw [HD.out]
      refine (IH.out _).mono ?_
      rintro e w2 ⟨A2, n2, c2, rfl, h2, hb2⟩
      have O1 := Lib.hid (own_below (own_one w (N % 1000000000) ((N : Int) % 1000000000) (by omega) w.heap.size (Nat.le_refl _)) hb2)
      have hn2 : n2 ≤ 3 := by have := dg_len_div hN.out; rw [h2.len] at this; exact this
      have hs2 : w.heap.size ≤ w2.heap.size := Nat.le_trans (by simp) hb2.size
      have HB2 : Hid (Below w.heap.size w w2) := ((Below.refl _ _).alloc (Nat.le_refl _) _).trans (hb2.mono (by simp))
      have H2 := Lib.hid h2
      clear h2 hb2
      go_wp2_with (at_builtin; go_must (refine wpList_append_lim rfl (.tmp 8) (.tmp 11) 23 23 rfl w.heap.size 64 64 i0 Try.underlying23 Try.underlying23 hi hz0 hz1 hz2 (some ⟨w.heap.size, 0, none⟩) 1 1 [N % 1000000000] rfl O1.out _ A2 n2 c2 _ rfl H2.out (by omega) hs2 ?_; intro A3 c3 w3 hown hgr))
      go_ret
      have e : [N % 1000000000] ++ dg (N / 1000000000) = dg N := (dg_pos h0).symm
      rw [e] at hown
      exact ⟨_, _, _, rfl, Lim.of_own hown (fun x hx => by have := limbs_dg _ x hx; omega), HB2.out.grown hgr hs2 (fun g hg => own_block_le hg)⟩

theorem refMake_top (w : World) : Calls Try.prog 50 #[.int .u64 18446744073709551615] w (RetNum w top64) :=
  refMake_any 3 top64 w (show _ < _ by decide) (show _ ≤ _ from dg_len_le (by decide))

theorem refSmall_no (A : Option Addr) (n c a : Nat) (w : World) (h : Num w w.heap.size A n c a) (ha : top64 < a) :
    Calls Try.prog 97 #[.slice A n c] w (RetVal w (.tuple #[.int .u64 0, .bool false])) := by
  have H := Lib.hid h
  have E := Lib.hid (cmpN_gt ha)
  clear h ha
  go_enter Try.func97, Try.ntmps97
  go_wp2_with (first | (go_at_call 50; refine (refMake_top _).mono ?_; rintro e w1 ⟨A1, n1, c1, rfl, h1, hb1⟩; have H1 := Lib.hid h1; have HB1 := Lib.hid hb1; clear h1 hb1) | (go_at_call 56; refine (refCmp_any A A1 n c n1 c1 a top64 w1 ((H.out.below HB1.out).more HB1.out.size) H1.out).mono ?_; rintro e w2 ⟨rfl, hb2⟩; have HB2 := Lib.hid (HB1.out.trans (hb2.mono HB1.out.size)); clear hb2; rw [E.out]))
  go_ret2
  exact ⟨rfl, HB2.out⟩

set_option maxHeartbeats 400000 in
theorem refSmall_yes (A : Option Addr) (n c a : Nat) (w : World) (h : Num w w.heap.size A n c a) (ha : a ≤ top64) :
    Calls Try.prog 97 #[.slice A n c] w (RetVal w (.tuple #[.int .u64 a, .bool true])) := by
  have hm := h.room
  have hn := h.cap
  unfold maxLen at hm
  have H := Lib.hid h
  have HA := Lib.hid ha
  have hc : cmpN a top64 ≤ 0 := by
    rcases Int.lt_or_le 0 (cmpN a top64) with h1 | h1
    · rw [cmpN_pos] at h1; omega
    · exact h1
  have CC : Hid (∀ (A' : Option Addr) (n' c' : Nat) (w : World), Num w w.heap.size A n c a → Num w w.heap.size A' n' c' top64 → Calls Try.prog 56 #[.slice A n c, .slice A' n' c'] w (RetVal w (.int .i64 (cmpN a top64)))) :=
    fun A' n' c' w h1 h2 => refCmp_any A A' n c n' c' a top64 w h1 h2
  clear h ha
  generalize cmpN a top64 = s at *
  go_enter Try.func97, Try.ntmps97
  go_wp2_with (first | (go_at_call 50; refine (refMake_top _).mono ?_; rintro e w1 ⟨A1, n1, c1, rfl, h1, hb1⟩; have H1 := Lib.hid h1; have HB1 := Lib.hid hb1; clear h1 hb1) | (go_at_call 56; refine (CC.out A1 n1 c1 w1 ((H.out.below HB1.out).more HB1.out.size) H1.out).mono ?_; rintro e w2 ⟨rfl, hb2⟩; have HB2 := Lib.hid (HB1.out.trans (hb2.mono HB1.out.size)); clear hb2))
  clear hc CC
  go_loop [4, 5] (fun v i => ∃ k : Nat, k ≤ n ∧ i = .int .i64 ((k : Int) - 1) ∧ v = .int .u64 (val ((dg a).drop k) : Nat)) (fun _ i => (intOf i + 1).toNat)
  case atStart => exact ⟨n, Nat.le_refl _, rfl, ret_u64 (by rw [List.drop_of_length_le (by rw [H.out.len]; exact Nat.le_refl _)]; rfl)⟩
  case round =>
    obtain ⟨k, hk, rfl, rfl⟩ := hrel
    rcases Nat.eq_zero_or_pos k with h0 | h0
    · subst h0
      go_wp2
      go_ret2
      exact ⟨ret_small (by rw [val_dg]), HB2.out⟩
    · obtain ⟨b, o, rfl, _, hc⟩ := (H.out.below HB2.out).at_ (show k - 1 < n by omega)
      have hg := gd_lt (limbs_dg a) (k - 1)
      go_wp2
      go_round
      case rel => exact ⟨k - 1, by omega, by go_num, ret_u64 (small_step HA.out h0)⟩
      case measure => simp [intOf]; omega


theorem trim_last {xs : List Nat} {n : Nat} (hl : xs.length = n) (hn : 0 < n) (h : gd xs (n - 1) = 0) : val xs = val (xs.take (n - 1)) := by
  have e := val_take_drop xs (n - 1) (by omega)
  rw [val_drop, h, List.drop_of_length_le (by omega), val] at e
  omega

/-- Nothing to take off. -/
theorem refTrim_end (A : Option Addr) (n c : Nat) (xs : List Nat) (w : World) (H : Hid (Lim w w.heap.size A n c xs)) (HX : Hid (limbs xs)) (hn : n ≤ 1000000000) (h0 : n = 0 ∨ gd xs (n - 1) ≠ 0) :
    Calls Try.prog 78 #[.slice A n c] w (RetLim w (dg (val xs))) := by
  obtain ⟨i0, hi, hz0, hz1, hz2⟩ := info_parts info_limb
  have E : Hid (dg (val xs) = xs) := by
    have := dg_cut HX.out (n := n) (fun j hj => gd_of_ge (by rw [H.out.len]; exact hj)) h0 (by rw [H.out.len]; exact Nat.le_refl _)
    rwa [List.take_of_length_le (by rw [H.out.len]; exact Nat.le_refl _)] at this
  have hm := H.out.room
  have hcap := H.out.cap
  unfold maxLen at hm
  rcases Nat.eq_zero_or_pos n with hn0 | hn0
  · subst hn0
    clear h0
    go_enter Try.func78, Try.ntmps78
    go_wp2_with (at_builtin; go_must (refine wpList_append_lim rfl (.const (.slice none 0 0)) (.tmp 21) 23 22 rfl w.heap.size 64 64 i0 Try.underlying23 Try.underlying22 hi hz0 hz1 hz2 none 0 0 [] rfl (World.ownsRow_nil _ _ _ _) _ A 0 c xs rfl H.out (by omega) (Nat.le_refl _) ?_; intro A2 c2 w2 hown hgr))
    go_ret
    exact ⟨_, _, _, rfl, by rw [E.out]; exact Lim.of_own hown H.out.fit, (Below.refl _ _).grown hgr (Nat.le_refl _) (fun k hk => by cases hk)⟩
  · have hne : gd xs (n - 1) ≠ 0 := by omega
    have hd : (((gd xs (n - 1) : Nat) : Int) == 0) = false := by simp; omega
    obtain ⟨b, o, rfl, _, hc⟩ := H.out.at_ (show n - 1 < n by omega)
    clear h0 hne
    go_enter Try.func78, Try.ntmps78
    go_wp2_with (at_builtin; go_must (refine wpList_append_lim rfl (.const (.slice none 0 0)) (.tmp 21) 23 22 rfl w.heap.size 64 64 i0 Try.underlying23 Try.underlying22 hi hz0 hz1 hz2 none 0 0 [] rfl (World.ownsRow_nil _ _ _ _) _ _ n c xs rfl H.out (by omega) (Nat.le_refl _) ?_; intro A2 c2 w2 hown hgr; simp only [Nat.zero_add, List.nil_append] at hown))
    go_ret
    exact ⟨_, _, _, rfl, by rw [E.out]; exact Lim.of_own hown H.out.fit, (Below.refl _ _).grown hgr (Nat.le_refl _) (fun k hk => by cases hk)⟩

theorem refTrim_any (k : Nat) : ∀ (A : Option Addr) (n c : Nat) (xs : List Nat) (w : World), Hid (Lim w w.heap.size A n c xs) → Hid (limbs xs) → n ≤ k → n ≤ 1000000000 →
    Calls Try.prog 78 #[.slice A n c] w (RetLim w (dg (val xs))) := by
  induction k with
  | zero => exact fun A n c xs w H HX hk hn => refTrim_end A n c xs w H HX hn (.inl (by omega))
  | succ k ih =>
    intro A n c xs w H HX hk hn
    by_cases h0 : n = 0 ∨ gd xs (n - 1) ≠ 0
    · exact refTrim_end A n c xs w H HX hn h0
    · have hn0 : 0 < n := by omega
      have hz : gd xs (n - 1) = 0 := by omega
      have hd : (((gd xs (n - 1) : Nat) : Int) == 0) = true := by simp; omega
      have E := Lib.hid (trim_last H.out.len hn0 hz)
      have hm := H.out.room
      have hcap := H.out.cap
      unfold maxLen at hm
      have IH := Lib.hid (ih A (n - 1) c (xs.take (n - 1)) w (H.out.take (by omega)) (limbs_take HX.out _) (by omega) (by omega))
      obtain ⟨b, o, rfl, _, hc⟩ := H.out.at_ (show n - 1 < n by omega)
      clear h0 hz ih hk
      go_enter Try.func78, Try.ntmps78
      go_wp2_with (go_at_call 78; go_must (refine IH.out.mono ?_; rintro e w' ⟨A2, n2, c2, rfl, h2, hb2⟩; have H2 := Lib.hid h2; have HB2 := Lib.hid hb2; clear h2 hb2))
      go_ret
      exact ⟨_, _, _, rfl, by rw [E.out]; exact H2.out, HB2.out⟩

end Go.Proofs.Ytafbkoejobkncaa

/-
  Contracts of layer 1: the document's Add and Sub.
-/
namespace Go.Proofs.Ytafbkoejobkncaa
open Go.RowKit

set_option maxHeartbeats 1000000 in
theorem refAdd_any (A A' : Option Addr) (n c n' c' a b : Nat) (w : World) (h : Num w w.heap.size A n c a) (h' : Num w w.heap.size A' n' c' b) (hn : n ≤ 100000000) (hn' : n' ≤ 100000000) :
    Calls Try.prog 61 #[.slice A n c, .slice A' n' c'] w (RetNum w (a + b)) := by
  obtain ⟨i0, hi, hz0, hz1, hz2⟩ := info_parts info_limb
  have H := Lib.hid h
  have H' := Lib.hid h'
  clear h h'
  obtain ⟨M, hM1, hM2, hM3⟩ : ∃ M, n ≤ M ∧ n' ≤ M ∧ ((n < n' ∧ M ≤ n') ∨ (n' ≤ n ∧ M ≤ n)) := ⟨max n n', by omega, by omega, by omega⟩
  have PA := Lib.hid (pow_of_len H.out.len hM1)
  have PB := Lib.hid (pow_of_len H'.out.len hM2)
  rcases hM3 with ⟨hle, hM3⟩ | ⟨hle, hM3⟩
  all_goals
    go_enter Try.func61, Try.ntmps61
    go_wp2
    go_loopw [5, 6, 7] (fun v ov iv wr => ∃ (i o : Nat) (A2 : Option Addr) (c2 : Nat) (zs : List Nat), i ≤ M + 1 ∧ iv = .int .i64 i ∧ ov = .int .u64 o ∧ v = .slice A2 i c2 ∧ o ≤ 1 ∧ wr.ownsRow w.heap.size 64 1 (.slice A2 i c2) i (vals zs) ∧ limbs zs ∧ val zs + 1000000000 ^ i * o + 1000000000 ^ i * (val ((dg a).drop i) + val ((dg b).drop i)) = a + b ∧ Below w.heap.size w wr) (fun _ _ iv _ => M + 1 - (intOf iv).toNat)
    case atStart => exact ⟨0, 0, none, 0, [], Nat.zero_le _, rfl, rfl, rfl, Nat.zero_le _, World.ownsRow_nil _ _ _ _, limbs_nil, by rw [List.drop_zero, List.drop_zero, val_dg, val_dg]; simp [val], Below.refl _ _⟩
    case round =>
      obtain ⟨i, o, A2, c2, zs, hi1, rfl, rfl, rfl, ho, hown, hlim, hval, hb⟩ := hrel
      have HO := Lib.hid hown
      have HL := Lib.hid hlim
      have HV := Lib.hid hval
      have HB := Lib.hid hb
      have HZ : Hid (zs.length = i) := by have := hown.1; rw [vals_len, Nat.mul_one] at this; exact this
      clear hown hlim hval hb
      rcases Nat.lt_or_ge i (M + 1) with hin | hin
      · have hx := gd_lt (limbs_dg a) i
        have hy := gd_lt (limbs_dg b) i
        have H1 := Lib.hid (H.out.below HB.out)
        have H1' := Lib.hid (H'.out.below HB.out)
        go_wp2_with (first | (go_at_call 77; first | ((with_reducible refine (at_any A n c i _ (dg a) _ H1.out).mono ?_); rintro e w' ⟨rfl, rfl⟩) | ((with_reducible refine (at_any A' n' c' i _ (dg b) _ H1'.out).mono ?_); rintro e w' ⟨rfl, rfl⟩)) | (at_builtin; go_must (refine wpList_append_lim rfl (.tmp 28) (.tmp 32) 22 22 rfl w.heap.size 64 64 i0 Try.underlying22 Try.underlying22 hi hz0 hz1 hz2 A2 i c2 zs rfl (HO.out.alloc _) _ _ 1 1 [(o + (gd (dg a) i + gd (dg b) i)) % 1000000000] rfl (Lim.one _ _ _ (by omega) (by omega) _) (by omega) (Nat.le_trans HB.out.size (by simp)) ?_; intro A3 c3 w3 hown hgr)))
        go_roundw
        case rel =>
          exact ⟨i + 1, (o + (gd (dg a) i + gd (dg b) i)) / 1000000000, A3, c3, _, by omega, by go_num, by go_num, rfl, by omega, hown, limbs_append.2 ⟨HL.out, limbs_cons.2 ⟨by omega, limbs_nil⟩⟩, refAdd_step HZ.out HV.out rfl, (HB.out.alloc HB.out.size _).grown hgr (Nat.le_trans HB.out.size (by simp)) (fun g hg => (HO.out.lt g hg).1)⟩
        case measure => simp [intOf]; omega
      · obtain rfl : i = M + 1 := by omega
        have HE := Lib.hid (refAdd_end HV.out rfl (by rw [H.out.len]; omega) (by rw [H'.out.len]; omega) PA.out PB.out)
        have HT : Hid (Calls Try.prog 78 #[.slice A2 (M + 1) c2] wr (RetLim wr (dg (val zs)))) :=
          refTrim_any (M + 1) A2 (M + 1) c2 zs wr (Lim.of_own HO.out (fun x hx => by have := HL.out x hx; omega)) HL (Nat.le_refl _) (by omega)
        go_wp2_with (go_at_call 78; go_must (refine HT.out.mono ?_; rintro e w' ⟨A3, n3, c3, rfl, h3, hb3⟩; have H3 := Lib.hid h3; have HB3 := Lib.hid hb3; clear h3 hb3))
        go_ret
        exact ⟨_, _, _, rfl, by rw [← HE.out]; exact H3.out, HB.out.trans (HB3.out.mono HB.out.size)⟩

theorem refSub_lt (A A' : Option Addr) (n c n' c' a b : Nat) (w : World) (h : Num w w.heap.size A n c a) (h' : Num w w.heap.size A' n' c' b) (hab : a < b) :
    Calls Try.prog 62 #[.slice A n c, .slice A' n' c'] w (RetVal w (.tuple #[.slice none 0 0, .int .i64 1])) := by
  have e := cmpN_lt hab
  have C := refCmp_any A A' n c n' c' a b w h h'
  rw [e] at C
  have CC := Lib.hid C
  clear h h' hab e C
  go_enter Try.func62, Try.ntmps62
  go_wp2_with (go_at_call 56; refine CC.out.mono ?_; rintro e w1 ⟨rfl, hb1⟩; have HB1 := Lib.hid hb1; clear hb1)
  go_ret2
  exact ⟨rfl, HB1.out⟩

set_option maxHeartbeats 1000000 in
theorem refSub_ge (A A' : Option Addr) (n c n' c' a b : Nat) (w : World) (h : Num w w.heap.size A n c a) (h' : Num w w.heap.size A' n' c' b) (hn : n ≤ 100000000) (hab : b ≤ a) :
    Calls Try.prog 62 #[.slice A n c, .slice A' n' c'] w (RetSub w (a - b)) := by
  obtain ⟨i0, hi, hz0, hz1, hz2⟩ := info_parts info_limb
  have HAB := Lib.hid hab
  have hnn : n' ≤ n := by have := dg_len_mono hab; rw [h.len, h'.len] at this; exact this
  have H := Lib.hid h
  have H' := Lib.hid h'
  have C := refCmp_any A A' n c n' c' a b w h h'
  have hc : 0 ≤ cmpN a b := by
    rcases Int.lt_or_le (cmpN a b) 0 with h1 | h1
    · rw [cmpN_neg] at h1; omega
    · exact h1
  clear h h' hab
  have CC := Lib.hid C
  clear C
  generalize cmpN a b = s at *
  go_enter Try.func62, Try.ntmps62
  go_wp2_with (go_at_call 56; refine CC.out.mono ?_; rintro e w1 ⟨rfl, hb1⟩; have HB1 := Lib.hid hb1; clear hb1)
  clear hc CC
  go_loopw [6, 7, 8] (fun v lv iv wr => ∃ (i l : Nat) (A2 : Option Addr) (c2 : Nat) (zs : List Nat), i ≤ n ∧ iv = .int .i64 i ∧ lv = .int .u64 l ∧ v = .slice A2 i c2 ∧ l ≤ 1 ∧ wr.ownsRow w.heap.size 64 1 (.slice A2 i c2) i (vals zs) ∧ limbs zs ∧ val zs + 1000000000 ^ i * val ((dg a).drop i) + b = a + l * 1000000000 ^ i + 1000000000 ^ i * val ((dg b).drop i) ∧ Below w.heap.size w wr) (fun _ _ iv _ => n - (intOf iv).toNat)
  case atStart => exact ⟨0, 0, none, 0, [], Nat.zero_le _, rfl, rfl, rfl, Nat.zero_le _, World.ownsRow_nil _ _ _ _, limbs_nil, by rw [List.drop_zero, List.drop_zero, val_dg, val_dg]; simp [val], HB1.out⟩
  case round =>
    obtain ⟨i, l, A2, c2, zs, hi1, rfl, rfl, rfl, ho, hown, hlim, hval, hb⟩ := hrel
    have HO := Lib.hid hown
    have HL := Lib.hid hlim
    have HV := Lib.hid hval
    have HB := Lib.hid hb
    have HZ : Hid (zs.length = i) := by have := hown.1; rw [vals_len, Nat.mul_one] at this; exact this
    clear hown hlim hval hb
    rcases Nat.lt_or_ge i n with hin | hin
    · have hx := gd_lt (limbs_dg a) i
      have hy := gd_lt (limbs_dg b) i
      have H1 := Lib.hid (H.out.below HB.out)
      have H1' := Lib.hid (H'.out.below HB.out)
      go_wp2_with (first | (go_at_call 77; first | ((with_reducible refine (at_any A n c i _ (dg a) _ H1.out).mono ?_); rintro e w' ⟨rfl, rfl⟩) | ((with_reducible refine (at_any A' n' c' i _ (dg b) _ H1'.out).mono ?_); rintro e w' ⟨rfl, rfl⟩)) | (at_builtin; go_must (refine wpList_append_lim rfl (.tmp 32) (.tmp 36) 22 22 rfl w.heap.size 64 64 i0 Try.underlying22 Try.underlying22 hi hz0 hz1 hz2 A2 i c2 zs rfl (HO.out.alloc _) _ _ 1 1 [(gd (dg a) i + 1000000000 - gd (dg b) i - l) % 1000000000] rfl (Lim.one _ _ _ (by omega) (by omega) _) (by omega) (Nat.le_trans HB.out.size (by simp)) ?_; intro A3 c3 w3 hown hgr)))
      go_roundw
      case rel =>
        have hq : (gd (dg a) i + 1000000000 - gd (dg b) i - l) / 1000000000 ≤ 1 := by omega
        exact ⟨i + 1, 1 - (gd (dg a) i + 1000000000 - gd (dg b) i - l) / 1000000000, A3, c3, _, by omega, by go_num, ret_u64 (by omega), rfl, by omega, hown, limbs_append.2 ⟨HL.out, limbs_cons.2 ⟨by omega, limbs_nil⟩⟩, refSub_step HZ.out HV.out (by omega) hq, (HB.out.alloc HB.out.size _).grown hgr (Nat.le_trans HB.out.size (by simp)) (fun g hg => (HO.out.lt g hg).1)⟩
      case measure => simp [intOf]; omega
    · obtain rfl : i = n := by omega
      have HE := Lib.hid (refSub_end HV.out HL.out HZ.out rfl (by rw [H.out.len]; omega) (by rw [H'.out.len]; omega) HAB.out)
      have HT : Hid (Calls Try.prog 78 #[.slice A2 i c2] wr (RetLim wr (dg (val zs)))) :=
        refTrim_any i A2 i c2 zs wr (Lim.of_own HO.out (fun x hx => by have := HL.out x hx; omega)) HL (Nat.le_refl _) (by omega)
      go_wp2_with (go_at_call 78; go_must (refine HT.out.mono ?_; rintro e w' ⟨A3, n3, c3, rfl, h3, hb3⟩; have H3 := Lib.hid h3; have HB3 := Lib.hid hb3; clear h3 hb3))
      go_ret2
      exact ⟨_, _, _, rfl, by rw [← HE.out]; exact H3.out, HB.out.trans (HB3.out.mono HB.out.size)⟩

end Go.Proofs.Ytafbkoejobkncaa

/-
  The law's own examples (awake) answer true, whatever the memory.
-/
namespace Go.Proofs.Ytafbkoejobkncaa
open Go.RowKit

/-- From the world w0 on nothing that was there has turned, and in w these slices read as these numbers. -/
def Env (w0 w : World) (l : List (Option Addr × Nat × Nat × Nat)) : Prop :=
  Below w0.heap.size w0 w ∧ ∀ q ∈ l, Num w w.heap.size q.1 q.2.1 q.2.2.1 q.2.2.2

theorem Env.get {w0 w : World} {l : List (Option Addr × Nat × Nat × Nat)} (h : Hid (Env w0 w l)) {A : Option Addr} {n c a : Nat} (hm : (A, n, c, a) ∈ l) : Num w w.heap.size A n c a := h.out.2 _ hm
theorem Env.step {w0 w w' : World} {l : List (Option Addr × Nat × Nat × Nat)} (h : Hid (Env w0 w l)) (hb : Below w.heap.size w w') : Hid (Env w0 w' l) :=
  ⟨h.out.1.trans (hb.mono h.out.1.size), fun q hq => ((h.out.2 q hq).below hb).more hb.size⟩
theorem Env.push {w0 w w' : World} {l : List (Option Addr × Nat × Nat × Nat)} (h : Hid (Env w0 w l)) (hb : Below w.heap.size w w') {A : Option Addr} {n c a : Nat} (hn : Num w' w'.heap.size A n c a) : Hid (Env w0 w' ((A, n, c, a) :: l)) := by
  have h2 := Env.step h hb
  refine ⟨h2.out.1, fun q hq => ?_⟩
  rcases List.mem_cons.1 hq with rfl | hq
  · exact hn
  · exact h2.out.2 q hq
theorem Env.refl (w : World) : Hid (Env w w []) := ⟨Below.refl _ _, fun q hq => by cases hq⟩
theorem Env.alloc {w0 w : World} {l : List (Option Addr × Nat × Nat × Nat)} (h : Hid (Env w0 w l)) (o : Obj) : Hid (Env w0 (w.alloc o) l) := Env.step h ((Below.refl _ _).alloc (Nat.le_refl _) o)

theorem Lim.lit (w : World) (xs : List Nat) (vs : Array Value) (h : vs.toList = vals xs) (hf : ∀ x ∈ xs, x < 4294967296) (hl : xs.length ≤ 1000) (t : TypeId) : Lim (w.alloc (.cells vs t)) (w.alloc (.cells vs t)).heap.size (some ⟨w.heap.size, 0, none⟩) xs.length xs.length xs := by
  refine ⟨rfl, Nat.le_refl _, by unfold maxLen; omega, hf, .inr ⟨w.heap.size, 0, rfl, by simp, fun j u hu => ?_⟩, fun h => by cases h⟩
  rw [cell_of_row _ w.heap.size _ _ t (0, 0) (heap_alloc_new w _), ← Array.getElem?_toList, h, Nat.zero_add]
  exact hu

theorem mk_any (N : Nat) (v : Int) (hv : v = N) (hN : N < 18446744073709551616) (w : World) : Calls Try.prog 48 #[.int .u64 v] w (RetNum w N) := by
  subst hv; exact make_any N hN w

theorem cmp_is {s : Int} {A A' : Option Addr} {n c n' c' a b : Nat} {w : World} (h : Num w w.heap.size A n c a) (h' : Num w w.heap.size A' n' c' b) (hs : cmpN a b = s) :
    Calls Try.prog 59 #[.slice A n c, .slice A' n' c'] w (RetVal w (.int .i64 s)) := by
  subst hs; exact cmp_any A A' n c n' c' a b w h h'
theorem same_is {A A' : Option Addr} {n c n' c' a b : Nat} {w : World} (h : Num w w.heap.size A n c a) (h' : Num w w.heap.size A' n' c' b) (hs : a = b) :
    Calls Try.prog 57 #[.slice A n c, .slice A' n' c'] w (RetVal w (.bool true)) := by
  have := same_any A A' n c n' c' a b w h h'
  rwa [decide_eq_true hs] at this
theorem right_is {A : Option Addr} {n c B : Nat} {xs : List Nat} {w : World} {t : Bool} (h : Lim w B A n c xs) (hs : rightB xs = t) :
    Calls Try.prog 44 #[.slice A n c] w fun e w' => e = .returned (.bool t) ∧ w = w' := by
  subst hs; exact right_any A n c B xs w h
theorem add_is {A A' : Option Addr} {n c n' c' a b m : Nat} {w : World} (h : Num w w.heap.size A n c a) (h' : Num w w.heap.size A' n' c' b) (hn : n ≤ 1000000000) (hn' : n' ≤ 1000000000) (hm : a + b = m) :
    Calls Try.prog 58 #[.slice A n c, .slice A' n' c'] w (RetNum w m) := by
  subst hm; exact add_any A A' n c n' c' a b w h h' hn hn'
theorem sub_is {A A' : Option Addr} {n c n' c' a b m : Nat} {w : World} (h : Num w w.heap.size A n c a) (h' : Num w w.heap.size A' n' c' b) (hn : n ≤ 1000000000) (hab : b ≤ a) (hm : a - b = m) :
    Calls Try.prog 60 #[.slice A n c, .slice A' n' c'] w (RetSub w m) := by
  subst hm; exact sub_ge A A' n c n' c' a b w h h' hn hab
theorem trim_is {A : Option Addr} {n c m : Nat} {xs : List Nat} {w : World} (h : Lim w w.heap.size A n c xs) (hx : limbs xs) (hn : n ≤ 1000000000) (hm : val xs = m) :
    Calls Try.prog 53 #[.slice A n c] w (RetNum w m) := by
  subst hm; exact trim_any A n c xs w h hx hn

def n1 : Nat := 1000000005
def n2 : Nat := 999999999
def n3 : Nat := 2000000004
def big : Nat := 100000000000000000000
theorem dg_n1 : dg n1 = [5, 1] := by unfold n1; rw [dg_pos (by omega), dg_pos (by omega), dg_zero]
theorem dg_n2 : dg n2 = [999999999] := by unfold n2; rw [dg_pos (by omega), dg_zero]
theorem dg_n3 : dg n3 = [4, 2] := by unfold n3; rw [dg_pos (by omega), dg_pos (by omega), dg_zero]
theorem dg_big : dg big = [0, 0, 100] := by unfold big; rw [dg_pos (by omega), dg_pos (by omega), dg_pos (by omega), dg_zero]
theorem dg_7 : dg 7 = [7] := by rw [dg_pos (by omega), dg_zero]

theorem lit_100 (w : World) : Num (w.alloc (.cells #[.int .u32 0, .int .u32 0, .int .u32 100] 64)) (w.alloc (.cells #[.int .u32 0, .int .u32 0, .int .u32 100] 64)).heap.size (some ⟨w.heap.size, 0, none⟩) 3 3 big := by
  rw [Num, dg_big]; exact Lim.lit w [0, 0, 100] _ rfl (by decide) (by decide) _
theorem lit_0 (w : World) : Lim (w.alloc (.cells #[.int .u32 0] 64)) (w.alloc (.cells #[.int .u32 0] 64)).heap.size (some ⟨w.heap.size, 0, none⟩) 1 1 [0] := Lim.lit w [0] _ rfl (by decide) (by decide) _
theorem lit_base (w : World) : Lim (w.alloc (.cells #[.int .u32 1000000000] 64)) (w.alloc (.cells #[.int .u32 1000000000] 64)).heap.size (some ⟨w.heap.size, 0, none⟩) 1 1 [1000000000] := Lim.lit w [1000000000] _ rfl (by decide) (by decide) _
theorem lit_7 (w : World) : Lim (w.alloc (.cells #[.int .u32 7, .int .u32 0, .int .u32 0] 64)) (w.alloc (.cells #[.int .u32 7, .int .u32 0, .int .u32 0] 64)).heap.size (some ⟨w.heap.size, 0, none⟩) 3 3 [7, 0, 0] := Lim.lit w [7, 0, 0] _ rfl (by decide) (by decide) _
theorem call_0 (w : World) : Calls Try.prog 44 #[.slice (some ⟨w.heap.size, 0, none⟩) 1 1] (w.alloc (.cells #[.int .u32 0] 64)) fun e w' => e = .returned (.bool false) ∧ (w.alloc (.cells #[.int .u32 0] 64)) = w' := right_is (lit_0 w) (by decide)
theorem call_base (w : World) (g : Nat) (hg : g = w.heap.size) : Calls Try.prog 44 #[.slice (some ⟨g, 0, none⟩) 1 1] (w.alloc (.cells #[.int .u32 1000000000] 64)) fun e w' => e = .returned (.bool false) ∧ (w.alloc (.cells #[.int .u32 1000000000] 64)) = w' := by subst hg; exact right_is (lit_base w) (by decide)
theorem call_7 (w : World) (g : Nat) (hg : g = w.heap.size) : Calls Try.prog 53 #[.slice (some ⟨g, 0, none⟩) 3 3] (w.alloc (.cells #[.int .u32 7, .int .u32 0, .int .u32 0] 64)) (RetNum (w.alloc (.cells #[.int .u32 7, .int .u32 0, .int .u32 0] 64)) 7) := by subst hg; exact trim_is (lit_7 w) (by unfold limbs; decide) (by decide) rfl

end Go.Proofs.Ytafbkoejobkncaa

/-
  How the arguments of the layer's laws come: a slice of uint32 that came in reads as limbs.
-/
namespace Go.Proofs.Ytafbkoejobkncaa
open Go.ChangeShapes Go.WideShapes Go.ChangeAt Go.RowKit

theorem knob_none : ownKnob Try.prog.godebug = none := by kernel_rfl
theorem laid_out : laidOutB Try.prog = true := by kernel_rfl

/-- A slice of uint32 that came in. -/
theorem lim_came {H : Type} {enc : TypeId × Value → H} {W : World} {t fuel len cap : Nat} {a0 : Option Addr} {d : DataW H} {p : List MemPlace} (ht : Try.prog.underlying t = some (.slice 64))
    (hf : DataW.trod enc Try.prog W 0 (fun _ => true) true fuel t (Value.slice a0 len cap).cells.toList = some (d, p)) : ∃ xs, Hid (Lim W W.heap.size a0 len cap xs) := by
  rcases open_ints ht Try.underlying64 (by kernel_rfl) hf with ⟨hcs, _⟩ | ⟨x, l, c, zs, hcs, _, hl, hm, hz, _, hcell, hwz⟩
  · simp [Value.cells] at hcs
    obtain ⟨rfl, rfl, rfl⟩ := hcs
    exact ⟨[], Lim.nil⟩
  · simp [Value.cells] at hcs
    obtain ⟨rfl, rfl, rfl⟩ := hcs
    simp only [if_true] at hz
    have hb : ∀ i, i < zs.length → 0 ≤ zs.getD i 0 ∧ zs.getD i 0 ≤ 4294967295 := fun i hi => by
      rw [List.getD_eq_getElem?_getD, List.getElem?_eq_getElem hi]
      exact bounds_u32 (hwz _ (List.getElem_mem hi))
    refine ⟨(zs.take len).map Int.toNat, ?_⟩
    have hlen : ((zs.take len).map Int.toNat).length = len := by simp; omega
    refine ⟨hlen, hl, hm, fun n hn => ?_, ?_, fun h => by cases h⟩
    · obtain ⟨z, hz1, rfl⟩ := List.mem_map.1 hn
      have := bounds_u32 (hwz z (List.mem_of_mem_take hz1))
      omega
    · rcases Nat.eq_zero_or_pos len with h0 | h0
      · subst h0; left; simp [vals]
      · have hc0 := hcell 0 (by omega)
        obtain ⟨b, o, s⟩ := x
        have hs : s = none := by simpa [Addr.add] using World.cell?_spot hc0
        subst hs
        refine .inr ⟨b, o, rfl, by simpa [Addr.add] using World.block_lt_of_cell? W _ hc0, fun j u hu => ?_⟩
        have hj : j < len := by
          have := (List.getElem?_eq_some_iff.1 hu).1
          rwa [vals_len, hlen] at this
        have hc := hcell j (by omega)
        rw [Addr.add_lit] at hc
        rw [hc]
        have hbj := hb j (by omega)
        rw [vals_get (by omega)] at hu
        injection hu with hu
        rw [← hu]
        have hjz : j < zs.length := by omega
        have e1 : zs.getD j 0 = zs[j] := by rw [List.getD_eq_getElem?_getD, List.getElem?_eq_getElem hjz]; rfl
        have e2 : gd ((zs.take len).map Int.toNat) j = zs[j].toNat := by
          unfold gd
          rw [List.getD_eq_getElem?_getD, List.getElem?_map, List.getElem?_take_of_lt hj, List.getElem?_eq_getElem hjz]; rfl
        rw [e1] at hbj ⊢
        rw [e2, Int.toNat_of_nonneg hbj.1]

end Go.Proofs.Ytafbkoejobkncaa

/-
  The walks of the laws NatRing and NatOrder.
-/
namespace Go.Proofs.Ytafbkoejobkncaa
open Go.RowKit

theorem Lim.num {w : World} {B n c : Nat} {A : Option Addr} {xs : List Nat} (h : Lim w B A n c xs) (hr : rightB xs = true) : Num w B A n c (val xs) := by
  rw [Num, dg_of_right hr]; exact h

theorem bad_or_good (n1 n2 n3 : Nat) (x1 x2 x3 : List Nat) :
    (decide (60 < (n1 : Int)) = true) ∨ (decide (60 < (n1 : Int)) = false ∧ decide (60 < (n2 : Int)) = true) ∨ (decide (60 < (n1 : Int)) = false ∧ decide (60 < (n2 : Int)) = false ∧ decide (60 < (n3 : Int)) = true) ∨
    (decide (60 < (n1 : Int)) = false ∧ decide (60 < (n2 : Int)) = false ∧ decide (60 < (n3 : Int)) = false ∧ rightB x1 = false) ∨
    (decide (60 < (n1 : Int)) = false ∧ decide (60 < (n2 : Int)) = false ∧ decide (60 < (n3 : Int)) = false ∧ rightB x1 = true ∧ rightB x2 = false) ∨
    (decide (60 < (n1 : Int)) = false ∧ decide (60 < (n2 : Int)) = false ∧ decide (60 < (n3 : Int)) = false ∧ rightB x1 = true ∧ rightB x2 = true ∧ rightB x3 = false) ∨
    (decide (60 < (n1 : Int)) = false ∧ decide (60 < (n2 : Int)) = false ∧ decide (60 < (n3 : Int)) = false ∧ rightB x1 = true ∧ rightB x2 = true ∧ rightB x3 = true) := by
  cases decide (60 < (n1 : Int)) <;> cases decide (60 < (n2 : Int)) <;> cases decide (60 < (n3 : Int)) <;> cases rightB x1 <;> cases rightB x2 <;> cases rightB x3 <;> simp

theorem len_small {n : Nat} (h : decide (60 < (n : Int)) = false) : n ≤ 60 := by
  rw [decide_eq_false_iff_not] at h; omega
theorem sum_len {w : World} {B k c k1 k2 a b : Nat} {A : Option Addr} (h : Num w B A k c (a + b)) (ha : (dg a).length ≤ k1) (hb : (dg b).length ≤ k2) : k ≤ max k1 k2 + 1 := by
  have := dg_len_add a b
  rw [h.len] at this
  omega

theorem Env.three {w : World} {A1 A2 A3 : Option Addr} {n1 n2 n3 c1 c2 c3 a b c : Nat} (h1 : Num w w.heap.size A1 n1 c1 a) (h2 : Num w w.heap.size A2 n2 c2 b) (h3 : Num w w.heap.size A3 n3 c3 c) : Hid (Env w w [(A1, n1, c1, a), (A2, n2, c2, b), (A3, n3, c3, c)]) := by
  refine ⟨Below.refl _ _, fun q hq => ?_⟩
  rcases List.mem_cons.1 hq with rfl | hq
  · exact h1
  · rcases List.mem_cons.1 hq with rfl | hq
    · exact h2
    · rcases List.mem_cons.1 hq with rfl | hq
      · exact h3
      · cases hq

end Go.Proofs.Ytafbkoejobkncaa
