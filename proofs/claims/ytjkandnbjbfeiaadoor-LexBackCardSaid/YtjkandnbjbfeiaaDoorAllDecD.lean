/- What the proofs of this layer need of the layer Dec, in one text. -/
import Derived.Test.YtjkandnbjbfeiaaDoorAllDecC
import Derived.Laws.Cover1
import Derived.Test.YtjkandnbjbfeiaaDoorAllDigD
import Derived.Test.YtjkandnbjbfeiaaDoorAllDigF
import Derived.Deep.QuietTactic
import Derived.BigQuiet
set_option linter.unusedVariables false
set_option linter.unusedSimpArgs false

/-
  Contracts of layer 5, the fourth part: Align and the document's.
-/
namespace Go.Proofs.YtjkandnbjbfeiaaDoor.Num
open Go.RowKit

theorem max_three {P : Program} {s t M : Nat} (h : max s t = M) (ts : Array TypeId) (ty : TypeId) (W : World) : (Builtin.max_ ts ty #[.int .i64 (s : Int), .int .i64 (t : Int), .int .i64 0]).run P W = .ok (.int .i64 (M : Int)) W := by
  rw [run_max_int3]
  have e : (if (0 : Int) > (if (t : Int) > (s : Int) then (t : Int) else (s : Int)) then (0 : Int) else (if (t : Int) > (s : Int) then (t : Int) else (s : Int))) = (M : Int) := by
    split <;> split <;> omega
  rw [e]

end Go.Proofs.YtjkandnbjbfeiaaDoor.Num

/-
  Contracts of layer 5, the fifth part: the document's Align; cmp.Compare; ahead.
-/
namespace Go.Proofs.YtjkandnbjbfeiaaDoor.Num
open Go.RowKit

theorem max_two {P : Program} {s t M : Nat} (h : max s t = M) (ts : Array TypeId) (ty : TypeId) (W : World) : (Builtin.max_ ts ty #[.int .i64 (s : Int), .int .i64 (t : Int)]).run P W = .ok (.int .i64 (M : Int)) W := by
  rw [run_max_int2]
  have e : (if (t : Int) > (s : Int) then (t : Int) else (s : Int)) = (M : Int) := by split <;> omega
  rw [e]
theorem max_zero {P : Program} {s : Nat} (ts : Array TypeId) (ty : TypeId) (W : World) : (Builtin.max_ ts ty #[.int .i64 (s : Int), .int .i64 0]).run P W = .ok (.int .i64 (s : Int)) W := by
  rw [run_max_int2]
  have e : (if (0 : Int) > (s : Int) then (0 : Int) else (s : Int)) = (s : Int) := by split <;> omega
  rw [e]
theorem sgn_upA (i : Int) (s S : Nat) : sgn (ngB i) (up i s S).natAbs = up i s S := by rw [abs_up]; exact sgn_up i s S

/-- Which of two numbers is the less one. -/
def cmpZ (x y : Int) : Int := if x < y then -1 else if y < x then 1 else 0
theorem cmpZ_lt {x y : Int} (h : x < y) : cmpZ x y = -1 := if_pos h
theorem cmpZ_gt {x y : Int} (h : y < x) : cmpZ x y = 1 := by unfold cmpZ; rw [if_neg (by omega), if_pos h]
theorem cmpZ_eq {x y : Int} (h : x = y) : cmpZ x y = 0 := by unfold cmpZ; rw [if_neg (by omega), if_neg (by omega)]

end Go.Proofs.YtjkandnbjbfeiaaDoor.Num

/-
  Contracts of layer 5, the sixth part: cmpSizes, Cmp, Same.
-/
namespace Go.Proofs.YtjkandnbjbfeiaaDoor.Num
open Go.RowKit

theorem lt_of_nd {x y : Nat} (h : nd x < nd y) : x < y := by
  rcases Nat.lt_or_ge x y with h1 | h1
  · exact h1
  · obtain ⟨k, hk⟩ : ∃ k, nd x = k + 1 := ⟨nd x - 1, by have := nd_pos x; omega⟩
    have h2 := lt_pow_nd x
    rw [hk] at h2
    have := nd_le_of_lt k (Nat.lt_of_le_of_lt h1 h2)
    omega
theorem ahead_lt {a b s t M : Nat} (ha : 0 < a) (hb : 0 < b) (hs : s ≤ M) (ht : t ≤ M) (h : (nd a : Int) - (s : Int) < (nd b : Int) - (t : Int)) : a * 10 ^ (M - s) < b * 10 ^ (M - t) := by
  refine lt_of_nd ?_
  rw [nd_mul ha, nd_mul hb]
  omega
theorem up_pos {i : Int} (s M : Nat) (h : 0 < i) : 0 < up i s M := Int.mul_pos h (by have := ten_pos (M - s); omega)
theorem up_neg {i : Int} (s M : Nat) (h : i < 0) : up i s M < 0 := Int.mul_neg_of_neg_of_pos h (by have := ten_pos (M - s); omega)
theorem up_zero (s M : Nat) : up 0 s M = 0 := Int.zero_mul _
theorem cmpZ_pos {x y : Int} (hx : 0 ≤ x) (hy : 0 ≤ y) : cmpN x.natAbs y.natAbs = cmpZ x y := by
  unfold cmpN cmpZ
  split <;> split <;> (try split) <;> (try split) <;> omega
theorem cmpZ_neg {x y : Int} (hx : x ≤ 0) (hy : y ≤ 0) : -cmpN x.natAbs y.natAbs = cmpZ x y := by
  unfold cmpN cmpZ
  split <;> split <;> (try split) <;> (try split) <;> omega
/-- Two decimals by value. -/
def cmpD (i : Int) (s : Nat) (j : Int) (t : Nat) : Int := cmpZ (up i s (max s t)) (up j t (max s t))
theorem cmpD_sign {i j : Int} (s t : Nat) (h : i.sign ≠ j.sign ∨ i = 0) : cmpZ i.sign j.sign = cmpD i s j t := by
  unfold cmpD
  generalize max s t = M
  rcases Int.lt_trichotomy i 0 with hi | hi | hi <;> rcases Int.lt_trichotomy j 0 with hj | hj | hj
  · rw [Int.sign_eq_neg_one_iff_neg.2 hi, Int.sign_eq_neg_one_iff_neg.2 hj] at h; exfalso; rcases h with h | h; exact h rfl; omega
  · subst hj; rw [Int.sign_eq_neg_one_iff_neg.2 hi, up_zero, cmpZ_lt (up_neg s M hi)]; rfl
  · rw [Int.sign_eq_neg_one_iff_neg.2 hi, Int.sign_eq_one_iff_pos.2 hj, cmpZ_lt (Int.lt_trans (up_neg s M hi) (up_pos t M hj))]; rfl
  · subst hi; rw [Int.sign_eq_neg_one_iff_neg.2 hj, up_zero, cmpZ_gt (up_neg t M hj)]; rfl
  · subst hi; subst hj; rw [up_zero, up_zero]; rfl
  · subst hi; rw [Int.sign_eq_one_iff_pos.2 hj, up_zero, cmpZ_lt (up_pos t M hj)]; rfl
  · rw [Int.sign_eq_neg_one_iff_neg.2 hj, Int.sign_eq_one_iff_pos.2 hi, cmpZ_gt (Int.lt_trans (up_neg t M hj) (up_pos s M hi))]; rfl
  · subst hj; rw [Int.sign_eq_one_iff_pos.2 hi, up_zero, cmpZ_gt (up_pos s M hi)]; rfl
  · rw [Int.sign_eq_one_iff_pos.2 hi, Int.sign_eq_one_iff_pos.2 hj] at h; exfalso; rcases h with h | h; exact h rfl; omega
theorem cmpN_size (a b : Nat) : -1 ≤ cmpN a b ∧ cmpN a b ≤ 1 := by
  unfold cmpN; split
  · omega
  · split <;> omega

end Go.Proofs.YtjkandnbjbfeiaaDoor.Num

/-
  Contracts of layer 5, the seventh part: Cmp, Same, Alike, and the document's; Right and the document's; Long.
-/
namespace Go.Proofs.YtjkandnbjbfeiaaDoor.Num
open Go.RowKit

theorem ret_i64 {a b : Int} (h : a = b) : Ending.returned (.int .i64 a) = .returned (.int .i64 b) := by rw [h]

end Go.Proofs.YtjkandnbjbfeiaaDoor.Num

/-
  Contracts of layer 5, the eighth part: the document's Cmp, Same.
-/
namespace Go.Proofs.YtjkandnbjbfeiaaDoor.Num
open Go.RowKit

end Go.Proofs.YtjkandnbjbfeiaaDoor.Num

/-
  Contracts of layer 5, the ninth part: Alike, Right and the document's; Long.
-/
namespace Go.Proofs.YtjkandnbjbfeiaaDoor.Num
open Go.RowKit

/-- Are two decimals told alike? -/
def alikeB (i : Int) (s : Nat) (j : Int) (t : Nat) : Bool := decide (i = j ∧ s = t)
theorem alike_yes {i j : Int} {s t : Nat} (h : i = j) (h' : s = t) : alikeB i s j t = true := decide_eq_true ⟨h, h'⟩
theorem alike_no {i j : Int} {s t : Nat} (h : ¬ (i = j ∧ s = t)) : alikeB i s j t = false := decide_eq_false h
theorem alike_abs {i j : Int} {s : Nat} (h : ngB i = ngB j) : decide (i.natAbs = j.natAbs) = alikeB i s j s := by
  unfold alikeB
  unfold ngB at h
  by_cases e : i.natAbs = j.natAbs
  · have : i = j := by
      have h2 : (i < 0) ↔ (j < 0) := by simpa using h
      omega
    rw [decide_eq_true e, decide_eq_true ⟨this, rfl⟩]
  · rw [decide_eq_false e, decide_eq_false (by intro h3; exact e (by rw [h3.1]))]
theorem bool_eq {a b : Bool} (h : a = b) : (a == b) = true := by subst h; simp
theorem bool_ne {a b : Bool} (h : a ≠ b) : (a == b) = false := by simpa using h

/-- Is it a decimal? -/
def rightD (b : Bool) (n : Nat) (xs : List Nat) (k : Int) : Bool := rightB xs && (decide (0 ≤ k) && !(b && decide (n = 0)))

/-- Is it none, or too long? -/
def longB (b : Bool) (n : Nat) (xs : List Nat) (k : Int) : Bool := decide (12 < n) || (decide (60 < k) || !rightD b n xs k)

/-- What is not too long is a decimal. -/
theorem of_long {b : Bool} {n c B : Nat} {xs : List Nat} {k : Int} {w : World} {A : Option Addr} (hl : longB b n xs k = false) (h : Lim w B A n c xs) :
    ∃ (i : Int) (s : Nat), b = ngB i ∧ xs = dg i.natAbs ∧ k = (s : Int) ∧ n ≤ 12 ∧ s ≤ 60 := by
  unfold longB at hl
  rw [Bool.or_eq_false_iff, Bool.or_eq_false_iff] at hl
  obtain ⟨h1, h2, h3⟩ := hl
  have h1 := of_decide_eq_false h1
  have h2 := of_decide_eq_false h2
  unfold rightD at h3
  rw [Bool.not_eq_false', Bool.and_eq_true, Bool.and_eq_true] at h3
  obtain ⟨h4, h5, h6⟩ := h3
  have h5 := of_decide_eq_true h5
  have hd := dg_of_right h4
  refine ⟨sgn b (val xs), k.toNat, ?_, by rw [abs_sgn, hd], by omega, by omega, by omega⟩
  rw [ng_sgn]
  cases b with
  | false => rfl
  | true =>
    have h0 : Num w B A n c (val xs) := by rw [Num, hd]; exact h
    have := (num_pos_iff h0).1 (by simp at h6; omega)
    rw [decide_eq_true this]; rfl
theorem rightD_dec {w : World} {B n c s : Nat} {A : Option Addr} {i : Int} (h : Num w B A n c i.natAbs) : rightD (ngB i) n (dg i.natAbs) (s : Int) = true := by
  unfold rightD
  rw [right_dg, decide_eq_true (by omega)]
  by_cases h0 : ngB i = true
  · have h1 : i < 0 := of_decide_eq_true h0
    have := (num_pos_iff h).2 (by omega)
    rw [h0, decide_eq_false (by omega)]; rfl
  · have : ngB i = false := by simpa using h0
    rw [this]; rfl

end Go.Proofs.YtjkandnbjbfeiaaDoor.Num

/-
  Contracts of layer 5, the tenth part: Add, Sub and the document's.
-/
namespace Go.Proofs.YtjkandnbjbfeiaaDoor.Num
open Go.RowKit

theorem up_len {i : Int} {s M n : Nat} (h : (dg i.natAbs).length = n) : (dg (up i s M).natAbs).length ≤ n + (M - s) + 1 := by
  rw [abs_up]
  have h1 := dg_len_mul i.natAbs (10 ^ (M - s))
  have h2 := pow10_len (N := M - s) (k := M - s + 1) (by omega)
  omega
theorem sgn_add {x y : Int} (h : ngB x = ngB y) : sgn (ngB x) (x.natAbs + y.natAbs) = x + y := by
  unfold ngB at h
  have h2 : (x < 0) ↔ (y < 0) := by simpa using h
  unfold sgn ngB
  by_cases h0 : x < 0
  · rw [decide_eq_true h0, if_pos rfl]; omega
  · rw [decide_eq_false h0, if_neg (by simp)]; omega
theorem sgn_sub {x y : Int} (h : ngB x ≠ ngB y) (hl : y.natAbs ≤ x.natAbs) : sgn (ngB x) (x.natAbs - y.natAbs) = x + y := by
  unfold ngB at h
  have h2 : ¬((x < 0) ↔ (y < 0)) := by simpa using h
  unfold sgn ngB
  by_cases h0 : x < 0
  · rw [decide_eq_true h0, if_pos rfl]; omega
  · rw [decide_eq_false h0, if_neg (by simp)]; omega
theorem sgn_bus {x y : Int} (h : ngB x ≠ ngB y) (hl : x.natAbs ≤ y.natAbs) : sgn (ngB y) (y.natAbs - x.natAbs) = x + y := by
  rw [sgn_sub (fun e => h e.symm) hl, Int.add_comm]
/-- The sum of two decimals, at the greater scale. -/
def addZ (i : Int) (s : Nat) (j : Int) (t : Nat) : Int := up i s (max s t) + up j t (max s t)

end Go.Proofs.YtjkandnbjbfeiaaDoor.Num

/-
  Contracts of layer 5, the eleventh part: Sub, Mul, Make and the document's.
-/
namespace Go.Proofs.YtjkandnbjbfeiaaDoor.Num
open Go.RowKit

/-- The difference of two decimals, at the greater scale. -/
def subZ (i : Int) (s : Nat) (j : Int) (t : Nat) : Int := up i s (max s t) - up j t (max s t)
theorem up_neg_eq (i : Int) (s M : Nat) : up (-i) s M = -up i s M := Int.neg_mul _ _
theorem sub_add (i : Int) (s : Nat) (j : Int) (t : Nat) : addZ i s (-j) t = subZ i s j t := by
  unfold addZ subZ; rw [up_neg_eq]; omega
theorem mul_num (i j : Int) : i.natAbs * j.natAbs = (i * j).natAbs := (Int.natAbs_mul i j).symm
theorem sgn_mul_same {i j : Int} (h : ngB i = ngB j) : sgn false (i * j).natAbs = i * j := by
  unfold ngB at h
  have h2 : (i < 0) ↔ (j < 0) := by simpa using h
  rw [sgn_false]
  have : 0 ≤ i * j := by
    by_cases h0 : i < 0
    · exact Int.mul_nonneg_of_nonpos_of_nonpos (by omega) (by have := h2.1 h0; omega)
    · exact Int.mul_nonneg (by omega) (by omega)
  omega
theorem sgn_mul_apart {i j : Int} (h : ngB i ≠ ngB j) : sgn true (i * j).natAbs = i * j := by
  unfold ngB at h
  have h2 : ¬((i < 0) ↔ (j < 0)) := by simpa using h
  have e : ∀ a : Nat, sgn true a = -(a : Int) := fun a => rfl
  rw [e]
  have : i * j ≤ 0 := by
    by_cases h0 : i < 0
    · exact Int.mul_nonpos_of_nonpos_of_nonneg (by omega) (by omega)
    · exact Int.mul_nonpos_of_nonneg_of_nonpos (by omega) (by omega)
  omega
theorem bool_neq {a b : Bool} (h : a ≠ b) : (a != b) = true := by simpa using h
theorem bool_neq' {a b : Bool} (h : a = b) : (a != b) = false := by subst h; simp

end Go.Proofs.YtjkandnbjbfeiaaDoor.Num

/-
  Contracts of layer 5, the twelfth part: Make, Between and the document's.
-/
namespace Go.Proofs.YtjkandnbjbfeiaaDoor.Num
open Go.RowKit

theorem u64_any (n : Int) : IntKind.u64.wrap n = n % 18446744073709551616 := by simp [IntKind.wrap, IntKind.bits, IntKind.signed]
theorem max_zero' {P : Program} {s : Nat} (ts : Array TypeId) (ty : TypeId) (W : World) : (Builtin.max_ ts ty #[.int .i64 0, .int .i64 (s : Int)]).run P W = .ok (.int .i64 (s : Int)) W := by
  rw [run_max_int2]
  have e : (if (s : Int) > (0 : Int) then (s : Int) else (0 : Int)) = (s : Int) := by split <;> omega
  rw [e]

theorem start_three {w : World} {A A' A'' : Option Addr} {n c a n' c' a' n'' c'' a'' : Nat} (h : Num w w.heap.size A n c a) (h' : Num w w.heap.size A' n' c' a') (h'' : Num w w.heap.size A'' n'' c'' a'') : St w w [(A, n, c, a), (A', n', c', a'), (A'', n'', c'', a'')] [] := St.start w (by simp; exact ⟨h, h', h''⟩)

end Go.Proofs.YtjkandnbjbfeiaaDoor.Num

/-
  Contracts of layer 5, the thirteenth part: Strip and the document's.
-/
namespace Go.Proofs.YtjkandnbjbfeiaaDoor.Num
open Go.RowKit

theorem max_gen {P : Program} {x y z : Int} (h : max x y = z) (ts : Array TypeId) (ty : TypeId) (W : World) : (Builtin.max_ ts ty #[.int .i64 x, .int .i64 y]).run P W = .ok (.int .i64 z) W := by
  rw [run_max_int2]
  have e : (if y > x then y else x) = z := by rw [← h]; split <;> omega
  rw [e]
theorem min_gen {P : Program} {x y z : Int} (h : min x y = z) (ts : Array TypeId) (ty : TypeId) (W : World) : (Builtin.min_ ts ty #[.int .i64 x, .int .i64 y]).run P W = .ok (.int .i64 z) W := by
  rw [run_min_int2]
  have e : (if y < x then y else x) = z := by rw [← h]; split <;> omega
  rw [e]
/-- How many noughts go. -/
def stripK (i : Int) (s L : Nat) : Nat := if i = 0 then s - L else min (s - L) (tz i.natAbs)
/-- What is left of the digits. -/
def stripI (i : Int) (s L : Nat) : Int := sgn (ngB i) (i.natAbs / 10 ^ stripK i s L)
theorem stripK_le (i : Int) (s L : Nat) : stripK i s L ≤ s := by unfold stripK; split <;> omega

end Go.Proofs.YtjkandnbjbfeiaaDoor.Num

/-
  Contracts of layer 5, the fourteenth part: Power and the document's.
-/
namespace Go.Proofs.YtjkandnbjbfeiaaDoor.Num
open Go.RowKit

/-- A decimal comes back, and no error. -/
def RetDecE (W : World) (i : Int) (s : Nat) (e : Ending) (w' : World) : Prop :=
  ∃ A n c, e = .returned (.tuple #[.agg #[.bool (ngB i), .slice A n c, .int .i64 (s : Int)], .int .i64 0]) ∧ Num w' w'.heap.size A n c i.natAbs ∧ Below W.heap.size W w'
theorem abs_pow (i : Int) (k : Nat) : i.natAbs ^ k = (i ^ k).natAbs := (Int.natAbs_pow i k).symm
theorem pow_sign (i : Int) (h : i < 0) (k : Nat) : (k % 2 = 1 → i ^ k < 0) ∧ (k % 2 = 0 → 0 < i ^ k) := by
  induction k with
  | zero => exact ⟨fun h => by omega, fun _ => by rw [Int.pow_zero]; omega⟩
  | succ k ih =>
    rw [Int.pow_succ]
    refine ⟨fun h1 => ?_, fun h1 => ?_⟩
    · exact Int.mul_neg_of_pos_of_neg (ih.2 (by omega)) h
    · exact Int.mul_pos_of_neg_of_neg (ih.1 (by omega)) h
theorem sgn_pow_odd {i : Int} {k : Nat} (h : i < 0) (ho : k % 2 = 1) : sgn true (i ^ k).natAbs = i ^ k := by
  have e : ∀ a : Nat, sgn true a = -(a : Int) := fun a => rfl
  have := (pow_sign i h k).1 ho
  rw [e]; omega
theorem sgn_pow_even {i : Int} {k : Nat} (h : i < 0) (ho : k % 2 = 0) : sgn false (i ^ k).natAbs = i ^ k := by
  have := (pow_sign i h k).2 ho
  rw [sgn_false]; omega
theorem sgn_pow_pos {i : Int} {k : Nat} (h : 0 ≤ i) : sgn false (i ^ k).natAbs = i ^ k := by
  have : 0 ≤ i ^ k := Int.pow_nonneg h
  rw [sgn_false]; omega

end Go.Proofs.YtjkandnbjbfeiaaDoor.Num

/-
  Rows of decimals in memory; the contract of Sum.
-/
namespace Go.Proofs.YtjkandnbjbfeiaaDoor.Num
open Go.RowKit

theorem St.sub {w0 w : World} {l l' : List (Option Addr × Nat × Nat × Nat)} {bs bs' : List (Nat × Value × Value × Value)} (h : St w0 w l bs) (hl : ∀ q ∈ l', q ∈ l) (hb : ∀ q ∈ bs', q ∈ bs) : St w0 w l' bs' :=
  ⟨h.bel, fun q hq => h.num q (hl q hq), fun q hq => h.box q (hb q hq)⟩

/-! Decimals at a common scale. -/
theorem up_up {i : Int} {s m M : Nat} (h1 : s ≤ m) (h2 : m ≤ M) : up (up i s m) m M = up i s M := by
  unfold up
  rw [Int.mul_assoc, ← Int.natCast_mul, ← Nat.pow_add]
  congr 4; omega
theorem up_add (i j : Int) (s M : Nat) : up (i + j) s M = up i s M + up j s M := Int.add_mul _ _ _
theorem up_addZ {i j : Int} {s t M : Nat} (h1 : s ≤ M) (h2 : t ≤ M) : up (addZ i s j t) (max s t) M = up i s M + up j t M := by
  unfold addZ
  rw [up_add, up_up (by omega) (by omega), up_up (by omega) (by omega)]
theorem up_subZ {i j : Int} {s t M : Nat} (h1 : s ≤ M) (h2 : t ≤ M) : up (subZ i s j t) (max s t) M = up i s M - up j t M := by
  rw [← sub_add, up_addZ h1 h2, up_neg_eq]; omega
theorem cmpZ_mul {x y : Int} {p : Int} (hp : 0 < p) : cmpZ (x * p) (y * p) = cmpZ x y := by
  rcases Int.lt_trichotomy x y with h | h | h
  · rw [cmpZ_lt h, cmpZ_lt (Int.mul_lt_mul_of_pos_right h hp)]
  · rw [cmpZ_eq h, cmpZ_eq (by rw [h])]
  · rw [cmpZ_gt h, cmpZ_gt (Int.mul_lt_mul_of_pos_right h hp)]
theorem cmpD_at {i j : Int} {s t M : Nat} (h1 : s ≤ M) (h2 : t ≤ M) : cmpD i s j t = cmpZ (up i s M) (up j t M) := by
  unfold cmpD
  rw [← up_up (i := i) (s := s) (m := max s t) (M := M) (by omega) (by omega), ← up_up (i := j) (s := t) (m := max s t) (M := M) (by omega) (by omega)]
  exact (cmpZ_mul (by have := ten_pos (M - max s t); omega)).symm
theorem abs_up_le (i : Int) (s M : Nat) : i.natAbs ≤ (up i s M).natAbs := by
  rw [abs_up]; exact Nat.le_mul_of_pos_right _ (ten_pos _)
theorem len_of_ten {a m : Nat} (h : a < 10 ^ m) : (dg a).length ≤ m :=
  dg_len_le (Nat.lt_of_lt_of_le h (Nat.pow_le_pow_left (by omega) _))
theorem ten_of_len {a n : Nat} (h : (dg a).length ≤ n) : a < 10 ^ (9 * n) := by
  rw [Nat.pow_mul]; exact pow_of_len rfl h

/-- The sum of the first k, and its scale. -/
def sumS (d : Nat → Int × Nat) : Nat → Nat
  | 0 => 0
  | k + 1 => max (sumS d k) (d k).2
def sumI (d : Nat → Int × Nat) : Nat → Int
  | 0 => 0
  | k + 1 => addZ (sumI d k) (sumS d k) (d k).1 (d k).2
def tot (d : Nat → Int × Nat) (M : Nat) : Nat → Int
  | 0 => 0
  | k + 1 => tot d M k + up (d k).1 (d k).2 M
theorem sum_up {d : Nat → Int × Nat} {M : Nat} : ∀ {k : Nat}, (∀ j, j < k → (d j).2 ≤ M) → sumS d k ≤ M ∧ up (sumI d k) (sumS d k) M = tot d M k := by
  intro k
  induction k with
  | zero => intro _; exact ⟨Nat.zero_le _, up_zero _ _⟩
  | succ k ih =>
    intro h
    have h1 := ih (fun j hj => h j (by omega))
    have h2 := h k (by omega)
    refine ⟨by show max _ _ ≤ M; have := h1.1; omega, ?_⟩
    show up (addZ _ _ _ _) (max _ _) M = _
    rw [up_addZ h1.1 h2, h1.2]; rfl
theorem tot_abs {d : Nat → Int × Nat} {M P : Nat} : ∀ {k : Nat}, (∀ j, j < k → (up (d j).1 (d j).2 M).natAbs ≤ P) → (tot d M k).natAbs ≤ k * P := by
  intro k
  induction k with
  | zero => intro _; simp [tot]
  | succ k ih =>
    intro h
    have h1 := ih (fun j hj => h j (by omega))
    have h2 := h k (by omega)
    rw [tot, Nat.succ_mul]
    omega
theorem tot_split (d : Nat → Int × Nat) (M h : Nat) : ∀ k, tot d M (h + k) = tot d M h + tot (fun j => d (h + j)) M k := by
  intro k
  induction k with
  | zero => simp [tot]
  | succ k ih =>
    rw [← Nat.add_assoc, tot, tot, ih]; omega
/-- Each of them is short. -/
def Short (d : Nat → Int × Nat) (n : Nat) : Prop := ∀ j, j < n → (dg (d j).1.natAbs).length ≤ 12 ∧ (d j).2 ≤ 60
theorem Short.up {d : Nat → Int × Nat} {n j : Nat} (h : Short d n) (hj : j < n) : (up (d j).1 (d j).2 60).natAbs ≤ 10 ^ 168 := by
  have h1 := h j hj
  rw [abs_up]
  have h2 := ten_of_len h1.1
  have h3 : 10 ^ (60 - (d j).2) ≤ 10 ^ 60 := Nat.pow_le_pow_right (by omega) (by omega)
  have h4 := Nat.mul_le_mul (Nat.le_of_lt h2) h3
  rw [← Nat.pow_add] at h4
  exact h4
theorem Short.sum {d : Nat → Int × Nat} {n k : Nat} (h : Short d n) (hk : k ≤ n) (hn : n ≤ 99) : sumS d k ≤ 60 ∧ (dg (sumI d k).natAbs).length ≤ 170 := by
  have h1 := sum_up (d := d) (M := 60) (k := k) (fun j hj => (h j (by omega)).2)
  refine ⟨h1.1, len_of_ten ?_⟩
  have h2 := tot_abs (d := d) (M := 60) (P := 10 ^ 168) (k := k) (fun j hj => h.up (by omega))
  have h3 := abs_up_le (sumI d k) (sumS d k) 60
  rw [h1.2] at h3
  have h4 : k * 10 ^ 168 ≤ 99 * 10 ^ 168 := Nat.mul_le_mul_right _ (by omega)
  have h5 : 99 * 10 ^ 168 < 10 ^ 170 := by decide
  exact Nat.lt_of_le_of_lt h3 (Nat.lt_of_le_of_lt h2 (Nat.lt_of_le_of_lt h4 h5))

/-- The slice at A of n decimals and capacity c reads as the decimals d, at the places p. -/
structure Decs (w : World) (B : Nat) (A : Option Addr) (n c : Nat) (d : Nat → Int × Nat) (p : Nat → Option Addr × Nat × Nat) : Prop where
  cap : n ≤ c
  room : c ≤ maxLen
  row : n = 0 ∨ ∃ b o, A = some ⟨b, o, none⟩ ∧ b < B ∧ ∀ j, j < n → w.cell? ⟨b, o + j * 3, none⟩ = some (.bool (ngB (d j).1)) ∧ w.cell? ⟨b, o + j * 3 + 1, none⟩ = some (.slice (p j).1 (p j).2.1 (p j).2.2) ∧ w.cell? ⟨b, o + j * 3 + 2, none⟩ = some (.int .i64 ((d j).2 : Int))
  num : ∀ j, j < n → Num w B (p j).1 (p j).2.1 (p j).2.2 (d j).1.natAbs
  short : Short d n
  addr : A = none → c = 0
theorem Decs.below {w w' : World} {B n c : Nat} {A : Option Addr} {d : Nat → Int × Nat} {p : Nat → Option Addr × Nat × Nat} (h : Decs w B A n c d p) (hb : Below B w w') : Decs w' B A n c d p := by
  refine ⟨h.cap, h.room, ?_, fun j hj => (h.num j hj).below hb, h.short, h.addr⟩
  rcases h.row with h0 | ⟨b, o, rfl, hB, hc⟩
  · exact .inl h0
  · exact .inr ⟨b, o, rfl, hB, fun j hj => ⟨(hb.cell (p := ⟨b, o + j * 3, none⟩) hB).trans (hc j hj).1, (hb.cell (p := ⟨b, o + j * 3 + 1, none⟩) hB).trans (hc j hj).2.1, (hb.cell (p := ⟨b, o + j * 3 + 2, none⟩) hB).trans (hc j hj).2.2⟩⟩
theorem Decs.on {w w' : World} {n c : Nat} {A : Option Addr} {d : Nat → Int × Nat} {p : Nat → Option Addr × Nat × Nat} (h : Decs w w.heap.size A n c d p) (hb : Below w.heap.size w w') : Decs w' w'.heap.size A n c d p := by
  have h2 := h.below hb
  refine ⟨h2.cap, h2.room, ?_, fun j hj => (h2.num j hj).more hb.size, h2.short, h2.addr⟩
  rcases h2.row with h0 | ⟨b, o, hA, hB, hc⟩
  · exact .inl h0
  · exact .inr ⟨b, o, hA, Nat.lt_of_lt_of_le hB hb.size, hc⟩
theorem Decs.at_ {w : World} {B n c j : Nat} {A : Option Addr} {d : Nat → Int × Nat} {p : Nat → Option Addr × Nat × Nat} (h : Decs w B A n c d p) (hj : j < n) :
    ∃ b o, A = some ⟨b, o, none⟩ ∧ b < B ∧ w.cell? ⟨b, o + j * 3, none⟩ = some (.bool (ngB (d j).1)) ∧ w.cell? ⟨b, o + j * 3 + 1, none⟩ = some (.slice (p j).1 (p j).2.1 (p j).2.2) ∧ w.cell? ⟨b, o + j * 3 + 2, none⟩ = some (.int .i64 ((d j).2 : Int)) := by
  rcases h.row with h0 | ⟨b, o, rfl, hB, hc⟩
  · omega
  · exact ⟨b, o, rfl, hB, (hc j hj).1, (hc j hj).2.1, (hc j hj).2.2⟩

end Go.Proofs.YtjkandnbjbfeiaaDoor.Num

/-
  Contracts of layer 5, the last part: Least and the document's.
-/
namespace Go.Proofs.YtjkandnbjbfeiaaDoor.Num
open Go.RowKit

/-- The place of the first k's first least one; of the greatest one. -/
def low (d : Nat → Int × Nat) : Nat → Nat
  | 0 => 0
  | k + 1 => if cmpD (d k).1 (d k).2 (d (low d k)).1 (d (low d k)).2 < 0 then k else low d k
def high (d : Nat → Int × Nat) : Nat → Nat
  | 0 => 0
  | k + 1 => if 0 < cmpD (d k).1 (d k).2 (d (high d k)).1 (d (high d k)).2 then k else high d k
theorem low_le (d : Nat → Int × Nat) : ∀ k, low d k ≤ k := by
  intro k
  induction k with
  | zero => exact Nat.le_refl _
  | succ k ih => rw [low]; split <;> omega
theorem high_le (d : Nat → Int × Nat) : ∀ k, high d k ≤ k := by
  intro k
  induction k with
  | zero => exact Nat.le_refl _
  | succ k ih => rw [high]; split <;> omega
theorem cmpD_self (i : Int) (s : Nat) : cmpD i s i s = 0 := cmpZ_eq rfl
theorem low_lt (d : Nat → Int × Nat) (k : Nat) : low d (k + 1) ≤ k := by
  rw [low]; split
  · exact Nat.le_refl _
  · exact low_le d k
theorem high_lt (d : Nat → Int × Nat) (k : Nat) : high d (k + 1) ≤ k := by
  rw [high]; split
  · exact Nat.le_refl _
  · exact high_le d k

/-- Three cells. -/
structure Cel (v : World) (b o : Nat) (x0 x1 x2 : Value) : Prop where
  c0 : v.cell? ⟨b, o, none⟩ = some x0
  c1 : v.cell? ⟨b, o + 1, none⟩ = some x1
  c2 : v.cell? ⟨b, o + 2, none⟩ = some x2
  lt : b < v.heap.size
theorem Cel.on {v v' : World} {b o : Nat} {x0 x1 x2 : Value} (h : Cel v b o x0 x1 x2) (hb : Below v.heap.size v v') : Cel v' b o x0 x1 x2 :=
  ⟨(hb.cell (p := ⟨b, o, none⟩) h.lt).trans h.c0, (hb.cell (p := ⟨b, o + 1, none⟩) h.lt).trans h.c1, (hb.cell (p := ⟨b, o + 2, none⟩) h.lt).trans h.c2, Nat.lt_of_lt_of_le h.lt hb.size⟩
theorem Decs.cel {w : World} {n c j b o : Nat} {d : Nat → Int × Nat} {p : Nat → Option Addr × Nat × Nat} (h : Decs w w.heap.size (some ⟨b, o, none⟩) n c d p) (hj : j < n) :
    Cel w b (o + j * 3) (.bool (ngB (d j).1)) (.slice (p j).1 (p j).2.1 (p j).2.2) (.int .i64 ((d j).2 : Int)) := by
  obtain ⟨b', o', he, hB, h0, h1, h2⟩ := h.at_ hj
  injection he with he
  injection he with he1 he2
  subst he1; subst he2
  exact ⟨h0, h1, h2, hB⟩

theorem ret_w {a b : Int} (h : b = a) : Value.int .i64 a = .int .i64 b := by rw [h]
theorem ret_v {a b : Nat} (h : b = a) : Value.int .i64 (a : Int) = .int .i64 (b : Int) := by rw [h]

end Go.Proofs.YtjkandnbjbfeiaaDoor.Num

/-
  Layer 5: how great decimals are; the contracts with their values as equations.
-/
namespace Go.Proofs.YtjkandnbjbfeiaaDoor.Num
open Go.RowKit

/-- The value is below 10 to the K. -/
def Sz (x : Int) (s K : Nat) : Prop := x.natAbs < 10 ^ (K + s)
theorem Sz.mono {x : Int} {s K L : Nat} (h : Sz x s K) (hl : K ≤ L) : Sz x s L := Nat.lt_of_lt_of_le h (Nat.pow_le_pow_right (by omega) (by omega))
theorem Sz.len {x : Int} {s K : Nat} (h : Sz x s K) : (dg x.natAbs).length ≤ K + s := len_of_ten h
theorem Sz.up {x : Int} {s K M : Nat} (h : Sz x s K) (hM : s ≤ M) : Sz (up x s M) M K := by
  unfold Sz at h ⊢
  rw [abs_up]
  have e : K + M = (K + s) + (M - s) := by omega
  rw [e, Nat.pow_add]
  exact Nat.mul_lt_mul_of_pos_right h (ten_pos _)
theorem Sz.add_same {x y : Int} {s K : Nat} (h : Sz x s K) (h' : Sz y s K) : Sz (x + y) s (K + 1) := by
  unfold Sz at h h' ⊢
  have e : K + 1 + s = (K + s) + 1 := by omega
  rw [e, Nat.pow_succ]
  omega
theorem Sz.add {x y : Int} {s t K L : Nat} (h : Sz x s K) (h' : Sz y t L) : Sz (addZ x s y t) (max s t) (max K L + 1) := by
  unfold addZ
  exact Sz.add_same ((h.mono (by omega)).up (by omega)) ((h'.mono (by omega)).up (by omega))
theorem Sz.neg {x : Int} {s K : Nat} (h : Sz x s K) : Sz (-x) s K := by unfold Sz at h ⊢; rw [Int.natAbs_neg]; exact h
theorem Sz.abs {x : Int} {s K : Nat} (h : Sz x s K) : Sz (x.natAbs : Int) s K := by unfold Sz at h ⊢; rw [Int.natAbs_natCast]; exact h
theorem Sz.sub {x y : Int} {s t K L : Nat} (h : Sz x s K) (h' : Sz y t L) : Sz (subZ x s y t) (max s t) (max K L + 1) := by
  rw [← sub_add]; exact h.add h'.neg
theorem Sz.mul {x y : Int} {s t K L : Nat} (h : Sz x s K) (h' : Sz y t L) : Sz (x * y) (s + t) (K + L) := by
  unfold Sz at h h' ⊢
  rw [Int.natAbs_mul]
  have e : K + L + (s + t) = (K + s) + (L + t) := by omega
  rw [e, Nat.pow_add]
  exact Nat.mul_lt_mul'' h h'
theorem Sz.of_len {x : Int} {s n : Nat} (h : (dg x.natAbs).length ≤ n) : Sz x s (9 * n) := Nat.lt_of_lt_of_le (ten_of_len h) (Nat.pow_le_pow_right (by omega) (by omega))
theorem Sz.strip {x : Int} {s K L : Nat} (h : Sz x s K) : Sz (stripI x s L) (s - stripK x s L) K := by
  unfold Sz at h ⊢
  have hk := stripK_le x s L
  unfold stripI
  rw [abs_sgn]
  refine Nat.div_lt_of_lt_mul ?_
  rw [← Nat.pow_add]
  have e : stripK x s L + (K + (s - stripK x s L)) = K + s := by omega
  rw [e]; exact h
theorem Sz.pow {x : Int} {s K : Nat} (h : Sz x s K) : ∀ k, Sz (x ^ k) (s * k) (K * k + 1) := by
  intro k
  induction k with
  | zero => show (x ^ 0).natAbs < _; rw [Int.pow_zero, Nat.mul_zero, Nat.mul_zero]; decide
  | succ k ih =>
    have := ih.mul h
    rw [Int.pow_succ]
    have e1 : K * k + 1 + K = K * (k + 1) + 1 := by rw [Nat.mul_succ]; omega
    have e2 : s * k + s = s * (k + 1) := (Nat.mul_succ s k).symm
    rw [e1, e2] at this
    exact this

theorem len_one {w : World} {B n c a : Nat} {A : Option Addr} (h : Num w B A n c a) (ha : a < 1000000000) : n ≤ 1 := by
  rw [← h.len]; exact dg_len_le (by omega)
theorem len_le {w : World} {B n c a m : Nat} {A : Option Addr} (h : Num w B A n c a) (ha : (dg a).length ≤ m) : n ≤ m := by rw [← h.len]; exact ha

section
variable {A A' : Option Addr} {n c n' c' s t M : Nat} {i j x y : Int} {w : World}
end

end Go.Proofs.YtjkandnbjbfeiaaDoor.Num
