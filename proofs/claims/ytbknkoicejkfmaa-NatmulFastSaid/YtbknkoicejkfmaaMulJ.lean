/-
  The walk of the law NatmulTens.
-/
import Derived.Test.YtbknkoicejkfmaaMulI
namespace Go.Proofs.Ytbknkoicejkfmaa
open Go.RowKit

theorem ten_pow_len (n : Nat) : (dg (10 ^ n)).length ≤ n + 1 := by
  apply dg_len_le
  refine Nat.lt_of_lt_of_le (show 10 ^ n < 10 ^ (n + 1) from Nat.pow_lt_pow_right (by omega) (by omega)) ?_
  exact Nat.pow_le_pow_left (by omega) _

set_option maxHeartbeats 1000000 in
set_option maxRecDepth 100000 in
theorem tens_bad (A1 : Option Addr) (n1 c1 n m : Nat) (x1 : List Nat) (w : World) (h1 : Hid (Lim w w.heap.size A1 n1 c1 x1)) (hbad : ¬ (decide (60 < (n1 : Int)) = false ∧ rightB x1 = true)) :
    Calls Try.prog 6 #[.slice A1 n1 c1, .int .u8 n, .int .u8 m] w (RetVal w (.bool true)) := by
  obtain hl1 | ⟨hl1, hr1⟩ : decide (60 < (n1 : Int)) = true ∨ (decide (60 < (n1 : Int)) = false ∧ rightB x1 = false) := by
    revert hbad
    cases decide (60 < (n1 : Int)) <;> cases rightB x1 <;> simp
  all_goals
    clear hbad
    go_enter Try.func6, Try.ntmps6
    go_wp2_with (first | (go_at_call 8; refine (long_any _ _ _ _).mono ?_; rintro e w' ⟨rfl, rfl⟩) | (go_at_call 9; ((with_reducible refine (refRight_any A1 n1 c1 _ x1 _ h1.out).mono ?_); rintro e w' ⟨rfl, rfl⟩)) | (go_at_call 10; refine (awake_any _).mono ?_; rintro e w' ⟨rfl, hb⟩; have HB := Lib.hid hb; clear hb))
    go_ret
    exact ⟨rfl, HB.out⟩

theorem Env.one {w : World} {A1 : Option Addr} {n1 c1 a : Nat} (h1 : Num w w.heap.size A1 n1 c1 a) : Hid (Env w w [(A1, n1, c1, a)]) := by
  refine ⟨Below.refl _ _, fun q hq => ?_⟩
  rcases List.mem_cons.1 hq with rfl | hq
  · exact h1
  · cases hq

set_option maxHeartbeats 1000000 in
set_option maxRecDepth 100000 in
theorem tens_good (A1 : Option Addr) (n1 c1 n m a : Nat) (w : World) (h1 : Num w w.heap.size A1 n1 c1 a) (hl1 : decide (60 < (n1 : Int)) = false) (hn : n ≤ 255) (hm : m ≤ 255) :
    Calls Try.prog 6 #[.slice A1 n1 c1, .int .u8 n, .int .u8 m] w (RetVal w (.bool true)) := by
  have s1 := len_small hl1
  have L1 := Lib.hid h1.len
  have hr1 := right_dg a
  have E := Env.one h1
  clear h1
  obtain ⟨t, ht⟩ : ∃ t, 10 ^ n = t := ⟨_, rfl⟩
  obtain ⟨y, hy⟩ : ∃ y, a * t * 10 ^ m = y := ⟨_, rfl⟩
  have LT : Hid ((dg t).length ≤ 256) := by show _ ≤ _; have := ten_pow_len n; rw [ht] at this; omega
  have HX : Hid (a * 10 ^ n = a * t) := by show _ = _; rw [ht]
  have HT := Lib.hid ht
  have HY := Lib.hid hy
  have HZ : Hid (a * 10 ^ (n + m) = y) := by show _ = _; rw [← hy, ← ht, Nat.pow_add, Nat.mul_assoc]
  clear ht hy
  go_enter Try.func6, Try.ntmps6
  go_wp2_with (first | (go_at_call 8; refine (long_any _ _ _ _).mono ?_; rintro e w' ⟨rfl, rfl⟩) | (go_at_call 9; ((with_reducible refine (refRight_any A1 n1 c1 _ (dg a) _ (Env.get E (by simp))).mono ?_); rintro e w' ⟨rfl, rfl⟩)) | fail)
  clear hl1 hr1
  refine (shift_is (a := a) (k := n) (m := a * t) (Env.get E (A := A1) (n := n1) (c := c1) (by simp)) (by omega) (by omega) rfl HX.out).mono ?_; rintro e w2 ⟨A2, n2, c2, rfl, h, hb⟩; replace E := Env.push E hb h
  have s2 : n2 ≤ 316 := by have := mul_len h (Nat.le_of_eq L1.out) LT.out; omega
  clear h hb
  go_wp2_with fail
  refine (shift_is (a := a * t) (k := m) (m := y) (Env.get E (A := A2) (n := n2) (c := c2) (by simp)) (by omega) (by omega) rfl HY.out).mono ?_; rintro e w3 ⟨A3, n3, c3, rfl, h, hb⟩; replace E := Env.push E hb h
  clear h hb
  go_wp2_with fail
  refine (shift_is (a := a) (k := n + m) (m := y) (Env.get E (A := A1) (n := n1) (c := c1) (by simp)) (by omega) (by omega) (by omega) HZ.out).mono ?_; rintro e w4 ⟨A4, n4, c4, rfl, h, hb⟩; replace E := Env.push E hb h
  clear h hb
  go_wp2_with fail
  refine (ten_is (k := n) (m := t) (by omega) rfl HT.out).mono ?_; rintro e w5 ⟨A5, n5, c5, rfl, h, hb⟩; replace E := Env.push E hb h
  have s5 : n5 ≤ 256 := by have := LT.out; rwa [h.len] at this
  clear h hb
  go_wp2_with fail
  refine (same_is (a := y) (b := y) (Env.get E (A := A3) (n := n3) (c := c3) (by simp)) (Env.get E (A := A4) (n := n4) (c := c4) (by simp)) rfl).mono ?_; rintro e w6 ⟨rfl, hb⟩; replace E := Env.step E hb
  clear hb
  go_wp2_with fail
  refine (mul_is (a := a) (b := t) (Env.get E (A := A1) (n := n1) (c := c1) (by simp)) (Env.get E (A := A5) (n := n5) (c := c5) (by simp)) (by omega) (by omega) rfl).mono ?_; rintro e w7 ⟨A7, n7, c7, rfl, h, hb⟩; replace E := Env.push E hb h
  clear h hb
  go_wp2_with fail
  refine (same_is (a := a * t) (b := a * t) (Env.get E (A := A7) (n := n7) (c := c7) (by simp)) (Env.get E (A := A2) (n := n2) (c := c2) (by simp)) rfl).mono ?_; rintro e w8 ⟨rfl, hb⟩; replace E := Env.step E hb
  clear hb
  go_wp2_with fail
  refine (right_is (xs := dg (a * t)) (t := true) (Env.get E (A := A2) (n := n2) (c := c2) (by simp)) (right_dg _)).mono ?_; rintro e w' ⟨rfl, rfl⟩
  go_wp2_with fail
  refine (awake_any _).mono ?_; rintro e w9 ⟨rfl, hb⟩; replace E := Env.step E hb
  clear hb
  go_wp2_with fail
  go_ret
  exact ⟨rfl, E.out.1⟩

theorem tens_any (A1 : Option Addr) (n1 c1 n m : Nat) (x1 : List Nat) (w : World) (h1 : Hid (Lim w w.heap.size A1 n1 c1 x1)) (hn : n ≤ 255) (hm : m ≤ 255) :
    Calls Try.prog 6 #[.slice A1 n1 c1, .int .u8 n, .int .u8 m] w (RetVal w (.bool true)) := by
  by_cases hg : decide (60 < (n1 : Int)) = false ∧ rightB x1 = true
  · exact tens_good A1 n1 c1 n m _ w (h1.out.num hg.2) hg.1 hn hm
  · exact tens_bad A1 n1 c1 n m x1 w h1 hg

end Go.Proofs.Ytbknkoicejkfmaa
