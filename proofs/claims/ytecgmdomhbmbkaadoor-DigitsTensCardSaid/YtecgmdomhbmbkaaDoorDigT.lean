/-
  The walk of the law DigitsTens.
-/
import Derived.Test.YtecgmdomhbmbkaaDoorDigH
import Derived.Test.YtecgmdomhbmbkaaDoorNatI
namespace Go.Proofs.YtecgmdomhbmbkaaDoor
open Go.RowKit

theorem Env.one5 {w : World} {A1 : Option Addr} {n1 c1 a : Nat} (h1 : Num w w.heap.size A1 n1 c1 a) : Hid (Env w w [(A1, n1, c1, a)]) := by
  refine ⟨Below.refl _ _, fun q hq => ?_⟩
  rcases List.mem_cons.1 hq with rfl | hq
  · exact h1
  · cases hq
theorem pow10_len {N k : Nat} (h : N < 9 * k) : (dg (10 ^ N)).length ≤ k := by
  refine dg_len_le ?_
  rw [pow9]
  exact Nat.pow_lt_pow_right (by omega) h
theorem len_pos_of {a n : Nat} (h : (dg a).length = n) (ha : 0 < a) : 0 < n := by
  rw [← h, dg_pos ha]; simp
theorem shift_len {a n N : Nat} (h : (dg a).length = n) (hN : N ≤ 255) : (dg (a * 10 ^ N)).length ≤ n + 30 := by
  have h1 := dg_len_mul a (10 ^ N)
  have h2 := pow10_len (N := N) (k := 30) (by omega)
  omega
theorem len_le_of {w : World} {B n c a m : Nat} {A : Option Addr} (h : Num w B A n c a) (ha : (dg a).length ≤ m) : n ≤ m := by rw [← h.len]; exact ha
theorem str_size4 (l : List Nat) : (str l).size = l.length := by
  show (l.map UInt8.ofNat).toArray.size = _
  simp

set_option maxHeartbeats 1000000 in
set_option maxRecDepth 100000 in
theorem tens_bad (A1 : Option Addr) (n1 c1 N : Nat) (x1 : List Nat) (w : World) (h1 : Hid (Lim w w.heap.size A1 n1 c1 x1)) (hbad : decide (60 < (n1 : Int)) = true ∨ (decide (60 < (n1 : Int)) = false ∧ rightB x1 = false)) :
    Calls Tryd.prog 5 #[.slice A1 n1 c1, .int .u8 N] w (RetVal w (.bool true)) := by
  rcases hbad with hl | ⟨hl, hr⟩
  all_goals
    go_enter Tryd.func5, Tryd.ntmps5
    go_wp2_with (first | (go_at_call 19; refine (long_any _ _ _ _).mono ?_; rintro e w' ⟨rfl, rfl⟩) | (go_at_call 6; refine (refRight_any A1 n1 c1 _ x1 _ h1.out).mono ?_; rintro e w' ⟨rfl, rfl⟩) | (go_at_call 7; refine (awake_any _).mono ?_; rintro e w' ⟨rfl, hb⟩; have HB := Lib.hid hb; clear hb))
    go_ret
    exact ⟨rfl, HB.out⟩

set_option maxHeartbeats 2000000 in
set_option maxRecDepth 100000 in
theorem tens_zero (A1 : Option Addr) (c1 N : Nat) (w : World) (h1 : Num w w.heap.size A1 0 c1 0) (hN : N ≤ 255) :
    Calls Tryd.prog 5 #[.slice A1 0 c1, .int .u8 N] w (RetVal w (.bool true)) := by
  have E := Env.one5 h1
  have hr := right_dg 0
  have hl : decide (60 < ((0 : Nat) : Int)) = false := by decide
  have e0 : Hid (0 * 10 ^ N = 0) := Nat.zero_mul _
  have e1 : Hid (0 / 10 ^ N = 0) := Nat.zero_div _
  clear h1
  go_enter Tryd.func5, Tryd.ntmps5
  go_wp2_with fail
  refine (long_any _ _ _ _).mono ?_; rintro e w' ⟨rfl, rfl⟩
  go_wp2_with fail
  refine (refRight_any A1 0 c1 _ (dg 0) _ (Env.get E (by simp))).mono ?_; rintro e w' ⟨rfl, rfl⟩
  go_wp2_with fail
  refine (shift_is (a := 0) (k := N) (m := 0) (Env.get E (A := A1) (n := 0) (c := c1) (by simp)) (by omega) (by omega) rfl e0.out).mono ?_; rintro e w2 ⟨A2, n2, c2, rfl, h, hb⟩; replace E := Env.push E hb h
  have l2 : n2 ≤ 0 := len_le_of h (by rw [dg_zero]; exact Nat.le_refl _)
  clear h hb
  go_wp2_with fail
  refine (drop_is (a := 0) (k := N) (m := 0) (Env.get E (A := A2) (n := n2) (c := c2) (by simp)) (by omega) (by omega) rfl e1.out).mono ?_; rintro e w3 ⟨A3, n3, c3, rfl, h, hb⟩; replace E := Env.push E hb h
  clear h hb
  go_wp2_with fail
  refine (same_is (a := 0) (b := 0) (Env.get E (A := A3) (n := n3) (c := c3) (by simp)) (Env.get E (A := A1) (n := 0) (c := c1) (by simp)) rfl).mono ?_; rintro e w4 ⟨rfl, hb⟩; replace E := Env.step E hb
  clear hb
  go_wp2_with fail
  refine (awake_any _).mono ?_; rintro e w99 ⟨rfl, hb⟩; replace E := Env.step E hb
  clear hb
  go_wp2_with fail
  go_ret
  exact ⟨rfl, E.out.1⟩

set_option maxHeartbeats 2000000 in
set_option maxRecDepth 100000 in
theorem tens_good (A1 : Option Addr) (n1 c1 a N : Nat) (w : World) (h1 : Num w w.heap.size A1 n1 c1 a) (hl : decide (60 < (n1 : Int)) = false) (hN : N ≤ 255) (ha : 0 < a) :
    Calls Tryd.prog 5 #[.slice A1 n1 c1, .int .u8 N] w (RetVal w (.bool true)) := by
  have hn1 := len_small hl
  have hp := len_pos_of h1.len ha
  have hne : ((n1 : Int) == 0) = false := by simp; omega
  have hr := right_dg a
  have E := Env.one5 h1
  have LS := Lib.hid (shift_len h1.len hN)
  have e1 : Hid (a * 10 ^ N / 10 ^ N = a) := Nat.mul_div_cancel _ (Nat.pow_pos (by omega))
  have hnd := nd_le_len h1.len
  have htz := tz_lt ha
  obtain ⟨m1, hm1⟩ : ∃ m, tz (a * 10 ^ N) = m := ⟨_, rfl⟩
  obtain ⟨m2, hm2⟩ : ∃ m, tz a = m := ⟨_, rfl⟩
  obtain ⟨s1, hs1⟩ : ∃ s, str (txt (a * 10 ^ N)) = s := ⟨_, rfl⟩
  obtain ⟨s2, hs2⟩ : ∃ s, str (txt a) = s := ⟨_, rfl⟩
  have hz1 : s1.size = nd a + N := by rw [← hs1, str_size4, ← nd_mul ha]; rfl
  have hz2 : s2.size = nd a := by rw [← hs2, str_size4]; rfl
  have hq := tz_mul ha N
  rw [hm1, hm2] at hq
  rw [hm2] at htz
  have q1 : ((m1 : Int) == (m2 : Int) + (N : Int)) = true := by rw [beq_iff_eq]; omega
  have q2 : ((s1.size : Int) == (s2.size : Int) + (N : Int)) = true := by rw [beq_iff_eq]; omega
  have b1 : m2 ≤ 1000 := by omega
  have b2 : s2.size ≤ 1000 := by omega
  have M1 := Lib.hid hm1
  have M2 := Lib.hid hm2
  have S1 := Lib.hid hs1
  have S2 := Lib.hid hs2
  obtain ⟨X, hX⟩ : ∃ X, a * 10 ^ N = X := ⟨_, rfl⟩
  rw [hX] at LS e1 M1 S1
  have HX := Lib.hid hX
  clear h1 ha hm1 hm2 hs1 hs2 hz1 hz2 hq htz hnd hX
  go_enter Tryd.func5, Tryd.ntmps5
  go_wp2_with fail
  refine (long_any _ _ _ _).mono ?_; rintro e w' ⟨rfl, rfl⟩
  go_wp2_with fail
  refine (refRight_any A1 n1 c1 _ (dg a) _ (Env.get E (by simp))).mono ?_; rintro e w' ⟨rfl, rfl⟩
  go_wp2_with fail
  refine (shift_is (a := a) (k := N) (m := X) (Env.get E (A := A1) (n := n1) (c := c1) (by simp)) (by omega) (by omega) rfl HX.out).mono ?_; rintro e w2 ⟨A2, n2, c2, rfl, h, hb⟩; replace E := Env.push E hb h
  have l2 : n2 ≤ n1 + 30 := len_le_of h LS.out
  clear h hb
  go_wp2_with fail
  refine (drop_is (a := X) (k := N) (m := a) (Env.get E (A := A2) (n := n2) (c := c2) (by simp)) (by omega) (by omega) rfl e1.out).mono ?_; rintro e w3 ⟨A3, n3, c3, rfl, h, hb⟩; replace E := Env.push E hb h
  clear h hb
  go_wp2_with fail
  refine (same_is (a := a) (b := a) (Env.get E (A := A3) (n := n3) (c := c3) (by simp)) (Env.get E (A := A1) (n := n1) (c := c1) (by simp)) rfl).mono ?_; rintro e w4 ⟨rfl, hb⟩; replace E := Env.step E hb
  clear hb
  go_wp2_with fail
  refine (noughts_is (a := X) (Env.get E (A := A2) (n := n2) (c := c2) (by simp)) (by omega) M1.out).mono ?_; rintro e w' ⟨rfl, rfl⟩
  go_wp2_with fail
  refine (noughts_is (a := a) (Env.get E (A := A1) (n := n1) (c := c1) (by simp)) (by omega) M2.out).mono ?_; rintro e w' ⟨rfl, rfl⟩
  go_wp2_with fail
  refine (text_is (a := X) (Env.get E (A := A2) (n := n2) (c := c2) (by simp)) (by omega) S1.out).mono ?_; rintro e w5 ⟨rfl, hb⟩; replace E := Env.step E hb
  clear hb
  go_wp2_with fail
  refine (text_is (a := a) (Env.get E (A := A1) (n := n1) (c := c1) (by simp)) (by omega) S2.out).mono ?_; rintro e w6 ⟨rfl, hb⟩; replace E := Env.step E hb
  clear hb
  go_wp2_with fail
  refine (awake_any _).mono ?_; rintro e w99 ⟨rfl, hb⟩; replace E := Env.step E hb
  clear hb
  go_wp2_with fail
  go_ret
  exact ⟨rfl, E.out.1⟩

theorem tens_any (A1 : Option Addr) (n1 c1 N : Nat) (x1 : List Nat) (w : World) (h1 : Hid (Lim w w.heap.size A1 n1 c1 x1)) (hN : N ≤ 255) :
    Calls Tryd.prog 5 #[.slice A1 n1 c1, .int .u8 N] w (RetVal w (.bool true)) := by
  cases hl : decide (60 < (n1 : Int)) with
  | true => exact tens_bad A1 n1 c1 N x1 w h1 (.inl hl)
  | false =>
    cases hr : rightB x1 with
    | false => exact tens_bad A1 n1 c1 N x1 w h1 (.inr ⟨hl, hr⟩)
    | true =>
      have hn := h1.out.num hr
      rcases Nat.eq_zero_or_pos (val x1) with h0 | h0
      · rw [h0] at hn
        obtain rfl : n1 = 0 := hn.len.symm.trans (by rw [dg_zero]; rfl)
        exact tens_zero A1 c1 N w hn hN
      · exact tens_good A1 n1 c1 _ N w hn hl hN h0
theorem tens_law (W : World) (a : Option Addr) (n c : Nat) (x : List Nat) (h : Hid (Lim W W.heap.size a n c x)) (N : Nat) (hN : N ≤ 255) :
    Calls Tryd.prog 5 #[.slice a n c, .int .u8 N] W (RetVal W (.bool true)) := tens_any a n c N x W h hN

end Go.Proofs.YtecgmdomhbmbkaaDoor
