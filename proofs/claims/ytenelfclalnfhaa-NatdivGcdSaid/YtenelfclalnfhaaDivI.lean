/-
  The walks of the laws NatdivBack and NatdivNear.
-/
import Derived.Test.YtenelfclalnfhaaDivH
import Derived.Test.YtenelfclalnfhaaMulI
namespace Go.Proofs.Ytenelfclalnfhaa
open Go.RowKit

theorem num_zero {w : World} {B n c b : Nat} {A : Option Addr} (h : Num w B A n c b) (hb : b = 0) : n = 0 := by
  subst hb; exact h.len.symm.trans (by rw [dg_zero]; rfl)
set_option maxHeartbeats 1000000 in
set_option maxRecDepth 100000 in
theorem back_bad (A1 A2 : Option Addr) (n1 n2 c1 c2 : Nat) (x1 x2 : List Nat) (w : World) (h1 : Hid (Lim w w.heap.size A1 n1 c1 x1)) (h2 : Hid (Lim w w.heap.size A2 n2 c2 x2))
    (hbad : ¬ (n1 ≤ 30 ∧ n2 ≤ 30 ∧ rightB x1 = true ∧ rightB x2 = true)) :
    Calls Try.prog 4 #[.slice A1 n1 c1, .slice A2 n2 c2] w (RetVal w (.bool true)) := by
  have C := Lib.hid (long_yes h1.out h2.out hbad)
  clear hbad
  go_enter Try.func4, Try.ntmps4
  go_wp2_with fail
  refine C.out.mono ?_; rintro e w' ⟨rfl, rfl⟩
  go_wp2_with fail
  refine (awake_any _).mono ?_; rintro e w' ⟨rfl, hb⟩; have HB := Lib.hid hb; clear hb
  go_wp2_with fail
  go_ret
  exact ⟨rfl, HB.out⟩

set_option maxHeartbeats 2000000 in
set_option maxRecDepth 100000 in
theorem back_zero (A1 A2 : Option Addr) (n1 n2 c1 c2 a b : Nat) (w : World) (h1 : Num w w.heap.size A1 n1 c1 a) (h2 : Num w w.heap.size A2 n2 c2 b) (hl1 : n1 ≤ 30) (hl2 : n2 ≤ 30) (hb0 : b = 0) :
    Calls Try.prog 4 #[.slice A1 n1 c1, .slice A2 n2 c2] w (RetVal w (.bool true)) := by
  have L1 := Lib.hid h1.len
  have L2 := Lib.hid h2.len
  have C := Lib.hid (long_no h1 h2 hl1 hl2 (right_dg a) (right_dg b))
  obtain rfl := num_zero h2 hb0
  subst hb0
  have E := Env.two h1 h2
  clear h1 h2
  go_enter Try.func4, Try.ntmps4
  go_wp2_with fail
  refine C.out.mono ?_; rintro e w' ⟨rfl, rfl⟩
  go_wp2_with fail
  refine (div_zero A1 A2 n1 c1 c2 a _ (Env.get E (A := A1) (n := n1) (c := c1) (by simp)) (Env.get E (A := A2) (n := 0) (c := c2) (a := 0) (by simp))).mono ?_; rintro e w3 ⟨rfl, hb⟩; replace E := Env.step E hb
  clear hb
  go_wp2_with fail
  refine (awake_any _).mono ?_; rintro e w99 ⟨rfl, hb⟩; replace E := Env.step E hb
  clear hb
  go_wp2_with fail
  go_ret
  exact ⟨rfl, E.out.1⟩

set_option maxHeartbeats 2000000 in
set_option maxRecDepth 100000 in
theorem back_good (A1 A2 : Option Addr) (n1 n2 c1 c2 a b : Nat) (w : World) (h1 : Num w w.heap.size A1 n1 c1 a) (h2 : Num w w.heap.size A2 n2 c2 b) (hl1 : n1 ≤ 30) (hl2 : n2 ≤ 30) (hb0 : 0 < b) :
    Calls Try.prog 4 #[.slice A1 n1 c1, .slice A2 n2 c2] w (RetVal w (.bool true)) := by
  have L1 := Lib.hid h1.len
  have L2 := Lib.hid h2.len
  have C := Lib.hid (long_no h1 h2 hl1 hl2 (right_dg a) (right_dg b))
  have hn2 := dg_len_pos h2.len hb0
  have HB0 := Lib.hid hb0
  clear hb0
  have E := Env.two h1 h2
  clear h1 h2
  go_enter Try.func4, Try.ntmps4
  go_wp2_with fail
  refine C.out.mono ?_; rintro e w' ⟨rfl, rfl⟩
  go_wp2_with fail
  refine (div_is (a := a) (b := b) (q := a / b) (r := a % b) (Env.get E (A := A1) (n := n1) (c := c1) (by simp)) (Env.get E (A := A2) (n := n2) (c := c2) (by simp)) (by omega) HB0.out rfl rfl).mono ?_; rintro e w3 ⟨A3, n3, c3, A4, n4, c4, rfl, h, h2, hb⟩; replace E := Env.push E hb h; replace E := Env.push E (Below.refl _ _) h2
  have l3 : n3 ≤ 30 := by rw [← h.len]; exact Nat.le_trans (div_len_le L1.out) (by omega)
  have l4 : n4 ≤ 30 := by rw [← h2.len]; exact Nat.le_trans (mod_len_le L1.out) (by omega)
  clear h h2 hb
  go_wp2_with fail
  refine (mul_is (a := a) (b := b) (Env.get E (A := A1) (n := n1) (c := c1) (by simp)) (Env.get E (A := A2) (n := n2) (c := c2) (by simp)) (by omega) (by omega) rfl).mono ?_; rintro e w5 ⟨A5, n5, c5, rfl, h, hb⟩; replace E := Env.push E hb h
  have l5 : n5 ≤ 60 := by have := mul_len h (Nat.le_of_eq L1.out) (Nat.le_of_eq L2.out); omega
  clear h hb
  go_wp2_with fail
  refine (div_is (a := a * b) (b := b) (q := a) (r := 0) (Env.get E (A := A5) (n := n5) (c := c5) (by simp)) (Env.get E (A := A2) (n := n2) (c := c2) (by simp)) (by omega) HB0.out (Nat.mul_div_cancel _ HB0.out) (Nat.mul_mod_left _ _)).mono ?_; rintro e w6 ⟨A6, n6, c6, A7, n7, c7, rfl, h, h2, hb⟩; replace E := Env.push E hb h; replace E := Env.push E (Below.refl _ _) h2
  obtain rfl : n7 = 0 := num_zero h2 rfl
  clear h h2 hb
  go_wp2_with fail
  refine (right_is (xs := dg (a / b)) (t := true) (Env.get E (A := A3) (n := n3) (c := c3) (by simp)) (right_dg _)).mono ?_; rintro e w' ⟨rfl, rfl⟩
  go_wp2_with fail
  refine (right_is (xs := dg (a % b)) (t := true) (Env.get E (A := A4) (n := n4) (c := c4) (by simp)) (right_dg _)).mono ?_; rintro e w' ⟨rfl, rfl⟩
  go_wp2_with fail
  refine (cmp_is (a := a % b) (b := b) (Env.get E (A := A4) (n := n4) (c := c4) (by simp)) (Env.get E (A := A2) (n := n2) (c := c2) (by simp)) (s := -1) (cmpN_lt (Nat.mod_lt _ HB0.out))).mono ?_; rintro e w8 ⟨rfl, hb⟩; replace E := Env.step E hb
  clear hb
  go_wp2_with fail
  refine (mul_is (a := a / b) (b := b) (Env.get E (A := A3) (n := n3) (c := c3) (by simp)) (Env.get E (A := A2) (n := n2) (c := c2) (by simp)) (by omega) (by omega) rfl).mono ?_; rintro e w9 ⟨A9, n9, c9, rfl, h, hb⟩; replace E := Env.push E hb h
  have l9 : n9 ≤ 60 := by have := mul_len h (Nat.le_trans (div_len_le L1.out) hl1) (Nat.le_of_eq L2.out); omega
  clear h hb
  go_wp2_with fail
  refine (add_is (a := a / b * b) (b := a % b) (m := a) (Env.get E (A := A9) (n := n9) (c := c9) (by simp)) (Env.get E (A := A4) (n := n4) (c := c4) (by simp)) (by omega) (by omega) (Nat.div_add_mod' _ _)).mono ?_; rintro e w10 ⟨A10, n10, c10, rfl, h, hb⟩; replace E := Env.push E hb h
  clear h hb
  go_wp2_with fail
  refine (same_is (a := a) (b := a) (Env.get E (A := A10) (n := n10) (c := c10) (by simp)) (Env.get E (A := A1) (n := n1) (c := c1) (by simp)) rfl).mono ?_; rintro e w11 ⟨rfl, hb⟩; replace E := Env.step E hb
  clear hb
  go_wp2_with fail
  refine (same_is (a := a) (b := a) (Env.get E (A := A6) (n := n6) (c := c6) (by simp)) (Env.get E (A := A1) (n := n1) (c := c1) (by simp)) rfl).mono ?_; rintro e w12 ⟨rfl, hb⟩; replace E := Env.step E hb
  clear hb
  go_wp2_with fail
  refine (awake_any _).mono ?_; rintro e w99 ⟨rfl, hb⟩; replace E := Env.step E hb
  clear hb
  go_wp2_with fail
  go_ret
  exact ⟨rfl, E.out.1⟩

theorem back_any (A1 A2 : Option Addr) (n1 n2 c1 c2 : Nat) (x1 x2 : List Nat) (w : World) (h1 : Hid (Lim w w.heap.size A1 n1 c1 x1)) (h2 : Hid (Lim w w.heap.size A2 n2 c2 x2)) :
    Calls Try.prog 4 #[.slice A1 n1 c1, .slice A2 n2 c2] w (RetVal w (.bool true)) := by
  by_cases hg : n1 ≤ 30 ∧ n2 ≤ 30 ∧ rightB x1 = true ∧ rightB x2 = true
  · obtain ⟨l1, l2, r1, r2⟩ := hg
    rcases Nat.eq_zero_or_pos (val x2) with h0 | h0
    · exact back_zero A1 A2 n1 n2 c1 c2 _ _ w (h1.out.num r1) (h2.out.num r2) l1 l2 h0
    · exact back_good A1 A2 n1 n2 c1 c2 _ _ w (h1.out.num r1) (h2.out.num r2) l1 l2 h0
  · exact back_bad A1 A2 n1 n2 c1 c2 x1 x2 w h1 h2 hg

theorem near_low {a b : Nat} (hb : 0 < b) (h : nearN a b * b ≤ a) : a - nearN a b * b + (a - nearN a b * b) < b ∨ (a - nearN a b * b + (a - nearN a b * b) = b ∧ nearN a b % 2 = 0) := by
  have h1 := Nat.div_add_mod' a b
  have h2 := Nat.mod_lt a hb
  unfold nearN at h ⊢
  generalize a / b = q at *
  generalize a % b = r at *
  by_cases c1 : b < 2 * r
  · rw [if_pos c1, Nat.add_mul] at h; omega
  · rw [if_neg c1] at h ⊢
    by_cases c2 : 2 * r = b ∧ q % 2 = 1
    · rw [if_pos c2, Nat.add_mul] at h; omega
    · rw [if_neg c2] at h ⊢; omega
theorem near_up {a b : Nat} (hb : 0 < b) (h : a < nearN a b * b) : nearN a b * b - a + (nearN a b * b - a) < b ∨ (nearN a b * b - a + (nearN a b * b - a) = b ∧ nearN a b % 2 = 0) := by
  have h1 := Nat.div_add_mod' a b
  have h2 := Nat.mod_lt a hb
  unfold nearN at h ⊢
  generalize a / b = q at *
  generalize a % b = r at *
  by_cases c1 : b < 2 * r
  · rw [if_pos c1, Nat.add_mul] at h ⊢; omega
  · rw [if_neg c1] at h ⊢
    by_cases c2 : 2 * r = b ∧ q % 2 = 1
    · rw [if_pos c2, Nat.add_mul] at h ⊢; omega
    · rw [if_neg c2] at h ⊢; omega
theorem near_len {a b n : Nat} (h : (dg a).length = n) : (dg (nearN a b)).length ≤ n + 1 := by
  have h1 : nearN a b ≤ a + 1 := by
    have : a / b ≤ a := Nat.div_le_self _ _
    unfold nearN
    split
    · omega
    · split <;> omega
  have h2 := dg_len_mono h1
  have h3 := dg_len_add a 1
  have h4 : (dg 1).length ≤ 1 := dg_len_le (by decide)
  rcases Nat.eq_zero_or_pos n with h0 | h0
  · subst h0
    have ha := dg_eq_nil.1 (List.eq_nil_of_length_eq_zero h)
    exact dg_len_le (by omega)
  · omega

set_option maxHeartbeats 1000000 in
set_option maxRecDepth 100000 in
theorem dnear_bad (A1 A2 : Option Addr) (n1 n2 c1 c2 : Nat) (x1 x2 : List Nat) (w : World) (h1 : Hid (Lim w w.heap.size A1 n1 c1 x1)) (h2 : Hid (Lim w w.heap.size A2 n2 c2 x2))
    (hbad : ¬ (n1 ≤ 30 ∧ n2 ≤ 30 ∧ rightB x1 = true ∧ rightB x2 = true)) :
    Calls Try.prog 6 #[.slice A1 n1 c1, .slice A2 n2 c2] w (RetVal w (.bool true)) := by
  have C := Lib.hid (long_yes h1.out h2.out hbad)
  clear hbad
  go_enter Try.func6, Try.ntmps6
  go_wp2_with fail
  refine C.out.mono ?_; rintro e w' ⟨rfl, rfl⟩
  go_wp2_with fail
  refine (awake_any _).mono ?_; rintro e w' ⟨rfl, hb⟩; have HB := Lib.hid hb; clear hb
  go_wp2_with fail
  go_ret
  exact ⟨rfl, HB.out⟩

set_option maxHeartbeats 2000000 in
set_option maxRecDepth 100000 in
theorem dnear_zero (A1 A2 : Option Addr) (n1 n2 c1 c2 a b : Nat) (w : World) (h1 : Num w w.heap.size A1 n1 c1 a) (h2 : Num w w.heap.size A2 n2 c2 b) (hl1 : n1 ≤ 30) (hl2 : n2 ≤ 30) (hb0 : b = 0) :
    Calls Try.prog 6 #[.slice A1 n1 c1, .slice A2 n2 c2] w (RetVal w (.bool true)) := by
  have L1 := Lib.hid h1.len
  have L2 := Lib.hid h2.len
  have C := Lib.hid (long_no h1 h2 hl1 hl2 (right_dg a) (right_dg b))
  obtain rfl := num_zero h2 hb0
  subst hb0
  have E := Env.two h1 h2
  clear h1 h2
  go_enter Try.func6, Try.ntmps6
  go_wp2_with fail
  refine C.out.mono ?_; rintro e w' ⟨rfl, rfl⟩
  go_wp2_with fail
  refine (awake_any _).mono ?_; rintro e w99 ⟨rfl, hb⟩; replace E := Env.step E hb
  clear hb
  go_wp2_with fail
  go_ret
  exact ⟨rfl, E.out.1⟩

set_option maxHeartbeats 2000000 in
set_option maxRecDepth 100000 in
theorem dnear_low_even (A1 A2 : Option Addr) (n1 n2 c1 c2 a b : Nat) (w : World) (h1 : Num w w.heap.size A1 n1 c1 a) (h2 : Num w w.heap.size A2 n2 c2 b) (hl1 : n1 ≤ 30) (hl2 : n2 ≤ 30) (hb0 : 0 < b) (q d : Nat) (HQ : Hid (nearN a b = q)) (HLE : Hid (q * b ≤ a)) (HD : Hid (a - q * b = d)) (HC : Hid (d + d = b)) (HE : Hid (decide (q % 2 = 0) = true)) :
    Calls Try.prog 6 #[.slice A1 n1 c1, .slice A2 n2 c2] w (RetVal w (.bool true)) := by
  have L1 := Lib.hid h1.len
  have L2 := Lib.hid h2.len
  have C := Lib.hid (long_no h1 h2 hl1 hl2 (right_dg a) (right_dg b))
  have hn2 := dg_len_pos h2.len hb0
  have HB0 := Lib.hid hb0
  have LQ : Hid ((dg q).length ≤ n1 + 1) := by show _ ≤ _; rw [← HQ.out]; exact near_len h1.len
  clear hb0
  have E := Env.two h1 h2
  clear h1 h2
  go_enter Try.func6, Try.ntmps6
  go_wp2_with fail
  refine C.out.mono ?_; rintro e w' ⟨rfl, rfl⟩
  go_wp2_with fail
  refine (near_is (a := a) (b := b) (m := q) (Env.get E (A := A1) (n := n1) (c := c1) (by simp)) (Env.get E (A := A2) (n := n2) (c := c2) (by simp)) (by omega) HB0.out HQ.out).mono ?_; rintro e w3 ⟨A3, n3, c3, rfl, h, hb⟩; replace E := Env.push E hb h
  have l3 : n3 ≤ 31 := by rw [← h.len]; exact Nat.le_trans LQ.out (by omega)
  clear h hb
  go_wp2_with fail
  refine (mul_is (a := q) (b := b) (m := q * b) (Env.get E (A := A3) (n := n3) (c := c3) (by simp)) (Env.get E (A := A2) (n := n2) (c := c2) (by simp)) (by omega) (by omega) rfl).mono ?_; rintro e w4 ⟨A4, n4, c4, rfl, h, hb⟩; replace E := Env.push E hb h
  have l4 : n4 ≤ 61 := by have := mul_len h LQ.out (Nat.le_of_eq L2.out); omega
  clear h hb
  go_wp2_with fail
  refine (sub_is (a := a) (b := q * b) (m := d) (Env.get E (A := A1) (n := n1) (c := c1) (by simp)) (Env.get E (A := A4) (n := n4) (c := c4) (by simp)) (by omega) HLE.out HD.out).mono ?_; rintro e w5 ⟨A5, n5, c5, rfl, h, hb⟩; replace E := Env.push E hb h
  have l5 : n5 ≤ 30 := by have := dg_len_mono (show d ≤ a by have := HD.out; omega); have := h.len; have := L1.out; omega
  clear h hb
  go_wp2_with fail
  refine (add_is (a := d) (b := d) (m := d + d) (Env.get E (A := A5) (n := n5) (c := c5) (by simp)) (Env.get E (A := A5) (n := n5) (c := c5) (by simp)) (by omega) (by omega) rfl).mono ?_; rintro e w6 ⟨A6, n6, c6, rfl, h, hb⟩; replace E := Env.push E hb h
  clear h hb
  go_wp2_with fail
  refine (cmp_is (a := d + d) (b := b) (Env.get E (A := A6) (n := n6) (c := c6) (by simp)) (Env.get E (A := A2) (n := n2) (c := c2) (by simp)) (s := 0) (cmpN_eq HC.out)).mono ?_; rintro e w7 ⟨rfl, hb⟩; replace E := Env.step E hb
  clear hb
  go_wp2_with fail
  refine (even_is (a := q) (t := true) (Env.get E (A := A3) (n := n3) (c := c3) (by simp)) HE.out).mono ?_; rintro e w' ⟨rfl, rfl⟩
  go_wp2_with fail
  refine (awake_any _).mono ?_; rintro e w99 ⟨rfl, hb⟩; replace E := Env.step E hb
  clear hb
  go_wp2_with fail
  go_ret
  exact ⟨rfl, E.out.1⟩

set_option maxHeartbeats 2000000 in
set_option maxRecDepth 100000 in
theorem dnear_low_less (A1 A2 : Option Addr) (n1 n2 c1 c2 a b : Nat) (w : World) (h1 : Num w w.heap.size A1 n1 c1 a) (h2 : Num w w.heap.size A2 n2 c2 b) (hl1 : n1 ≤ 30) (hl2 : n2 ≤ 30) (hb0 : 0 < b) (q d : Nat) (HQ : Hid (nearN a b = q)) (HLE : Hid (q * b ≤ a)) (HD : Hid (a - q * b = d)) (HC : Hid (d + d < b)) :
    Calls Try.prog 6 #[.slice A1 n1 c1, .slice A2 n2 c2] w (RetVal w (.bool true)) := by
  have L1 := Lib.hid h1.len
  have L2 := Lib.hid h2.len
  have C := Lib.hid (long_no h1 h2 hl1 hl2 (right_dg a) (right_dg b))
  have hn2 := dg_len_pos h2.len hb0
  have HB0 := Lib.hid hb0
  have LQ : Hid ((dg q).length ≤ n1 + 1) := by show _ ≤ _; rw [← HQ.out]; exact near_len h1.len
  clear hb0
  have E := Env.two h1 h2
  clear h1 h2
  go_enter Try.func6, Try.ntmps6
  go_wp2_with fail
  refine C.out.mono ?_; rintro e w' ⟨rfl, rfl⟩
  go_wp2_with fail
  refine (near_is (a := a) (b := b) (m := q) (Env.get E (A := A1) (n := n1) (c := c1) (by simp)) (Env.get E (A := A2) (n := n2) (c := c2) (by simp)) (by omega) HB0.out HQ.out).mono ?_; rintro e w3 ⟨A3, n3, c3, rfl, h, hb⟩; replace E := Env.push E hb h
  have l3 : n3 ≤ 31 := by rw [← h.len]; exact Nat.le_trans LQ.out (by omega)
  clear h hb
  go_wp2_with fail
  refine (mul_is (a := q) (b := b) (m := q * b) (Env.get E (A := A3) (n := n3) (c := c3) (by simp)) (Env.get E (A := A2) (n := n2) (c := c2) (by simp)) (by omega) (by omega) rfl).mono ?_; rintro e w4 ⟨A4, n4, c4, rfl, h, hb⟩; replace E := Env.push E hb h
  have l4 : n4 ≤ 61 := by have := mul_len h LQ.out (Nat.le_of_eq L2.out); omega
  clear h hb
  go_wp2_with fail
  refine (sub_is (a := a) (b := q * b) (m := d) (Env.get E (A := A1) (n := n1) (c := c1) (by simp)) (Env.get E (A := A4) (n := n4) (c := c4) (by simp)) (by omega) HLE.out HD.out).mono ?_; rintro e w5 ⟨A5, n5, c5, rfl, h, hb⟩; replace E := Env.push E hb h
  have l5 : n5 ≤ 30 := by have := dg_len_mono (show d ≤ a by have := HD.out; omega); have := h.len; have := L1.out; omega
  clear h hb
  go_wp2_with fail
  refine (add_is (a := d) (b := d) (m := d + d) (Env.get E (A := A5) (n := n5) (c := c5) (by simp)) (Env.get E (A := A5) (n := n5) (c := c5) (by simp)) (by omega) (by omega) rfl).mono ?_; rintro e w6 ⟨A6, n6, c6, rfl, h, hb⟩; replace E := Env.push E hb h
  clear h hb
  go_wp2_with fail
  refine (cmp_is (a := d + d) (b := b) (Env.get E (A := A6) (n := n6) (c := c6) (by simp)) (Env.get E (A := A2) (n := n2) (c := c2) (by simp)) (s := -1) (cmpN_lt HC.out)).mono ?_; rintro e w7 ⟨rfl, hb⟩; replace E := Env.step E hb
  clear hb
  go_wp2_with fail
  refine (awake_any _).mono ?_; rintro e w99 ⟨rfl, hb⟩; replace E := Env.step E hb
  clear hb
  go_wp2_with fail
  go_ret
  exact ⟨rfl, E.out.1⟩

set_option maxHeartbeats 2000000 in
set_option maxRecDepth 100000 in
theorem dnear_up_even (A1 A2 : Option Addr) (n1 n2 c1 c2 a b : Nat) (w : World) (h1 : Num w w.heap.size A1 n1 c1 a) (h2 : Num w w.heap.size A2 n2 c2 b) (hl1 : n1 ≤ 30) (hl2 : n2 ≤ 30) (hb0 : 0 < b) (q d : Nat) (HQ : Hid (nearN a b = q)) (HLE : Hid (a < q * b)) (HD : Hid (q * b - a = d)) (HC : Hid (d + d = b)) (HE : Hid (decide (q % 2 = 0) = true)) :
    Calls Try.prog 6 #[.slice A1 n1 c1, .slice A2 n2 c2] w (RetVal w (.bool true)) := by
  have L1 := Lib.hid h1.len
  have L2 := Lib.hid h2.len
  have C := Lib.hid (long_no h1 h2 hl1 hl2 (right_dg a) (right_dg b))
  have hn2 := dg_len_pos h2.len hb0
  have HB0 := Lib.hid hb0
  have LQ : Hid ((dg q).length ≤ n1 + 1) := by show _ ≤ _; rw [← HQ.out]; exact near_len h1.len
  clear hb0
  have E := Env.two h1 h2
  clear h1 h2
  go_enter Try.func6, Try.ntmps6
  go_wp2_with fail
  refine C.out.mono ?_; rintro e w' ⟨rfl, rfl⟩
  go_wp2_with fail
  refine (near_is (a := a) (b := b) (m := q) (Env.get E (A := A1) (n := n1) (c := c1) (by simp)) (Env.get E (A := A2) (n := n2) (c := c2) (by simp)) (by omega) HB0.out HQ.out).mono ?_; rintro e w3 ⟨A3, n3, c3, rfl, h, hb⟩; replace E := Env.push E hb h
  have l3 : n3 ≤ 31 := by rw [← h.len]; exact Nat.le_trans LQ.out (by omega)
  clear h hb
  go_wp2_with fail
  refine (mul_is (a := q) (b := b) (m := q * b) (Env.get E (A := A3) (n := n3) (c := c3) (by simp)) (Env.get E (A := A2) (n := n2) (c := c2) (by simp)) (by omega) (by omega) rfl).mono ?_; rintro e w4 ⟨A4, n4, c4, rfl, h, hb⟩; replace E := Env.push E hb h
  have l4 : n4 ≤ 61 := by have := mul_len h LQ.out (Nat.le_of_eq L2.out); omega
  clear h hb
  go_wp2_with fail
  refine (sub_lt A1 A4 n1 c1 n4 c4 a (q * b) _ (Env.get E (A := A1) (n := n1) (c := c1) (by simp)) (Env.get E (A := A4) (n := n4) (c := c4) (by simp)) HLE.out).mono ?_; rintro e w5 ⟨rfl, hb⟩; replace E := Env.step E hb
  clear hb
  go_wp2_with fail
  refine (sub_is (a := q * b) (b := a) (m := d) (Env.get E (A := A4) (n := n4) (c := c4) (by simp)) (Env.get E (A := A1) (n := n1) (c := c1) (by simp)) (by omega) (Nat.le_of_lt HLE.out) HD.out).mono ?_; rintro e w6 ⟨A6, n6, c6, rfl, h, hb⟩; replace E := Env.push E hb h
  have l6 : n6 ≤ 61 := by have := dg_len_mono (show d ≤ q * b by have := HD.out; omega); have := h.len; have := (Env.get E (A := A4) (n := n4) (c := c4) (a := q * b) (by simp)).len; omega
  clear h hb
  go_wp2_with fail
  refine (add_is (a := d) (b := d) (m := d + d) (Env.get E (A := A6) (n := n6) (c := c6) (by simp)) (Env.get E (A := A6) (n := n6) (c := c6) (by simp)) (by omega) (by omega) rfl).mono ?_; rintro e w7 ⟨A7, n7, c7, rfl, h, hb⟩; replace E := Env.push E hb h
  clear h hb
  go_wp2_with fail
  refine (cmp_is (a := d + d) (b := b) (Env.get E (A := A7) (n := n7) (c := c7) (by simp)) (Env.get E (A := A2) (n := n2) (c := c2) (by simp)) (s := 0) (cmpN_eq HC.out)).mono ?_; rintro e w8 ⟨rfl, hb⟩; replace E := Env.step E hb
  clear hb
  go_wp2_with fail
  refine (even_is (a := q) (t := true) (Env.get E (A := A3) (n := n3) (c := c3) (by simp)) HE.out).mono ?_; rintro e w' ⟨rfl, rfl⟩
  go_wp2_with fail
  refine (awake_any _).mono ?_; rintro e w99 ⟨rfl, hb⟩; replace E := Env.step E hb
  clear hb
  go_wp2_with fail
  go_ret
  exact ⟨rfl, E.out.1⟩

set_option maxHeartbeats 2000000 in
set_option maxRecDepth 100000 in
theorem dnear_up_less (A1 A2 : Option Addr) (n1 n2 c1 c2 a b : Nat) (w : World) (h1 : Num w w.heap.size A1 n1 c1 a) (h2 : Num w w.heap.size A2 n2 c2 b) (hl1 : n1 ≤ 30) (hl2 : n2 ≤ 30) (hb0 : 0 < b) (q d : Nat) (HQ : Hid (nearN a b = q)) (HLE : Hid (a < q * b)) (HD : Hid (q * b - a = d)) (HC : Hid (d + d < b)) :
    Calls Try.prog 6 #[.slice A1 n1 c1, .slice A2 n2 c2] w (RetVal w (.bool true)) := by
  have L1 := Lib.hid h1.len
  have L2 := Lib.hid h2.len
  have C := Lib.hid (long_no h1 h2 hl1 hl2 (right_dg a) (right_dg b))
  have hn2 := dg_len_pos h2.len hb0
  have HB0 := Lib.hid hb0
  have LQ : Hid ((dg q).length ≤ n1 + 1) := by show _ ≤ _; rw [← HQ.out]; exact near_len h1.len
  clear hb0
  have E := Env.two h1 h2
  clear h1 h2
  go_enter Try.func6, Try.ntmps6
  go_wp2_with fail
  refine C.out.mono ?_; rintro e w' ⟨rfl, rfl⟩
  go_wp2_with fail
  refine (near_is (a := a) (b := b) (m := q) (Env.get E (A := A1) (n := n1) (c := c1) (by simp)) (Env.get E (A := A2) (n := n2) (c := c2) (by simp)) (by omega) HB0.out HQ.out).mono ?_; rintro e w3 ⟨A3, n3, c3, rfl, h, hb⟩; replace E := Env.push E hb h
  have l3 : n3 ≤ 31 := by rw [← h.len]; exact Nat.le_trans LQ.out (by omega)
  clear h hb
  go_wp2_with fail
  refine (mul_is (a := q) (b := b) (m := q * b) (Env.get E (A := A3) (n := n3) (c := c3) (by simp)) (Env.get E (A := A2) (n := n2) (c := c2) (by simp)) (by omega) (by omega) rfl).mono ?_; rintro e w4 ⟨A4, n4, c4, rfl, h, hb⟩; replace E := Env.push E hb h
  have l4 : n4 ≤ 61 := by have := mul_len h LQ.out (Nat.le_of_eq L2.out); omega
  clear h hb
  go_wp2_with fail
  refine (sub_lt A1 A4 n1 c1 n4 c4 a (q * b) _ (Env.get E (A := A1) (n := n1) (c := c1) (by simp)) (Env.get E (A := A4) (n := n4) (c := c4) (by simp)) HLE.out).mono ?_; rintro e w5 ⟨rfl, hb⟩; replace E := Env.step E hb
  clear hb
  go_wp2_with fail
  refine (sub_is (a := q * b) (b := a) (m := d) (Env.get E (A := A4) (n := n4) (c := c4) (by simp)) (Env.get E (A := A1) (n := n1) (c := c1) (by simp)) (by omega) (Nat.le_of_lt HLE.out) HD.out).mono ?_; rintro e w6 ⟨A6, n6, c6, rfl, h, hb⟩; replace E := Env.push E hb h
  have l6 : n6 ≤ 61 := by have := dg_len_mono (show d ≤ q * b by have := HD.out; omega); have := h.len; have := (Env.get E (A := A4) (n := n4) (c := c4) (a := q * b) (by simp)).len; omega
  clear h hb
  go_wp2_with fail
  refine (add_is (a := d) (b := d) (m := d + d) (Env.get E (A := A6) (n := n6) (c := c6) (by simp)) (Env.get E (A := A6) (n := n6) (c := c6) (by simp)) (by omega) (by omega) rfl).mono ?_; rintro e w7 ⟨A7, n7, c7, rfl, h, hb⟩; replace E := Env.push E hb h
  clear h hb
  go_wp2_with fail
  refine (cmp_is (a := d + d) (b := b) (Env.get E (A := A7) (n := n7) (c := c7) (by simp)) (Env.get E (A := A2) (n := n2) (c := c2) (by simp)) (s := -1) (cmpN_lt HC.out)).mono ?_; rintro e w8 ⟨rfl, hb⟩; replace E := Env.step E hb
  clear hb
  go_wp2_with fail
  refine (awake_any _).mono ?_; rintro e w99 ⟨rfl, hb⟩; replace E := Env.step E hb
  clear hb
  go_wp2_with fail
  go_ret
  exact ⟨rfl, E.out.1⟩

theorem dnear_any (A1 A2 : Option Addr) (n1 n2 c1 c2 : Nat) (x1 x2 : List Nat) (w : World) (h1 : Hid (Lim w w.heap.size A1 n1 c1 x1)) (h2 : Hid (Lim w w.heap.size A2 n2 c2 x2)) :
    Calls Try.prog 6 #[.slice A1 n1 c1, .slice A2 n2 c2] w (RetVal w (.bool true)) := by
  by_cases hg : n1 ≤ 30 ∧ n2 ≤ 30 ∧ rightB x1 = true ∧ rightB x2 = true
  · obtain ⟨l1, l2, r1, r2⟩ := hg
    rcases Nat.eq_zero_or_pos (val x2) with h0 | h0
    · exact dnear_zero A1 A2 n1 n2 c1 c2 _ _ w (h1.out.num r1) (h2.out.num r2) l1 l2 h0
    · rcases Nat.lt_or_ge (val x1) (nearN (val x1) (val x2) * val x2) with hlt | hge
      · rcases near_up h0 hlt with hc | ⟨hc, he⟩
        · exact dnear_up_less A1 A2 n1 n2 c1 c2 _ _ w (h1.out.num r1) (h2.out.num r2) l1 l2 h0 _ _ rfl hlt rfl hc
        · exact dnear_up_even A1 A2 n1 n2 c1 c2 _ _ w (h1.out.num r1) (h2.out.num r2) l1 l2 h0 _ _ rfl hlt rfl hc (decide_eq_true he)
      · rcases near_low h0 hge with hc | ⟨hc, he⟩
        · exact dnear_low_less A1 A2 n1 n2 c1 c2 _ _ w (h1.out.num r1) (h2.out.num r2) l1 l2 h0 _ _ rfl hge rfl hc
        · exact dnear_low_even A1 A2 n1 n2 c1 c2 _ _ w (h1.out.num r1) (h2.out.num r2) l1 l2 h0 _ _ rfl hge rfl hc (decide_eq_true he)
  · exact dnear_bad A1 A2 n1 n2 c1 c2 x1 x2 w h1 h2 hg

end Go.Proofs.Ytenelfclalnfhaa
