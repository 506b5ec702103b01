/-
  The walks of the laws NatRing and NatOrder.
-/
import Derived.Test.YtlkkoflkngaamaaNatH
namespace Go.Proofs.Ytlkkoflkngaamaa
open Go.RowKit

theorem Lim.num {w : World} {B n c : Nat} {A : Option Addr} {xs : List Nat} (h : Lim w B A n c xs) (hr : rightB xs = true) : Num w B A n c (val xs) := by
  rw [Num, dg_of_right hr]; exact h

theorem bad_or_good (n1 n2 n3 : Nat) (x1 x2 x3 : List Nat) :
    (decide (60 < (n1 : Int)) = true) ∨ (decide (60 < (n1 : Int)) = false ∧ decide (60 < (n2 : Int)) = true) ∨ (decide (60 < (n1 : Int)) = false ∧ decide (60 < (n2 : Int)) = false ∧ decide (60 < (n3 : Int)) = true) ∨
    (decide (60 < (n1 : Int)) = false ∧ decide (60 < (n2 : Int)) = false ∧ decide (60 < (n3 : Int)) = false ∧ rightB x1 = false) ∨
    (decide (60 < (n1 : Int)) = false ∧ decide (60 < (n2 : Int)) = false ∧ decide (60 < (n3 : Int)) = false ∧ rightB x1 = true ∧ rightB x2 = false) ∨
    (decide (60 < (n1 : Int)) = false ∧ decide (60 < (n2 : Int)) = false ∧ decide (60 < (n3 : Int)) = false ∧ rightB x1 = true ∧ rightB x2 = true ∧ rightB x3 = false) ∨
    (decide (60 < (n1 : Int)) = false ∧ decide (60 < (n2 : Int)) = false ∧ decide (60 < (n3 : Int)) = false ∧ rightB x1 = true ∧ rightB x2 = true ∧ rightB x3 = true) := by
  cases decide (60 < (n1 : Int)) <;> cases decide (60 < (n2 : Int)) <;> cases decide (60 < (n3 : Int)) <;> cases rightB x1 <;> cases rightB x2 <;> cases rightB x3 <;> simp

theorem len_small {n : Nat} (h : decide (60 < (n : Int)) = false) : n ≤ 60 := by
  rw [decide_eq_false_iff_not] at h; omega
theorem sum_len {w : World} {B k c k1 k2 a b : Nat} {A : Option Addr} (h : Num w B A k c (a + b)) (ha : (dg a).length ≤ k1) (hb : (dg b).length ≤ k2) : k ≤ max k1 k2 + 1 := by
  have := dg_len_add a b
  rw [h.len] at this
  omega

set_option maxHeartbeats 1000000 in
set_option maxRecDepth 100000 in
theorem ring_bad (A1 A2 A3 : Option Addr) (n1 n2 n3 c1 c2 c3 : Nat) (x1 x2 x3 : List Nat) (w : World) (h1 : Hid (Lim w w.heap.size A1 n1 c1 x1)) (h2 : Hid (Lim w w.heap.size A2 n2 c2 x2)) (h3 : Hid (Lim w w.heap.size A3 n3 c3 x3))
    (hbad : ¬ (decide (60 < (n1 : Int)) = false ∧ decide (60 < (n2 : Int)) = false ∧ decide (60 < (n3 : Int)) = false ∧ rightB x1 = true ∧ rightB x2 = true ∧ rightB x3 = true)) :
    Calls Try.prog 4 #[.slice A1 n1 c1, .slice A2 n2 c2, .slice A3 n3 c3] w (RetVal w (.bool true)) := by
  rcases bad_or_good n1 n2 n3 x1 x2 x3 with hl1 | ⟨hl1, hl2⟩ | ⟨hl1, hl2, hl3⟩ | ⟨hl1, hl2, hl3, hr1⟩ | ⟨hl1, hl2, hl3, hr1, hr2⟩ | ⟨hl1, hl2, hl3, hr1, hr2, hr3⟩ | hgood
  case inr.inr.inr.inr.inr.inr => exact absurd hgood hbad
  all_goals
    clear hbad
    go_enter Try.func4, Try.ntmps4
    go_wp2_with (first | (go_at_call 7; refine (long_any _ _ _ _).mono ?_; rintro e w' ⟨rfl, rfl⟩) | (go_at_call 10; first | ((with_reducible refine (refRight_any A1 n1 c1 _ x1 _ h1.out).mono ?_); rintro e w' ⟨rfl, rfl⟩) | ((with_reducible refine (refRight_any A2 n2 c2 _ x2 _ h2.out).mono ?_); rintro e w' ⟨rfl, rfl⟩) | ((with_reducible refine (refRight_any A3 n3 c3 _ x3 _ h3.out).mono ?_); rintro e w' ⟨rfl, rfl⟩)) | (go_at_call 8; refine (awake_any _).mono ?_; rintro e w' ⟨rfl, hb⟩; have HB := Lib.hid hb; clear hb))
    go_ret
    exact ⟨rfl, HB.out⟩

theorem Env.three {w : World} {A1 A2 A3 : Option Addr} {n1 n2 n3 c1 c2 c3 a b c : Nat} (h1 : Num w w.heap.size A1 n1 c1 a) (h2 : Num w w.heap.size A2 n2 c2 b) (h3 : Num w w.heap.size A3 n3 c3 c) : Hid (Env w w [(A1, n1, c1, a), (A2, n2, c2, b), (A3, n3, c3, c)]) := by
  refine ⟨Below.refl _ _, fun q hq => ?_⟩
  rcases List.mem_cons.1 hq with rfl | hq
  · exact h1
  · rcases List.mem_cons.1 hq with rfl | hq
    · exact h2
    · rcases List.mem_cons.1 hq with rfl | hq
      · exact h3
      · cases hq

set_option maxHeartbeats 1000000 in
set_option maxRecDepth 100000 in
theorem ring_good (A1 A2 A3 : Option Addr) (n1 n2 n3 c1 c2 c3 a b c : Nat) (w : World) (h1 : Num w w.heap.size A1 n1 c1 a) (h2 : Num w w.heap.size A2 n2 c2 b) (h3 : Num w w.heap.size A3 n3 c3 c)
    (hl1 : decide (60 < (n1 : Int)) = false) (hl2 : decide (60 < (n2 : Int)) = false) (hl3 : decide (60 < (n3 : Int)) = false) :
    Calls Try.prog 4 #[.slice A1 n1 c1, .slice A2 n2 c2, .slice A3 n3 c3] w (RetVal w (.bool true)) := by
  have s1 := len_small hl1
  have s2 := len_small hl2
  have s3 := len_small hl3
  have L1 := Lib.hid h1.len
  have L2 := Lib.hid h2.len
  have L3 := Lib.hid h3.len
  have hr1 := right_dg a
  have hr2 := right_dg b
  have hr3 := right_dg c
  have E := Env.three h1 h2 h3
  clear h1 h2 h3
  go_enter Try.func4, Try.ntmps4
  go_wp2_with (first | (go_at_call 7; refine (long_any _ _ _ _).mono ?_; rintro e w' ⟨rfl, rfl⟩) | (go_at_call 10; first | ((with_reducible refine (refRight_any A1 n1 c1 _ (dg a) _ (Env.get E (by simp))).mono ?_); rintro e w' ⟨rfl, rfl⟩) | ((with_reducible refine (refRight_any A2 n2 c2 _ (dg b) _ (Env.get E (by simp))).mono ?_); rintro e w' ⟨rfl, rfl⟩) | ((with_reducible refine (refRight_any A3 n3 c3 _ (dg c) _ (Env.get E (by simp))).mono ?_); rintro e w' ⟨rfl, rfl⟩)) | fail)
  clear hl1 hl2 hl3 hr1 hr2 hr3
  refine (add_is (a := a) (b := b) (Env.get E (by simp)) (Env.get E (by simp)) (by omega) (by omega) rfl).mono ?_; rintro e w1 ⟨A4, n4, c4, rfl, h, hb⟩; replace E := Env.push E hb h
  have s4 : n4 ≤ 61 := by have := sum_len h (Nat.le_of_eq L1.out) (Nat.le_of_eq L2.out); omega
  have L4 := Lib.hid h.len
  clear h hb
  go_wp2_with fail
  refine (add_is (a := b) (b := c) (Env.get E (by simp)) (Env.get E (by simp)) (by omega) (by omega) rfl).mono ?_; rintro e w2 ⟨A5, n5, c5, rfl, h, hb⟩; replace E := Env.push E hb h
  have s5 : n5 ≤ 61 := by have := sum_len h (Nat.le_of_eq L2.out) (Nat.le_of_eq L3.out); omega
  have L5 := Lib.hid h.len
  clear h hb
  go_wp2_with fail
  refine (sub_is (a := a + b) (b := b) (m := a) (Env.get E (by simp)) (Env.get E (by simp)) (by omega) (by omega) (by omega)).mono ?_; rintro e w3 ⟨A6, n6, c6, rfl, h, hb⟩; replace E := Env.push E hb h
  clear h hb
  go_wp2_with fail
  refine (right_is (xs := dg (a + b)) (t := true) (Env.get E (by simp)) (right_dg _)).mono ?_; rintro e w' ⟨rfl, rfl⟩
  go_wp2_with fail
  refine (add_is (a := b) (b := a) (m := a + b) (Env.get E (by simp)) (Env.get E (by simp)) (by omega) (by omega) (by omega)).mono ?_; rintro e w4 ⟨A7, n7, c7, rfl, h, hb⟩; replace E := Env.push E hb h
  clear h hb
  go_wp2_with fail
  refine (same_is (a := a + b) (b := a + b) (Env.get E (by simp)) (Env.get E (by simp)) rfl).mono ?_; rintro e w5 ⟨rfl, hb⟩; replace E := Env.step E hb
  clear hb
  go_wp2_with fail
  refine (add_is (a := a + b) (b := c) (Env.get E (by simp)) (Env.get E (by simp)) (by omega) (by omega) rfl).mono ?_; rintro e w6 ⟨A8, n8, c8, rfl, h, hb⟩; replace E := Env.push E hb h
  clear h hb
  go_wp2_with fail
  refine (add_is (a := a) (b := b + c) (Env.get E (by simp)) (Env.get E (by simp)) (by omega) (by omega) rfl).mono ?_; rintro e w7 ⟨A9, n9, c9, rfl, h, hb⟩; replace E := Env.push E hb h
  clear h hb
  go_wp2_with fail
  refine (same_is (a := a + b + c) (b := a + (b + c)) (Env.get E (by simp)) (Env.get E (by simp)) (by omega)).mono ?_; rintro e w8 ⟨rfl, hb⟩; replace E := Env.step E hb
  clear hb
  go_wp2_with fail
  refine (right_is (xs := dg a) (t := true) (Env.get E (by simp)) (right_dg _)).mono ?_; rintro e w' ⟨rfl, rfl⟩
  go_wp2_with fail
  refine (same_is (a := a) (b := a) (Env.get E (by simp)) (Env.get E (by simp)) rfl).mono ?_; rintro e w9 ⟨rfl, hb⟩; replace E := Env.step E hb
  clear hb
  go_wp2_with fail
  refine (add_is (a := a) (b := 0) (m := a) (Env.get E (by simp)) (by rw [Num, dg_zero]; exact Lim.nil) (by omega) (by omega) (by omega)).mono ?_; rintro e w10 ⟨A10, n10, c10, rfl, h, hb⟩; replace E := Env.push E hb h
  clear h hb
  go_wp2_with fail
  refine (same_is (a := a) (b := a) (Env.get E (by simp)) (Env.get E (by simp)) rfl).mono ?_; rintro e w11 ⟨rfl, hb⟩; replace E := Env.step E hb
  clear hb
  go_wp2_with fail
  refine (awake_any _).mono ?_; rintro e w12 ⟨rfl, hb⟩; replace E := Env.step E hb
  clear hb
  go_wp2_with fail
  go_ret
  exact ⟨rfl, E.out.1⟩

theorem ring_any (A1 A2 A3 : Option Addr) (n1 n2 n3 c1 c2 c3 : Nat) (x1 x2 x3 : List Nat) (w : World) (h1 : Hid (Lim w w.heap.size A1 n1 c1 x1)) (h2 : Hid (Lim w w.heap.size A2 n2 c2 x2)) (h3 : Hid (Lim w w.heap.size A3 n3 c3 x3)) :
    Calls Try.prog 4 #[.slice A1 n1 c1, .slice A2 n2 c2, .slice A3 n3 c3] w (RetVal w (.bool true)) := by
  by_cases hg : decide (60 < (n1 : Int)) = false ∧ decide (60 < (n2 : Int)) = false ∧ decide (60 < (n3 : Int)) = false ∧ rightB x1 = true ∧ rightB x2 = true ∧ rightB x3 = true
  · obtain ⟨l1, l2, l3, r1, r2, r3⟩ := hg
    exact ring_good A1 A2 A3 n1 n2 n3 c1 c2 c3 _ _ _ w (h1.out.num r1) (h2.out.num r2) (h3.out.num r3) l1 l2 l3
  · exact ring_bad A1 A2 A3 n1 n2 n3 c1 c2 c3 x1 x2 x3 w h1 h2 h3 hg

end Go.Proofs.Ytlkkoflkngaamaa
