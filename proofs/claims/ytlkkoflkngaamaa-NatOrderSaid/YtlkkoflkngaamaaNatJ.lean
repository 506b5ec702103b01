/-
  The walk of the law NatOrder.
-/
import Derived.Test.YtlkkoflkngaamaaNatI
namespace Go.Proofs.Ytlkkoflkngaamaa
open Go.RowKit

set_option maxHeartbeats 1000000 in
set_option maxRecDepth 100000 in
theorem order_bad (A1 A2 A3 : Option Addr) (n1 n2 n3 c1 c2 c3 : Nat) (x1 x2 x3 : List Nat) (w : World) (h1 : Hid (Lim w w.heap.size A1 n1 c1 x1)) (h2 : Hid (Lim w w.heap.size A2 n2 c2 x2)) (h3 : Hid (Lim w w.heap.size A3 n3 c3 x3))
    (hbad : ¬ (decide (60 < (n1 : Int)) = false ∧ decide (60 < (n2 : Int)) = false ∧ decide (60 < (n3 : Int)) = false ∧ rightB x1 = true ∧ rightB x2 = true ∧ rightB x3 = true)) :
    Calls Try.prog 5 #[.slice A1 n1 c1, .slice A2 n2 c2, .slice A3 n3 c3] w (RetVal w (.bool true)) := by
  rcases bad_or_good n1 n2 n3 x1 x2 x3 with hl1 | ⟨hl1, hl2⟩ | ⟨hl1, hl2, hl3⟩ | ⟨hl1, hl2, hl3, hr1⟩ | ⟨hl1, hl2, hl3, hr1, hr2⟩ | ⟨hl1, hl2, hl3, hr1, hr2, hr3⟩ | hgood
  case inr.inr.inr.inr.inr.inr => exact absurd hgood hbad
  all_goals
    clear hbad
    go_enter Try.func5, Try.ntmps5
    go_wp2_with (first | (go_at_call 7; refine (long_any _ _ _ _).mono ?_; rintro e w' ⟨rfl, rfl⟩) | (go_at_call 10; first | ((with_reducible refine (refRight_any A1 n1 c1 _ x1 _ h1.out).mono ?_); rintro e w' ⟨rfl, rfl⟩) | ((with_reducible refine (refRight_any A2 n2 c2 _ x2 _ h2.out).mono ?_); rintro e w' ⟨rfl, rfl⟩) | ((with_reducible refine (refRight_any A3 n3 c3 _ x3 _ h3.out).mono ?_); rintro e w' ⟨rfl, rfl⟩)) | (go_at_call 8; refine (awake_any _).mono ?_; rintro e w' ⟨rfl, hb⟩; have HB := Lib.hid hb; clear hb))
    go_ret
    exact ⟨rfl, HB.out⟩

theorem cmp_not_neg (a b : Nat) : ((cmpN a b : Int) != -cmpN b a) = false := by
  rcases cmpN_cases a b with ⟨h, e⟩ | ⟨h, e⟩ | ⟨h, e⟩
  · rw [e, cmpN_gt h]; rfl
  · rw [e, cmpN_eq h.symm]; rfl
  · rw [e, cmpN_lt h]; rfl

set_option maxHeartbeats 2000000 in
set_option maxRecDepth 100000 in
theorem order_pos (A1 A2 A3 : Option Addr) (n1 n2 n3 c1 c2 c3 a b c : Nat) (t u : Int) (w : World) (h1 : Num w w.heap.size A1 n1 c1 a) (h2 : Num w w.heap.size A2 n2 c2 b) (h3 : Num w w.heap.size A3 n3 c3 c)
    (hl1 : decide (60 < (n1 : Int)) = false) (hl2 : decide (60 < (n2 : Int)) = false) (hl3 : decide (60 < (n3 : Int)) = false)
    (es : Hid (cmpN a b = 1)) (et : Hid (cmpN b c = t)) (eu : Hid (cmpN a c = u)) (eb : Hid (cmpN b a = -1)) (ez : Hid (cmpN (a + c) (b + c) = 1)) :
    Calls Try.prog 5 #[.slice A1 n1 c1, .slice A2 n2 c2, .slice A3 n3 c3] w (RetVal w (.bool true)) := by
  have s1 := len_small hl1
  have s2 := len_small hl2
  have s3 := len_small hl3
  have L1 := Lib.hid h1.len
  have L2 := Lib.hid h2.len
  have L3 := Lib.hid h3.len
  have hr1 := right_dg a
  have hr2 := right_dg b
  have hr3 := right_dg c
  have E := Env.three h1 h2 h3
  clear h1 h2 h3
  have e0 : cmpN a a = 0 := cmpN_eq rfl
  have E0 := Lib.hid e0
  clear e0
  go_enter Try.func5, Try.ntmps5
  go_wp2_with (first | (go_at_call 7; refine (long_any _ _ _ _).mono ?_; rintro e w' ⟨rfl, rfl⟩) | (go_at_call 10; first | ((with_reducible refine (refRight_any A1 n1 c1 _ (dg a) _ (Env.get E (by simp))).mono ?_); rintro e w' ⟨rfl, rfl⟩) | ((with_reducible refine (refRight_any A2 n2 c2 _ (dg b) _ (Env.get E (by simp))).mono ?_); rintro e w' ⟨rfl, rfl⟩) | ((with_reducible refine (refRight_any A3 n3 c3 _ (dg c) _ (Env.get E (by simp))).mono ?_); rintro e w' ⟨rfl, rfl⟩)) | fail)
  clear hl1 hl2 hl3 hr1 hr2 hr3
  refine (cmp_is (a := a) (b := b) (Env.get E (by simp)) (Env.get E (by simp)) es.out).mono ?_; rintro e w1 ⟨rfl, hb⟩; replace E := Env.step E hb
  clear hb
  go_wp2_with (go_at_call 18; first | ((with_reducible refine (cmp_is (A := A2) (A' := A1) (a := b) (b := a) (Env.get E (by simp)) (Env.get E (by simp)) eb.out).mono ?_); rintro e w' ⟨rfl, hb⟩; replace E := Env.step E hb; clear hb) | ((with_reducible refine (cmp_is (A := A1) (A' := A1) (a := a) (b := a) (Env.get E (by simp)) (Env.get E (by simp)) E0.out).mono ?_); rintro e w' ⟨rfl, hb⟩; replace E := Env.step E hb; clear hb) | ((with_reducible refine (cmp_is (A := A2) (A' := A3) (a := b) (b := c) (Env.get E (by simp)) (Env.get E (by simp)) et.out).mono ?_); rintro e w' ⟨rfl, hb⟩; replace E := Env.step E hb; clear hb) | ((with_reducible refine (cmp_is (A := A1) (A' := A3) (a := a) (b := c) (Env.get E (by simp)) (Env.get E (by simp)) eu.out).mono ?_); rintro e w' ⟨rfl, hb⟩; replace E := Env.step E hb; clear hb))
  refine (sub_is (A := A1) (A' := A2) (a := a) (b := b) (Env.get E (by simp)) (Env.get E (by simp)) (by omega) (Nat.le_of_lt ((cmpN_pos a b).1 (by rw [es.out]; decide))) rfl).mono ?_; rintro e w3 ⟨A6, n6, c6, rfl, h, hb⟩; replace E := Env.push E hb h
  clear hb
  go_wp2_with fail
  refine (add_is (a := a) (b := c) (A := A1) (A' := A3) (Env.get E (by simp)) (Env.get E (by simp)) (by omega) (by omega) rfl).mono ?_; rintro e w4 ⟨A4, n4, c4, rfl, h, hb⟩; replace E := Env.push E hb h
  clear h hb
  go_wp2_with fail
  refine (add_is (a := b) (b := c) (A := A2) (A' := A3) (Env.get E (by simp)) (Env.get E (by simp)) (by omega) (by omega) rfl).mono ?_; rintro e w5 ⟨A5, n5, c5, rfl, h, hb⟩; replace E := Env.push E hb h
  clear h hb
  go_wp2_with fail
  refine (cmp_is (a := a + c) (b := b + c) (Env.get E (by simp)) (Env.get E (by simp)) ez.out).mono ?_; rintro e w6 ⟨rfl, hb⟩; replace E := Env.step E hb
  clear hb
  go_wp2_with fail
  refine (awake_any _).mono ?_; rintro e w12 ⟨rfl, hb⟩; replace E := Env.step E hb
  clear hb
  go_wp2_with fail
  go_ret
  exact ⟨rfl, E.out.1⟩

set_option maxHeartbeats 2000000 in
set_option maxRecDepth 100000 in
theorem order_neg_more (A1 A2 A3 : Option Addr) (n1 n2 n3 c1 c2 c3 a b c : Nat) (t u : Int) (w : World) (h1 : Num w w.heap.size A1 n1 c1 a) (h2 : Num w w.heap.size A2 n2 c2 b) (h3 : Num w w.heap.size A3 n3 c3 c)
    (hl1 : decide (60 < (n1 : Int)) = false) (hl2 : decide (60 < (n2 : Int)) = false) (hl3 : decide (60 < (n3 : Int)) = false)
    (es : Hid (cmpN a b = (-1))) (et : Hid (cmpN b c = t)) (eu : Hid (cmpN a c = u)) (eb : Hid (cmpN b a = 1)) (ez : Hid (cmpN (a + c) (b + c) = (-1))) (ht : 0 < t) :
    Calls Try.prog 5 #[.slice A1 n1 c1, .slice A2 n2 c2, .slice A3 n3 c3] w (RetVal w (.bool true)) := by
  have s1 := len_small hl1
  have s2 := len_small hl2
  have s3 := len_small hl3
  have L1 := Lib.hid h1.len
  have L2 := Lib.hid h2.len
  have L3 := Lib.hid h3.len
  have hr1 := right_dg a
  have hr2 := right_dg b
  have hr3 := right_dg c
  have E := Env.three h1 h2 h3
  clear h1 h2 h3
  have e0 : cmpN a a = 0 := cmpN_eq rfl
  have E0 := Lib.hid e0
  clear e0
  go_enter Try.func5, Try.ntmps5
  go_wp2_with (first | (go_at_call 7; refine (long_any _ _ _ _).mono ?_; rintro e w' ⟨rfl, rfl⟩) | (go_at_call 10; first | ((with_reducible refine (refRight_any A1 n1 c1 _ (dg a) _ (Env.get E (by simp))).mono ?_); rintro e w' ⟨rfl, rfl⟩) | ((with_reducible refine (refRight_any A2 n2 c2 _ (dg b) _ (Env.get E (by simp))).mono ?_); rintro e w' ⟨rfl, rfl⟩) | ((with_reducible refine (refRight_any A3 n3 c3 _ (dg c) _ (Env.get E (by simp))).mono ?_); rintro e w' ⟨rfl, rfl⟩)) | fail)
  clear hl1 hl2 hl3 hr1 hr2 hr3
  refine (cmp_is (a := a) (b := b) (Env.get E (by simp)) (Env.get E (by simp)) es.out).mono ?_; rintro e w1 ⟨rfl, hb⟩; replace E := Env.step E hb
  clear hb
  go_wp2_with (go_at_call 18; first | ((with_reducible refine (cmp_is (A := A2) (A' := A1) (a := b) (b := a) (Env.get E (by simp)) (Env.get E (by simp)) eb.out).mono ?_); rintro e w' ⟨rfl, hb⟩; replace E := Env.step E hb; clear hb) | ((with_reducible refine (cmp_is (A := A1) (A' := A1) (a := a) (b := a) (Env.get E (by simp)) (Env.get E (by simp)) E0.out).mono ?_); rintro e w' ⟨rfl, hb⟩; replace E := Env.step E hb; clear hb) | ((with_reducible refine (cmp_is (A := A2) (A' := A3) (a := b) (b := c) (Env.get E (by simp)) (Env.get E (by simp)) et.out).mono ?_); rintro e w' ⟨rfl, hb⟩; replace E := Env.step E hb; clear hb) | ((with_reducible refine (cmp_is (A := A1) (A' := A3) (a := a) (b := c) (Env.get E (by simp)) (Env.get E (by simp)) eu.out).mono ?_); rintro e w' ⟨rfl, hb⟩; replace E := Env.step E hb; clear hb))
  refine (sub_lt A1 A2 n1 c1 n2 c2 a b _ (Env.get E (by simp)) (Env.get E (by simp)) ((cmpN_neg a b).1 (by rw [es.out]; decide))).mono ?_; rintro e w3 ⟨rfl, hb⟩; replace E := Env.step E hb
  clear hb
  go_wp2_with fail
  refine (add_is (a := a) (b := c) (A := A1) (A' := A3) (Env.get E (by simp)) (Env.get E (by simp)) (by omega) (by omega) rfl).mono ?_; rintro e w4 ⟨A4, n4, c4, rfl, h, hb⟩; replace E := Env.push E hb h
  clear h hb
  go_wp2_with fail
  refine (add_is (a := b) (b := c) (A := A2) (A' := A3) (Env.get E (by simp)) (Env.get E (by simp)) (by omega) (by omega) rfl).mono ?_; rintro e w5 ⟨A5, n5, c5, rfl, h, hb⟩; replace E := Env.push E hb h
  clear h hb
  go_wp2_with fail
  refine (cmp_is (a := a + c) (b := b + c) (Env.get E (by simp)) (Env.get E (by simp)) ez.out).mono ?_; rintro e w6 ⟨rfl, hb⟩; replace E := Env.step E hb
  clear hb
  go_wp2_with fail
  refine (awake_any _).mono ?_; rintro e w12 ⟨rfl, hb⟩; replace E := Env.step E hb
  clear hb
  go_wp2_with fail
  go_ret
  exact ⟨rfl, E.out.1⟩

set_option maxHeartbeats 2000000 in
set_option maxRecDepth 100000 in
theorem order_neg_less (A1 A2 A3 : Option Addr) (n1 n2 n3 c1 c2 c3 a b c : Nat) (t u : Int) (w : World) (h1 : Num w w.heap.size A1 n1 c1 a) (h2 : Num w w.heap.size A2 n2 c2 b) (h3 : Num w w.heap.size A3 n3 c3 c)
    (hl1 : decide (60 < (n1 : Int)) = false) (hl2 : decide (60 < (n2 : Int)) = false) (hl3 : decide (60 < (n3 : Int)) = false)
    (es : Hid (cmpN a b = (-1))) (et : Hid (cmpN b c = t)) (eu : Hid (cmpN a c = u)) (eb : Hid (cmpN b a = 1)) (ez : Hid (cmpN (a + c) (b + c) = (-1))) (ht : t ≤ 0) (hu : u ≤ 0) :
    Calls Try.prog 5 #[.slice A1 n1 c1, .slice A2 n2 c2, .slice A3 n3 c3] w (RetVal w (.bool true)) := by
  have s1 := len_small hl1
  have s2 := len_small hl2
  have s3 := len_small hl3
  have L1 := Lib.hid h1.len
  have L2 := Lib.hid h2.len
  have L3 := Lib.hid h3.len
  have hr1 := right_dg a
  have hr2 := right_dg b
  have hr3 := right_dg c
  have E := Env.three h1 h2 h3
  clear h1 h2 h3
  have e0 : cmpN a a = 0 := cmpN_eq rfl
  have E0 := Lib.hid e0
  clear e0
  go_enter Try.func5, Try.ntmps5
  go_wp2_with (first | (go_at_call 7; refine (long_any _ _ _ _).mono ?_; rintro e w' ⟨rfl, rfl⟩) | (go_at_call 10; first | ((with_reducible refine (refRight_any A1 n1 c1 _ (dg a) _ (Env.get E (by simp))).mono ?_); rintro e w' ⟨rfl, rfl⟩) | ((with_reducible refine (refRight_any A2 n2 c2 _ (dg b) _ (Env.get E (by simp))).mono ?_); rintro e w' ⟨rfl, rfl⟩) | ((with_reducible refine (refRight_any A3 n3 c3 _ (dg c) _ (Env.get E (by simp))).mono ?_); rintro e w' ⟨rfl, rfl⟩)) | fail)
  clear hl1 hl2 hl3 hr1 hr2 hr3
  refine (cmp_is (a := a) (b := b) (Env.get E (by simp)) (Env.get E (by simp)) es.out).mono ?_; rintro e w1 ⟨rfl, hb⟩; replace E := Env.step E hb
  clear hb
  go_wp2_with (go_at_call 18; first | ((with_reducible refine (cmp_is (A := A2) (A' := A1) (a := b) (b := a) (Env.get E (by simp)) (Env.get E (by simp)) eb.out).mono ?_); rintro e w' ⟨rfl, hb⟩; replace E := Env.step E hb; clear hb) | ((with_reducible refine (cmp_is (A := A1) (A' := A1) (a := a) (b := a) (Env.get E (by simp)) (Env.get E (by simp)) E0.out).mono ?_); rintro e w' ⟨rfl, hb⟩; replace E := Env.step E hb; clear hb) | ((with_reducible refine (cmp_is (A := A2) (A' := A3) (a := b) (b := c) (Env.get E (by simp)) (Env.get E (by simp)) et.out).mono ?_); rintro e w' ⟨rfl, hb⟩; replace E := Env.step E hb; clear hb) | ((with_reducible refine (cmp_is (A := A1) (A' := A3) (a := a) (b := c) (Env.get E (by simp)) (Env.get E (by simp)) eu.out).mono ?_); rintro e w' ⟨rfl, hb⟩; replace E := Env.step E hb; clear hb))
  refine (sub_lt A1 A2 n1 c1 n2 c2 a b _ (Env.get E (by simp)) (Env.get E (by simp)) ((cmpN_neg a b).1 (by rw [es.out]; decide))).mono ?_; rintro e w3 ⟨rfl, hb⟩; replace E := Env.step E hb
  clear hb
  go_wp2_with fail
  refine (add_is (a := a) (b := c) (A := A1) (A' := A3) (Env.get E (by simp)) (Env.get E (by simp)) (by omega) (by omega) rfl).mono ?_; rintro e w4 ⟨A4, n4, c4, rfl, h, hb⟩; replace E := Env.push E hb h
  clear h hb
  go_wp2_with fail
  refine (add_is (a := b) (b := c) (A := A2) (A' := A3) (Env.get E (by simp)) (Env.get E (by simp)) (by omega) (by omega) rfl).mono ?_; rintro e w5 ⟨A5, n5, c5, rfl, h, hb⟩; replace E := Env.push E hb h
  clear h hb
  go_wp2_with fail
  refine (cmp_is (a := a + c) (b := b + c) (Env.get E (by simp)) (Env.get E (by simp)) ez.out).mono ?_; rintro e w6 ⟨rfl, hb⟩; replace E := Env.step E hb
  clear hb
  go_wp2_with fail
  refine (awake_any _).mono ?_; rintro e w12 ⟨rfl, hb⟩; replace E := Env.step E hb
  clear hb
  go_wp2_with fail
  go_ret
  exact ⟨rfl, E.out.1⟩

set_option maxHeartbeats 2000000 in
set_option maxRecDepth 100000 in
theorem order_zero_more (A1 A2 A3 : Option Addr) (n1 n2 n3 c1 c2 c3 a b c : Nat) (t u : Int) (w : World) (h1 : Num w w.heap.size A1 n1 c1 a) (h2 : Num w w.heap.size A2 n2 c2 b) (h3 : Num w w.heap.size A3 n3 c3 c)
    (hl1 : decide (60 < (n1 : Int)) = false) (hl2 : decide (60 < (n2 : Int)) = false) (hl3 : decide (60 < (n3 : Int)) = false)
    (es : Hid (cmpN a b = 0)) (et : Hid (cmpN b c = t)) (eu : Hid (cmpN a c = u)) (eb : Hid (cmpN b a = 0)) (ez : Hid (cmpN (a + c) (b + c) = 0)) (ht : 0 < t) :
    Calls Try.prog 5 #[.slice A1 n1 c1, .slice A2 n2 c2, .slice A3 n3 c3] w (RetVal w (.bool true)) := by
  have s1 := len_small hl1
  have s2 := len_small hl2
  have s3 := len_small hl3
  have L1 := Lib.hid h1.len
  have L2 := Lib.hid h2.len
  have L3 := Lib.hid h3.len
  have hr1 := right_dg a
  have hr2 := right_dg b
  have hr3 := right_dg c
  have E := Env.three h1 h2 h3
  clear h1 h2 h3
  have e0 : cmpN a a = 0 := cmpN_eq rfl
  have E0 := Lib.hid e0
  clear e0
  go_enter Try.func5, Try.ntmps5
  go_wp2_with (first | (go_at_call 7; refine (long_any _ _ _ _).mono ?_; rintro e w' ⟨rfl, rfl⟩) | (go_at_call 10; first | ((with_reducible refine (refRight_any A1 n1 c1 _ (dg a) _ (Env.get E (by simp))).mono ?_); rintro e w' ⟨rfl, rfl⟩) | ((with_reducible refine (refRight_any A2 n2 c2 _ (dg b) _ (Env.get E (by simp))).mono ?_); rintro e w' ⟨rfl, rfl⟩) | ((with_reducible refine (refRight_any A3 n3 c3 _ (dg c) _ (Env.get E (by simp))).mono ?_); rintro e w' ⟨rfl, rfl⟩)) | fail)
  clear hl1 hl2 hl3 hr1 hr2 hr3
  refine (cmp_is (a := a) (b := b) (Env.get E (by simp)) (Env.get E (by simp)) es.out).mono ?_; rintro e w1 ⟨rfl, hb⟩; replace E := Env.step E hb
  clear hb
  go_wp2_with (go_at_call 18; first | ((with_reducible refine (cmp_is (A := A2) (A' := A1) (a := b) (b := a) (Env.get E (by simp)) (Env.get E (by simp)) eb.out).mono ?_); rintro e w' ⟨rfl, hb⟩; replace E := Env.step E hb; clear hb) | ((with_reducible refine (cmp_is (A := A1) (A' := A1) (a := a) (b := a) (Env.get E (by simp)) (Env.get E (by simp)) E0.out).mono ?_); rintro e w' ⟨rfl, hb⟩; replace E := Env.step E hb; clear hb) | ((with_reducible refine (cmp_is (A := A2) (A' := A3) (a := b) (b := c) (Env.get E (by simp)) (Env.get E (by simp)) et.out).mono ?_); rintro e w' ⟨rfl, hb⟩; replace E := Env.step E hb; clear hb) | ((with_reducible refine (cmp_is (A := A1) (A' := A3) (a := a) (b := c) (Env.get E (by simp)) (Env.get E (by simp)) eu.out).mono ?_); rintro e w' ⟨rfl, hb⟩; replace E := Env.step E hb; clear hb))
  refine (sub_is (A := A1) (A' := A2) (a := a) (b := b) (Env.get E (by simp)) (Env.get E (by simp)) (by omega) (Nat.le_of_eq ((cmpN_zero a b).1 es.out).symm) rfl).mono ?_; rintro e w3 ⟨A6, n6, c6, rfl, h, hb⟩; replace E := Env.push E hb h
  clear hb
  go_wp2_with fail
  refine (add_is (a := a) (b := c) (A := A1) (A' := A3) (Env.get E (by simp)) (Env.get E (by simp)) (by omega) (by omega) rfl).mono ?_; rintro e w4 ⟨A4, n4, c4, rfl, h, hb⟩; replace E := Env.push E hb h
  clear h hb
  go_wp2_with fail
  refine (add_is (a := b) (b := c) (A := A2) (A' := A3) (Env.get E (by simp)) (Env.get E (by simp)) (by omega) (by omega) rfl).mono ?_; rintro e w5 ⟨A5, n5, c5, rfl, h, hb⟩; replace E := Env.push E hb h
  clear h hb
  go_wp2_with fail
  refine (cmp_is (a := a + c) (b := b + c) (Env.get E (by simp)) (Env.get E (by simp)) ez.out).mono ?_; rintro e w6 ⟨rfl, hb⟩; replace E := Env.step E hb
  clear hb
  go_wp2_with fail
  refine (awake_any _).mono ?_; rintro e w12 ⟨rfl, hb⟩; replace E := Env.step E hb
  clear hb
  go_wp2_with fail
  go_ret
  exact ⟨rfl, E.out.1⟩

set_option maxHeartbeats 2000000 in
set_option maxRecDepth 100000 in
theorem order_zero_less (A1 A2 A3 : Option Addr) (n1 n2 n3 c1 c2 c3 a b c : Nat) (t u : Int) (w : World) (h1 : Num w w.heap.size A1 n1 c1 a) (h2 : Num w w.heap.size A2 n2 c2 b) (h3 : Num w w.heap.size A3 n3 c3 c)
    (hl1 : decide (60 < (n1 : Int)) = false) (hl2 : decide (60 < (n2 : Int)) = false) (hl3 : decide (60 < (n3 : Int)) = false)
    (es : Hid (cmpN a b = 0)) (et : Hid (cmpN b c = t)) (eu : Hid (cmpN a c = u)) (eb : Hid (cmpN b a = 0)) (ez : Hid (cmpN (a + c) (b + c) = 0)) (ht : t ≤ 0) (hu : u ≤ 0) :
    Calls Try.prog 5 #[.slice A1 n1 c1, .slice A2 n2 c2, .slice A3 n3 c3] w (RetVal w (.bool true)) := by
  have s1 := len_small hl1
  have s2 := len_small hl2
  have s3 := len_small hl3
  have L1 := Lib.hid h1.len
  have L2 := Lib.hid h2.len
  have L3 := Lib.hid h3.len
  have hr1 := right_dg a
  have hr2 := right_dg b
  have hr3 := right_dg c
  have E := Env.three h1 h2 h3
  clear h1 h2 h3
  have e0 : cmpN a a = 0 := cmpN_eq rfl
  have E0 := Lib.hid e0
  clear e0
  go_enter Try.func5, Try.ntmps5
  go_wp2_with (first | (go_at_call 7; refine (long_any _ _ _ _).mono ?_; rintro e w' ⟨rfl, rfl⟩) | (go_at_call 10; first | ((with_reducible refine (refRight_any A1 n1 c1 _ (dg a) _ (Env.get E (by simp))).mono ?_); rintro e w' ⟨rfl, rfl⟩) | ((with_reducible refine (refRight_any A2 n2 c2 _ (dg b) _ (Env.get E (by simp))).mono ?_); rintro e w' ⟨rfl, rfl⟩) | ((with_reducible refine (refRight_any A3 n3 c3 _ (dg c) _ (Env.get E (by simp))).mono ?_); rintro e w' ⟨rfl, rfl⟩)) | fail)
  clear hl1 hl2 hl3 hr1 hr2 hr3
  refine (cmp_is (a := a) (b := b) (Env.get E (by simp)) (Env.get E (by simp)) es.out).mono ?_; rintro e w1 ⟨rfl, hb⟩; replace E := Env.step E hb
  clear hb
  go_wp2_with (go_at_call 18; first | ((with_reducible refine (cmp_is (A := A2) (A' := A1) (a := b) (b := a) (Env.get E (by simp)) (Env.get E (by simp)) eb.out).mono ?_); rintro e w' ⟨rfl, hb⟩; replace E := Env.step E hb; clear hb) | ((with_reducible refine (cmp_is (A := A1) (A' := A1) (a := a) (b := a) (Env.get E (by simp)) (Env.get E (by simp)) E0.out).mono ?_); rintro e w' ⟨rfl, hb⟩; replace E := Env.step E hb; clear hb) | ((with_reducible refine (cmp_is (A := A2) (A' := A3) (a := b) (b := c) (Env.get E (by simp)) (Env.get E (by simp)) et.out).mono ?_); rintro e w' ⟨rfl, hb⟩; replace E := Env.step E hb; clear hb) | ((with_reducible refine (cmp_is (A := A1) (A' := A3) (a := a) (b := c) (Env.get E (by simp)) (Env.get E (by simp)) eu.out).mono ?_); rintro e w' ⟨rfl, hb⟩; replace E := Env.step E hb; clear hb))
  refine (sub_is (A := A1) (A' := A2) (a := a) (b := b) (Env.get E (by simp)) (Env.get E (by simp)) (by omega) (Nat.le_of_eq ((cmpN_zero a b).1 es.out).symm) rfl).mono ?_; rintro e w3 ⟨A6, n6, c6, rfl, h, hb⟩; replace E := Env.push E hb h
  clear hb
  go_wp2_with fail
  refine (add_is (a := a) (b := c) (A := A1) (A' := A3) (Env.get E (by simp)) (Env.get E (by simp)) (by omega) (by omega) rfl).mono ?_; rintro e w4 ⟨A4, n4, c4, rfl, h, hb⟩; replace E := Env.push E hb h
  clear h hb
  go_wp2_with fail
  refine (add_is (a := b) (b := c) (A := A2) (A' := A3) (Env.get E (by simp)) (Env.get E (by simp)) (by omega) (by omega) rfl).mono ?_; rintro e w5 ⟨A5, n5, c5, rfl, h, hb⟩; replace E := Env.push E hb h
  clear h hb
  go_wp2_with fail
  refine (cmp_is (a := a + c) (b := b + c) (Env.get E (by simp)) (Env.get E (by simp)) ez.out).mono ?_; rintro e w6 ⟨rfl, hb⟩; replace E := Env.step E hb
  clear hb
  go_wp2_with fail
  refine (awake_any _).mono ?_; rintro e w12 ⟨rfl, hb⟩; replace E := Env.step E hb
  clear hb
  go_wp2_with fail
  go_ret
  exact ⟨rfl, E.out.1⟩

theorem order_any (A1 A2 A3 : Option Addr) (n1 n2 n3 c1 c2 c3 : Nat) (x1 x2 x3 : List Nat) (w : World) (h1 : Hid (Lim w w.heap.size A1 n1 c1 x1)) (h2 : Hid (Lim w w.heap.size A2 n2 c2 x2)) (h3 : Hid (Lim w w.heap.size A3 n3 c3 x3)) :
    Calls Try.prog 5 #[.slice A1 n1 c1, .slice A2 n2 c2, .slice A3 n3 c3] w (RetVal w (.bool true)) := by
  by_cases hg : decide (60 < (n1 : Int)) = false ∧ decide (60 < (n2 : Int)) = false ∧ decide (60 < (n3 : Int)) = false ∧ rightB x1 = true ∧ rightB x2 = true ∧ rightB x3 = true
  · obtain ⟨l1, l2, l3, r1, r2, r3⟩ := hg
    have k1 := h1.out.num r1
    have k2 := h2.out.num r2
    have k3 := h3.out.num r3
    generalize val x1 = a at k1
    generalize val x2 = b at k2
    generalize val x3 = c at k3
    rcases cmpN_cases a b with ⟨h, e⟩ | ⟨h, e⟩ | ⟨h, e⟩
    · rcases Int.lt_or_le 0 (cmpN b c) with ht | ht
      · exact order_neg_more A1 A2 A3 n1 n2 n3 c1 c2 c3 a b c _ _ w k1 k2 k3 l1 l2 l3 e (Lib.hid rfl) (Lib.hid rfl) (cmpN_gt h) (cmpN_lt (by omega)) ht
      · have hbc : ¬ c < b := fun hcb => by rw [cmpN_gt hcb] at ht; omega
        exact order_neg_less A1 A2 A3 n1 n2 n3 c1 c2 c3 a b c _ _ w k1 k2 k3 l1 l2 l3 e (Lib.hid rfl) (Lib.hid rfl) (cmpN_gt h) (cmpN_lt (by omega)) ht (by rw [cmpN_lt (by omega)]; decide)
    · rcases Int.lt_or_le 0 (cmpN b c) with ht | ht
      · exact order_zero_more A1 A2 A3 n1 n2 n3 c1 c2 c3 a b c _ _ w k1 k2 k3 l1 l2 l3 e (Lib.hid rfl) (Lib.hid rfl) (cmpN_eq h.symm) (cmpN_eq (by omega)) ht
      · exact order_zero_less A1 A2 A3 n1 n2 n3 c1 c2 c3 a b c _ _ w k1 k2 k3 l1 l2 l3 e (Lib.hid rfl) (Lib.hid rfl) (cmpN_eq h.symm) (cmpN_eq (by omega)) ht (by rw [h]; exact ht)
    · exact order_pos A1 A2 A3 n1 n2 n3 c1 c2 c3 a b c _ _ w k1 k2 k3 l1 l2 l3 e (Lib.hid rfl) (Lib.hid rfl) (cmpN_lt h) (cmpN_gt (by omega))
  · exact order_bad A1 A2 A3 n1 n2 n3 c1 c2 c3 x1 x2 x3 w h1 h2 h3 hg

end Go.Proofs.Ytlkkoflkngaamaa
