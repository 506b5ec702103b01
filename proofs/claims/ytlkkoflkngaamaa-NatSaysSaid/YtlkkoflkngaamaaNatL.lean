/-
  The walk of the law NatSays.
-/
import Derived.Test.YtlkkoflkngaamaaNatK
namespace Go.Proofs.Ytlkkoflkngaamaa
open Go.RowKit

def RetSubT (W : World) (m : Nat) (t : Int) (e : Ending) (w' : World) : Prop :=
  ∃ A n c, e = .returned (.tuple #[.slice A n c, .int .i64 t]) ∧ Num w' w'.heap.size A n c m ∧ Below W.heap.size W w'

theorem sub_all (A A' : Option Addr) (n c n' c' a b m : Nat) (t : Int) (w : World) (h : Num w w.heap.size A n c a) (h' : Num w w.heap.size A' n' c' b) (hn : n ≤ 1000000000) (hm : a - b = m) (ht : (a < b ∧ t = 1) ∨ (b ≤ a ∧ t = 0)) :
    Calls Try.prog 14 #[.slice A n c, .slice A' n' c'] w (RetSubT w m t) := by
  subst hm
  rcases ht with ⟨hab, rfl⟩ | ⟨hab, rfl⟩
  · exact (sub_lt A A' n c n' c' a b w h h' hab).mono fun e w' ⟨he, hb⟩ => ⟨none, 0, 0, he, by rw [Nat.sub_eq_zero_of_le (Nat.le_of_lt hab), Num, dg_zero]; exact Lim.nil, hb⟩
  · exact (sub_ge A A' n c n' c' a b w h h' hn hab).mono fun e w' ⟨A2, n2, c2, he, h2, hb⟩ => ⟨A2, n2, c2, he, h2, hb⟩
theorem refSub_all (A A' : Option Addr) (n c n' c' a b m : Nat) (t : Int) (w : World) (h : Num w w.heap.size A n c a) (h' : Num w w.heap.size A' n' c' b) (hn : n ≤ 100000000) (hm : a - b = m) (ht : (a < b ∧ t = 1) ∨ (b ≤ a ∧ t = 0)) :
    Calls Try.prog 15 #[.slice A n c, .slice A' n' c'] w (RetSubT w m t) := by
  subst hm
  rcases ht with ⟨hab, rfl⟩ | ⟨hab, rfl⟩
  · exact (refSub_lt A A' n c n' c' a b w h h' hab).mono fun e w' ⟨he, hb⟩ => ⟨none, 0, 0, he, by rw [Nat.sub_eq_zero_of_le (Nat.le_of_lt hab), Num, dg_zero]; exact Lim.nil, hb⟩
  · exact (refSub_ge A A' n c n' c' a b w h h' hn hab).mono fun e w' ⟨A2, n2, c2, he, h2, hb⟩ => ⟨A2, n2, c2, he, h2, hb⟩
theorem small_all (A : Option Addr) (n c a : Nat) (x : Int) (t : Bool) (w : World) (h : Num w w.heap.size A n c a) (hx : (a ≤ top64 ∧ x = a ∧ t = true) ∨ (top64 < a ∧ x = 0 ∧ t = false)) :
    Calls Try.prog 16 #[.slice A n c] w (RetVal w (.tuple #[.int .u64 x, .bool t])) := by
  rcases hx with ⟨ha, rfl, rfl⟩ | ⟨ha, rfl, rfl⟩
  · exact small_yes A n c a w h ha
  · exact small_no A n c a w h ha
theorem refSmall_all (A : Option Addr) (n c a : Nat) (x : Int) (t : Bool) (w : World) (h : Num w w.heap.size A n c a) (hx : (a ≤ top64 ∧ x = a ∧ t = true) ∨ (top64 < a ∧ x = 0 ∧ t = false)) :
    Calls Try.prog 17 #[.slice A n c] w (RetVal w (.tuple #[.int .u64 x, .bool t])) := by
  rcases hx with ⟨ha, rfl, rfl⟩ | ⟨ha, rfl, rfl⟩
  · exact refSmall_yes A n c a w h ha
  · exact refSmall_no A n c a w h ha
theorem refCmp_is {s : Int} {A A' : Option Addr} {n c n' c' a b : Nat} {w : World} (h : Num w w.heap.size A n c a) (h' : Num w w.heap.size A' n' c' b) (hs : cmpN a b = s) :
    Calls Try.prog 19 #[.slice A n c, .slice A' n' c'] w (RetVal w (.int .i64 s)) := by
  subst hs; exact refCmp_any A A' n c n' c' a b w h h'
theorem same_be {q : Bool} {A A' : Option Addr} {n c n' c' a b : Nat} {w : World} (h : Num w w.heap.size A n c a) (h' : Num w w.heap.size A' n' c' b) (hs : decide (a = b) = q) :
    Calls Try.prog 20 #[.slice A n c, .slice A' n' c'] w (RetVal w (.bool q)) := by
  subst hs; exact same_any A A' n c n' c' a b w h h'
theorem refSame_be {q : Bool} {A A' : Option Addr} {n c n' c' a b : Nat} {w : World} (h : Num w w.heap.size A n c a) (h' : Num w w.heap.size A' n' c' b) (hs : decide (a = b) = q) :
    Calls Try.prog 11 #[.slice A n c, .slice A' n' c'] w (RetVal w (.bool q)) := by
  subst hs; exact refSame_any A A' n c n' c' a b w h h'
theorem refEven_is {A : Option Addr} {n c a B : Nat} {w : World} {t : Bool} (h : Num w B A n c a) (hs : decide (a % 2 = 0) = t) :
    Calls Try.prog 24 #[.slice A n c] w fun e w' => e = .returned (.bool t) ∧ w = w' := by
  subst hs; exact refEven_any A n c B a w h
theorem refRight_is {A : Option Addr} {n c B : Nat} {xs : List Nat} {w : World} {t : Bool} (h : Lim w B A n c xs) (hs : rightB xs = t) :
    Calls Try.prog 10 #[.slice A n c] w fun e w' => e = .returned (.bool t) ∧ w = w' := by
  subst hs; exact refRight_any A n c B xs w h
theorem refAdd_is {A A' : Option Addr} {n c n' c' a b m : Nat} {w : World} (h : Num w w.heap.size A n c a) (h' : Num w w.heap.size A' n' c' b) (hn : n ≤ 100000000) (hn' : n' ≤ 100000000) (hm : a + b = m) :
    Calls Try.prog 22 #[.slice A n c, .slice A' n' c'] w (RetNum w m) := by
  subst hm; exact refAdd_any A A' n c n' c' a b w h h' hn hn'
theorem refMk_any (N : Nat) (hN : Hid (N < 18446744073709551616)) (w : World) : Calls Try.prog 13 #[.int .u64 N] w (RetNum w N) :=
  refMake_any (dg N).length N w hN (Nat.le_refl _)

theorem long_is {A : Option Addr} {n c : Nat} {w : World} {t : Bool} (h : decide (60 < (n : Int)) = t) :
    Calls Try.prog 7 #[.slice A n c] w fun e w' => e = .returned (.bool t) ∧ w = w' := by
  subst h; exact long_any A n c w

/-- One of the two is long. -/
theorem says_long (A1 A2 : Option Addr) (n1 n2 c1 c2 N : Nat) (w : World) (h : 60 < n1 ∨ 60 < n2) :
    Calls Try.prog 3 #[.slice A1 n1 c1, .slice A2 n2 c2, .int .u64 N] w (RetVal w (.bool true)) := by
  rcases (show (decide (60 < (n1 : Int)) = true) ∨ (decide (60 < (n1 : Int)) = false ∧ decide (60 < (n2 : Int)) = true) by
    cases h1 : decide (60 < (n1 : Int)) <;> cases h2 : decide (60 < (n2 : Int)) <;> simp at h1 h2 ⊢
    omega) with hl1 | ⟨hl1, hl2⟩
  all_goals
    clear h
    go_enter Try.func3, Try.ntmps3
    go_wp2_with (first | (go_at_call 7; refine (long_any _ _ _ _).mono ?_; rintro e w' ⟨rfl, rfl⟩) | (go_at_call 8; refine (awake_any _).mono ?_; rintro e w' ⟨rfl, hb⟩; have HB := Lib.hid hb; clear hb))
    go_ret
    exact ⟨rfl, HB.out⟩

set_option maxHeartbeats 2000000 in
set_option maxRecDepth 100000 in
/-- None is long, one is not right. -/
theorem says_bad (A1 A2 : Option Addr) (n1 n2 c1 c2 N : Nat) (x1 x2 : List Nat) (r1 r2 : Bool) (w : World) (h1 : Hid (Lim w w.heap.size A1 n1 c1 x1)) (h2 : Hid (Lim w w.heap.size A2 n2 c2 x2)) (hN : Hid (N < 18446744073709551616))
    (hl1 : decide (60 < (n1 : Int)) = false) (hl2 : decide (60 < (n2 : Int)) = false) (e1 : Hid (rightB x1 = r1)) (e2 : Hid (rightB x2 = r2)) (hbad : r1 = false ∨ (r1 = true ∧ r2 = false)) :
    Calls Try.prog 3 #[.slice A1 n1 c1, .slice A2 n2 c2, .int .u64 N] w (RetVal w (.bool true)) := by
  have E := Env.refl w
  rcases hbad with rfl | ⟨rfl, rfl⟩
  all_goals
    go_enter Try.func3, Try.ntmps3
    go_wp2_with fail
    refine (long_is hl1).mono ?_; rintro e w' ⟨rfl, rfl⟩
    go_wp2_with fail
    refine (long_is hl2).mono ?_; rintro e w' ⟨rfl, rfl⟩
    go_wp2_with fail
    refine (right_is h1.out e1.out).mono ?_; rintro e w' ⟨rfl, rfl⟩
    go_wp2_with fail
    refine (refRight_is h1.out e1.out).mono ?_; rintro e w' ⟨rfl, rfl⟩
    go_wp2_with fail
    refine (make_any N hN _).mono ?_; rintro e w2 ⟨A5, n5, c5, rfl, h5, hb⟩; replace E := Env.push E hb h5; replace h1 := Lim.go_ h1 hb; replace h2 := Lim.go_ h2 hb
    clear h5 hb
    go_wp2_with fail
    refine (refMk_any N hN _).mono ?_; rintro e w3 ⟨A6, n6, c6, rfl, h6, hb⟩; replace E := Env.push E hb h6; replace h1 := Lim.go_ h1 hb; replace h2 := Lim.go_ h2 hb
    clear h6 hb
    go_wp2_with fail
    refine (refSame_is (A := A5) (A' := A6) (a := N) (b := N) (Env.get E (by simp)) (Env.get E (by simp)) rfl).mono ?_; rintro e w4 ⟨rfl, hb⟩; replace E := Env.step E hb; replace h1 := Lim.go_ h1 hb; replace h2 := Lim.go_ h2 hb
    clear hb
    go_wp2_with fail
    refine (make_any N hN _).mono ?_; rintro e w5 ⟨A7, n7, c7, rfl, h7, hb⟩; replace E := Env.push E hb h7; replace h1 := Lim.go_ h1 hb; replace h2 := Lim.go_ h2 hb
    clear h7 hb
    go_wp2_with fail
    refine (right_is (A := A7) (xs := dg N) (t := true) (Env.get E (by simp)) (right_dg _)).mono ?_; rintro e w' ⟨rfl, rfl⟩
    go_wp2_with fail
    refine (refRight_is h1.out e1.out).mono ?_; rintro e w' ⟨rfl, rfl⟩
    go_wp2_with (first | (go_at_call 10; refine (refRight_is h2.out e2.out).mono ?_; rintro e w' ⟨rfl, rfl⟩) | (go_at_call 8; refine (awake_any _).mono ?_; rintro e w' ⟨rfl, hb⟩; replace E := Env.step E hb; clear hb))
    go_ret
    exact ⟨rfl, E.out.1⟩

set_option maxHeartbeats 4000000 in
set_option maxRecDepth 100000 in
theorem says_good (A1 A2 : Option Addr) (n1 n2 c1 c2 N a b : Nat) (s t x : Int) (q ev is : Bool) (w : World) (h1 : Num w w.heap.size A1 n1 c1 a) (h2 : Num w w.heap.size A2 n2 c2 b) (hN : Hid (N < 18446744073709551616))
    (hl1 : decide (60 < (n1 : Int)) = false) (hl2 : decide (60 < (n2 : Int)) = false) (es : Hid (cmpN a b = s)) (et : Hid ((a < b ∧ t = 1) ∨ (b ≤ a ∧ t = 0))) (eq : Hid (decide (a = b) = q)) (ee : Hid (decide (a % 2 = 0) = ev)) (ex : Hid ((a ≤ top64 ∧ x = a ∧ is = true) ∨ (top64 < a ∧ x = 0 ∧ is = false))) :
    Calls Try.prog 3 #[.slice A1 n1 c1, .slice A2 n2 c2, .int .u64 N] w (RetVal w (.bool true)) := by
  have s1 := len_small hl1
  have s2 := len_small hl2
  have E : Hid (Env w w [(A1, n1, c1, a), (A2, n2, c2, b)]) := by
    refine ⟨Below.refl _ _, fun q hq => ?_⟩
    rcases List.mem_cons.1 hq with rfl | hq
    · exact h1
    · rcases List.mem_cons.1 hq with rfl | hq
      · exact h2
      · cases hq
  clear h1 h2
  go_enter Try.func3, Try.ntmps3
  go_wp2_with fail
  refine (long_is hl1).mono ?_; rintro e w' ⟨rfl, rfl⟩
  go_wp2_with fail
  refine (long_is hl2).mono ?_; rintro e w' ⟨rfl, rfl⟩
  clear hl1 hl2
  go_wp2_with fail
  refine (right_is (xs := dg a) (t := true) (Env.get E (by simp)) (right_dg _)).mono ?_; rintro e w' ⟨rfl, rfl⟩
  go_wp2_with fail
  refine (refRight_is (xs := dg a) (t := true) (Env.get E (by simp)) (right_dg _)).mono ?_; rintro e w' ⟨rfl, rfl⟩
  go_wp2_with fail
  refine (make_any N hN _).mono ?_; rintro e w2 ⟨A5, n5, c5, rfl, h5, hb⟩; replace E := Env.push E hb h5
  clear h5 hb
  go_wp2_with fail
  refine (refMk_any N hN _).mono ?_; rintro e w3 ⟨A6, n6, c6, rfl, h6, hb⟩; replace E := Env.push E hb h6
  clear h6 hb
  go_wp2_with fail
  refine (refSame_is (A := A5) (A' := A6) (a := N) (b := N) (Env.get E (by simp)) (Env.get E (by simp)) rfl).mono ?_; rintro e w4 ⟨rfl, hb⟩; replace E := Env.step E hb
  clear hb
  go_wp2_with fail
  refine (make_any N hN _).mono ?_; rintro e w5 ⟨A7, n7, c7, rfl, h7, hb⟩; replace E := Env.push E hb h7
  clear h7 hb
  go_wp2_with fail
  refine (right_is (A := A7) (xs := dg N) (t := true) (Env.get E (by simp)) (right_dg _)).mono ?_; rintro e w' ⟨rfl, rfl⟩
  go_wp2_with fail
  refine (refRight_is (A := A1) (xs := dg a) (t := true) (Env.get E (by simp)) (right_dg _)).mono ?_; rintro e w' ⟨rfl, rfl⟩
  go_wp2_with fail
  refine (refRight_is (A := A2) (xs := dg b) (t := true) (Env.get E (by simp)) (right_dg _)).mono ?_; rintro e w' ⟨rfl, rfl⟩
  go_wp2_with fail
  refine (sub_all A1 A2 n1 c1 n2 c2 a b _ t _ (Env.get E (by simp)) (Env.get E (by simp)) (by omega) rfl et.out).mono ?_; rintro e w6 ⟨A8, n8, c8, rfl, h8, hb⟩; replace E := Env.push E hb h8
  clear h8 hb
  go_wp2_with fail
  refine (refSub_all A1 A2 n1 c1 n2 c2 a b _ t _ (Env.get E (by simp)) (Env.get E (by simp)) (by omega) rfl et.out).mono ?_; rintro e w7 ⟨A9, n9, c9, rfl, h9, hb⟩; replace E := Env.push E hb h9
  clear h9 hb
  go_wp2_with fail
  refine (small_all A1 n1 c1 a x is _ (Env.get E (by simp)) ex.out).mono ?_; rintro e w8 ⟨rfl, hb⟩; replace E := Env.step E hb
  clear hb
  go_wp2_with fail
  refine (refSmall_all A1 n1 c1 a x is _ (Env.get E (by simp)) ex.out).mono ?_; rintro e w9 ⟨rfl, hb⟩; replace E := Env.step E hb
  clear hb
  go_wp2_with fail
  refine (cmp_is (A := A1) (A' := A2) (a := a) (b := b) (Env.get E (by simp)) (Env.get E (by simp)) es.out).mono ?_; rintro e w10 ⟨rfl, hb⟩; replace E := Env.step E hb
  clear hb
  go_wp2_with fail
  refine (refCmp_is (A := A1) (A' := A2) (a := a) (b := b) (Env.get E (by simp)) (Env.get E (by simp)) es.out).mono ?_; rintro e w11 ⟨rfl, hb⟩; replace E := Env.step E hb
  clear hb
  go_wp2_with fail
  refine (same_be (A := A1) (A' := A2) (a := a) (b := b) (Env.get E (by simp)) (Env.get E (by simp)) eq.out).mono ?_; rintro e w12 ⟨rfl, hb⟩; replace E := Env.step E hb
  clear hb
  go_wp2_with fail
  refine (refSame_be (A := A1) (A' := A2) (a := a) (b := b) (Env.get E (by simp)) (Env.get E (by simp)) eq.out).mono ?_; rintro e w13 ⟨rfl, hb⟩; replace E := Env.step E hb
  clear hb
  go_wp2_with fail
  refine (add_is (A := A1) (A' := A2) (a := a) (b := b) (Env.get E (by simp)) (Env.get E (by simp)) (by omega) (by omega) rfl).mono ?_; rintro e w14 ⟨A10, n10, c10, rfl, h10, hb⟩; replace E := Env.push E hb h10
  clear h10 hb
  go_wp2_with fail
  refine (refAdd_is (A := A1) (A' := A2) (a := a) (b := b) (Env.get E (by simp)) (Env.get E (by simp)) (by omega) (by omega) rfl).mono ?_; rintro e w15 ⟨A11, n11, c11, rfl, h11, hb⟩; replace E := Env.push E hb h11
  clear h11 hb
  go_wp2_with fail
  refine (refSame_is (A := A10) (A' := A11) (a := a + b) (b := a + b) (Env.get E (by simp)) (Env.get E (by simp)) rfl).mono ?_; rintro e w16 ⟨rfl, hb⟩; replace E := Env.step E hb
  clear hb
  go_wp2_with fail
  refine (refSame_is (A := A8) (A' := A9) (a := a - b) (b := a - b) (Env.get E (by simp)) (Env.get E (by simp)) rfl).mono ?_; rintro e w17 ⟨rfl, hb⟩; replace E := Env.step E hb
  clear hb
  go_wp2_with fail
  refine (even_is (A := A1) (a := a) (Env.get E (by simp)) ee.out).mono ?_; rintro e w' ⟨rfl, rfl⟩
  go_wp2_with fail
  refine (refEven_is (A := A1) (a := a) (Env.get E (by simp)) ee.out).mono ?_; rintro e w' ⟨rfl, rfl⟩
  go_wp2_with fail
  refine (awake_any _).mono ?_; rintro e w18 ⟨rfl, hb⟩; replace E := Env.step E hb
  clear hb
  go_wp2_with fail
  go_ret
  exact ⟨rfl, E.out.1⟩

theorem says_any (A1 A2 : Option Addr) (n1 n2 c1 c2 N : Nat) (x1 x2 : List Nat) (w : World) (h1 : Hid (Lim w w.heap.size A1 n1 c1 x1)) (h2 : Hid (Lim w w.heap.size A2 n2 c2 x2)) (hN : Hid (N < 18446744073709551616)) :
    Calls Try.prog 3 #[.slice A1 n1 c1, .slice A2 n2 c2, .int .u64 N] w (RetVal w (.bool true)) := by
  by_cases hl : 60 < n1 ∨ 60 < n2
  · exact says_long A1 A2 n1 n2 c1 c2 N w hl
  · have hl1 : decide (60 < (n1 : Int)) = false := by rw [decide_eq_false_iff_not]; omega
    have hl2 : decide (60 < (n2 : Int)) = false := by rw [decide_eq_false_iff_not]; omega
    cases hr1 : rightB x1 with
    | false => exact says_bad A1 A2 n1 n2 c1 c2 N x1 x2 false (rightB x2) w h1 h2 hN hl1 hl2 hr1 (Lib.hid rfl) (.inl rfl)
    | true =>
      cases hr2 : rightB x2 with
      | false => exact says_bad A1 A2 n1 n2 c1 c2 N x1 x2 true false w h1 h2 hN hl1 hl2 hr1 hr2 (.inr ⟨rfl, rfl⟩)
      | true =>
        have et : ∃ t : Int, (val x1 < val x2 ∧ t = 1) ∨ (val x2 ≤ val x1 ∧ t = 0) := by
          rcases Nat.lt_or_ge (val x1) (val x2) with h | h
          · exact ⟨1, .inl ⟨h, rfl⟩⟩
          · exact ⟨0, .inr ⟨h, rfl⟩⟩
        have ex : ∃ (x : Int) (is : Bool), (val x1 ≤ top64 ∧ x = val x1 ∧ is = true) ∨ (top64 < val x1 ∧ x = 0 ∧ is = false) := by
          rcases Nat.lt_or_ge top64 (val x1) with h | h
          · exact ⟨0, false, .inr ⟨h, rfl, rfl⟩⟩
          · exact ⟨val x1, true, .inl ⟨h, rfl, rfl⟩⟩
        obtain ⟨t, et⟩ := et
        obtain ⟨x, is, ex⟩ := ex
        exact says_good A1 A2 n1 n2 c1 c2 N _ _ _ t x _ _ is w (h1.out.num hr1) (h2.out.num hr2) hN hl1 hl2 (Lib.hid rfl) et (Lib.hid rfl) (Lib.hid rfl) ex

end Go.Proofs.Ytlkkoflkngaamaa
