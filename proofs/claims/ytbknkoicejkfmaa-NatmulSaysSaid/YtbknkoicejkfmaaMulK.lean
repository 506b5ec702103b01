/-
  The walks of the laws NatmulSays and NatmulPowers.
-/
import Derived.Test.YtbknkoicejkfmaaMulU
import Derived.Test.YtbknkoicejkfmaaMulJ
namespace Go.Proofs.Ytbknkoicejkfmaa
open Go.RowKit

theorem refSame_is {A A' : Option Addr} {n c n' c' a b : Nat} {w : World} (h : Num w w.heap.size A n c a) (h' : Num w w.heap.size A' n' c' b) (hs : a = b) :
    Calls Try.prog 11 #[.slice A n c, .slice A' n' c'] w (RetVal w (.bool true)) := by
  have := refSame_any A A' n c n' c' a b w h h'
  rwa [decide_eq_true hs] at this

theorem says_cases (n1 n2 : Nat) (x1 x2 : List Nat) :
    (decide (60 < (n1 : Int)) = true) ∨ (decide (60 < (n1 : Int)) = false ∧ decide (60 < (n2 : Int)) = true) ∨
    (decide (60 < (n1 : Int)) = false ∧ decide (60 < (n2 : Int)) = false ∧ rightB x1 = false) ∨ (decide (60 < (n1 : Int)) = false ∧ decide (60 < (n2 : Int)) = false ∧ rightB x1 = true ∧ rightB x2 = false) ∨
    (decide (60 < (n1 : Int)) = false ∧ decide (60 < (n2 : Int)) = false ∧ rightB x1 = true ∧ rightB x2 = true) := by
  cases decide (60 < (n1 : Int)) <;> cases decide (60 < (n2 : Int)) <;> cases rightB x1 <;> cases rightB x2 <;> simp

set_option maxHeartbeats 1000000 in
set_option maxRecDepth 100000 in
theorem msays_bad (A1 A2 : Option Addr) (n1 n2 c1 c2 l : Nat) (x1 x2 : List Nat) (w : World) (h1 : Hid (Lim w w.heap.size A1 n1 c1 x1)) (h2 : Hid (Lim w w.heap.size A2 n2 c2 x2))
    (hbad : ¬ (decide (60 < (n1 : Int)) = false ∧ decide (60 < (n2 : Int)) = false ∧ rightB x1 = true ∧ rightB x2 = true)) :
    Calls Try.prog 3 #[.slice A1 n1 c1, .slice A2 n2 c2, .int .u32 l] w (RetVal w (.bool true)) := by
  rcases says_cases n1 n2 x1 x2 with hl1 | ⟨hl1, hl2⟩ | ⟨hl1, hl2, hr1⟩ | ⟨hl1, hl2, hr1, hr2⟩ | hgood
  case inr.inr.inr.inr => exact absurd hgood hbad
  all_goals
    clear hbad
    go_enter Try.func3, Try.ntmps3
    go_wp2_with (first | (go_at_call 8; refine (long_any _ _ _ _).mono ?_; rintro e w' ⟨rfl, rfl⟩) | (go_at_call 9; first | ((with_reducible refine (refRight_any A1 n1 c1 _ x1 _ h1.out).mono ?_); rintro e w' ⟨rfl, rfl⟩) | ((with_reducible refine (refRight_any A2 n2 c2 _ x2 _ h2.out).mono ?_); rintro e w' ⟨rfl, rfl⟩)) | (go_at_call 10; refine (awake_any _).mono ?_; rintro e w' ⟨rfl, hb⟩; have HB := Lib.hid hb; clear hb))
    go_ret
    exact ⟨rfl, HB.out⟩

set_option maxHeartbeats 1000000 in
set_option maxRecDepth 100000 in
theorem msays_good (A1 A2 : Option Addr) (n1 n2 c1 c2 l a b : Nat) (w : World) (h1 : Num w w.heap.size A1 n1 c1 a) (h2 : Num w w.heap.size A2 n2 c2 b) (hl1 : decide (60 < (n1 : Int)) = false) (hl2 : decide (60 < (n2 : Int)) = false) (hl : l < 4294967296) :
    Calls Try.prog 3 #[.slice A1 n1 c1, .slice A2 n2 c2, .int .u32 l] w (RetVal w (.bool true)) := by
  have s1 := len_small hl1
  have s2 := len_small hl2
  have hr1 := right_dg a
  have hr2 := right_dg b
  have E := Env.two h1 h2
  clear h1 h2
  go_enter Try.func3, Try.ntmps3
  go_wp2_with (first | (go_at_call 8; refine (long_any _ _ _ _).mono ?_; rintro e w' ⟨rfl, rfl⟩) | (go_at_call 9; first | ((with_reducible refine (refRight_any A1 n1 c1 _ (dg a) _ (Env.get E (by simp))).mono ?_); rintro e w' ⟨rfl, rfl⟩) | ((with_reducible refine (refRight_any A2 n2 c2 _ (dg b) _ (Env.get E (by simp))).mono ?_); rintro e w' ⟨rfl, rfl⟩)) | fail)
  clear hl1 hl2 hr1 hr2
  refine (mul_is (a := a) (b := b) (Env.get E (A := A1) (n := n1) (c := c1) (by simp)) (Env.get E (A := A2) (n := n2) (c := c2) (by simp)) (by omega) (by omega) rfl).mono ?_; rintro e w3 ⟨A3, n3, c3, rfl, h, hb⟩; replace E := Env.push E hb h
  clear h hb
  go_wp2_with fail
  refine (refMul_is (a := a) (b := b) (Env.get E (A := A1) (n := n1) (c := c1) (by simp)) (Env.get E (A := A2) (n := n2) (c := c2) (by simp)) (by omega) (by omega) rfl).mono ?_; rintro e w4 ⟨A4, n4, c4, rfl, h, hb⟩; replace E := Env.push E hb h
  clear h hb
  go_wp2_with fail
  refine (refSame_is (a := a * b) (b := a * b) (Env.get E (A := A3) (n := n3) (c := c3) (by simp)) (Env.get E (A := A4) (n := n4) (c := c4) (by simp)) rfl).mono ?_; rintro e w5 ⟨rfl, hb⟩; replace E := Env.step E hb
  clear hb
  go_wp2_with fail
  refine (times_is (a := a) (l := l) (Env.get E (A := A1) (n := n1) (c := c1) (by simp)) (by omega) hl rfl).mono ?_; rintro e w6 ⟨A6, n6, c6, rfl, h, hb⟩; replace E := Env.push E hb h
  clear h hb
  go_wp2_with fail
  refine (refTimes_is (a := a) (l := l) (Env.get E (A := A1) (n := n1) (c := c1) (by simp)) (by omega) hl rfl).mono ?_; rintro e w7 ⟨A7, n7, c7, rfl, h, hb⟩; replace E := Env.push E hb h
  clear h hb
  go_wp2_with fail
  refine (refSame_is (a := a * l) (b := a * l) (Env.get E (A := A6) (n := n6) (c := c6) (by simp)) (Env.get E (A := A7) (n := n7) (c := c7) (by simp)) rfl).mono ?_; rintro e w8 ⟨rfl, hb⟩; replace E := Env.step E hb
  clear hb
  go_wp2_with fail
  refine (square_is (a := a) (Env.get E (A := A1) (n := n1) (c := c1) (by simp)) (by omega) rfl).mono ?_; rintro e w9 ⟨A9, n9, c9, rfl, h, hb⟩; replace E := Env.push E hb h
  clear h hb
  go_wp2_with fail
  refine (refSquare_is (a := a) (Env.get E (A := A1) (n := n1) (c := c1) (by simp)) (by omega) rfl).mono ?_; rintro e w10 ⟨A10, n10, c10, rfl, h, hb⟩; replace E := Env.push E hb h
  clear h hb
  go_wp2_with fail
  refine (refSame_is (a := a * a) (b := a * a) (Env.get E (A := A9) (n := n9) (c := c9) (by simp)) (Env.get E (A := A10) (n := n10) (c := c10) (by simp)) rfl).mono ?_; rintro e w11 ⟨rfl, hb⟩; replace E := Env.step E hb
  clear hb
  go_wp2_with fail
  refine (mul_is (a := a) (b := b) (Env.get E (A := A1) (n := n1) (c := c1) (by simp)) (Env.get E (A := A2) (n := n2) (c := c2) (by simp)) (by omega) (by omega) rfl).mono ?_; rintro e w12 ⟨A12, n12, c12, rfl, h, hb⟩; replace E := Env.push E hb h
  clear h hb
  go_wp2_with fail
  refine (right_is (xs := dg (a * b)) (t := true) (Env.get E (A := A12) (n := n12) (c := c12) (by simp)) (right_dg _)).mono ?_; rintro e w' ⟨rfl, rfl⟩
  go_wp2_with fail
  refine (awake_any _).mono ?_; rintro e w13 ⟨rfl, hb⟩; replace E := Env.step E hb
  clear hb
  go_wp2_with fail
  go_ret
  exact ⟨rfl, E.out.1⟩

theorem msays_any (A1 A2 : Option Addr) (n1 n2 c1 c2 l : Nat) (x1 x2 : List Nat) (w : World) (h1 : Hid (Lim w w.heap.size A1 n1 c1 x1)) (h2 : Hid (Lim w w.heap.size A2 n2 c2 x2)) (hl : l < 4294967296) :
    Calls Try.prog 3 #[.slice A1 n1 c1, .slice A2 n2 c2, .int .u32 l] w (RetVal w (.bool true)) := by
  by_cases hg : decide (60 < (n1 : Int)) = false ∧ decide (60 < (n2 : Int)) = false ∧ rightB x1 = true ∧ rightB x2 = true
  · obtain ⟨l1, l2, r1, r2⟩ := hg
    exact msays_good A1 A2 n1 n2 c1 c2 l _ _ w (h1.out.num r1) (h2.out.num r2) l1 l2 hl
  · exact msays_bad A1 A2 n1 n2 c1 c2 l x1 x2 w h1 h2 hg

set_option maxHeartbeats 1000000 in
set_option maxRecDepth 100000 in
theorem powers_bad (A1 : Option Addr) (n1 c1 : Nat) (k : Int) (x1 : List Nat) (w : World) (h1 : Hid (Lim w w.heap.size A1 n1 c1 x1)) (hbad : ¬ (n1 ≤ 4 ∧ rightB x1 = true ∧ k ≤ 60)) :
    Calls Try.prog 4 #[.slice A1 n1 c1, .int .i64 k] w (RetVal w (.bool true)) := by
  obtain hl1 | ⟨hl1, hr1⟩ | ⟨hl1, hr1, hk⟩ : 4 < n1 ∨ (n1 ≤ 4 ∧ rightB x1 = false) ∨ (n1 ≤ 4 ∧ rightB x1 = true ∧ 60 < k) := by
    by_cases h4 : 4 < n1
    · exact .inl h4
    · have h5 : n1 ≤ 4 := by omega
      cases hr : rightB x1
      · exact .inr (.inl ⟨h5, rfl⟩)
      · refine .inr (.inr ⟨h5, rfl, ?_⟩)
        rcases Int.lt_or_le 60 k with hk | hk
        · exact hk
        · exact absurd ⟨h5, hr, hk⟩ hbad
  all_goals
    clear hbad
    go_enter Try.func4, Try.ntmps4
    go_wp2_with (first | (go_at_call 9; ((with_reducible refine (refRight_any A1 n1 c1 _ x1 _ h1.out).mono ?_); rintro e w' ⟨rfl, rfl⟩)) | (go_at_call 10; refine (awake_any _).mono ?_; rintro e w' ⟨rfl, hb⟩; have HB := Lib.hid hb; clear hb))
    go_ret
    exact ⟨rfl, HB.out⟩

set_option maxHeartbeats 1000000 in
set_option maxRecDepth 100000 in
theorem powers_neg (A1 : Option Addr) (n1 c1 a : Nat) (k : Int) (w : World) (h1 : Num w w.heap.size A1 n1 c1 a) (hl1 : n1 ≤ 4) (hk : k < 0) :
    Calls Try.prog 4 #[.slice A1 n1 c1, .int .i64 k] w (RetVal w (.bool true)) := by
  have hr1 := right_dg a
  have E := Env.one h1
  clear h1
  go_enter Try.func4, Try.ntmps4
  go_wp2_with (first | (go_at_call 9; ((with_reducible refine (refRight_any A1 n1 c1 _ (dg a) _ (Env.get E (by simp))).mono ?_); rintro e w' ⟨rfl, rfl⟩)) | fail)
  clear hr1
  refine (power_neg A1 n1 c1 k _ hk).mono ?_; rintro e w2 ⟨rfl, hb⟩; replace E := Env.step E hb
  clear hb
  go_wp2_with fail
  refine (refPower_neg A1 n1 c1 k _ hk).mono ?_; rintro e w3 ⟨rfl, hb⟩; replace E := Env.step E hb
  clear hb
  go_wp2_with fail
  refine (ten_neg k _ hk).mono ?_; rintro e w4 ⟨rfl, hb⟩; replace E := Env.step E hb
  clear hb
  go_wp2_with fail
  refine (refTen_neg k _ hk).mono ?_; rintro e w5 ⟨rfl, hb⟩; replace E := Env.step E hb
  clear hb
  go_wp2_with fail
  refine (shift_neg A1 n1 c1 k _ hk).mono ?_; rintro e w6 ⟨rfl, hb⟩; replace E := Env.step E hb
  clear hb
  go_wp2_with fail
  refine (refShift_neg A1 n1 c1 k _ hk).mono ?_; rintro e w7 ⟨rfl, hb⟩; replace E := Env.step E hb
  clear hb
  go_wp2_with fail
  refine (refSame_is (a := 0) (b := 0) (by rw [Num, dg_zero]; exact Lim.nil) (by rw [Num, dg_zero]; exact Lim.nil) rfl).mono ?_; rintro e w8 ⟨rfl, hb⟩; replace E := Env.step E hb
  clear hb
  go_wp2_with fail
  refine (refSame_is (a := 0) (b := 0) (by rw [Num, dg_zero]; exact Lim.nil) (by rw [Num, dg_zero]; exact Lim.nil) rfl).mono ?_; rintro e w9 ⟨rfl, hb⟩; replace E := Env.step E hb
  clear hb
  go_wp2_with fail
  refine (refSame_is (a := 0) (b := 0) (by rw [Num, dg_zero]; exact Lim.nil) (by rw [Num, dg_zero]; exact Lim.nil) rfl).mono ?_; rintro e w10 ⟨rfl, hb⟩; replace E := Env.step E hb
  clear hb
  go_wp2_with fail
  refine (awake_any _).mono ?_; rintro e w11 ⟨rfl, hb⟩; replace E := Env.step E hb
  clear hb
  go_wp2_with fail
  go_ret
  exact ⟨rfl, E.out.1⟩

set_option maxHeartbeats 1000000 in
set_option maxRecDepth 100000 in
theorem powers_good (A1 : Option Addr) (n1 c1 a k : Nat) (w : World) (h1 : Num w w.heap.size A1 n1 c1 a) (hl1 : n1 ≤ 4) (hk : k ≤ 60) :
    Calls Try.prog 4 #[.slice A1 n1 c1, .int .i64 k] w (RetVal w (.bool true)) := by
  have hr1 := right_dg a
  have E := Env.one h1
  clear h1
  obtain ⟨p, hp⟩ : ∃ p, a ^ k = p := ⟨_, rfl⟩
  obtain ⟨t, ht⟩ : ∃ t, 10 ^ k = t := ⟨_, rfl⟩
  obtain ⟨s, hs⟩ : ∃ s, a * 10 ^ k = s := ⟨_, rfl⟩
  have HP := Lib.hid hp
  have HT := Lib.hid ht
  have HS := Lib.hid hs
  clear hp ht hs
  go_enter Try.func4, Try.ntmps4
  go_wp2_with (first | (go_at_call 9; ((with_reducible refine (refRight_any A1 n1 c1 _ (dg a) _ (Env.get E (by simp))).mono ?_); rintro e w' ⟨rfl, rfl⟩)) | fail)
  clear hr1
  refine (power_is (a := a) (k := k) (m := p) (Env.get E (A := A1) (n := n1) (c := c1) (by simp)) (by omega) (by omega) rfl HP.out).mono ?_; rintro e w2 ⟨A2, n2, c2, rfl, h, hb⟩; replace E := Env.push E hb h
  clear h hb
  go_wp2_with fail
  refine (refPower_is (a := a) (k := k) (m := p) (Env.get E (A := A1) (n := n1) (c := c1) (by simp)) (by omega) (by omega) rfl HP.out).mono ?_; rintro e w3 ⟨A3, n3, c3, rfl, h, hb⟩; replace E := Env.push E hb h
  clear h hb
  go_wp2_with fail
  refine (ten_is (k := k) (m := t) (by omega) rfl HT.out).mono ?_; rintro e w4 ⟨A4, n4, c4, rfl, h, hb⟩; replace E := Env.push E hb h
  clear h hb
  go_wp2_with fail
  refine (refTen_is (k := k) (m := t) (by omega) rfl HT.out).mono ?_; rintro e w5 ⟨A5, n5, c5, rfl, h, hb⟩; replace E := Env.push E hb h
  clear h hb
  go_wp2_with fail
  refine (shift_is (a := a) (k := k) (m := s) (Env.get E (A := A1) (n := n1) (c := c1) (by simp)) (by omega) (by omega) rfl HS.out).mono ?_; rintro e w6 ⟨A6, n6, c6, rfl, h, hb⟩; replace E := Env.push E hb h
  clear h hb
  go_wp2_with fail
  refine (refShift_is (a := a) (k := k) (m := s) (Env.get E (A := A1) (n := n1) (c := c1) (by simp)) (by omega) (by omega) rfl HS.out).mono ?_; rintro e w7 ⟨A7, n7, c7, rfl, h, hb⟩; replace E := Env.push E hb h
  clear h hb
  go_wp2_with fail
  refine (refSame_is (a := p) (b := p) (Env.get E (A := A2) (n := n2) (c := c2) (by simp)) (Env.get E (A := A3) (n := n3) (c := c3) (by simp)) rfl).mono ?_; rintro e w8 ⟨rfl, hb⟩; replace E := Env.step E hb
  clear hb
  go_wp2_with fail
  refine (refSame_is (a := t) (b := t) (Env.get E (A := A4) (n := n4) (c := c4) (by simp)) (Env.get E (A := A5) (n := n5) (c := c5) (by simp)) rfl).mono ?_; rintro e w9 ⟨rfl, hb⟩; replace E := Env.step E hb
  clear hb
  go_wp2_with fail
  refine (refSame_is (a := s) (b := s) (Env.get E (A := A6) (n := n6) (c := c6) (by simp)) (Env.get E (A := A7) (n := n7) (c := c7) (by simp)) rfl).mono ?_; rintro e w10 ⟨rfl, hb⟩; replace E := Env.step E hb
  clear hb
  go_wp2_with fail
  refine (awake_any _).mono ?_; rintro e w11 ⟨rfl, hb⟩; replace E := Env.step E hb
  clear hb
  go_wp2_with fail
  go_ret
  exact ⟨rfl, E.out.1⟩

theorem powers_any (A1 : Option Addr) (n1 c1 : Nat) (k : Int) (x1 : List Nat) (w : World) (h1 : Hid (Lim w w.heap.size A1 n1 c1 x1)) :
    Calls Try.prog 4 #[.slice A1 n1 c1, .int .i64 k] w (RetVal w (.bool true)) := by
  by_cases hg : n1 ≤ 4 ∧ rightB x1 = true ∧ k ≤ 60
  · obtain ⟨l1, r1, hk⟩ := hg
    rcases Int.lt_or_le k 0 with h0 | h0
    · exact powers_neg A1 n1 c1 _ k w (h1.out.num r1) l1 h0
    · obtain ⟨N, rfl⟩ : ∃ N : Nat, k = N := ⟨k.toNat, by omega⟩
      exact powers_good A1 n1 c1 _ N w (h1.out.num r1) l1 (by omega)
  · exact powers_bad A1 n1 c1 k x1 w h1 hg

end Go.Proofs.Ytbknkoicejkfmaa
