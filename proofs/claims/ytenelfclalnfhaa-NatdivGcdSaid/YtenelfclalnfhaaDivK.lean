/-
  The walk of the law NatdivGcd.
-/
import Derived.Test.YtenelfclalnfhaaDivJ
namespace Go.Proofs.Ytenelfclalnfhaa
open Go.RowKit

theorem gcd_le_add (a b : Nat) : Nat.gcd a b ≤ a + b := by
  rcases Nat.eq_zero_or_pos a with h | h
  · subst h; rw [Nat.gcd_zero_left]; omega
  · have := Nat.gcd_le_left b h; omega
theorem right_nil : rightB [] = true := rfl

set_option maxHeartbeats 1000000 in
set_option maxRecDepth 100000 in
theorem dgcd_bad (A1 A2 A3 : Option Addr) (n1 n2 n3 c1 c2 c3 : Nat) (x1 x2 x3 : List Nat) (w : World) (h1 : Hid (Lim w w.heap.size A1 n1 c1 x1)) (h2 : Hid (Lim w w.heap.size A2 n2 c2 x2)) (h3 : Hid (Lim w w.heap.size A3 n3 c3 x3))
    (hbad : ¬ (n1 ≤ 5 ∧ n2 ≤ 5 ∧ n3 ≤ 30 ∧ rightB x1 = true ∧ rightB x2 = true ∧ rightB x3 = true)) :
    Calls Try.prog 5 #[.slice A1 n1 c1, .slice A2 n2 c2, .slice A3 n3 c3] w (RetVal w (.bool true)) := by
  have NIL : Lim w w.heap.size none 0 0 [] := Lim.nil
  by_cases g1 : n1 ≤ 30 ∧ n2 ≤ 30 ∧ rightB x1 = true ∧ rightB x2 = true
  · have C := Lib.hid (long_no h1.out h2.out g1.1 g1.2.1 g1.2.2.1 g1.2.2.2)
    by_cases g2 : n3 ≤ 30 ∧ (0 : Nat) ≤ 30 ∧ rightB x3 = true ∧ rightB [] = true
    · have C2 := Lib.hid (long_no h3.out NIL g2.1 g2.2.1 g2.2.2.1 g2.2.2.2)
      have g3 : 5 < n1 ∨ (n1 ≤ 5 ∧ 5 < n2) := by
        by_cases k1 : n1 ≤ 5
        · by_cases k2 : n2 ≤ 5
          · exact absurd ⟨k1, k2, g2.1, g1.2.2.1, g1.2.2.2, g2.2.2.1⟩ hbad
          · exact .inr ⟨k1, by omega⟩
        · exact .inl (by omega)
      clear hbad g1 g2 NIL
      rcases g3 with g3 | ⟨g3, g4⟩
      all_goals
        go_enter Try.func5, Try.ntmps5
        go_wp2_with fail
        refine C.out.mono ?_; rintro e w' ⟨rfl, rfl⟩
        go_wp2_with fail
        refine C2.out.mono ?_; rintro e w' ⟨rfl, rfl⟩
        go_wp2_with fail
        refine (awake_any _).mono ?_; rintro e w' ⟨rfl, hb⟩; have HB := Lib.hid hb; clear hb
        go_wp2_with fail
        go_ret
        exact ⟨rfl, HB.out⟩
    · have C2 := Lib.hid (long_yes h3.out NIL g2)
      clear hbad g1 g2 NIL
      go_enter Try.func5, Try.ntmps5
      go_wp2_with fail
      refine C.out.mono ?_; rintro e w' ⟨rfl, rfl⟩
      go_wp2_with fail
      refine C2.out.mono ?_; rintro e w' ⟨rfl, rfl⟩
      go_wp2_with fail
      refine (awake_any _).mono ?_; rintro e w' ⟨rfl, hb⟩; have HB := Lib.hid hb; clear hb
      go_wp2_with fail
      go_ret
      exact ⟨rfl, HB.out⟩
  · have C := Lib.hid (long_yes h1.out h2.out g1)
    clear hbad g1 NIL
    go_enter Try.func5, Try.ntmps5
    go_wp2_with fail
    refine C.out.mono ?_; rintro e w' ⟨rfl, rfl⟩
    go_wp2_with fail
    refine (awake_any _).mono ?_; rintro e w' ⟨rfl, hb⟩; have HB := Lib.hid hb; clear hb
    go_wp2_with fail
    go_ret
    exact ⟨rfl, HB.out⟩

set_option maxHeartbeats 2000000 in
set_option maxRecDepth 100000 in
theorem dgcd_zz (A1 A2 A3 : Option Addr) (n1 n2 n3 c1 c2 c3 a b k : Nat) (w : World) (h1 : Num w w.heap.size A1 n1 c1 a) (h2 : Num w w.heap.size A2 n2 c2 b) (h3 : Num w w.heap.size A3 n3 c3 k) (hl1 : n1 ≤ 5) (hl2 : n2 ≤ 5) (hl3 : n3 ≤ 30) (ha : a = 0) (hb0 : b = 0) :
    Calls Try.prog 5 #[.slice A1 n1 c1, .slice A2 n2 c2, .slice A3 n3 c3] w (RetVal w (.bool true)) := by
  have C := Lib.hid (long_no h1 h2 (show n1 ≤ 30 by omega) (show n2 ≤ 30 by omega) (right_dg a) (right_dg b))
  have C2 := Lib.hid (long_no h3 (Lim.nil : Lim w w.heap.size none 0 0 []) hl3 (show (0 : Nat) ≤ 30 by omega) (right_dg k) right_nil)
  have hgl : (dg (Nat.gcd a b)).length ≤ 11 := by have := dg_len_mono (gcd_le_add a b); have := dg_len_add a b; have := h1.len; have := h2.len; omega
  obtain ⟨g, hg⟩ : ∃ g, Nat.gcd a b = g := ⟨_, rfl⟩
  rw [hg] at hgl
  have HGL := Lib.hid hgl
  have HG := Lib.hid hg
  have hg0 : g = 0 := by rw [← hg, ha, hb0]; rfl
  clear hg hgl
  obtain rfl := num_zero h1 ha
  obtain rfl := num_zero h2 hb0
  clear ha hb0
  have HG0 := Lib.hid hg0
  clear hg0
  have E := Env.three h1 h2 h3
  clear h1 h2 h3
  go_enter Try.func5, Try.ntmps5
  go_wp2_with fail
  refine C.out.mono ?_; rintro e w' ⟨rfl, rfl⟩
  go_wp2_with fail
  refine C2.out.mono ?_; rintro e w' ⟨rfl, rfl⟩
  go_wp2_with fail
  refine (gcd_is (a := a) (b := b) (m := g) (Env.get E (A := A1) (n := 0) (c := c1) (a := a) (by simp)) (Env.get E (A := A2) (n := 0) (c := c2) (a := b) (by simp)) (by omega) (by omega) HG.out).mono ?_; rintro e w4 ⟨A4, n4, c4, rfl, h, hb⟩; replace E := Env.push E hb h
  obtain rfl : n4 = 0 := num_zero h HG0.out
  clear h hb
  go_wp2_with fail
  refine (rgcd_is (a := a) (b := b) (m := g) (Env.get E (A := A1) (n := 0) (c := c1) (a := a) (by simp)) (Env.get E (A := A2) (n := 0) (c := c2) (a := b) (by simp)) (by omega) (by omega) HG.out).mono ?_; rintro e w5 ⟨A5, n5, c5, rfl, h, hb⟩; replace E := Env.push E hb h
  obtain rfl : n5 = 0 := num_zero h HG0.out
  clear h hb
  go_wp2_with fail
  refine (rsame_is (a := g) (b := g) (Env.get E (A := A4) (n := 0) (c := c4) (by simp)) (Env.get E (A := A5) (n := 0) (c := c5) (by simp)) rfl).mono ?_; rintro e w6 ⟨rfl, hb⟩; replace E := Env.step E hb
  clear hb
  go_wp2_with fail
  refine (awake_any _).mono ?_; rintro e w99 ⟨rfl, hb⟩; replace E := Env.step E hb
  clear hb
  go_wp2_with fail
  go_ret
  exact ⟨rfl, E.out.1⟩

set_option maxHeartbeats 2000000 in
set_option maxRecDepth 100000 in
theorem dgcd_zp_c (A1 A2 A3 : Option Addr) (n1 n2 n3 c1 c2 c3 a b k : Nat) (w : World) (h1 : Num w w.heap.size A1 n1 c1 a) (h2 : Num w w.heap.size A2 n2 c2 b) (h3 : Num w w.heap.size A3 n3 c3 k) (hl1 : n1 ≤ 5) (hl2 : n2 ≤ 5) (hl3 : n3 ≤ 30) (ha : a = 0) (hb0 : 0 < b) (hc0 : k = 0) :
    Calls Try.prog 5 #[.slice A1 n1 c1, .slice A2 n2 c2, .slice A3 n3 c3] w (RetVal w (.bool true)) := by
  have C := Lib.hid (long_no h1 h2 (show n1 ≤ 30 by omega) (show n2 ≤ 30 by omega) (right_dg a) (right_dg b))
  have C2 := Lib.hid (long_no h3 (Lim.nil : Lim w w.heap.size none 0 0 []) hl3 (show (0 : Nat) ≤ 30 by omega) (right_dg k) right_nil)
  have hgl : (dg (Nat.gcd a b)).length ≤ 11 := by have := dg_len_mono (gcd_le_add a b); have := dg_len_add a b; have := h1.len; have := h2.len; omega
  obtain ⟨g, hg⟩ : ∃ g, Nat.gcd a b = g := ⟨_, rfl⟩
  rw [hg] at hgl
  have HGL := Lib.hid hgl
  have HG := Lib.hid hg
  have hg0 : 0 < g := by rw [← hg]; exact Nat.gcd_pos_of_pos_right _ hb0
  have HG0 := Lib.hid hg0
  clear hg hg0 hgl
  obtain rfl := num_zero h1 ha
  have hn2 := dg_len_pos h2.len hb0
  have hne2 : ((n2 : Int) == 0) = false := by simp; omega
  clear ha hb0
  obtain rfl := num_zero h3 hc0
  clear hc0
  have E := Env.three h1 h2 h3
  clear h1 h2 h3
  go_enter Try.func5, Try.ntmps5
  go_wp2_with fail
  refine C.out.mono ?_; rintro e w' ⟨rfl, rfl⟩
  go_wp2_with fail
  refine C2.out.mono ?_; rintro e w' ⟨rfl, rfl⟩
  go_wp2_with fail
  refine (gcd_is (a := a) (b := b) (m := g) (Env.get E (A := A1) (n := 0) (c := c1) (a := a) (by simp)) (Env.get E (A := A2) (n := n2) (c := c2) (a := b) (by simp)) (by omega) (by omega) HG.out).mono ?_; rintro e w4 ⟨A4, n4, c4, rfl, h, hb⟩; replace E := Env.push E hb h
  have l4 : n4 ≤ 11 := by rw [← h.len]; exact HGL.out
  have p4 : 0 < n4 := dg_len_pos h.len HG0.out
  have q4 : ((n4 : Int) == 0) = false := by simp; omega
  clear h hb
  go_wp2_with fail
  refine (rgcd_is (a := a) (b := b) (m := g) (Env.get E (A := A1) (n := 0) (c := c1) (a := a) (by simp)) (Env.get E (A := A2) (n := n2) (c := c2) (a := b) (by simp)) (by omega) (by omega) HG.out).mono ?_; rintro e w5 ⟨A5, n5, c5, rfl, h, hb⟩; replace E := Env.push E hb h
  clear h hb
  go_wp2_with fail
  refine (rsame_is (a := g) (b := g) (Env.get E (A := A4) (n := n4) (c := c4) (by simp)) (Env.get E (A := A5) (n := n5) (c := c5) (by simp)) rfl).mono ?_; rintro e w6 ⟨rfl, hb⟩; replace E := Env.step E hb
  clear hb
  go_wp2_with fail
  refine (awake_any _).mono ?_; rintro e w99 ⟨rfl, hb⟩; replace E := Env.step E hb
  clear hb
  go_wp2_with fail
  go_ret
  exact ⟨rfl, E.out.1⟩

set_option maxHeartbeats 2000000 in
set_option maxRecDepth 100000 in
theorem dgcd_zp_q (A1 A2 A3 : Option Addr) (n1 n2 n3 c1 c2 c3 a b k : Nat) (w : World) (h1 : Num w w.heap.size A1 n1 c1 a) (h2 : Num w w.heap.size A2 n2 c2 b) (h3 : Num w w.heap.size A3 n3 c3 k) (hl1 : n1 ≤ 5) (hl2 : n2 ≤ 5) (hl3 : n3 ≤ 30) (ha : a = 0) (hb0 : 0 < b) (hc0 : 0 < k) (hr : a % k = 0) (hr2 : 0 < b % k) :
    Calls Try.prog 5 #[.slice A1 n1 c1, .slice A2 n2 c2, .slice A3 n3 c3] w (RetVal w (.bool true)) := by
  have C := Lib.hid (long_no h1 h2 (show n1 ≤ 30 by omega) (show n2 ≤ 30 by omega) (right_dg a) (right_dg b))
  have C2 := Lib.hid (long_no h3 (Lim.nil : Lim w w.heap.size none 0 0 []) hl3 (show (0 : Nat) ≤ 30 by omega) (right_dg k) right_nil)
  have hgl : (dg (Nat.gcd a b)).length ≤ 11 := by have := dg_len_mono (gcd_le_add a b); have := dg_len_add a b; have := h1.len; have := h2.len; omega
  obtain ⟨g, hg⟩ : ∃ g, Nat.gcd a b = g := ⟨_, rfl⟩
  rw [hg] at hgl
  have HGL := Lib.hid hgl
  have HG := Lib.hid hg
  have hg0 : 0 < g := by rw [← hg]; exact Nat.gcd_pos_of_pos_right _ hb0
  have HG0 := Lib.hid hg0
  have X0 : Hid (a % g = 0) := by show _ = _; rw [← hg]; exact Nat.mod_eq_zero_of_dvd (Nat.gcd_dvd_left a b)
  have Y0 : Hid (b % g = 0) := by show _ = _; rw [← hg]; exact Nat.mod_eq_zero_of_dvd (Nat.gcd_dvd_right a b)
  have HC0 := Lib.hid hc0
  have hn3 := dg_len_pos h3.len hc0
  have hne3 : ((n3 : Int) == 0) = false := by simp; omega
  have HR := Lib.hid hr
  have HR2 := Lib.hid hr2
  obtain ⟨p, hp⟩ : ∃ p, a % k = p := ⟨_, rfl⟩
  obtain ⟨q, hq⟩ : ∃ q, b % k = q := ⟨_, rfl⟩
  have HP := Lib.hid hp
  have HQ := Lib.hid hq
  clear hc0 hr hr2 hp hq
  clear hg hg0 hgl
  obtain rfl := num_zero h1 ha
  have hn2 := dg_len_pos h2.len hb0
  have hne2 : ((n2 : Int) == 0) = false := by simp; omega
  clear ha hb0
  have E := Env.three h1 h2 h3
  clear h1 h2 h3
  go_enter Try.func5, Try.ntmps5
  go_wp2_with fail
  refine C.out.mono ?_; rintro e w' ⟨rfl, rfl⟩
  go_wp2_with fail
  refine C2.out.mono ?_; rintro e w' ⟨rfl, rfl⟩
  go_wp2_with fail
  refine (gcd_is (a := a) (b := b) (m := g) (Env.get E (A := A1) (n := 0) (c := c1) (a := a) (by simp)) (Env.get E (A := A2) (n := n2) (c := c2) (a := b) (by simp)) (by omega) (by omega) HG.out).mono ?_; rintro e w4 ⟨A4, n4, c4, rfl, h, hb⟩; replace E := Env.push E hb h
  have l4 : n4 ≤ 11 := by rw [← h.len]; exact HGL.out
  have p4 : 0 < n4 := dg_len_pos h.len HG0.out
  have q4 : ((n4 : Int) == 0) = false := by simp; omega
  clear h hb
  go_wp2_with fail
  refine (rgcd_is (a := a) (b := b) (m := g) (Env.get E (A := A1) (n := 0) (c := c1) (a := a) (by simp)) (Env.get E (A := A2) (n := n2) (c := c2) (a := b) (by simp)) (by omega) (by omega) HG.out).mono ?_; rintro e w5 ⟨A5, n5, c5, rfl, h, hb⟩; replace E := Env.push E hb h
  clear h hb
  go_wp2_with fail
  refine (rsame_is (a := g) (b := g) (Env.get E (A := A4) (n := n4) (c := c4) (by simp)) (Env.get E (A := A5) (n := n5) (c := c5) (by simp)) rfl).mono ?_; rintro e w6 ⟨rfl, hb⟩; replace E := Env.step E hb
  clear hb
  go_wp2_with fail
  refine (div_is (a := a) (b := g) (q := a / g) (r := 0) (Env.get E (A := A1) (n := 0) (c := c1) (a := a) (by simp)) (Env.get E (A := A4) (n := n4) (c := c4) (by simp)) (by omega) HG0.out rfl X0.out).mono ?_; rintro e w7 ⟨A7, n7, c7, A8, n8, c8, rfl, h, h2, hb⟩; replace E := Env.push E hb h; replace E := Env.push E (Below.refl _ _) h2
  obtain rfl : n8 = 0 := num_zero h2 rfl
  clear h h2 hb
  go_wp2_with fail
  refine (div_is (a := b) (b := g) (q := b / g) (r := 0) (Env.get E (A := A2) (n := n2) (c := c2) (a := b) (by simp)) (Env.get E (A := A4) (n := n4) (c := c4) (by simp)) (by omega) HG0.out rfl Y0.out).mono ?_; rintro e w9 ⟨A9, n9, c9, A10, n10, c10, rfl, h, h2, hb⟩; replace E := Env.push E hb h; replace E := Env.push E (Below.refl _ _) h2
  obtain rfl : n10 = 0 := num_zero h2 rfl
  clear h h2 hb
  go_wp2_with fail
  refine (div_is (a := a) (b := k) (q := a / k) (r := p) (Env.get E (A := A1) (n := 0) (c := c1) (a := a) (by simp)) (Env.get E (A := A3) (n := n3) (c := c3) (a := k) (by simp)) (by omega) HC0.out rfl HP.out).mono ?_; rintro e w11 ⟨A11, n11, c11, A12, n12, c12, rfl, h, h2, hb⟩; replace E := Env.push E hb h; replace E := Env.push E (Below.refl _ _) h2
  obtain rfl : n12 = 0 := num_zero h2 (by rw [← HP.out]; exact HR.out)
  clear h h2 hb
  go_wp2_with fail
  refine (div_is (a := b) (b := k) (q := b / k) (r := q) (Env.get E (A := A2) (n := n2) (c := c2) (a := b) (by simp)) (Env.get E (A := A3) (n := n3) (c := c3) (a := k) (by simp)) (by omega) HC0.out rfl HQ.out).mono ?_; rintro e w13 ⟨A13, n13, c13, A14, n14, c14, rfl, h, h2, hb⟩; replace E := Env.push E hb h; replace E := Env.push E (Below.refl _ _) h2
  have p14 : 0 < n14 := dg_len_pos h2.len (by rw [← HQ.out]; exact HR2.out)
  have q14 : ((n14 : Int) != 0) = true := by simp; omega
  clear h h2 hb
  go_wp2_with fail
  refine (div_is (a := g) (b := k) (q := g / k) (r := g % k) (Env.get E (A := A4) (n := n4) (c := c4) (by simp)) (Env.get E (A := A3) (n := n3) (c := c3) (a := k) (by simp)) (by omega) HC0.out rfl rfl).mono ?_; rintro e w15 ⟨A15, n15, c15, A16, n16, c16, rfl, h, h2, hb⟩; replace E := Env.push E hb h; replace E := Env.push E (Below.refl _ _) h2
  clear h h2 hb
  go_wp2_with fail
  refine (awake_any _).mono ?_; rintro e w99 ⟨rfl, hb⟩; replace E := Env.step E hb
  clear hb
  go_wp2_with fail
  go_ret
  exact ⟨rfl, E.out.1⟩

set_option maxHeartbeats 2000000 in
set_option maxRecDepth 100000 in
theorem dgcd_zp_s (A1 A2 A3 : Option Addr) (n1 n2 n3 c1 c2 c3 a b k : Nat) (w : World) (h1 : Num w w.heap.size A1 n1 c1 a) (h2 : Num w w.heap.size A2 n2 c2 b) (h3 : Num w w.heap.size A3 n3 c3 k) (hl1 : n1 ≤ 5) (hl2 : n2 ≤ 5) (hl3 : n3 ≤ 30) (ha : a = 0) (hb0 : 0 < b) (hc0 : 0 < k) (hr : a % k = 0) (hr2 : b % k = 0) :
    Calls Try.prog 5 #[.slice A1 n1 c1, .slice A2 n2 c2, .slice A3 n3 c3] w (RetVal w (.bool true)) := by
  have C := Lib.hid (long_no h1 h2 (show n1 ≤ 30 by omega) (show n2 ≤ 30 by omega) (right_dg a) (right_dg b))
  have C2 := Lib.hid (long_no h3 (Lim.nil : Lim w w.heap.size none 0 0 []) hl3 (show (0 : Nat) ≤ 30 by omega) (right_dg k) right_nil)
  have hgl : (dg (Nat.gcd a b)).length ≤ 11 := by have := dg_len_mono (gcd_le_add a b); have := dg_len_add a b; have := h1.len; have := h2.len; omega
  obtain ⟨g, hg⟩ : ∃ g, Nat.gcd a b = g := ⟨_, rfl⟩
  rw [hg] at hgl
  have HGL := Lib.hid hgl
  have HG := Lib.hid hg
  have hg0 : 0 < g := by rw [← hg]; exact Nat.gcd_pos_of_pos_right _ hb0
  have HG0 := Lib.hid hg0
  have X0 : Hid (a % g = 0) := by show _ = _; rw [← hg]; exact Nat.mod_eq_zero_of_dvd (Nat.gcd_dvd_left a b)
  have Y0 : Hid (b % g = 0) := by show _ = _; rw [← hg]; exact Nat.mod_eq_zero_of_dvd (Nat.gcd_dvd_right a b)
  have HC0 := Lib.hid hc0
  have hn3 := dg_len_pos h3.len hc0
  have hne3 : ((n3 : Int) == 0) = false := by simp; omega
  have S0 : Hid (g % k = 0) := by show _ = _; rw [← hg]; exact Nat.mod_eq_zero_of_dvd (Nat.dvd_gcd (Nat.dvd_of_mod_eq_zero hr) (Nat.dvd_of_mod_eq_zero hr2))
  have HR := Lib.hid hr
  have HR2 := Lib.hid hr2
  obtain ⟨p, hp⟩ : ∃ p, a % k = p := ⟨_, rfl⟩
  obtain ⟨q, hq⟩ : ∃ q, b % k = q := ⟨_, rfl⟩
  have HP := Lib.hid hp
  have HQ := Lib.hid hq
  clear hc0 hr hr2 hp hq
  clear hg hg0 hgl
  obtain rfl := num_zero h1 ha
  have hn2 := dg_len_pos h2.len hb0
  have hne2 : ((n2 : Int) == 0) = false := by simp; omega
  clear ha hb0
  have E := Env.three h1 h2 h3
  clear h1 h2 h3
  go_enter Try.func5, Try.ntmps5
  go_wp2_with fail
  refine C.out.mono ?_; rintro e w' ⟨rfl, rfl⟩
  go_wp2_with fail
  refine C2.out.mono ?_; rintro e w' ⟨rfl, rfl⟩
  go_wp2_with fail
  refine (gcd_is (a := a) (b := b) (m := g) (Env.get E (A := A1) (n := 0) (c := c1) (a := a) (by simp)) (Env.get E (A := A2) (n := n2) (c := c2) (a := b) (by simp)) (by omega) (by omega) HG.out).mono ?_; rintro e w4 ⟨A4, n4, c4, rfl, h, hb⟩; replace E := Env.push E hb h
  have l4 : n4 ≤ 11 := by rw [← h.len]; exact HGL.out
  have p4 : 0 < n4 := dg_len_pos h.len HG0.out
  have q4 : ((n4 : Int) == 0) = false := by simp; omega
  clear h hb
  go_wp2_with fail
  refine (rgcd_is (a := a) (b := b) (m := g) (Env.get E (A := A1) (n := 0) (c := c1) (a := a) (by simp)) (Env.get E (A := A2) (n := n2) (c := c2) (a := b) (by simp)) (by omega) (by omega) HG.out).mono ?_; rintro e w5 ⟨A5, n5, c5, rfl, h, hb⟩; replace E := Env.push E hb h
  clear h hb
  go_wp2_with fail
  refine (rsame_is (a := g) (b := g) (Env.get E (A := A4) (n := n4) (c := c4) (by simp)) (Env.get E (A := A5) (n := n5) (c := c5) (by simp)) rfl).mono ?_; rintro e w6 ⟨rfl, hb⟩; replace E := Env.step E hb
  clear hb
  go_wp2_with fail
  refine (div_is (a := a) (b := g) (q := a / g) (r := 0) (Env.get E (A := A1) (n := 0) (c := c1) (a := a) (by simp)) (Env.get E (A := A4) (n := n4) (c := c4) (by simp)) (by omega) HG0.out rfl X0.out).mono ?_; rintro e w7 ⟨A7, n7, c7, A8, n8, c8, rfl, h, h2, hb⟩; replace E := Env.push E hb h; replace E := Env.push E (Below.refl _ _) h2
  obtain rfl : n8 = 0 := num_zero h2 rfl
  clear h h2 hb
  go_wp2_with fail
  refine (div_is (a := b) (b := g) (q := b / g) (r := 0) (Env.get E (A := A2) (n := n2) (c := c2) (a := b) (by simp)) (Env.get E (A := A4) (n := n4) (c := c4) (by simp)) (by omega) HG0.out rfl Y0.out).mono ?_; rintro e w9 ⟨A9, n9, c9, A10, n10, c10, rfl, h, h2, hb⟩; replace E := Env.push E hb h; replace E := Env.push E (Below.refl _ _) h2
  obtain rfl : n10 = 0 := num_zero h2 rfl
  clear h h2 hb
  go_wp2_with fail
  refine (div_is (a := a) (b := k) (q := a / k) (r := p) (Env.get E (A := A1) (n := 0) (c := c1) (a := a) (by simp)) (Env.get E (A := A3) (n := n3) (c := c3) (a := k) (by simp)) (by omega) HC0.out rfl HP.out).mono ?_; rintro e w11 ⟨A11, n11, c11, A12, n12, c12, rfl, h, h2, hb⟩; replace E := Env.push E hb h; replace E := Env.push E (Below.refl _ _) h2
  obtain rfl : n12 = 0 := num_zero h2 (by rw [← HP.out]; exact HR.out)
  clear h h2 hb
  go_wp2_with fail
  refine (div_is (a := b) (b := k) (q := b / k) (r := q) (Env.get E (A := A2) (n := n2) (c := c2) (a := b) (by simp)) (Env.get E (A := A3) (n := n3) (c := c3) (a := k) (by simp)) (by omega) HC0.out rfl HQ.out).mono ?_; rintro e w13 ⟨A13, n13, c13, A14, n14, c14, rfl, h, h2, hb⟩; replace E := Env.push E hb h; replace E := Env.push E (Below.refl _ _) h2
  obtain rfl : n14 = 0 := num_zero h2 (by rw [← HQ.out]; exact HR2.out)
  clear h h2 hb
  go_wp2_with fail
  refine (div_is (a := g) (b := k) (q := g / k) (r := g % k) (Env.get E (A := A4) (n := n4) (c := c4) (by simp)) (Env.get E (A := A3) (n := n3) (c := c3) (a := k) (by simp)) (by omega) HC0.out rfl rfl).mono ?_; rintro e w15 ⟨A15, n15, c15, A16, n16, c16, rfl, h, h2, hb⟩; replace E := Env.push E hb h; replace E := Env.push E (Below.refl _ _) h2
  obtain rfl : n16 = 0 := num_zero h2 (S0.out)
  clear h h2 hb
  go_wp2_with fail
  refine (awake_any _).mono ?_; rintro e w99 ⟨rfl, hb⟩; replace E := Env.step E hb
  clear hb
  go_wp2_with fail
  go_ret
  exact ⟨rfl, E.out.1⟩

set_option maxHeartbeats 2000000 in
set_option maxRecDepth 100000 in
theorem dgcd_p_c (A1 A2 A3 : Option Addr) (n1 n2 n3 c1 c2 c3 a b k : Nat) (w : World) (h1 : Num w w.heap.size A1 n1 c1 a) (h2 : Num w w.heap.size A2 n2 c2 b) (h3 : Num w w.heap.size A3 n3 c3 k) (hl1 : n1 ≤ 5) (hl2 : n2 ≤ 5) (hl3 : n3 ≤ 30) (ha : 0 < a) (hc0 : k = 0) :
    Calls Try.prog 5 #[.slice A1 n1 c1, .slice A2 n2 c2, .slice A3 n3 c3] w (RetVal w (.bool true)) := by
  have C := Lib.hid (long_no h1 h2 (show n1 ≤ 30 by omega) (show n2 ≤ 30 by omega) (right_dg a) (right_dg b))
  have C2 := Lib.hid (long_no h3 (Lim.nil : Lim w w.heap.size none 0 0 []) hl3 (show (0 : Nat) ≤ 30 by omega) (right_dg k) right_nil)
  have hgl : (dg (Nat.gcd a b)).length ≤ 11 := by have := dg_len_mono (gcd_le_add a b); have := dg_len_add a b; have := h1.len; have := h2.len; omega
  obtain ⟨g, hg⟩ : ∃ g, Nat.gcd a b = g := ⟨_, rfl⟩
  rw [hg] at hgl
  have HGL := Lib.hid hgl
  have HG := Lib.hid hg
  have hg0 : 0 < g := by rw [← hg]; exact Nat.gcd_pos_of_pos_left _ ha
  have HG0 := Lib.hid hg0
  clear hg hg0 hgl
  have hn1 := dg_len_pos h1.len ha
  have hne1 : ((n1 : Int) == 0) = false := by simp; omega
  clear ha
  obtain rfl := num_zero h3 hc0
  clear hc0
  have E := Env.three h1 h2 h3
  clear h1 h2 h3
  go_enter Try.func5, Try.ntmps5
  go_wp2_with fail
  refine C.out.mono ?_; rintro e w' ⟨rfl, rfl⟩
  go_wp2_with fail
  refine C2.out.mono ?_; rintro e w' ⟨rfl, rfl⟩
  go_wp2_with fail
  refine (gcd_is (a := a) (b := b) (m := g) (Env.get E (A := A1) (n := n1) (c := c1) (a := a) (by simp)) (Env.get E (A := A2) (n := n2) (c := c2) (a := b) (by simp)) (by omega) (by omega) HG.out).mono ?_; rintro e w4 ⟨A4, n4, c4, rfl, h, hb⟩; replace E := Env.push E hb h
  have l4 : n4 ≤ 11 := by rw [← h.len]; exact HGL.out
  have p4 : 0 < n4 := dg_len_pos h.len HG0.out
  have q4 : ((n4 : Int) == 0) = false := by simp; omega
  clear h hb
  go_wp2_with fail
  refine (rgcd_is (a := a) (b := b) (m := g) (Env.get E (A := A1) (n := n1) (c := c1) (a := a) (by simp)) (Env.get E (A := A2) (n := n2) (c := c2) (a := b) (by simp)) (by omega) (by omega) HG.out).mono ?_; rintro e w5 ⟨A5, n5, c5, rfl, h, hb⟩; replace E := Env.push E hb h
  clear h hb
  go_wp2_with fail
  refine (rsame_is (a := g) (b := g) (Env.get E (A := A4) (n := n4) (c := c4) (by simp)) (Env.get E (A := A5) (n := n5) (c := c5) (by simp)) rfl).mono ?_; rintro e w6 ⟨rfl, hb⟩; replace E := Env.step E hb
  clear hb
  go_wp2_with fail
  refine (awake_any _).mono ?_; rintro e w99 ⟨rfl, hb⟩; replace E := Env.step E hb
  clear hb
  go_wp2_with fail
  go_ret
  exact ⟨rfl, E.out.1⟩

set_option maxHeartbeats 2000000 in
set_option maxRecDepth 100000 in
theorem dgcd_p_p (A1 A2 A3 : Option Addr) (n1 n2 n3 c1 c2 c3 a b k : Nat) (w : World) (h1 : Num w w.heap.size A1 n1 c1 a) (h2 : Num w w.heap.size A2 n2 c2 b) (h3 : Num w w.heap.size A3 n3 c3 k) (hl1 : n1 ≤ 5) (hl2 : n2 ≤ 5) (hl3 : n3 ≤ 30) (ha : 0 < a) (hc0 : 0 < k) (hr : 0 < a % k) :
    Calls Try.prog 5 #[.slice A1 n1 c1, .slice A2 n2 c2, .slice A3 n3 c3] w (RetVal w (.bool true)) := by
  have C := Lib.hid (long_no h1 h2 (show n1 ≤ 30 by omega) (show n2 ≤ 30 by omega) (right_dg a) (right_dg b))
  have C2 := Lib.hid (long_no h3 (Lim.nil : Lim w w.heap.size none 0 0 []) hl3 (show (0 : Nat) ≤ 30 by omega) (right_dg k) right_nil)
  have hgl : (dg (Nat.gcd a b)).length ≤ 11 := by have := dg_len_mono (gcd_le_add a b); have := dg_len_add a b; have := h1.len; have := h2.len; omega
  obtain ⟨g, hg⟩ : ∃ g, Nat.gcd a b = g := ⟨_, rfl⟩
  rw [hg] at hgl
  have HGL := Lib.hid hgl
  have HG := Lib.hid hg
  have hg0 : 0 < g := by rw [← hg]; exact Nat.gcd_pos_of_pos_left _ ha
  have HG0 := Lib.hid hg0
  have X0 : Hid (a % g = 0) := by show _ = _; rw [← hg]; exact Nat.mod_eq_zero_of_dvd (Nat.gcd_dvd_left a b)
  have Y0 : Hid (b % g = 0) := by show _ = _; rw [← hg]; exact Nat.mod_eq_zero_of_dvd (Nat.gcd_dvd_right a b)
  have HC0 := Lib.hid hc0
  have hn3 := dg_len_pos h3.len hc0
  have hne3 : ((n3 : Int) == 0) = false := by simp; omega
  have HR := Lib.hid hr
  obtain ⟨p, hp⟩ : ∃ p, a % k = p := ⟨_, rfl⟩
  obtain ⟨q, hq⟩ : ∃ q, b % k = q := ⟨_, rfl⟩
  have HP := Lib.hid hp
  have HQ := Lib.hid hq
  clear hc0 hr hp hq
  clear hg hg0 hgl
  have hn1 := dg_len_pos h1.len ha
  have hne1 : ((n1 : Int) == 0) = false := by simp; omega
  clear ha
  have E := Env.three h1 h2 h3
  clear h1 h2 h3
  go_enter Try.func5, Try.ntmps5
  go_wp2_with fail
  refine C.out.mono ?_; rintro e w' ⟨rfl, rfl⟩
  go_wp2_with fail
  refine C2.out.mono ?_; rintro e w' ⟨rfl, rfl⟩
  go_wp2_with fail
  refine (gcd_is (a := a) (b := b) (m := g) (Env.get E (A := A1) (n := n1) (c := c1) (a := a) (by simp)) (Env.get E (A := A2) (n := n2) (c := c2) (a := b) (by simp)) (by omega) (by omega) HG.out).mono ?_; rintro e w4 ⟨A4, n4, c4, rfl, h, hb⟩; replace E := Env.push E hb h
  have l4 : n4 ≤ 11 := by rw [← h.len]; exact HGL.out
  have p4 : 0 < n4 := dg_len_pos h.len HG0.out
  have q4 : ((n4 : Int) == 0) = false := by simp; omega
  clear h hb
  go_wp2_with fail
  refine (rgcd_is (a := a) (b := b) (m := g) (Env.get E (A := A1) (n := n1) (c := c1) (a := a) (by simp)) (Env.get E (A := A2) (n := n2) (c := c2) (a := b) (by simp)) (by omega) (by omega) HG.out).mono ?_; rintro e w5 ⟨A5, n5, c5, rfl, h, hb⟩; replace E := Env.push E hb h
  clear h hb
  go_wp2_with fail
  refine (rsame_is (a := g) (b := g) (Env.get E (A := A4) (n := n4) (c := c4) (by simp)) (Env.get E (A := A5) (n := n5) (c := c5) (by simp)) rfl).mono ?_; rintro e w6 ⟨rfl, hb⟩; replace E := Env.step E hb
  clear hb
  go_wp2_with fail
  refine (div_is (a := a) (b := g) (q := a / g) (r := 0) (Env.get E (A := A1) (n := n1) (c := c1) (a := a) (by simp)) (Env.get E (A := A4) (n := n4) (c := c4) (by simp)) (by omega) HG0.out rfl X0.out).mono ?_; rintro e w7 ⟨A7, n7, c7, A8, n8, c8, rfl, h, h2, hb⟩; replace E := Env.push E hb h; replace E := Env.push E (Below.refl _ _) h2
  obtain rfl : n8 = 0 := num_zero h2 rfl
  clear h h2 hb
  go_wp2_with fail
  refine (div_is (a := b) (b := g) (q := b / g) (r := 0) (Env.get E (A := A2) (n := n2) (c := c2) (a := b) (by simp)) (Env.get E (A := A4) (n := n4) (c := c4) (by simp)) (by omega) HG0.out rfl Y0.out).mono ?_; rintro e w9 ⟨A9, n9, c9, A10, n10, c10, rfl, h, h2, hb⟩; replace E := Env.push E hb h; replace E := Env.push E (Below.refl _ _) h2
  obtain rfl : n10 = 0 := num_zero h2 rfl
  clear h h2 hb
  go_wp2_with fail
  refine (div_is (a := a) (b := k) (q := a / k) (r := p) (Env.get E (A := A1) (n := n1) (c := c1) (a := a) (by simp)) (Env.get E (A := A3) (n := n3) (c := c3) (a := k) (by simp)) (by omega) HC0.out rfl HP.out).mono ?_; rintro e w11 ⟨A11, n11, c11, A12, n12, c12, rfl, h, h2, hb⟩; replace E := Env.push E hb h; replace E := Env.push E (Below.refl _ _) h2
  have p12 : 0 < n12 := dg_len_pos h2.len (by rw [← HP.out]; exact HR.out)
  have q12 : ((n12 : Int) != 0) = true := by simp; omega
  clear h h2 hb
  go_wp2_with fail
  refine (div_is (a := b) (b := k) (q := b / k) (r := q) (Env.get E (A := A2) (n := n2) (c := c2) (a := b) (by simp)) (Env.get E (A := A3) (n := n3) (c := c3) (a := k) (by simp)) (by omega) HC0.out rfl HQ.out).mono ?_; rintro e w13 ⟨A13, n13, c13, A14, n14, c14, rfl, h, h2, hb⟩; replace E := Env.push E hb h; replace E := Env.push E (Below.refl _ _) h2
  clear h h2 hb
  go_wp2_with fail
  refine (div_is (a := g) (b := k) (q := g / k) (r := g % k) (Env.get E (A := A4) (n := n4) (c := c4) (by simp)) (Env.get E (A := A3) (n := n3) (c := c3) (a := k) (by simp)) (by omega) HC0.out rfl rfl).mono ?_; rintro e w15 ⟨A15, n15, c15, A16, n16, c16, rfl, h, h2, hb⟩; replace E := Env.push E hb h; replace E := Env.push E (Below.refl _ _) h2
  clear h h2 hb
  go_wp2_with fail
  refine (awake_any _).mono ?_; rintro e w99 ⟨rfl, hb⟩; replace E := Env.step E hb
  clear hb
  go_wp2_with fail
  go_ret
  exact ⟨rfl, E.out.1⟩

set_option maxHeartbeats 2000000 in
set_option maxRecDepth 100000 in
theorem dgcd_p_q (A1 A2 A3 : Option Addr) (n1 n2 n3 c1 c2 c3 a b k : Nat) (w : World) (h1 : Num w w.heap.size A1 n1 c1 a) (h2 : Num w w.heap.size A2 n2 c2 b) (h3 : Num w w.heap.size A3 n3 c3 k) (hl1 : n1 ≤ 5) (hl2 : n2 ≤ 5) (hl3 : n3 ≤ 30) (ha : 0 < a) (hc0 : 0 < k) (hr : a % k = 0) (hr2 : 0 < b % k) :
    Calls Try.prog 5 #[.slice A1 n1 c1, .slice A2 n2 c2, .slice A3 n3 c3] w (RetVal w (.bool true)) := by
  have C := Lib.hid (long_no h1 h2 (show n1 ≤ 30 by omega) (show n2 ≤ 30 by omega) (right_dg a) (right_dg b))
  have C2 := Lib.hid (long_no h3 (Lim.nil : Lim w w.heap.size none 0 0 []) hl3 (show (0 : Nat) ≤ 30 by omega) (right_dg k) right_nil)
  have hgl : (dg (Nat.gcd a b)).length ≤ 11 := by have := dg_len_mono (gcd_le_add a b); have := dg_len_add a b; have := h1.len; have := h2.len; omega
  obtain ⟨g, hg⟩ : ∃ g, Nat.gcd a b = g := ⟨_, rfl⟩
  rw [hg] at hgl
  have HGL := Lib.hid hgl
  have HG := Lib.hid hg
  have hg0 : 0 < g := by rw [← hg]; exact Nat.gcd_pos_of_pos_left _ ha
  have HG0 := Lib.hid hg0
  have X0 : Hid (a % g = 0) := by show _ = _; rw [← hg]; exact Nat.mod_eq_zero_of_dvd (Nat.gcd_dvd_left a b)
  have Y0 : Hid (b % g = 0) := by show _ = _; rw [← hg]; exact Nat.mod_eq_zero_of_dvd (Nat.gcd_dvd_right a b)
  have HC0 := Lib.hid hc0
  have hn3 := dg_len_pos h3.len hc0
  have hne3 : ((n3 : Int) == 0) = false := by simp; omega
  have HR := Lib.hid hr
  have HR2 := Lib.hid hr2
  obtain ⟨p, hp⟩ : ∃ p, a % k = p := ⟨_, rfl⟩
  obtain ⟨q, hq⟩ : ∃ q, b % k = q := ⟨_, rfl⟩
  have HP := Lib.hid hp
  have HQ := Lib.hid hq
  clear hc0 hr hr2 hp hq
  clear hg hg0 hgl
  have hn1 := dg_len_pos h1.len ha
  have hne1 : ((n1 : Int) == 0) = false := by simp; omega
  clear ha
  have E := Env.three h1 h2 h3
  clear h1 h2 h3
  go_enter Try.func5, Try.ntmps5
  go_wp2_with fail
  refine C.out.mono ?_; rintro e w' ⟨rfl, rfl⟩
  go_wp2_with fail
  refine C2.out.mono ?_; rintro e w' ⟨rfl, rfl⟩
  go_wp2_with fail
  refine (gcd_is (a := a) (b := b) (m := g) (Env.get E (A := A1) (n := n1) (c := c1) (a := a) (by simp)) (Env.get E (A := A2) (n := n2) (c := c2) (a := b) (by simp)) (by omega) (by omega) HG.out).mono ?_; rintro e w4 ⟨A4, n4, c4, rfl, h, hb⟩; replace E := Env.push E hb h
  have l4 : n4 ≤ 11 := by rw [← h.len]; exact HGL.out
  have p4 : 0 < n4 := dg_len_pos h.len HG0.out
  have q4 : ((n4 : Int) == 0) = false := by simp; omega
  clear h hb
  go_wp2_with fail
  refine (rgcd_is (a := a) (b := b) (m := g) (Env.get E (A := A1) (n := n1) (c := c1) (a := a) (by simp)) (Env.get E (A := A2) (n := n2) (c := c2) (a := b) (by simp)) (by omega) (by omega) HG.out).mono ?_; rintro e w5 ⟨A5, n5, c5, rfl, h, hb⟩; replace E := Env.push E hb h
  clear h hb
  go_wp2_with fail
  refine (rsame_is (a := g) (b := g) (Env.get E (A := A4) (n := n4) (c := c4) (by simp)) (Env.get E (A := A5) (n := n5) (c := c5) (by simp)) rfl).mono ?_; rintro e w6 ⟨rfl, hb⟩; replace E := Env.step E hb
  clear hb
  go_wp2_with fail
  refine (div_is (a := a) (b := g) (q := a / g) (r := 0) (Env.get E (A := A1) (n := n1) (c := c1) (a := a) (by simp)) (Env.get E (A := A4) (n := n4) (c := c4) (by simp)) (by omega) HG0.out rfl X0.out).mono ?_; rintro e w7 ⟨A7, n7, c7, A8, n8, c8, rfl, h, h2, hb⟩; replace E := Env.push E hb h; replace E := Env.push E (Below.refl _ _) h2
  obtain rfl : n8 = 0 := num_zero h2 rfl
  clear h h2 hb
  go_wp2_with fail
  refine (div_is (a := b) (b := g) (q := b / g) (r := 0) (Env.get E (A := A2) (n := n2) (c := c2) (a := b) (by simp)) (Env.get E (A := A4) (n := n4) (c := c4) (by simp)) (by omega) HG0.out rfl Y0.out).mono ?_; rintro e w9 ⟨A9, n9, c9, A10, n10, c10, rfl, h, h2, hb⟩; replace E := Env.push E hb h; replace E := Env.push E (Below.refl _ _) h2
  obtain rfl : n10 = 0 := num_zero h2 rfl
  clear h h2 hb
  go_wp2_with fail
  refine (div_is (a := a) (b := k) (q := a / k) (r := p) (Env.get E (A := A1) (n := n1) (c := c1) (a := a) (by simp)) (Env.get E (A := A3) (n := n3) (c := c3) (a := k) (by simp)) (by omega) HC0.out rfl HP.out).mono ?_; rintro e w11 ⟨A11, n11, c11, A12, n12, c12, rfl, h, h2, hb⟩; replace E := Env.push E hb h; replace E := Env.push E (Below.refl _ _) h2
  obtain rfl : n12 = 0 := num_zero h2 (by rw [← HP.out]; exact HR.out)
  clear h h2 hb
  go_wp2_with fail
  refine (div_is (a := b) (b := k) (q := b / k) (r := q) (Env.get E (A := A2) (n := n2) (c := c2) (a := b) (by simp)) (Env.get E (A := A3) (n := n3) (c := c3) (a := k) (by simp)) (by omega) HC0.out rfl HQ.out).mono ?_; rintro e w13 ⟨A13, n13, c13, A14, n14, c14, rfl, h, h2, hb⟩; replace E := Env.push E hb h; replace E := Env.push E (Below.refl _ _) h2
  have p14 : 0 < n14 := dg_len_pos h2.len (by rw [← HQ.out]; exact HR2.out)
  have q14 : ((n14 : Int) != 0) = true := by simp; omega
  clear h h2 hb
  go_wp2_with fail
  refine (div_is (a := g) (b := k) (q := g / k) (r := g % k) (Env.get E (A := A4) (n := n4) (c := c4) (by simp)) (Env.get E (A := A3) (n := n3) (c := c3) (a := k) (by simp)) (by omega) HC0.out rfl rfl).mono ?_; rintro e w15 ⟨A15, n15, c15, A16, n16, c16, rfl, h, h2, hb⟩; replace E := Env.push E hb h; replace E := Env.push E (Below.refl _ _) h2
  clear h h2 hb
  go_wp2_with fail
  refine (awake_any _).mono ?_; rintro e w99 ⟨rfl, hb⟩; replace E := Env.step E hb
  clear hb
  go_wp2_with fail
  go_ret
  exact ⟨rfl, E.out.1⟩

set_option maxHeartbeats 2000000 in
set_option maxRecDepth 100000 in
theorem dgcd_p_s (A1 A2 A3 : Option Addr) (n1 n2 n3 c1 c2 c3 a b k : Nat) (w : World) (h1 : Num w w.heap.size A1 n1 c1 a) (h2 : Num w w.heap.size A2 n2 c2 b) (h3 : Num w w.heap.size A3 n3 c3 k) (hl1 : n1 ≤ 5) (hl2 : n2 ≤ 5) (hl3 : n3 ≤ 30) (ha : 0 < a) (hc0 : 0 < k) (hr : a % k = 0) (hr2 : b % k = 0) :
    Calls Try.prog 5 #[.slice A1 n1 c1, .slice A2 n2 c2, .slice A3 n3 c3] w (RetVal w (.bool true)) := by
  have C := Lib.hid (long_no h1 h2 (show n1 ≤ 30 by omega) (show n2 ≤ 30 by omega) (right_dg a) (right_dg b))
  have C2 := Lib.hid (long_no h3 (Lim.nil : Lim w w.heap.size none 0 0 []) hl3 (show (0 : Nat) ≤ 30 by omega) (right_dg k) right_nil)
  have hgl : (dg (Nat.gcd a b)).length ≤ 11 := by have := dg_len_mono (gcd_le_add a b); have := dg_len_add a b; have := h1.len; have := h2.len; omega
  obtain ⟨g, hg⟩ : ∃ g, Nat.gcd a b = g := ⟨_, rfl⟩
  rw [hg] at hgl
  have HGL := Lib.hid hgl
  have HG := Lib.hid hg
  have hg0 : 0 < g := by rw [← hg]; exact Nat.gcd_pos_of_pos_left _ ha
  have HG0 := Lib.hid hg0
  have X0 : Hid (a % g = 0) := by show _ = _; rw [← hg]; exact Nat.mod_eq_zero_of_dvd (Nat.gcd_dvd_left a b)
  have Y0 : Hid (b % g = 0) := by show _ = _; rw [← hg]; exact Nat.mod_eq_zero_of_dvd (Nat.gcd_dvd_right a b)
  have HC0 := Lib.hid hc0
  have hn3 := dg_len_pos h3.len hc0
  have hne3 : ((n3 : Int) == 0) = false := by simp; omega
  have S0 : Hid (g % k = 0) := by show _ = _; rw [← hg]; exact Nat.mod_eq_zero_of_dvd (Nat.dvd_gcd (Nat.dvd_of_mod_eq_zero hr) (Nat.dvd_of_mod_eq_zero hr2))
  have HR := Lib.hid hr
  have HR2 := Lib.hid hr2
  obtain ⟨p, hp⟩ : ∃ p, a % k = p := ⟨_, rfl⟩
  obtain ⟨q, hq⟩ : ∃ q, b % k = q := ⟨_, rfl⟩
  have HP := Lib.hid hp
  have HQ := Lib.hid hq
  clear hc0 hr hr2 hp hq
  clear hg hg0 hgl
  have hn1 := dg_len_pos h1.len ha
  have hne1 : ((n1 : Int) == 0) = false := by simp; omega
  clear ha
  have E := Env.three h1 h2 h3
  clear h1 h2 h3
  go_enter Try.func5, Try.ntmps5
  go_wp2_with fail
  refine C.out.mono ?_; rintro e w' ⟨rfl, rfl⟩
  go_wp2_with fail
  refine C2.out.mono ?_; rintro e w' ⟨rfl, rfl⟩
  go_wp2_with fail
  refine (gcd_is (a := a) (b := b) (m := g) (Env.get E (A := A1) (n := n1) (c := c1) (a := a) (by simp)) (Env.get E (A := A2) (n := n2) (c := c2) (a := b) (by simp)) (by omega) (by omega) HG.out).mono ?_; rintro e w4 ⟨A4, n4, c4, rfl, h, hb⟩; replace E := Env.push E hb h
  have l4 : n4 ≤ 11 := by rw [← h.len]; exact HGL.out
  have p4 : 0 < n4 := dg_len_pos h.len HG0.out
  have q4 : ((n4 : Int) == 0) = false := by simp; omega
  clear h hb
  go_wp2_with fail
  refine (rgcd_is (a := a) (b := b) (m := g) (Env.get E (A := A1) (n := n1) (c := c1) (a := a) (by simp)) (Env.get E (A := A2) (n := n2) (c := c2) (a := b) (by simp)) (by omega) (by omega) HG.out).mono ?_; rintro e w5 ⟨A5, n5, c5, rfl, h, hb⟩; replace E := Env.push E hb h
  clear h hb
  go_wp2_with fail
  refine (rsame_is (a := g) (b := g) (Env.get E (A := A4) (n := n4) (c := c4) (by simp)) (Env.get E (A := A5) (n := n5) (c := c5) (by simp)) rfl).mono ?_; rintro e w6 ⟨rfl, hb⟩; replace E := Env.step E hb
  clear hb
  go_wp2_with fail
  refine (div_is (a := a) (b := g) (q := a / g) (r := 0) (Env.get E (A := A1) (n := n1) (c := c1) (a := a) (by simp)) (Env.get E (A := A4) (n := n4) (c := c4) (by simp)) (by omega) HG0.out rfl X0.out).mono ?_; rintro e w7 ⟨A7, n7, c7, A8, n8, c8, rfl, h, h2, hb⟩; replace E := Env.push E hb h; replace E := Env.push E (Below.refl _ _) h2
  obtain rfl : n8 = 0 := num_zero h2 rfl
  clear h h2 hb
  go_wp2_with fail
  refine (div_is (a := b) (b := g) (q := b / g) (r := 0) (Env.get E (A := A2) (n := n2) (c := c2) (a := b) (by simp)) (Env.get E (A := A4) (n := n4) (c := c4) (by simp)) (by omega) HG0.out rfl Y0.out).mono ?_; rintro e w9 ⟨A9, n9, c9, A10, n10, c10, rfl, h, h2, hb⟩; replace E := Env.push E hb h; replace E := Env.push E (Below.refl _ _) h2
  obtain rfl : n10 = 0 := num_zero h2 rfl
  clear h h2 hb
  go_wp2_with fail
  refine (div_is (a := a) (b := k) (q := a / k) (r := p) (Env.get E (A := A1) (n := n1) (c := c1) (a := a) (by simp)) (Env.get E (A := A3) (n := n3) (c := c3) (a := k) (by simp)) (by omega) HC0.out rfl HP.out).mono ?_; rintro e w11 ⟨A11, n11, c11, A12, n12, c12, rfl, h, h2, hb⟩; replace E := Env.push E hb h; replace E := Env.push E (Below.refl _ _) h2
  obtain rfl : n12 = 0 := num_zero h2 (by rw [← HP.out]; exact HR.out)
  clear h h2 hb
  go_wp2_with fail
  refine (div_is (a := b) (b := k) (q := b / k) (r := q) (Env.get E (A := A2) (n := n2) (c := c2) (a := b) (by simp)) (Env.get E (A := A3) (n := n3) (c := c3) (a := k) (by simp)) (by omega) HC0.out rfl HQ.out).mono ?_; rintro e w13 ⟨A13, n13, c13, A14, n14, c14, rfl, h, h2, hb⟩; replace E := Env.push E hb h; replace E := Env.push E (Below.refl _ _) h2
  obtain rfl : n14 = 0 := num_zero h2 (by rw [← HQ.out]; exact HR2.out)
  clear h h2 hb
  go_wp2_with fail
  refine (div_is (a := g) (b := k) (q := g / k) (r := g % k) (Env.get E (A := A4) (n := n4) (c := c4) (by simp)) (Env.get E (A := A3) (n := n3) (c := c3) (a := k) (by simp)) (by omega) HC0.out rfl rfl).mono ?_; rintro e w15 ⟨A15, n15, c15, A16, n16, c16, rfl, h, h2, hb⟩; replace E := Env.push E hb h; replace E := Env.push E (Below.refl _ _) h2
  obtain rfl : n16 = 0 := num_zero h2 (S0.out)
  clear h h2 hb
  go_wp2_with fail
  refine (awake_any _).mono ?_; rintro e w99 ⟨rfl, hb⟩; replace E := Env.step E hb
  clear hb
  go_wp2_with fail
  go_ret
  exact ⟨rfl, E.out.1⟩

theorem dgcd_any (A1 A2 A3 : Option Addr) (n1 n2 n3 c1 c2 c3 : Nat) (x1 x2 x3 : List Nat) (w : World) (h1 : Hid (Lim w w.heap.size A1 n1 c1 x1)) (h2 : Hid (Lim w w.heap.size A2 n2 c2 x2)) (h3 : Hid (Lim w w.heap.size A3 n3 c3 x3)) :
    Calls Try.prog 5 #[.slice A1 n1 c1, .slice A2 n2 c2, .slice A3 n3 c3] w (RetVal w (.bool true)) := by
  by_cases hg : n1 ≤ 5 ∧ n2 ≤ 5 ∧ n3 ≤ 30 ∧ rightB x1 = true ∧ rightB x2 = true ∧ rightB x3 = true
  · obtain ⟨l1, l2, l3, r1, r2, r3⟩ := hg
    have H1 := h1.out.num r1
    have H2 := h2.out.num r2
    have H3 := h3.out.num r3
    rcases Nat.eq_zero_or_pos (val x1) with ha | ha
    · rcases Nat.eq_zero_or_pos (val x2) with hb | hb
      · exact dgcd_zz A1 A2 A3 n1 n2 n3 c1 c2 c3 _ _ _ w H1 H2 H3 l1 l2 l3 ha hb
      · rcases Nat.eq_zero_or_pos (val x3) with hc | hc
        · exact dgcd_zp_c A1 A2 A3 n1 n2 n3 c1 c2 c3 _ _ _ w H1 H2 H3 l1 l2 l3 ha hb hc
        · have hp : val x1 % val x3 = 0 := by rw [ha, Nat.zero_mod]
          rcases Nat.eq_zero_or_pos (val x2 % val x3) with hq | hq
          · exact dgcd_zp_s A1 A2 A3 n1 n2 n3 c1 c2 c3 _ _ _ w H1 H2 H3 l1 l2 l3 ha hb hc hp hq
          · exact dgcd_zp_q A1 A2 A3 n1 n2 n3 c1 c2 c3 _ _ _ w H1 H2 H3 l1 l2 l3 ha hb hc hp hq
    · rcases Nat.eq_zero_or_pos (val x3) with hc | hc
      · exact dgcd_p_c A1 A2 A3 n1 n2 n3 c1 c2 c3 _ _ _ w H1 H2 H3 l1 l2 l3 ha hc
      · rcases Nat.eq_zero_or_pos (val x1 % val x3) with hp | hp
        · rcases Nat.eq_zero_or_pos (val x2 % val x3) with hq | hq
          · exact dgcd_p_s A1 A2 A3 n1 n2 n3 c1 c2 c3 _ _ _ w H1 H2 H3 l1 l2 l3 ha hc hp hq
          · exact dgcd_p_q A1 A2 A3 n1 n2 n3 c1 c2 c3 _ _ _ w H1 H2 H3 l1 l2 l3 ha hc hp hq
        · exact dgcd_p_p A1 A2 A3 n1 n2 n3 c1 c2 c3 _ _ _ w H1 H2 H3 l1 l2 l3 ha hc hp
  · exact dgcd_bad A1 A2 A3 n1 n2 n3 c1 c2 c3 x1 x2 x3 w h1 h2 h3 hg

end Go.Proofs.Ytenelfclalnfhaa
