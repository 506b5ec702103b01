/-
  The walks of the laws NatdivSays and NatdivGcd.
-/
import Derived.Test.YtenelfclalnfhaaDivR
import Derived.Test.YtenelfclalnfhaaDivI
namespace Go.Proofs.Ytenelfclalnfhaa
open Go.RowKit

theorem rsame_is {A A' : Option Addr} {n c n' c' a b : Nat} {w : World} (h : Num w w.heap.size A n c a) (h' : Num w w.heap.size A' n' c' b) (hs : a = b) :
    Calls Try.prog 16 #[.slice A n c, .slice A' n' c'] w (RetVal w (.bool true)) := by
  have := refSame_any A A' n c n' c' a b w h h'
  rwa [decide_eq_true hs] at this
theorem num_nil (w : World) (B : Nat) : Num w B none 0 0 0 := by rw [Num, dg_zero]; exact Lim.nil

set_option maxHeartbeats 1000000 in
set_option maxRecDepth 100000 in
theorem dsays_bad (A1 A2 : Option Addr) (n1 n2 c1 c2 N : Nat) (x1 x2 : List Nat) (w : World) (h1 : Hid (Lim w w.heap.size A1 n1 c1 x1)) (h2 : Hid (Lim w w.heap.size A2 n2 c2 x2))
    (hbad : ¬ (n1 ≤ 30 ∧ n2 ≤ 30 ∧ rightB x1 = true ∧ rightB x2 = true)) :
    Calls Try.prog 3 #[.slice A1 n1 c1, .slice A2 n2 c2, .int .u32 N] w (RetVal w (.bool true)) := by
  have C := Lib.hid (long_yes h1.out h2.out hbad)
  clear hbad
  go_enter Try.func3, Try.ntmps3
  go_wp2_with fail
  refine C.out.mono ?_; rintro e w' ⟨rfl, rfl⟩
  go_wp2_with fail
  refine (awake_any _).mono ?_; rintro e w' ⟨rfl, hb⟩; have HB := Lib.hid hb; clear hb
  go_wp2_with fail
  go_ret
  exact ⟨rfl, HB.out⟩

set_option maxHeartbeats 2000000 in
set_option maxRecDepth 100000 in
theorem dsays_zz (A1 A2 : Option Addr) (n1 n2 c1 c2 a b N : Nat) (w : World) (h1 : Num w w.heap.size A1 n1 c1 a) (h2 : Num w w.heap.size A2 n2 c2 b) (hl1 : n1 ≤ 30) (hl2 : n2 ≤ 30) (hN : N < 4294967296) (hb0 : b = 0) (hN0 : N = 0) :
    Calls Try.prog 3 #[.slice A1 n1 c1, .slice A2 n2 c2, .int .u32 N] w (RetVal w (.bool true)) := by
  have C := Lib.hid (long_no h1 h2 hl1 hl2 (right_dg a) (right_dg b))
  obtain rfl := num_zero h2 hb0
  subst hb0
  subst hN0
  have E := Env.two h1 h2
  clear h1 h2
  go_enter Try.func3, Try.ntmps3
  go_wp2_with fail
  refine C.out.mono ?_; rintro e w' ⟨rfl, rfl⟩
  go_wp2_with fail
  refine (div_zero A1 A2 n1 c1 c2 a _ (Env.get E (A := A1) (n := n1) (c := c1) (by simp)) (Env.get E (A := A2) (n := 0) (c := c2) (a := 0) (by simp))).mono ?_; rintro e w3 ⟨rfl, hb⟩; replace E := Env.step E hb
  clear hb
  go_wp2_with fail
  refine (refDiv_zero A1 A2 n1 c1 c2 _).mono ?_; rintro e w4 ⟨rfl, hb⟩; replace E := Env.step E hb
  clear hb
  go_wp2_with fail
  refine (small_zero A1 n1 c1 _).mono ?_; rintro e w5 ⟨rfl, hb⟩; replace E := Env.step E hb
  clear hb
  go_wp2_with fail
  refine (rsmall_zero A1 n1 c1 _).mono ?_; rintro e w6 ⟨rfl, hb⟩; replace E := Env.step E hb
  clear hb
  go_wp2_with fail
  refine (near_zero A1 A2 n1 c1 c2 a _ (Env.get E (A := A1) (n := n1) (c := c1) (by simp)) (Env.get E (A := A2) (n := 0) (c := c2) (a := 0) (by simp))).mono ?_; rintro e w7 ⟨rfl, hb⟩; replace E := Env.step E hb
  clear hb
  go_wp2_with fail
  refine (rnear_zero A1 A2 n1 c1 c2 _).mono ?_; rintro e w8 ⟨rfl, hb⟩; replace E := Env.step E hb
  clear hb
  go_wp2_with fail
  refine (rsame_is (num_nil _ _) (num_nil _ _) rfl).mono ?_; rintro e w9 ⟨rfl, hb⟩; replace E := Env.step E hb
  clear hb
  go_wp2_with fail
  refine (rsame_is (num_nil _ _) (num_nil _ _) rfl).mono ?_; rintro e w10 ⟨rfl, hb⟩; replace E := Env.step E hb
  clear hb
  go_wp2_with fail
  refine (rsame_is (num_nil _ _) (num_nil _ _) rfl).mono ?_; rintro e w11 ⟨rfl, hb⟩; replace E := Env.step E hb
  clear hb
  go_wp2_with fail
  refine (rsame_is (num_nil _ _) (num_nil _ _) rfl).mono ?_; rintro e w12 ⟨rfl, hb⟩; replace E := Env.step E hb
  clear hb
  go_wp2_with fail
  refine (awake_any _).mono ?_; rintro e w99 ⟨rfl, hb⟩; replace E := Env.step E hb
  clear hb
  go_wp2_with fail
  go_ret
  exact ⟨rfl, E.out.1⟩

set_option maxHeartbeats 2000000 in
set_option maxRecDepth 100000 in
theorem dsays_zp (A1 A2 : Option Addr) (n1 n2 c1 c2 a b N : Nat) (w : World) (h1 : Num w w.heap.size A1 n1 c1 a) (h2 : Num w w.heap.size A2 n2 c2 b) (hl1 : n1 ≤ 30) (hl2 : n2 ≤ 30) (hN : N < 4294967296) (hb0 : b = 0) (hN0 : 0 < N) :
    Calls Try.prog 3 #[.slice A1 n1 c1, .slice A2 n2 c2, .int .u32 N] w (RetVal w (.bool true)) := by
  have C := Lib.hid (long_no h1 h2 hl1 hl2 (right_dg a) (right_dg b))
  obtain rfl := num_zero h2 hb0
  subst hb0
  have HN0 := Lib.hid hN0
  have HN := Lib.hid hN
  obtain ⟨sq, hsq⟩ : ∃ sq, a / N = sq := ⟨_, rfl⟩
  obtain ⟨sr, hsr⟩ : ∃ sr, a % N = sr := ⟨_, rfl⟩
  have HSQ := Lib.hid hsq
  have HSR := Lib.hid hsr
  clear hsq hsr
  have E := Env.two h1 h2
  clear h1 h2
  go_enter Try.func3, Try.ntmps3
  go_wp2_with fail
  refine C.out.mono ?_; rintro e w' ⟨rfl, rfl⟩
  go_wp2_with fail
  refine (div_zero A1 A2 n1 c1 c2 a _ (Env.get E (A := A1) (n := n1) (c := c1) (by simp)) (Env.get E (A := A2) (n := 0) (c := c2) (a := 0) (by simp))).mono ?_; rintro e w3 ⟨rfl, hb⟩; replace E := Env.step E hb
  clear hb
  go_wp2_with fail
  refine (refDiv_zero A1 A2 n1 c1 c2 _).mono ?_; rintro e w4 ⟨rfl, hb⟩; replace E := Env.step E hb
  clear hb
  go_wp2_with fail
  refine (dsmall_is (a := a) (N := N) (q := sq) (r := sr) (Env.get E (A := A1) (n := n1) (c := c1) (by simp)) (by omega) HN0.out HN.out rfl HSQ.out HSR.out).mono ?_; rintro e w5 ⟨A5, n5, c5, rfl, h, hb⟩; replace E := Env.push E hb h
  clear h hb
  go_wp2_with fail
  refine (rsmall_is (a := a) (N := N) (q := sq) (r := sr) (Env.get E (A := A1) (n := n1) (c := c1) (by simp)) (by omega) HN0.out HN.out rfl HSQ.out HSR.out).mono ?_; rintro e w6 ⟨A6, n6, c6, rfl, h, hb⟩; replace E := Env.push E hb h
  clear h hb
  go_wp2_with fail
  refine (near_zero A1 A2 n1 c1 c2 a _ (Env.get E (A := A1) (n := n1) (c := c1) (by simp)) (Env.get E (A := A2) (n := 0) (c := c2) (a := 0) (by simp))).mono ?_; rintro e w7 ⟨rfl, hb⟩; replace E := Env.step E hb
  clear hb
  go_wp2_with fail
  refine (rnear_zero A1 A2 n1 c1 c2 _).mono ?_; rintro e w8 ⟨rfl, hb⟩; replace E := Env.step E hb
  clear hb
  go_wp2_with fail
  refine (rsame_is (num_nil _ _) (num_nil _ _) rfl).mono ?_; rintro e w9 ⟨rfl, hb⟩; replace E := Env.step E hb
  clear hb
  go_wp2_with fail
  refine (rsame_is (num_nil _ _) (num_nil _ _) rfl).mono ?_; rintro e w10 ⟨rfl, hb⟩; replace E := Env.step E hb
  clear hb
  go_wp2_with fail
  refine (rsame_is (a := sq) (b := sq) (Env.get E (A := A5) (n := n5) (c := c5) (by simp)) (Env.get E (A := A6) (n := n6) (c := c6) (by simp)) rfl).mono ?_; rintro e w11 ⟨rfl, hb⟩; replace E := Env.step E hb
  clear hb
  go_wp2_with fail
  refine (rsame_is (num_nil _ _) (num_nil _ _) rfl).mono ?_; rintro e w12 ⟨rfl, hb⟩; replace E := Env.step E hb
  clear hb
  go_wp2_with fail
  refine (awake_any _).mono ?_; rintro e w99 ⟨rfl, hb⟩; replace E := Env.step E hb
  clear hb
  go_wp2_with fail
  go_ret
  exact ⟨rfl, E.out.1⟩

set_option maxHeartbeats 2000000 in
set_option maxRecDepth 100000 in
theorem dsays_pz (A1 A2 : Option Addr) (n1 n2 c1 c2 a b N : Nat) (w : World) (h1 : Num w w.heap.size A1 n1 c1 a) (h2 : Num w w.heap.size A2 n2 c2 b) (hl1 : n1 ≤ 30) (hl2 : n2 ≤ 30) (hN : N < 4294967296) (hb0 : 0 < b) (hN0 : N = 0) :
    Calls Try.prog 3 #[.slice A1 n1 c1, .slice A2 n2 c2, .int .u32 N] w (RetVal w (.bool true)) := by
  have C := Lib.hid (long_no h1 h2 hl1 hl2 (right_dg a) (right_dg b))
  have hn2 := dg_len_pos h2.len hb0
  have HB0 := Lib.hid hb0
  clear hb0
  subst hN0
  have E := Env.two h1 h2
  clear h1 h2
  go_enter Try.func3, Try.ntmps3
  go_wp2_with fail
  refine C.out.mono ?_; rintro e w' ⟨rfl, rfl⟩
  go_wp2_with fail
  refine (div_is (a := a) (b := b) (q := a / b) (r := a % b) (Env.get E (A := A1) (n := n1) (c := c1) (by simp)) (Env.get E (A := A2) (n := n2) (c := c2) (by simp)) (by omega) HB0.out rfl rfl).mono ?_; rintro e w3 ⟨A3, n3, c3, A4, n4, c4, rfl, h, h2, hb⟩; replace E := Env.push E hb h; replace E := Env.push E (Below.refl _ _) h2
  clear h h2 hb
  go_wp2_with fail
  refine (refDiv_is (a := a) (b := b) (q := a / b) (r := a % b) (Env.get E (A := A1) (n := n1) (c := c1) (by simp)) (Env.get E (A := A2) (n := n2) (c := c2) (by simp)) (by omega) (by omega) HB0.out rfl rfl).mono ?_; rintro e w5 ⟨A5, n5, c5, A6, n6, c6, rfl, h, h2, hb⟩; replace E := Env.push E hb h; replace E := Env.push E (Below.refl _ _) h2
  clear h h2 hb
  go_wp2_with fail
  refine (small_zero A1 n1 c1 _).mono ?_; rintro e w7 ⟨rfl, hb⟩; replace E := Env.step E hb
  clear hb
  go_wp2_with fail
  refine (rsmall_zero A1 n1 c1 _).mono ?_; rintro e w8 ⟨rfl, hb⟩; replace E := Env.step E hb
  clear hb
  go_wp2_with fail
  refine (near_is (a := a) (b := b) (m := nearN a b) (Env.get E (A := A1) (n := n1) (c := c1) (by simp)) (Env.get E (A := A2) (n := n2) (c := c2) (by simp)) (by omega) HB0.out rfl).mono ?_; rintro e w9 ⟨A9, n9, c9, rfl, h, hb⟩; replace E := Env.push E hb h
  clear h hb
  go_wp2_with fail
  refine (rnear_is (a := a) (b := b) (m := nearN a b) (Env.get E (A := A1) (n := n1) (c := c1) (by simp)) (Env.get E (A := A2) (n := n2) (c := c2) (by simp)) (by omega) (by omega) HB0.out rfl).mono ?_; rintro e w10 ⟨A10, n10, c10, rfl, h, hb⟩; replace E := Env.push E hb h
  clear h hb
  go_wp2_with fail
  refine (rsame_is (a := a / b) (b := a / b) (Env.get E (A := A3) (n := n3) (c := c3) (by simp)) (Env.get E (A := A5) (n := n5) (c := c5) (by simp)) rfl).mono ?_; rintro e w11 ⟨rfl, hb⟩; replace E := Env.step E hb
  clear hb
  go_wp2_with fail
  refine (rsame_is (a := a % b) (b := a % b) (Env.get E (A := A4) (n := n4) (c := c4) (by simp)) (Env.get E (A := A6) (n := n6) (c := c6) (by simp)) rfl).mono ?_; rintro e w12 ⟨rfl, hb⟩; replace E := Env.step E hb
  clear hb
  go_wp2_with fail
  refine (rsame_is (num_nil _ _) (num_nil _ _) rfl).mono ?_; rintro e w13 ⟨rfl, hb⟩; replace E := Env.step E hb
  clear hb
  go_wp2_with fail
  refine (rsame_is (a := nearN a b) (b := nearN a b) (Env.get E (A := A9) (n := n9) (c := c9) (by simp)) (Env.get E (A := A10) (n := n10) (c := c10) (by simp)) rfl).mono ?_; rintro e w14 ⟨rfl, hb⟩; replace E := Env.step E hb
  clear hb
  go_wp2_with fail
  refine (awake_any _).mono ?_; rintro e w99 ⟨rfl, hb⟩; replace E := Env.step E hb
  clear hb
  go_wp2_with fail
  go_ret
  exact ⟨rfl, E.out.1⟩

set_option maxHeartbeats 2000000 in
set_option maxRecDepth 100000 in
theorem dsays_pp (A1 A2 : Option Addr) (n1 n2 c1 c2 a b N : Nat) (w : World) (h1 : Num w w.heap.size A1 n1 c1 a) (h2 : Num w w.heap.size A2 n2 c2 b) (hl1 : n1 ≤ 30) (hl2 : n2 ≤ 30) (hN : N < 4294967296) (hb0 : 0 < b) (hN0 : 0 < N) :
    Calls Try.prog 3 #[.slice A1 n1 c1, .slice A2 n2 c2, .int .u32 N] w (RetVal w (.bool true)) := by
  have C := Lib.hid (long_no h1 h2 hl1 hl2 (right_dg a) (right_dg b))
  have hn2 := dg_len_pos h2.len hb0
  have HB0 := Lib.hid hb0
  clear hb0
  have HN0 := Lib.hid hN0
  have HN := Lib.hid hN
  obtain ⟨sq, hsq⟩ : ∃ sq, a / N = sq := ⟨_, rfl⟩
  obtain ⟨sr, hsr⟩ : ∃ sr, a % N = sr := ⟨_, rfl⟩
  have HSQ := Lib.hid hsq
  have HSR := Lib.hid hsr
  clear hsq hsr
  have E := Env.two h1 h2
  clear h1 h2
  go_enter Try.func3, Try.ntmps3
  go_wp2_with fail
  refine C.out.mono ?_; rintro e w' ⟨rfl, rfl⟩
  go_wp2_with fail
  refine (div_is (a := a) (b := b) (q := a / b) (r := a % b) (Env.get E (A := A1) (n := n1) (c := c1) (by simp)) (Env.get E (A := A2) (n := n2) (c := c2) (by simp)) (by omega) HB0.out rfl rfl).mono ?_; rintro e w3 ⟨A3, n3, c3, A4, n4, c4, rfl, h, h2, hb⟩; replace E := Env.push E hb h; replace E := Env.push E (Below.refl _ _) h2
  clear h h2 hb
  go_wp2_with fail
  refine (refDiv_is (a := a) (b := b) (q := a / b) (r := a % b) (Env.get E (A := A1) (n := n1) (c := c1) (by simp)) (Env.get E (A := A2) (n := n2) (c := c2) (by simp)) (by omega) (by omega) HB0.out rfl rfl).mono ?_; rintro e w5 ⟨A5, n5, c5, A6, n6, c6, rfl, h, h2, hb⟩; replace E := Env.push E hb h; replace E := Env.push E (Below.refl _ _) h2
  clear h h2 hb
  go_wp2_with fail
  refine (dsmall_is (a := a) (N := N) (q := sq) (r := sr) (Env.get E (A := A1) (n := n1) (c := c1) (by simp)) (by omega) HN0.out HN.out rfl HSQ.out HSR.out).mono ?_; rintro e w7 ⟨A7, n7, c7, rfl, h, hb⟩; replace E := Env.push E hb h
  clear h hb
  go_wp2_with fail
  refine (rsmall_is (a := a) (N := N) (q := sq) (r := sr) (Env.get E (A := A1) (n := n1) (c := c1) (by simp)) (by omega) HN0.out HN.out rfl HSQ.out HSR.out).mono ?_; rintro e w8 ⟨A8, n8, c8, rfl, h, hb⟩; replace E := Env.push E hb h
  clear h hb
  go_wp2_with fail
  refine (near_is (a := a) (b := b) (m := nearN a b) (Env.get E (A := A1) (n := n1) (c := c1) (by simp)) (Env.get E (A := A2) (n := n2) (c := c2) (by simp)) (by omega) HB0.out rfl).mono ?_; rintro e w9 ⟨A9, n9, c9, rfl, h, hb⟩; replace E := Env.push E hb h
  clear h hb
  go_wp2_with fail
  refine (rnear_is (a := a) (b := b) (m := nearN a b) (Env.get E (A := A1) (n := n1) (c := c1) (by simp)) (Env.get E (A := A2) (n := n2) (c := c2) (by simp)) (by omega) (by omega) HB0.out rfl).mono ?_; rintro e w10 ⟨A10, n10, c10, rfl, h, hb⟩; replace E := Env.push E hb h
  clear h hb
  go_wp2_with fail
  refine (rsame_is (a := a / b) (b := a / b) (Env.get E (A := A3) (n := n3) (c := c3) (by simp)) (Env.get E (A := A5) (n := n5) (c := c5) (by simp)) rfl).mono ?_; rintro e w11 ⟨rfl, hb⟩; replace E := Env.step E hb
  clear hb
  go_wp2_with fail
  refine (rsame_is (a := a % b) (b := a % b) (Env.get E (A := A4) (n := n4) (c := c4) (by simp)) (Env.get E (A := A6) (n := n6) (c := c6) (by simp)) rfl).mono ?_; rintro e w12 ⟨rfl, hb⟩; replace E := Env.step E hb
  clear hb
  go_wp2_with fail
  refine (rsame_is (a := sq) (b := sq) (Env.get E (A := A7) (n := n7) (c := c7) (by simp)) (Env.get E (A := A8) (n := n8) (c := c8) (by simp)) rfl).mono ?_; rintro e w13 ⟨rfl, hb⟩; replace E := Env.step E hb
  clear hb
  go_wp2_with fail
  refine (rsame_is (a := nearN a b) (b := nearN a b) (Env.get E (A := A9) (n := n9) (c := c9) (by simp)) (Env.get E (A := A10) (n := n10) (c := c10) (by simp)) rfl).mono ?_; rintro e w14 ⟨rfl, hb⟩; replace E := Env.step E hb
  clear hb
  go_wp2_with fail
  refine (awake_any _).mono ?_; rintro e w99 ⟨rfl, hb⟩; replace E := Env.step E hb
  clear hb
  go_wp2_with fail
  go_ret
  exact ⟨rfl, E.out.1⟩

theorem dsays_any (A1 A2 : Option Addr) (n1 n2 c1 c2 N : Nat) (x1 x2 : List Nat) (w : World) (h1 : Hid (Lim w w.heap.size A1 n1 c1 x1)) (h2 : Hid (Lim w w.heap.size A2 n2 c2 x2)) (hN : N < 4294967296) :
    Calls Try.prog 3 #[.slice A1 n1 c1, .slice A2 n2 c2, .int .u32 N] w (RetVal w (.bool true)) := by
  by_cases hg : n1 ≤ 30 ∧ n2 ≤ 30 ∧ rightB x1 = true ∧ rightB x2 = true
  · obtain ⟨l1, l2, r1, r2⟩ := hg
    rcases Nat.eq_zero_or_pos (val x2) with h0 | h0
    · rcases Nat.eq_zero_or_pos N with k0 | k0
      · exact dsays_zz A1 A2 n1 n2 c1 c2 _ _ N w (h1.out.num r1) (h2.out.num r2) l1 l2 hN h0 k0
      · exact dsays_zp A1 A2 n1 n2 c1 c2 _ _ N w (h1.out.num r1) (h2.out.num r2) l1 l2 hN h0 k0
    · rcases Nat.eq_zero_or_pos N with k0 | k0
      · exact dsays_pz A1 A2 n1 n2 c1 c2 _ _ N w (h1.out.num r1) (h2.out.num r2) l1 l2 hN h0 k0
      · exact dsays_pp A1 A2 n1 n2 c1 c2 _ _ N w (h1.out.num r1) (h2.out.num r2) l1 l2 hN h0 k0
  · exact dsays_bad A1 A2 n1 n2 c1 c2 N x1 x2 w h1 h2 hg

end Go.Proofs.Ytenelfclalnfhaa
