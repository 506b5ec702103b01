/-
  The walk of the law NatmulRing.
-/
import Derived.Test.YtbknkoicejkfmaaMulH
import Derived.Test.YtbknkoicejkfmaaNatI
namespace Go.Proofs.Ytbknkoicejkfmaa
open Go.RowKit

theorem bads3 (K n1 n2 n3 : Nat) (x1 x2 x3 : List Nat) :
    (K < n1) ∨ (n1 ≤ K ∧ K < n2) ∨ (n1 ≤ K ∧ n2 ≤ K ∧ K < n3) ∨
    (n1 ≤ K ∧ n2 ≤ K ∧ n3 ≤ K ∧ rightB x1 = false) ∨ (n1 ≤ K ∧ n2 ≤ K ∧ n3 ≤ K ∧ rightB x1 = true ∧ rightB x2 = false) ∨ (n1 ≤ K ∧ n2 ≤ K ∧ n3 ≤ K ∧ rightB x1 = true ∧ rightB x2 = true ∧ rightB x3 = false) ∨
    (n1 ≤ K ∧ n2 ≤ K ∧ n3 ≤ K ∧ rightB x1 = true ∧ rightB x2 = true ∧ rightB x3 = true) := by
  by_cases h1 : K < n1
  · exact .inl h1
  · by_cases h2 : K < n2
    · exact .inr (.inl ⟨by omega, h2⟩)
    · by_cases h3 : K < n3
      · exact .inr (.inr (.inl ⟨by omega, by omega, h3⟩))
      · have e1 : n1 ≤ K := by omega
        have e2 : n2 ≤ K := by omega
        have e3 : n3 ≤ K := by omega
        cases rightB x1 <;> cases rightB x2 <;> cases rightB x3 <;> simp [e1, e2, e3]

theorem mul_len {w : World} {B k c k1 k2 a b : Nat} {A : Option Addr} (h : Num w B A k c (a * b)) (ha : (dg a).length ≤ k1) (hb : (dg b).length ≤ k2) : k ≤ k1 + k2 := by
  have := dg_len_mul a b
  rw [h.len] at this
  omega

set_option maxHeartbeats 1000000 in
set_option maxRecDepth 100000 in
theorem mring_bad (A1 A2 A3 : Option Addr) (n1 n2 n3 c1 c2 c3 : Nat) (x1 x2 x3 : List Nat) (w : World) (h1 : Hid (Lim w w.heap.size A1 n1 c1 x1)) (h2 : Hid (Lim w w.heap.size A2 n2 c2 x2)) (h3 : Hid (Lim w w.heap.size A3 n3 c3 x3))
    (hbad : ¬ (n1 ≤ 20 ∧ n2 ≤ 20 ∧ n3 ≤ 20 ∧ rightB x1 = true ∧ rightB x2 = true ∧ rightB x3 = true)) :
    Calls Try.prog 5 #[.slice A1 n1 c1, .slice A2 n2 c2, .slice A3 n3 c3] w (RetVal w (.bool true)) := by
  rcases bads3 20 n1 n2 n3 x1 x2 x3 with hl1 | ⟨hl1, hl2⟩ | ⟨hl1, hl2, hl3⟩ | ⟨hl1, hl2, hl3, hr1⟩ | ⟨hl1, hl2, hl3, hr1, hr2⟩ | ⟨hl1, hl2, hl3, hr1, hr2, hr3⟩ | hgood
  case inr.inr.inr.inr.inr.inr => exact absurd hgood hbad
  all_goals
    clear hbad
    go_enter Try.func5, Try.ntmps5
    go_wp2_with (first | (go_at_call 9; first | ((with_reducible refine (refRight_any A1 n1 c1 _ x1 _ h1.out).mono ?_); rintro e w' ⟨rfl, rfl⟩) | ((with_reducible refine (refRight_any A2 n2 c2 _ x2 _ h2.out).mono ?_); rintro e w' ⟨rfl, rfl⟩) | ((with_reducible refine (refRight_any A3 n3 c3 _ x3 _ h3.out).mono ?_); rintro e w' ⟨rfl, rfl⟩)) | (go_at_call 10; refine (awake_any _).mono ?_; rintro e w' ⟨rfl, hb⟩; have HB := Lib.hid hb; clear hb))
    go_ret
    exact ⟨rfl, HB.out⟩

set_option maxHeartbeats 1000000 in
set_option maxRecDepth 100000 in
theorem mring_good (A1 A2 A3 : Option Addr) (n1 n2 n3 c1 c2 c3 a b c : Nat) (w : World) (h1 : Num w w.heap.size A1 n1 c1 a) (h2 : Num w w.heap.size A2 n2 c2 b) (h3 : Num w w.heap.size A3 n3 c3 c)
    (hl1 : n1 ≤ 20) (hl2 : n2 ≤ 20) (hl3 : n3 ≤ 20) :
    Calls Try.prog 5 #[.slice A1 n1 c1, .slice A2 n2 c2, .slice A3 n3 c3] w (RetVal w (.bool true)) := by
  have L1 := Lib.hid h1.len
  have L2 := Lib.hid h2.len
  have L3 := Lib.hid h3.len
  have hr1 := right_dg a
  have hr2 := right_dg b
  have hr3 := right_dg c
  have E := Env.three h1 h2 h3
  clear h1 h2 h3
  go_enter Try.func5, Try.ntmps5
  go_wp2_with (first | (go_at_call 9; first | ((with_reducible refine (refRight_any A1 n1 c1 _ (dg a) _ (Env.get E (by simp))).mono ?_); rintro e w' ⟨rfl, rfl⟩) | ((with_reducible refine (refRight_any A2 n2 c2 _ (dg b) _ (Env.get E (by simp))).mono ?_); rintro e w' ⟨rfl, rfl⟩) | ((with_reducible refine (refRight_any A3 n3 c3 _ (dg c) _ (Env.get E (by simp))).mono ?_); rintro e w' ⟨rfl, rfl⟩)) | fail)
  clear hr1 hr2 hr3
  refine (mul_is (a := a) (b := b) (Env.get E (A := A1) (n := n1) (c := c1) (by simp)) (Env.get E (A := A2) (n := n2) (c := c2) (by simp)) (by omega) (by omega) rfl).mono ?_; rintro e w4 ⟨A4, n4, c4, rfl, h, hb⟩; replace E := Env.push E hb h
  have s4 : n4 ≤ 40 := by have := mul_len h (Nat.le_of_eq L1.out) (Nat.le_of_eq L2.out); omega
  clear h hb
  go_wp2_with fail
  refine (mul_is (a := b) (b := a) (m := a * b) (Env.get E (A := A2) (n := n2) (c := c2) (by simp)) (Env.get E (A := A1) (n := n1) (c := c1) (by simp)) (by omega) (by omega) (Nat.mul_comm _ _)).mono ?_; rintro e w5 ⟨A5, n5, c5, rfl, h, hb⟩; replace E := Env.push E hb h
  clear h hb
  go_wp2_with fail
  refine (same_is (a := a * b) (b := a * b) (Env.get E (A := A4) (n := n4) (c := c4) (by simp)) (Env.get E (A := A5) (n := n5) (c := c5) (by simp)) rfl).mono ?_; rintro e w6 ⟨rfl, hb⟩; replace E := Env.step E hb
  clear hb
  go_wp2_with fail
  refine (mul_is (a := a * b) (b := c) (Env.get E (A := A4) (n := n4) (c := c4) (by simp)) (Env.get E (A := A3) (n := n3) (c := c3) (by simp)) (by omega) (by omega) rfl).mono ?_; rintro e w7 ⟨A7, n7, c7, rfl, h, hb⟩; replace E := Env.push E hb h
  clear h hb
  go_wp2_with fail
  refine (mul_is (a := b) (b := c) (Env.get E (A := A2) (n := n2) (c := c2) (by simp)) (Env.get E (A := A3) (n := n3) (c := c3) (by simp)) (by omega) (by omega) rfl).mono ?_; rintro e w8 ⟨A8, n8, c8, rfl, h, hb⟩; replace E := Env.push E hb h
  have s8 : n8 ≤ 40 := by have := mul_len h (Nat.le_of_eq L2.out) (Nat.le_of_eq L3.out); omega
  have L8 := Lib.hid h.len
  clear h hb
  go_wp2_with fail
  refine (mul_is (a := a) (b := b * c) (m := a * b * c) (Env.get E (A := A1) (n := n1) (c := c1) (by simp)) (Env.get E (A := A8) (n := n8) (c := c8) (by simp)) (by omega) (by omega) (Nat.mul_assoc _ _ _).symm).mono ?_; rintro e w9 ⟨A9, n9, c9, rfl, h, hb⟩; replace E := Env.push E hb h
  clear h hb
  go_wp2_with fail
  refine (same_is (a := a * b * c) (b := a * b * c) (Env.get E (A := A7) (n := n7) (c := c7) (by simp)) (Env.get E (A := A9) (n := n9) (c := c9) (by simp)) rfl).mono ?_; rintro e w10 ⟨rfl, hb⟩; replace E := Env.step E hb
  clear hb
  go_wp2_with fail
  refine (add_is (a := a) (b := b) (Env.get E (A := A1) (n := n1) (c := c1) (by simp)) (Env.get E (A := A2) (n := n2) (c := c2) (by simp)) (by omega) (by omega) rfl).mono ?_; rintro e w11 ⟨A11, n11, c11, rfl, h, hb⟩; replace E := Env.push E hb h
  have s11 : n11 ≤ 21 := by have := sum_len h (Nat.le_of_eq L1.out) (Nat.le_of_eq L2.out); omega
  clear h hb
  go_wp2_with fail
  refine (mul_is (a := a + b) (b := c) (m := a * c + b * c) (Env.get E (A := A11) (n := n11) (c := c11) (by simp)) (Env.get E (A := A3) (n := n3) (c := c3) (by simp)) (by omega) (by omega) (Nat.add_mul _ _ _)).mono ?_; rintro e w12 ⟨A12, n12, c12, rfl, h, hb⟩; replace E := Env.push E hb h
  clear h hb
  go_wp2_with fail
  refine (mul_is (a := a) (b := c) (Env.get E (A := A1) (n := n1) (c := c1) (by simp)) (Env.get E (A := A3) (n := n3) (c := c3) (by simp)) (by omega) (by omega) rfl).mono ?_; rintro e w13 ⟨A13, n13, c13, rfl, h, hb⟩; replace E := Env.push E hb h
  have s13 : n13 ≤ 40 := by have := mul_len h (Nat.le_of_eq L1.out) (Nat.le_of_eq L3.out); omega
  clear h hb
  go_wp2_with fail
  refine (mul_is (a := b) (b := c) (Env.get E (A := A2) (n := n2) (c := c2) (by simp)) (Env.get E (A := A3) (n := n3) (c := c3) (by simp)) (by omega) (by omega) rfl).mono ?_; rintro e w14 ⟨A14, n14, c14, rfl, h, hb⟩; replace E := Env.push E hb h
  have s14 : n14 ≤ 40 := by have := mul_len h (Nat.le_of_eq L2.out) (Nat.le_of_eq L3.out); omega
  clear h hb
  go_wp2_with fail
  refine (add_is (a := a * c) (b := b * c) (Env.get E (A := A13) (n := n13) (c := c13) (by simp)) (Env.get E (A := A14) (n := n14) (c := c14) (by simp)) (by omega) (by omega) rfl).mono ?_; rintro e w15 ⟨A15, n15, c15, rfl, h, hb⟩; replace E := Env.push E hb h
  clear h hb
  go_wp2_with fail
  refine (same_is (a := a * c + b * c) (b := a * c + b * c) (Env.get E (A := A12) (n := n12) (c := c12) (by simp)) (Env.get E (A := A15) (n := n15) (c := c15) (by simp)) rfl).mono ?_; rintro e w16 ⟨rfl, hb⟩; replace E := Env.step E hb
  clear hb
  go_wp2_with fail
  refine (mk_any 1 _ rfl (by decide) _).mono ?_; rintro e w17 ⟨A17, n17, c17, rfl, h, hb⟩; replace E := Env.push E hb h
  have s17 : n17 ≤ 3 := by have := len_of_u64 (N := 1) (by decide); rwa [h.len] at this
  clear h hb
  go_wp2_with fail
  refine (mul_is (a := a) (b := 1) (m := a) (Env.get E (A := A1) (n := n1) (c := c1) (by simp)) (Env.get E (A := A17) (n := n17) (c := c17) (by simp)) (by omega) (by omega) (Nat.mul_one _)).mono ?_; rintro e w18 ⟨A18, n18, c18, rfl, h, hb⟩; replace E := Env.push E hb h
  clear h hb
  go_wp2_with fail
  refine (same_is (a := a) (b := a) (Env.get E (A := A18) (n := n18) (c := c18) (by simp)) (Env.get E (A := A1) (n := n1) (c := c1) (by simp)) rfl).mono ?_; rintro e w19 ⟨rfl, hb⟩; replace E := Env.step E hb
  clear hb
  go_wp2_with fail
  refine (mul_is (a := a) (b := 0) (m := 0) (Env.get E (A := A1) (n := n1) (c := c1) (by simp)) (by rw [Num, dg_zero]; exact Lim.nil) (by omega) (by omega) (Nat.mul_zero _)).mono ?_; rintro e w20 ⟨A20, n20, c20, rfl, h, hb⟩; replace E := Env.push E hb h
  obtain rfl : n20 = 0 := h.len.symm.trans (by rw [dg_zero]; rfl)
  clear h hb
  go_wp2_with fail
  refine (awake_any _).mono ?_; rintro e w21 ⟨rfl, hb⟩; replace E := Env.step E hb
  clear hb
  go_wp2_with fail
  go_ret
  exact ⟨rfl, E.out.1⟩

theorem mring_any (A1 A2 A3 : Option Addr) (n1 n2 n3 c1 c2 c3 : Nat) (x1 x2 x3 : List Nat) (w : World) (h1 : Hid (Lim w w.heap.size A1 n1 c1 x1)) (h2 : Hid (Lim w w.heap.size A2 n2 c2 x2)) (h3 : Hid (Lim w w.heap.size A3 n3 c3 x3)) :
    Calls Try.prog 5 #[.slice A1 n1 c1, .slice A2 n2 c2, .slice A3 n3 c3] w (RetVal w (.bool true)) := by
  by_cases hg : n1 ≤ 20 ∧ n2 ≤ 20 ∧ n3 ≤ 20 ∧ rightB x1 = true ∧ rightB x2 = true ∧ rightB x3 = true
  · obtain ⟨l1, l2, l3, r1, r2, r3⟩ := hg
    exact mring_good A1 A2 A3 n1 n2 n3 c1 c2 c3 _ _ _ w (h1.out.num r1) (h2.out.num r2) (h3.out.num r3) l1 l2 l3
  · exact mring_bad A1 A2 A3 n1 n2 n3 c1 c2 c3 x1 x2 x3 w h1 h2 h3 hg

end Go.Proofs.Ytbknkoicejkfmaa
