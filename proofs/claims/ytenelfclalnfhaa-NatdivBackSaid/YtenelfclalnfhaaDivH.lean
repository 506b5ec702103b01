/-
  The law's own examples of layer 3 (awake) answer true, whatever the memory; which arguments a law goes through (long).
-/
import Derived.Test.YtenelfclalnfhaaDivC
namespace Go.Proofs.Ytenelfclalnfhaa
open Go.RowKit

def d1 : Nat := 1000000000000000000000000000000
def d2 : Nat := 10000000000000
def d3 : Nat := 1000000000000000000000000000005
def d4 : Nat := 100000000000000000

set_option maxHeartbeats 4000000 in
set_option maxRecDepth 100000 in
theorem awake_any (w : World) : Calls Try.prog 9 #[] w (RetVal w (.bool true)) := by
  have E := Env.refl w
  go_enter Try.func9, Try.ntmps9
  go_wp2_with fail
  refine (ten_is (k := 30) (m := d1) (by omega) rfl (by decide)).mono ?_; rintro e w1 ⟨A1, n1, c1, rfl, h, hb⟩; replace E := Env.push E hb h
  have l1 : n1 ≤ 4 := by have : (dg d1).length ≤ 4 := dg_len_le (by decide); rwa [h.len] at this
  clear h hb
  go_wp2_with fail
  refine (ten_is (k := 13) (m := d2) (by omega) rfl (by decide)).mono ?_; rintro e w2 ⟨A2, n2, c2, rfl, h, hb⟩; replace E := Env.push E hb h
  have l2 : n2 ≤ 2 := by have : (dg d2).length ≤ 2 := dg_len_le (by decide); rwa [h.len] at this
  clear h hb
  go_wp2_with fail
  refine (mk_any 5 _ rfl (by decide) _).mono ?_; rintro e w3 ⟨A3, n3, c3, rfl, h, hb⟩; replace E := Env.push E hb h
  have l3 : n3 ≤ 3 := by have := len_of_u64 (N := 5) (by decide); rwa [h.len] at this
  clear h hb
  go_wp2_with fail
  refine (add_is (a := d1) (b := 5) (m := d3) (Env.get E (A := A1) (n := n1) (c := c1) (by simp)) (Env.get E (A := A3) (n := n3) (c := c3) (by simp)) (by omega) (by omega) rfl).mono ?_; rintro e w4 ⟨A4, n4, c4, rfl, h, hb⟩; replace E := Env.push E hb h
  have l4 : n4 ≤ 4 := by have : (dg d3).length ≤ 4 := dg_len_le (by decide); rwa [h.len] at this
  clear h hb
  go_wp2_with fail
  refine (div_is (a := d3) (b := d2) (q := d4) (r := 5) (Env.get E (A := A4) (n := n4) (c := c4) (by simp)) (Env.get E (A := A2) (n := n2) (c := c2) (by simp)) (by omega) (by decide) (by decide) (by decide)).mono ?_; rintro e w5 ⟨A5, n5, c5, A6, n6, c6, rfl, h, h2, hb⟩; replace E := Env.push E hb h; replace E := Env.push E (Below.refl _ _) h2
  clear h h2 hb
  go_wp2_with fail
  refine (ten_is (k := 17) (m := d4) (by omega) rfl (by decide)).mono ?_; rintro e w7 ⟨A7, n7, c7, rfl, h, hb⟩; replace E := Env.push E hb h
  have l7 : n7 ≤ 2 := by have : (dg d4).length ≤ 2 := dg_len_le (by decide); rwa [h.len] at this
  clear h hb
  go_wp2_with fail
  refine (div_zero A1 none n1 c1 0 d1 _ (Env.get E (A := A1) (n := n1) (c := c1) (by simp)) (by rw [Num, dg_zero]; exact Lim.nil)).mono ?_; rintro e w8 ⟨rfl, hb⟩; replace E := Env.step E hb
  clear hb
  go_wp2_with fail
  refine (mk_any 100 _ rfl (by decide) _).mono ?_; rintro e w9 ⟨A9, n9, c9, rfl, h, hb⟩; replace E := Env.push E hb h
  have l9 : n9 ≤ 3 := by have := len_of_u64 (N := 100) (by decide); rwa [h.len] at this
  clear h hb
  go_wp2_with fail
  refine (dsmall_is (a := 100) (N := 7) (q := 14) (r := 2) (Env.get E (A := A9) (n := n9) (c := c9) (by simp)) (by omega) (by omega) (by omega) rfl rfl rfl).mono ?_; rintro e w10 ⟨A10, n10, c10, rfl, h, hb⟩; replace E := Env.push E hb h
  clear h hb
  go_wp2_with fail
  refine (small_zero none 0 0 _).mono ?_; rintro e w11 ⟨rfl, hb⟩; replace E := Env.step E hb
  clear hb
  go_wp2_with fail
  refine (mk_any 5 _ rfl (by decide) _).mono ?_; rintro e w12 ⟨A12, n12, c12, rfl, h, hb⟩; replace E := Env.push E hb h
  have l12 : n12 ≤ 3 := by have := len_of_u64 (N := 5) (by decide); rwa [h.len] at this
  clear h hb
  go_wp2_with fail
  refine (mk_any 2 _ rfl (by decide) _).mono ?_; rintro e w13 ⟨A13, n13, c13, rfl, h, hb⟩; replace E := Env.push E hb h
  have l13 : n13 ≤ 3 := by have := len_of_u64 (N := 2) (by decide); rwa [h.len] at this
  clear h hb
  go_wp2_with fail
  refine (near_is (a := 5) (b := 2) (m := 2) (Env.get E (A := A12) (n := n12) (c := c12) (by simp)) (Env.get E (A := A13) (n := n13) (c := c13) (by simp)) (by omega) (by omega) rfl).mono ?_; rintro e w14 ⟨A14, n14, c14, rfl, h, hb⟩; replace E := Env.push E hb h
  clear h hb
  go_wp2_with fail
  refine (mk_any 7 _ rfl (by decide) _).mono ?_; rintro e w15 ⟨A15, n15, c15, rfl, h, hb⟩; replace E := Env.push E hb h
  have l15 : n15 ≤ 3 := by have := len_of_u64 (N := 7) (by decide); rwa [h.len] at this
  clear h hb
  go_wp2_with fail
  refine (mk_any 2 _ rfl (by decide) _).mono ?_; rintro e w16 ⟨A16, n16, c16, rfl, h, hb⟩; replace E := Env.push E hb h
  have l16 : n16 ≤ 3 := by have := len_of_u64 (N := 2) (by decide); rwa [h.len] at this
  clear h hb
  go_wp2_with fail
  refine (near_is (a := 7) (b := 2) (m := 4) (Env.get E (A := A15) (n := n15) (c := c15) (by simp)) (Env.get E (A := A16) (n := n16) (c := c16) (by simp)) (by omega) (by omega) rfl).mono ?_; rintro e w17 ⟨A17, n17, c17, rfl, h, hb⟩; replace E := Env.push E hb h
  clear h hb
  go_wp2_with fail
  refine (same_is (a := d4) (b := d4) (Env.get E (A := A5) (n := n5) (c := c5) (by simp)) (Env.get E (A := A7) (n := n7) (c := c7) (by simp)) rfl).mono ?_; rintro e w18 ⟨rfl, hb⟩; replace E := Env.step E hb
  clear hb
  go_wp2_with fail
  refine (mk_any 5 _ rfl (by decide) _).mono ?_; rintro e w19 ⟨A19, n19, c19, rfl, h, hb⟩; replace E := Env.push E hb h
  have l19 : n19 ≤ 3 := by have := len_of_u64 (N := 5) (by decide); rwa [h.len] at this
  clear h hb
  go_wp2_with fail
  refine (same_is (a := 5) (b := 5) (Env.get E (A := A6) (n := n6) (c := c6) (by simp)) (Env.get E (A := A19) (n := n19) (c := c19) (by simp)) rfl).mono ?_; rintro e w20 ⟨rfl, hb⟩; replace E := Env.step E hb
  clear hb
  go_wp2_with fail
  refine (mk_any 14 _ rfl (by decide) _).mono ?_; rintro e w21 ⟨A21, n21, c21, rfl, h, hb⟩; replace E := Env.push E hb h
  have l21 : n21 ≤ 3 := by have := len_of_u64 (N := 14) (by decide); rwa [h.len] at this
  clear h hb
  go_wp2_with fail
  refine (same_is (a := 14) (b := 14) (Env.get E (A := A10) (n := n10) (c := c10) (by simp)) (Env.get E (A := A21) (n := n21) (c := c21) (by simp)) rfl).mono ?_; rintro e w22 ⟨rfl, hb⟩; replace E := Env.step E hb
  clear hb
  go_wp2_with fail
  refine (mk_any 2 _ rfl (by decide) _).mono ?_; rintro e w23 ⟨A23, n23, c23, rfl, h, hb⟩; replace E := Env.push E hb h
  have l23 : n23 ≤ 3 := by have := len_of_u64 (N := 2) (by decide); rwa [h.len] at this
  clear h hb
  go_wp2_with fail
  refine (same_is (a := 2) (b := 2) (Env.get E (A := A14) (n := n14) (c := c14) (by simp)) (Env.get E (A := A23) (n := n23) (c := c23) (by simp)) rfl).mono ?_; rintro e w24 ⟨rfl, hb⟩; replace E := Env.step E hb
  clear hb
  go_wp2_with fail
  refine (mk_any 4 _ rfl (by decide) _).mono ?_; rintro e w25 ⟨A25, n25, c25, rfl, h, hb⟩; replace E := Env.push E hb h
  have l25 : n25 ≤ 3 := by have := len_of_u64 (N := 4) (by decide); rwa [h.len] at this
  clear h hb
  go_wp2_with fail
  refine (same_is (a := 4) (b := 4) (Env.get E (A := A17) (n := n17) (c := c17) (by simp)) (Env.get E (A := A25) (n := n25) (c := c25) (by simp)) rfl).mono ?_; rintro e w26 ⟨rfl, hb⟩; replace E := Env.step E hb
  clear hb
  go_wp2_with fail
  refine (mk_any 12 _ rfl (by decide) _).mono ?_; rintro e w27 ⟨A27, n27, c27, rfl, h, hb⟩; replace E := Env.push E hb h
  have l27 : n27 ≤ 3 := by have := len_of_u64 (N := 12) (by decide); rwa [h.len] at this
  clear h hb
  go_wp2_with fail
  refine (mk_any 18 _ rfl (by decide) _).mono ?_; rintro e w28 ⟨A28, n28, c28, rfl, h, hb⟩; replace E := Env.push E hb h
  have l28 : n28 ≤ 3 := by have := len_of_u64 (N := 18) (by decide); rwa [h.len] at this
  clear h hb
  go_wp2_with fail
  refine (gcd_is (a := 12) (b := 18) (m := 6) (Env.get E (A := A27) (n := n27) (c := c27) (by simp)) (Env.get E (A := A28) (n := n28) (c := c28) (by simp)) (by omega) (by omega) rfl).mono ?_; rintro e w29 ⟨A29, n29, c29, rfl, h, hb⟩; replace E := Env.push E hb h
  clear h hb
  go_wp2_with fail
  refine (mk_any 6 _ rfl (by decide) _).mono ?_; rintro e w30 ⟨A30, n30, c30, rfl, h, hb⟩; replace E := Env.push E hb h
  have l30 : n30 ≤ 3 := by have := len_of_u64 (N := 6) (by decide); rwa [h.len] at this
  clear h hb
  go_wp2_with fail
  refine (same_is (a := 6) (b := 6) (Env.get E (A := A29) (n := n29) (c := c29) (by simp)) (Env.get E (A := A30) (n := n30) (c := c30) (by simp)) rfl).mono ?_; rintro e w31 ⟨rfl, hb⟩; replace E := Env.step E hb
  clear hb
  go_wp2_with fail
  go_ret
  exact ⟨rfl, E.out.1⟩

theorem long_yes {A A' : Option Addr} {n c n' c' : Nat} {x y : List Nat} {w : World} (h : Lim w w.heap.size A n c x) (h' : Lim w w.heap.size A' n' c' y) (hbad : ¬ (n ≤ 30 ∧ n' ≤ 30 ∧ rightB x = true ∧ rightB y = true)) :
    Calls Try.prog 8 #[.slice A n c, .slice A' n' c'] w fun e w' => e = .returned (.bool true) ∧ w = w' := by
  have H := Lib.hid h
  have H' := Lib.hid h'
  clear h h'
  have hcase : (30 < n) ∨ (n ≤ 30 ∧ 30 < n') ∨ (n ≤ 30 ∧ n' ≤ 30 ∧ rightB x = false) ∨ (n ≤ 30 ∧ n' ≤ 30 ∧ rightB x = true ∧ rightB y = false) := by
    by_cases h1 : 30 < n
    · exact .inl h1
    · by_cases h2 : 30 < n'
      · exact .inr (.inl ⟨by omega, h2⟩)
      · cases hx : rightB x with
        | false => exact .inr (.inr (.inl ⟨by omega, by omega, rfl⟩))
        | true =>
          cases hy : rightB y with
          | false => exact .inr (.inr (.inr ⟨by omega, by omega, rfl, rfl⟩))
          | true => exact absurd ⟨by omega, by omega, hx, hy⟩ hbad
  clear hbad
  rcases hcase with h1 | ⟨h1, h2⟩ | ⟨h1, h2, h3⟩ | ⟨h1, h2, h3, h4⟩
  all_goals
    go_enter Try.func8, Try.ntmps8
    go_wp2_with (go_at_call 26; first | ((with_reducible refine (refRight_any A n c _ x _ H.out).mono ?_); rintro e w' ⟨rfl, rfl⟩) | ((with_reducible refine (refRight_any A' n' c' _ y _ H'.out).mono ?_); rintro e w' ⟨rfl, rfl⟩))
    go_ret
    exact ⟨rfl, rfl⟩
theorem long_no {A A' : Option Addr} {n c n' c' : Nat} {x y : List Nat} {w : World} (h : Lim w w.heap.size A n c x) (h' : Lim w w.heap.size A' n' c' y) (h1 : n ≤ 30) (h2 : n' ≤ 30) (h3 : rightB x = true) (h4 : rightB y = true) :
    Calls Try.prog 8 #[.slice A n c, .slice A' n' c'] w fun e w' => e = .returned (.bool false) ∧ w = w' := by
  have H := Lib.hid h
  have H' := Lib.hid h'
  clear h h'
  go_enter Try.func8, Try.ntmps8
  go_wp2_with (go_at_call 26; first | ((with_reducible refine (refRight_any A n c _ x _ H.out).mono ?_); rintro e w' ⟨rfl, rfl⟩) | ((with_reducible refine (refRight_any A' n' c' _ y _ H'.out).mono ?_); rintro e w' ⟨rfl, rfl⟩))
  go_ret
  exact ⟨ret_bool (by simp; omega), rfl⟩

end Go.Proofs.Ytenelfclalnfhaa
