/-
  The law's own examples of layer 2 (awake) answer true, whatever the memory.
-/
import Derived.Test.YtbknkoicejkfmaaMulE
namespace Go.Proofs.Ytbknkoicejkfmaa
open Go.RowKit

def p1 : Nat := 999999999
def p2 : Nat := 999999998000000001
def p3 : Nat := 18446744073709551616
def p4 : Nat := 10000000000
def p5 : Nat := 7000
theorem dg_p2 : dg p2 = [1, 999999998] := by unfold p2; rw [dg_pos (by omega), dg_pos (by omega), dg_zero]
theorem dg_p4 : dg p4 = [0, 10] := by unfold p4; rw [dg_pos (by omega), dg_pos (by omega), dg_zero]
theorem Env.pushsub {w0 w w' : World} {l : List (Option Addr × Nat × Nat × Nat)} (h : Hid (Env w0 w l)) (hb : Below w.heap.size w w') {A : Option Addr} {n c a : Nat} (hn : Num w' w'.heap.size A n c a) : Hid (Env w0 w' ((A, n, c, a) :: l)) := Env.push h hb hn

set_option maxHeartbeats 2000000 in
set_option maxRecDepth 100000 in
theorem awake_any (w : World) : Calls Try.prog 10 #[] w (RetVal w (.bool true)) := by
  have E := Env.refl w
  go_enter Try.func10, Try.ntmps10
  go_wp2_with fail
  refine (mk_any p1 _ rfl (by decide) _).mono ?_; rintro e w1 ⟨A1, k1, c1, rfl, h, hb⟩; replace E := Env.push E hb h
  have l1 : k1 ≤ 3 := by have := len_of_u64 (N := p1) (by decide); rwa [h.len] at this
  clear h hb
  go_wp2_with fail
  refine (mk_any p1 _ rfl (by decide) _).mono ?_; rintro e w2 ⟨A2, k2, c2, rfl, h, hb⟩; replace E := Env.push E hb h
  have l2 : k2 ≤ 3 := by have := len_of_u64 (N := p1) (by decide); rwa [h.len] at this
  clear h hb
  go_wp2_with fail
  refine (mul_is (a := p1) (b := p1) (m := p2) (Env.get E (A := A1) (n := k1) (c := c1) (by simp)) (Env.get E (A := A2) (n := k2) (c := c2) (by simp)) (by omega) (by omega) (by decide)).mono ?_; rintro e w3 ⟨A3, k3, c3, rfl, h, hb⟩; replace E := Env.push E hb h
  obtain rfl : k3 = 2 := h.len.symm.trans (by rw [dg_p2]; rfl)
  clear h hb
  go_wp2_with fail
  refine (mk_any 2 _ rfl (by decide) _).mono ?_; rintro e w4 ⟨A4, k4, c4, rfl, h, hb⟩; replace E := Env.push E hb h
  have l4 : k4 ≤ 3 := by have := len_of_u64 (N := 2) (by decide); rwa [h.len] at this
  clear h hb
  go_wp2_with fail
  refine (power_is (a := 2) (k := 64) (m := p3) (Env.get E (by simp)) (by omega) (by omega) rfl (by decide)).mono ?_; rintro e w5 ⟨A5, k5, c5, rfl, h, hb⟩; replace E := Env.push E hb h
  have l5 : k5 ≤ 3 := by have : (dg p3).length ≤ 3 := dg_len_le (by decide); rwa [h.len] at this
  clear h hb
  go_wp2_with fail
  refine (ten_is (k := 10) (m := p4) (by omega) rfl (by decide)).mono ?_; rintro e w6 ⟨A6, k6, c6, rfl, h, hb⟩; replace E := Env.push E hb h
  obtain rfl : k6 = 2 := h.len.symm.trans (by rw [dg_p4]; rfl)
  clear h hb
  go_wp2_with fail
  refine (mk_any 7 _ rfl (by decide) _).mono ?_; rintro e w7 ⟨A7, k7, c7, rfl, h, hb⟩; replace E := Env.push E hb h
  have l7 : k7 ≤ 3 := by have := len_of_u64 (N := 7) (by decide); rwa [h.len] at this
  clear h hb
  go_wp2_with fail
  refine (shift_is (a := 7) (k := 3) (m := p5) (Env.get E (by simp)) (by omega) (by omega) rfl (by decide)).mono ?_; rintro e w8 ⟨A8, k8, c8, rfl, h, hb⟩; replace E := Env.push E hb h
  clear h hb
  go_wp2_with fail
  refine (ten_neg (-1) _ (by omega)).mono ?_; rintro e w9 ⟨rfl, hb⟩; replace E := Env.step E hb
  clear hb
  go_wp2_with fail
  refine (small_yes A8 k8 c8 p5 _ (Env.get E (by simp)) (by decide)).mono ?_; rintro e w10 ⟨rfl, hb⟩; replace E := Env.step E hb
  clear hb
  go_wp2_with fail
  refine (mk_any 1 _ rfl (by decide) _).mono ?_; rintro e w11 ⟨A11, k11, c11, rfl, h, hb⟩; replace E := Env.push E hb h
  clear h hb
  go_wp2_with fail
  refine (sub_is (a := p3) (b := 1) (m := top64) (Env.get E (A := A5) (n := k5) (c := c5) (by simp)) (Env.get E (A := A11) (n := k11) (c := c11) (by simp)) (by omega) (by decide) rfl).mono ?_; rintro e w12 ⟨A12, k12, c12, rfl, h, hb⟩; replace E := Env.push E hb h
  clear h hb
  go_wp2_with fail
  refine (small_yes A12 k12 c12 top64 _ (Env.get E (by simp)) (by decide)).mono ?_; rintro e w13 ⟨rfl, hb⟩; replace E := Env.step E hb
  clear hb
  have hA3 := Env.get E (A := A3) (n := 2) (c := c3) (a := p2) (by simp)
  obtain ⟨b1, o1, rfl, _, hc0⟩ := hA3.at_ (k := 0) (by omega)
  obtain ⟨b2, o2, he, _, hc1⟩ := hA3.at_ (k := 1) (by omega)
  injection he with he
  injection he with he1 he2
  subst he1; subst he2
  rw [dg_p2] at hc0 hc1
  rw [Nat.add_zero] at hc0
  have hc0' : w13.cell? ⟨b1, o1, none⟩ = some (.int .u32 1) := hc0
  have hc1' : w13.cell? ⟨b1, o1 + 1, none⟩ = some (.int .u32 999999998) := hc1
  have hA6 := Env.get E (A := A6) (n := 2) (c := c6) (a := p4) (by simp)
  obtain ⟨b3, o3, rfl, _, hc3⟩ := hA6.at_ (k := 1) (by omega)
  rw [dg_p4] at hc3
  have hc3' : w13.cell? ⟨b3, o3 + 1, none⟩ = some (.int .u32 10) := hc3
  have hn5 : (((p5 : Nat) : Int) == 7000) = true := rfl
  have hn6 : (((top64 : Nat) : Int) == 18446744073709551615) = true := rfl
  clear hA3 hc0 hc1 hA6 hc3
  go_wp2_with fail
  refine (mk_any 12 _ rfl (by decide) _).mono ?_; rintro e w14 ⟨A14, k14, c14, rfl, h, hb⟩; replace E := Env.push E hb h
  have l14 : k14 ≤ 3 := by have := len_of_u64 (N := 12) (by decide); rwa [h.len] at this
  clear h hb hc0' hc1' hc3' hn5 hn6
  go_wp2_with fail
  refine (square_is (a := 12) (m := 144) (Env.get E (by simp)) (by omega) (by decide)).mono ?_; rintro e w15 ⟨A15, k15, c15, rfl, h, hb⟩; replace E := Env.push E hb h
  clear h hb
  go_wp2_with fail
  refine (mk_any 144 _ rfl (by decide) _).mono ?_; rintro e w16 ⟨A16, k16, c16, rfl, h, hb⟩; replace E := Env.push E hb h
  clear h hb
  go_wp2_with fail
  refine (same_is (a := 144) (b := 144) (Env.get E (A := A15) (n := k15) (c := c15) (by simp)) (Env.get E (A := A16) (n := k16) (c := c16) (by simp)) rfl).mono ?_; rintro e w17 ⟨rfl, hb⟩; replace E := Env.step E hb
  clear hb
  go_wp2_with fail
  refine (mk_any 5 _ rfl (by decide) _).mono ?_; rintro e w18 ⟨A18, k18, c18, rfl, h, hb⟩; replace E := Env.push E hb h
  have l18 : k18 ≤ 3 := by have := len_of_u64 (N := 5) (by decide); rwa [h.len] at this
  clear h hb
  go_wp2_with fail
  refine (times_is (a := 5) (l := 7) (m := 35) (Env.get E (by simp)) (by omega) (by omega) (by decide)).mono ?_; rintro e w19 ⟨A19, k19, c19, rfl, h, hb⟩; replace E := Env.push E hb h
  clear h hb
  go_wp2_with fail
  refine (mk_any 35 _ rfl (by decide) _).mono ?_; rintro e w20 ⟨A20, k20, c20, rfl, h, hb⟩; replace E := Env.push E hb h
  clear h hb
  go_wp2_with fail
  refine (same_is (a := 35) (b := 35) (Env.get E (A := A19) (n := k19) (c := c19) (by simp)) (Env.get E (A := A20) (n := k20) (c := c20) (by simp)) rfl).mono ?_; rintro e w21 ⟨rfl, hb⟩; replace E := Env.step E hb
  clear hb
  go_wp2_with fail
  go_ret
  exact ⟨rfl, E.out.1⟩

end Go.Proofs.Ytbknkoicejkfmaa
