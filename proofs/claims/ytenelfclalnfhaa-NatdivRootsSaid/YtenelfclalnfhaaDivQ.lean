/-
  The walk of the law NatdivRoots.
-/
import Derived.Test.YtenelfclalnfhaaDivP
import Derived.Test.YtenelfclalnfhaaDivI
namespace Go.Proofs.Ytenelfclalnfhaa
open Go.RowKit

theorem Lim.cell_at {w : World} {B n c b o k : Nat} {xs : List Nat} (h : Lim w B (some ⟨b, o, none⟩) n c xs) (hk : k < n) : b < B ∧ w.cell? ⟨b, o + k, none⟩ = some (.int .u32 (gd xs k : Nat)) := by
  obtain ⟨b1, o1, he, hb, hc⟩ := h.at_ hk
  injection he with he
  injection he with he1 he2
  subst he1; subst he2
  exact ⟨hb, hc⟩
theorem numB_drop_le {b : Nat} (hb : 0 < b) (ds : List Nat) (k : Nat) : numB b (ds.drop k) ≤ numB b ds := by
  have e := numB_append b (ds.take k) (ds.drop k)
  rw [List.take_append_drop] at e
  have : 1 * numB b (ds.drop k) ≤ b ^ (ds.take k).length * numB b (ds.drop k) := Nat.mul_le_mul_right _ (Nat.pow_pos hb)
  omega

set_option maxHeartbeats 1000000 in
set_option maxRecDepth 100000 in
theorem roots_bad (A1 : Option Addr) (n1 c1 N : Nat) (x1 : List Nat) (w : World) (h1 : Hid (Lim w w.heap.size A1 n1 c1 x1)) (hbad : ¬ (n1 ≤ 12 ∧ rightB x1 = true)) :
    Calls Try.prog 7 #[.slice A1 n1 c1, .int .u32 N] w (RetVal w (.bool true)) := by
  have hcase : (12 < n1) ∨ (n1 ≤ 12 ∧ rightB x1 = false) := by
    by_cases k1 : n1 ≤ 12
    · cases hx : rightB x1 with
      | false => exact .inr ⟨k1, rfl⟩
      | true => exact absurd ⟨k1, hx⟩ hbad
    · exact .inl (by omega)
  clear hbad
  rcases hcase with hl | ⟨hl, hr⟩
  all_goals
    go_enter Try.func7, Try.ntmps7
    go_wp2_with (first | (go_at_call 26; refine (refRight_any A1 n1 c1 _ x1 _ h1.out).mono ?_; rintro e w' ⟨rfl, rfl⟩) | (go_at_call 9; refine (awake_any _).mono ?_; rintro e w' ⟨rfl, hb⟩; have HB := Lib.hid hb; clear hb))
    go_ret
    exact ⟨rfl, HB.out⟩

theorem Env.one {w : World} {A1 : Option Addr} {n1 c1 a : Nat} (h1 : Num w w.heap.size A1 n1 c1 a) : Hid (Env w w [(A1, n1, c1, a)]) := by
  refine ⟨Below.refl _ _, fun q hq => ?_⟩
  rcases List.mem_cons.1 hq with rfl | hq
  · exact h1
  · cases hq
theorem root_len {a s n : Nat} (h : IsRoot a s) (hn : (dg a).length = n) : (dg s).length ≤ n := by rw [← hn]; exact dg_len_mono h.le
theorem cell_after {w w2 : World} {b o : Nat} {v : Value} {l : List (Option Addr × Nat × Nat × Nat)} (hc : w.cell? ⟨b, o, none⟩ = some v) (hb : b < w.heap.size) (E : Hid (Env w.drew w2 l)) : w2.cell? ⟨b, o, none⟩ = some v := by
  have h : w2.cell? ⟨b, o, none⟩ = w.drew.cell? ⟨b, o, none⟩ := E.out.1.cell (p := ⟨b, o, none⟩) hb
  rw [h]; exact hc
theorem times_len {w : World} {B k c X N : Nat} {A : Option Addr} (h : Num w B A k c (X * N)) (hX : (dg X).length ≤ 12) (hN : N < 4294967296) : k ≤ 14 := by
  have h1 := dg_len_mul X N
  have h2 : (dg N).length ≤ 2 := dg_len_le (by omega)
  have h3 := h.len
  omega
theorem mk_len {w : World} {B k c g : Nat} {A : Option Addr} (h : Num w B A k c g) (hg : g < 4294967296) : k ≤ 3 := by
  have := len_of_u64 (show g < 18446744073709551616 by omega); rwa [h.len] at this
theorem le_of_len {w : World} {B k c g m : Nat} {A : Option Addr} (h : Num w B A k c g) (hg : (dg g).length ≤ m) : k ≤ m := by rw [← h.len]; exact hg
theorem Env.drew {w0 w : World} {l : List (Option Addr × Nat × Nat × Nat)} (h : Hid (Env w0 w l)) : Hid (Env w0 w.drew l) := Env.step h (Below.refl _ _).drew

set_option maxHeartbeats 4000000 in
set_option maxRecDepth 100000 in
theorem roots_small (A1 : Option Addr) (n1 c1 N a : Nat) (w : World) (h1 : Num w w.heap.size A1 n1 c1 a) (hl1 : n1 ≤ 12) (hN : N < 4294967296) (hN2 : N < 2) :
    Calls Try.prog 7 #[.slice A1 n1 c1, .int .u32 N] w (RetVal w (.bool true)) := by
  have L1 := Lib.hid h1.len
  have hr := right_dg a
  have E := Env.one h1
  have hdN : decide ((N : Int) < 2) = true := by rw [decide_eq_true_iff]; omega
  clear h1
  go_enter Try.func7, Try.ntmps7
  go_wp2_with fail
  refine (refRight_any A1 n1 c1 _ (dg a) _ (Env.get E (by simp))).mono ?_; rintro e w' ⟨rfl, rfl⟩
  go_wp2_with fail
  clear hr
  refine (root_is (a := a) (Env.get E (A := A1) (n := n1) (c := c1) (by simp)) (by omega)).mono ?_; rintro e w2 ⟨s, A2, n2, c2, hs, rfl, h, hb⟩; replace E := Env.push E hb h
  have l2 : n2 ≤ 12 := by rw [← h.len]; exact Nat.le_trans (root_len hs L1.out) hl1
  have HS := Lib.hid hs
  have LS := Lib.hid h.len
  clear h hb hs
  go_wp2_with fail
  refine (mk_any 1 _ rfl (by decide) _).mono ?_; rintro e w3 ⟨A3, n3, c3, rfl, h, hb⟩; replace E := Env.push E hb h
  have l3 : n3 ≤ 3 := by have := len_of_u64 (N := 1) (by decide); rwa [h.len] at this
  clear h hb
  go_wp2_with fail
  refine (add_is (a := s) (b := 1) (m := s + 1) (Env.get E (A := A2) (n := n2) (c := c2) (by simp)) (Env.get E (A := A3) (n := n3) (c := c3) (by simp)) (by omega) (by omega) rfl).mono ?_; rintro e w4 ⟨A4, n4, c4, rfl, h, hb⟩; replace E := Env.push E hb h
  have l4 : n4 ≤ 14 := by have h1 := dg_len_add s 1; have h2 : (dg 1).length ≤ 1 := dg_len_le (by decide); have h3 := h.len; have h4 := LS.out; omega
  clear h hb
  go_wp2_with fail
  refine (square_is (a := s) (m := s * s) (Env.get E (A := A2) (n := n2) (c := c2) (by simp)) (by omega) rfl).mono ?_; rintro e w5 ⟨A5, n5, c5, rfl, h, hb⟩; replace E := Env.push E hb h
  clear h hb
  go_wp2_with fail
  obtain ⟨z, hz, hz0⟩ : ∃ z, cmpN (s * s) a = z ∧ z ≤ 0 := ⟨_, rfl, by
    rcases Int.lt_or_le 0 (cmpN (s * s) a) with h1 | h1
    · rw [cmpN_pos] at h1; have := HS.out.1; omega
    · exact h1⟩
  have HZ := Lib.hid hz
  clear hz
  refine (cmp_is (a := s * s) (b := a) (Env.get E (A := A5) (n := n5) (c := c5) (by simp)) (Env.get E (A := A1) (n := n1) (c := c1) (by simp)) HZ.out).mono ?_; rintro e w6 ⟨rfl, hb⟩; replace E := Env.step E hb
  clear hb
  go_wp2_with fail
  refine (square_is (a := s + 1) (m := (s + 1) * (s + 1)) (Env.get E (A := A4) (n := n4) (c := c4) (by simp)) (by omega) rfl).mono ?_; rintro e w7 ⟨A7, n7, c7, rfl, h, hb⟩; replace E := Env.push E hb h
  clear h hb
  go_wp2_with fail
  refine (cmp_is (a := (s + 1) * (s + 1)) (b := a) (Env.get E (A := A7) (n := n7) (c := c7) (by simp)) (Env.get E (A := A1) (n := n1) (c := c1) (by simp)) (s := 1) (cmpN_gt HS.out.2)).mono ?_; rintro e w8 ⟨rfl, hb⟩; replace E := Env.step E hb
  clear hb
  go_wp2_with fail
  refine (square_is (a := a) (m := a * a) (Env.get E (A := A1) (n := n1) (c := c1) (by simp)) (by omega) rfl).mono ?_; rintro e w9 ⟨A9, n9, c9, rfl, h, hb⟩; replace E := Env.push E hb h
  have l9 : n9 ≤ 24 := by have := dg_len_mul a a; have := h.len; have := L1.out; omega
  clear h hb
  go_wp2_with fail
  refine (root_is (a := a * a) (Env.get E (A := A9) (n := n9) (c := c9) (by simp)) (by omega)).mono ?_; rintro e w10 ⟨t, A10, n10, c10, ht, rfl, h, hb⟩; obtain rfl := ht.unique (isRoot_square a); replace E := Env.push E hb h
  clear h hb ht
  go_wp2_with fail
  refine (same_is (a := t) (b := t) (Env.get E (A := A10) (n := n10) (c := c10) (by simp)) (Env.get E (A := A1) (n := n1) (c := c1) (by simp)) rfl).mono ?_; rintro e w11 ⟨rfl, hb⟩; replace E := Env.step E hb
  clear hb
  go_wp2_with fail
  refine (digits_bad A1 n1 c1 N _ hN2).mono ?_; rintro e w12 ⟨rfl, hb⟩; replace E := Env.step E hb
  clear hb
  go_wp2_with fail
  refine (awake_any _).mono ?_; rintro e w99 ⟨rfl, hb⟩; replace E := Env.step E hb
  clear hb
  go_wp2_with fail
  go_ret
  exact ⟨rfl, E.out.1⟩

set_option maxHeartbeats 4000000 in
set_option maxRecDepth 100000 in
theorem roots_good (A1 : Option Addr) (n1 c1 N a : Nat) (w : World) (h1 : Num w w.heap.size A1 n1 c1 a) (hl1 : n1 ≤ 12) (hN : N < 4294967296) (hN2 : 2 ≤ N) :
    Calls Try.prog 7 #[.slice A1 n1 c1, .int .u32 N] w (RetVal w (.bool true)) := by
  have L1 := Lib.hid h1.len
  have hr := right_dg a
  have E := Env.one h1
  have hdN : decide ((N : Int) < 2) = false := by rw [decide_eq_false_iff_not]; omega
  clear h1
  go_enter Try.func7, Try.ntmps7
  go_wp2_with fail
  refine (refRight_any A1 n1 c1 _ (dg a) _ (Env.get E (by simp))).mono ?_; rintro e w' ⟨rfl, rfl⟩
  go_wp2_with fail
  clear hr
  refine (root_is (a := a) (Env.get E (A := A1) (n := n1) (c := c1) (by simp)) (by omega)).mono ?_; rintro e w2 ⟨s, A2, n2, c2, hs, rfl, h, hb⟩; replace E := Env.push E hb h
  have l2 : n2 ≤ 12 := by rw [← h.len]; exact Nat.le_trans (root_len hs L1.out) hl1
  have HS := Lib.hid hs
  have LS := Lib.hid h.len
  clear h hb hs
  go_wp2_with fail
  refine (mk_any 1 _ rfl (by decide) _).mono ?_; rintro e w3 ⟨A3, n3, c3, rfl, h, hb⟩; replace E := Env.push E hb h
  have l3 : n3 ≤ 3 := by have := len_of_u64 (N := 1) (by decide); rwa [h.len] at this
  clear h hb
  go_wp2_with fail
  refine (add_is (a := s) (b := 1) (m := s + 1) (Env.get E (A := A2) (n := n2) (c := c2) (by simp)) (Env.get E (A := A3) (n := n3) (c := c3) (by simp)) (by omega) (by omega) rfl).mono ?_; rintro e w4 ⟨A4, n4, c4, rfl, h, hb⟩; replace E := Env.push E hb h
  have l4 : n4 ≤ 14 := by have h1 := dg_len_add s 1; have h2 : (dg 1).length ≤ 1 := dg_len_le (by decide); have h3 := h.len; have h4 := LS.out; omega
  clear h hb
  go_wp2_with fail
  refine (square_is (a := s) (m := s * s) (Env.get E (A := A2) (n := n2) (c := c2) (by simp)) (by omega) rfl).mono ?_; rintro e w5 ⟨A5, n5, c5, rfl, h, hb⟩; replace E := Env.push E hb h
  clear h hb
  go_wp2_with fail
  obtain ⟨z, hz, hz0⟩ : ∃ z, cmpN (s * s) a = z ∧ z ≤ 0 := ⟨_, rfl, by
    rcases Int.lt_or_le 0 (cmpN (s * s) a) with h1 | h1
    · rw [cmpN_pos] at h1; have := HS.out.1; omega
    · exact h1⟩
  have HZ := Lib.hid hz
  clear hz
  refine (cmp_is (a := s * s) (b := a) (Env.get E (A := A5) (n := n5) (c := c5) (by simp)) (Env.get E (A := A1) (n := n1) (c := c1) (by simp)) HZ.out).mono ?_; rintro e w6 ⟨rfl, hb⟩; replace E := Env.step E hb
  clear hb
  go_wp2_with fail
  refine (square_is (a := s + 1) (m := (s + 1) * (s + 1)) (Env.get E (A := A4) (n := n4) (c := c4) (by simp)) (by omega) rfl).mono ?_; rintro e w7 ⟨A7, n7, c7, rfl, h, hb⟩; replace E := Env.push E hb h
  clear h hb
  go_wp2_with fail
  refine (cmp_is (a := (s + 1) * (s + 1)) (b := a) (Env.get E (A := A7) (n := n7) (c := c7) (by simp)) (Env.get E (A := A1) (n := n1) (c := c1) (by simp)) (s := 1) (cmpN_gt HS.out.2)).mono ?_; rintro e w8 ⟨rfl, hb⟩; replace E := Env.step E hb
  clear hb
  go_wp2_with fail
  refine (square_is (a := a) (m := a * a) (Env.get E (A := A1) (n := n1) (c := c1) (by simp)) (by omega) rfl).mono ?_; rintro e w9 ⟨A9, n9, c9, rfl, h, hb⟩; replace E := Env.push E hb h
  have l9 : n9 ≤ 24 := by have := dg_len_mul a a; have := h.len; have := L1.out; omega
  clear h hb
  go_wp2_with fail
  refine (root_is (a := a * a) (Env.get E (A := A9) (n := n9) (c := c9) (by simp)) (by omega)).mono ?_; rintro e w10 ⟨t, A10, n10, c10, ht, rfl, h, hb⟩; obtain rfl := ht.unique (isRoot_square a); replace E := Env.push E hb h
  clear h hb ht
  go_wp2_with fail
  refine (same_is (a := t) (b := t) (Env.get E (A := A10) (n := n10) (c := c10) (by simp)) (Env.get E (A := A1) (n := n1) (c := c1) (by simp)) rfl).mono ?_; rintro e w11 ⟨rfl, hb⟩; replace E := Env.step E hb
  clear hb
  go_wp2_with fail
  refine (digits_any A1 n1 c1 t N _ (Env.get E (A := A1) (n := n1) (c := c1) (a := t) (by simp)) (by omega) hN2 hN).mono ?_; rintro e w20 ⟨A20, m, c20, ds, rfl, hds, hm, hdl, hnum, hlast, hb⟩; replace E := Env.step E hb
  have LD := Lib.hid hds
  have HDL := Lib.hid hdl
  have HNUM := Lib.hid hnum
  have HLAST := Lib.hid hlast
  clear hds hdl hnum hlast hb
  go_wp2_with fail
  refine (mk_any 0 _ rfl (by decide) _).mono ?_; rintro e w21 ⟨A21, n21, c21, rfl, h21, hb⟩; replace E := Env.step E hb
  obtain rfl : n21 = 0 := num_zero h21 rfl
  have LD21 := Lib.hid ((LD.out.below hb).more hb.size)
  have H21 := Lib.hid h21
  clear h21 hb LD
  go_wp2_with fail
  go_loopw [9, 10] (fun bv iv wr => ∃ (k : Nat) (A9 : Option Addr) (n9 c9 : Nat), k ≤ m ∧ iv = .int .i64 ((k : Int) - 1) ∧ bv = .slice A9 n9 c9 ∧ n9 ≤ 12 ∧ Num wr wr.heap.size A9 n9 c9 (numB N (ds.drop k)) ∧ Below w21.heap.size w21 wr) (fun _ iv _ => (intOf iv + 1).toNat)
  case atStart => exact ⟨m, A21, 0, c21, Nat.le_refl _, rfl, rfl, by omega, by rw [List.drop_of_length_le (by rw [LD21.out.len]; exact Nat.le_refl _)]; exact H21.out, Below.refl _ _⟩
  case round =>
    obtain ⟨k, A9, n9, c9, hk, rfl, rfl, hn9, h9, hbr⟩ := hrel
    have H9 := Lib.hid h9
    have HBR := Lib.hid hbr
    replace E := Env.push E hbr h9
    have LDR := Lib.hid ((LD21.out.below hbr).more hbr.size)
    clear h9 hbr H21
    rcases Nat.eq_zero_or_pos k with h0 | h0
    · subst h0
      have HE : Hid (numB N (ds.drop 0) = t) := by show _ = _; rw [List.drop_zero]; exact HNUM.out
      go_wp2_with fail
      refine (same_is (a := numB N (ds.drop 0)) (b := t) (Env.get E (A := A9) (n := n9) (c := c9) (by simp)) (Env.get E (A := A1) (n := n1) (c := c1) (by simp)) HE.out).mono ?_; rintro e w22 ⟨rfl, hb⟩; replace E := Env.step E hb
      clear hb
      go_wp2_with fail
      refine (awake_any _).mono ?_; rintro e w99 ⟨rfl, hb⟩; replace E := Env.step E hb
      clear hb
      go_wp2_with fail
      go_ret
      exact ⟨rfl, E.out.1⟩
    · obtain ⟨i, rfl⟩ : ∃ i, k = i + 1 := ⟨k - 1, by omega⟩
      have eK : ((i + 1 : Nat) : Int) - 1 = (i : Int) := by omega
      rw [eK]
      clear eK
      obtain ⟨b3, o3, rfl, hbel, hcel⟩ := LDR.out.at_ (show i < m by omega)
      have hroom := LDR.out.room
      have hcap := LDR.out.cap
      unfold maxLen at hroom
      have hgN : gd ds i < N := by
        have := LDR.out.len
        unfold gd
        rw [List.getD_eq_getElem?_getD, List.getElem?_eq_getElem (by omega)]
        exact HDL.out _ (List.getElem_mem _)
      have hd1 : decide ((N : Int) ≤ (gd ds i : Nat)) = false := by rw [decide_eq_false_iff_not]; omega
      have hlz : i + 1 = m → gd ds i ≠ 0 := by
        intro hi
        rcases HLAST.out with h1 | h1
        · omega
        · rw [show m - 1 = i by omega] at h1; exact h1
      have hgl : gd ds i < 4294967296 := by omega
      have HV : Hid (numB N (ds.drop (i + 1)) * N + gd ds i = numB N (ds.drop i)) := by show _ = _; rw [numB_drop N ds i, Nat.mul_comm, Nat.add_comm]
      have LV : Hid ((dg (numB N (ds.drop i))).length ≤ 12) := by
        show _ ≤ _
        refine Nat.le_trans (dg_len_mono (numB_drop_le (by omega) ds i)) ?_
        rw [HNUM.out, L1.out]; exact hl1
      obtain ⟨X, hX⟩ : ∃ X, numB N (ds.drop (i + 1)) = X := ⟨_, rfl⟩
      have H9d : Num wr.drew wr.drew.heap.size A9 n9 c9 X := by rw [← hX]; exact Lim.below H9.out (Below.refl wr.heap.size wr).drew
      have E2 := Env.one H9d
      have LX : Hid ((dg X).length ≤ 12) := by show _ ≤ _; rw [H9d.len]; exact hn9
      rw [hX] at HV
      clear H9d hX H9
      have hcase : (((i : Nat) : Int) == (m : Int) - 1) = false ∨ ((((i : Nat) : Int) == (m : Int) - 1) = true ∧ (((gd ds i : Nat) : Int) == 0) = false) := by
        by_cases hi : i + 1 = m
        · refine .inr ⟨by simp; omega, by simp; exact hlz hi⟩
        · exact .inl (by simp; omega)
      clear hlz E
      rcases hcase with hq | ⟨hq, hq2⟩
      all_goals
        go_wp2
        go_region_with (first | (go_at_call 31; refine (times_is (a := X) (m := X * N) (Env.get E2 (A := A9) (n := n9) (c := c9) (by simp)) (by omega) (by omega) rfl).mono ?_; rintro e w22 ⟨AT, nT, cT, rfl, h, hb⟩; replace E2 := Env.push E2 hb h; have hT : nT ≤ 14 := times_len h LX.out hN; have hcx := cell_after hcel hbel E2; clear h hb) | (go_at_call 28; refine (mk_any (gd ds i) _ (u64_same (by omega)) (by omega) _).mono ?_; rintro e w23 ⟨AM, nM, cM, rfl, h, hb⟩; replace E2 := Env.push E2 hb h; have hM : nM ≤ 3 := mk_len h hgl; have hcx := cell_after hcel hbel E2; clear h hb) | (go_at_call 21; refine (add_is (a := X * N) (b := gd ds i) (m := numB N (ds.drop i)) (Env.get E2 (A := AT) (n := nT) (c := cT) (by simp)) (Env.get E2 (A := AM) (n := nM) (c := cM) (by simp)) (by omega) (by omega) HV.out).mono ?_; rintro e w24 ⟨A5, n5, c5, rfl, h, hb⟩; replace E2 := Env.push E2 hb h; have h5 : n5 ≤ 12 := le_of_len h LV.out; clear h hb))
        all_goals
          go_wp2
          go_roundw
          case rel => exact ⟨i, A5, n5, c5, by omega, by go_num, rfl, h5, Env.get E2 (by simp), HBR.out.drew.trans (E2.out.1.mono HBR.out.size)⟩
          case measure => simp [intOf]


theorem roots_any (A1 : Option Addr) (n1 c1 N : Nat) (x1 : List Nat) (w : World) (h1 : Hid (Lim w w.heap.size A1 n1 c1 x1)) (hN : N < 4294967296) :
    Calls Try.prog 7 #[.slice A1 n1 c1, .int .u32 N] w (RetVal w (.bool true)) := by
  by_cases hg : n1 ≤ 12 ∧ rightB x1 = true
  · obtain ⟨l1, r1⟩ := hg
    rcases Nat.lt_or_ge N 2 with h2 | h2
    · exact roots_small A1 n1 c1 N _ w (h1.out.num r1) l1 hN h2
    · exact roots_good A1 n1 c1 N _ w (h1.out.num r1) l1 hN h2
  · exact roots_bad A1 n1 c1 N x1 w h1 hg

end Go.Proofs.Ytenelfclalnfhaa
