/-
  Contracts of layer 3: Div, Near, Gcd.
-/
import Derived.Test.YtenelfclalnfhaaDivL
namespace Go.Proofs.Ytenelfclalnfhaa
open Go.RowKit

theorem dg_one {b : Nat} (h : (dg b).length = 1) : dg b = [b] ∧ b < 1000000000 := by
  have hb : 0 < b := by
    rcases Nat.eq_zero_or_pos b with h0 | h0
    · rw [h0, dg_zero] at h; simp at h
    · exact h0
  rw [dg_pos hb] at h ⊢
  have h1 : dg (b / 1000000000) = [] := List.eq_nil_of_length_eq_zero (by simpa using h)
  rw [h1]
  rw [dg_eq_nil] at h1
  have : b < 1000000000 := by omega
  exact ⟨by rw [Nat.mod_eq_of_lt this], this⟩
theorem dg_len_pos {b n : Nat} (h : (dg b).length = n) (hb : 0 < b) : 0 < n := by
  rcases Nat.eq_zero_or_pos n with h0 | h0
  · subst h0
    have := dg_eq_nil.1 (List.eq_nil_of_length_eq_zero h)
    omega
  · exact h0

theorem div_zero (A A' : Option Addr) (n c c' a : Nat) (w : World) (h : Num w w.heap.size A n c a) (h' : Num w w.heap.size A' 0 c' 0) :
    Calls Try.prog 10 #[.slice A n c, .slice A' 0 c'] w (RetVal w (.tuple #[.slice none 0 0, .slice none 0 0, .int .i64 4])) := by
  have C := Lib.hid (sound_is h)
  have C' := Lib.hid (sound_is h')
  clear h h'
  go_enter Try.func10, Try.ntmps10
  go_wp2_with fail
  refine C.out.mono ?_; rintro e w' ⟨rfl, rfl⟩
  go_wp2_with fail
  refine C'.out.mono ?_; rintro e w' ⟨rfl, rfl⟩
  go_wp2_with fail
  go_ret3
  exact ⟨rfl, Below.refl _ _⟩

set_option maxHeartbeats 1000000 in
theorem div_any (A A' : Option Addr) (n c n' c' a b : Nat) (w : World) (h : Num w w.heap.size A n c a) (h' : Num w w.heap.size A' n' c' b) (hn : n ≤ 100000) (hb : 0 < b) :
    Calls Try.prog 10 #[.slice A n c, .slice A' n' c'] w (RetDiv w (a / b) (a % b)) := by
  have hn' := dg_len_pos h'.len hb
  have hm' := h'.room
  have hcap' := h'.cap
  unfold maxLen at hm'
  have C := Lib.hid (sound_is h)
  have C' := Lib.hid (sound_is h')
  rcases Nat.lt_or_ge a b with hlt | hge
  · have CC := Lib.hid (cmp_is h h' (cmpN_lt hlt))
    have HQ : Hid (a / b = 0) := Nat.div_eq_of_lt hlt
    have HR : Hid (a % b = a) := Nat.mod_eq_of_lt hlt
    have H := Lib.hid h
    clear h h' hlt hb
    go_enter Try.func10, Try.ntmps10
    go_wp2_with fail
    refine C.out.mono ?_; rintro e w' ⟨rfl, rfl⟩
    go_wp2_with fail
    refine C'.out.mono ?_; rintro e w' ⟨rfl, rfl⟩
    go_wp2_with fail
    refine CC.out.mono ?_; rintro e w1 ⟨rfl, hb1⟩
    have HB1 := Lib.hid hb1
    have H1 := Lib.hid ((H.out.below hb1).more hb1.size)
    clear hb1
    go_wp2_with fail
    refine (trim_is H1.out (limbs_dg a) (by omega) (val_dg a)).mono ?_; rintro e w2 ⟨A2, n2, c2, rfl, h2, hb2⟩
    have H2 := Lib.hid h2
    have HB2 := Lib.hid (HB1.out.trans (hb2.mono HB1.out.size))
    clear h2 hb2
    go_wp2_with fail
    go_ret3
    exact ⟨_, _, _, _, _, _, rfl, by rw [HQ.out, Num, dg_zero]; exact Lim.nil, by rw [HR.out]; exact H2.out, HB2.out⟩
  · have hs : 0 ≤ cmpN a b := by
      rcases Int.lt_or_le (cmpN a b) 0 with h1 | h1
      · rw [cmpN_neg] at h1; omega
      · exact h1
    have CC := Lib.hid (fun w1 (hb1 : Below w.heap.size w w1) => cmp_any A A' n c n' c' a b w1 ((h.below hb1).more hb1.size) ((h'.below hb1).more hb1.size))
    generalize cmpN a b = s at *
    rcases Nat.eq_or_lt_of_le (show 1 ≤ n' from hn') with h1 | h1
    · subst h1
      have D1 := dg_one h'.len
      obtain ⟨b3, o3, rfl, hB3, hc3⟩ := h'.at_ (show 0 < 1 by omega)
      have hc4 : w.cell? ⟨b3, o3, none⟩ = some (.int .u32 (b : Nat)) := by rw [Nat.add_zero, D1.1, gd_cons_zero] at hc3; exact hc3
      have hbl := D1.2
      have H := Lib.hid h
      clear h h' hge hc3 D1
      go_enter Try.func10, Try.ntmps10
      go_wp2_with fail
      refine C.out.mono ?_; rintro e w' ⟨rfl, rfl⟩
      go_wp2_with fail
      refine C'.out.mono ?_; rintro e w' ⟨rfl, rfl⟩
      go_wp2_with fail
      refine (CC.out w (Below.refl _ _)).mono ?_; rintro e w1 ⟨rfl, hb1⟩
      have HB1 := Lib.hid hb1
      have H1 := Lib.hid ((H.out.below hb1).more hb1.size)
      have hc5 := (hb1.cell (p := ⟨b3, o3, none⟩) hB3).trans hc4
      clear hb1 hc4
      go_wp2_with fail
      refine (dsmall_is H1.out (by omega) hb (by omega) rfl rfl rfl).mono ?_; rintro e w2 ⟨A2, n2, c2, rfl, h2, hb2⟩
      have H2 := Lib.hid h2
      have HB2 := Lib.hid (HB1.out.trans (hb2.mono HB1.out.size))
      have hr : a % b < 1000000000 := Nat.lt_trans (Nat.mod_lt _ hb) hbl
      have HR := Lib.hid hr
      clear h2 hb2 hc5 hr
      obtain ⟨r, hr⟩ : ∃ r, a % b = r := ⟨_, rfl⟩
      rw [hr] at HR ⊢
      have hrl := HR.out
      have HRE := Lib.hid hr
      clear hr HR
      go_wp2_with fail
      refine (mk_any r _ rfl (by omega) w2).mono ?_; rintro e w3 ⟨A3, n3, c3, rfl, h3, hb3⟩
      have H3 := Lib.hid h3
      have H2 := Lib.hid ((H2.out.below hb3).more hb3.size)
      have HB3 := Lib.hid (HB2.out.trans (hb3.mono HB2.out.size))
      clear h3 hb3
      go_wp2_with fail
      go_ret3
      exact ⟨_, _, _, _, _, _, rfl, H2.out, by rw [HRE.out]; exact H3.out, HB3.out⟩
    · obtain ⟨k, rfl⟩ : ∃ k, n' = k + 2 := ⟨n' - 2, by omega⟩
      have LL := Lib.hid (fun w1 (hb1 : Below w.heap.size w w1) => long_any A A' n c k c' a b w1 ((h.below hb1).more hb1.size) ((h'.below hb1).more hb1.size) hn hge)
      clear h h' hge hb
      go_enter Try.func10, Try.ntmps10
      go_wp2_with fail
      refine C.out.mono ?_; rintro e w' ⟨rfl, rfl⟩
      go_wp2_with fail
      refine C'.out.mono ?_; rintro e w' ⟨rfl, rfl⟩
      go_wp2_with fail
      refine (CC.out w (Below.refl _ _)).mono ?_; rintro e w1 ⟨rfl, hb1⟩
      have HB1 := Lib.hid hb1
      clear hb1
      go_wp2_with fail
      refine (LL.out w1 HB1.out).mono ?_; rintro e w2 ⟨A2, n2, c2, A3, n3, c3, rfl, h2, h3, hb2⟩
      have H2 := Lib.hid h2
      have H3 := Lib.hid h3
      have HB2 := Lib.hid (HB1.out.trans (hb2.mono HB1.out.size))
      clear h2 h3 hb2
      go_wp2_with fail
      go_ret3
      exact ⟨_, _, _, _, _, _, rfl, H2.out, H3.out, HB2.out⟩
theorem div_is {A A' : Option Addr} {n c n' c' a b q r : Nat} {w : World} (h : Num w w.heap.size A n c a) (h' : Num w w.heap.size A' n' c' b) (hn : n ≤ 100000) (hb : 0 < b) (hq : a / b = q) (hr : a % b = r) :
    Calls Try.prog 10 #[.slice A n c, .slice A' n' c'] w (RetDiv w q r) := by
  subst hq; subst hr
  exact div_any A A' n c n' c' a b w h h' hn hb

/-- Of two numbers' quotient the nearest one, the even one if both are as near. -/
def nearN (a b : Nat) : Nat := if b < 2 * (a % b) then a / b + 1 else if 2 * (a % b) = b ∧ a / b % 2 = 1 then a / b + 1 else a / b

theorem near_zero (A A' : Option Addr) (n c c' a : Nat) (w : World) (h : Num w w.heap.size A n c a) (h' : Num w w.heap.size A' 0 c' 0) :
    Calls Try.prog 14 #[.slice A n c, .slice A' 0 c'] w (RetVal w (.tuple #[.slice none 0 0, .int .i64 4])) := by
  have C := Lib.hid (div_zero A A' n c c' a w h h')
  clear h h'
  go_enter Try.func14, Try.ntmps14
  go_wp2_with fail
  refine C.out.mono ?_; rintro e w1 ⟨rfl, hb1⟩
  have HB1 := Lib.hid hb1
  clear hb1
  go_wp2_with fail
  go_ret2
  exact ⟨rfl, HB1.out⟩

theorem div_len_le {a b n : Nat} (h : (dg a).length = n) : (dg (a / b)).length ≤ n := by
  rw [← h]; exact dg_len_mono (Nat.div_le_self _ _)
theorem mod_len_le {a b n : Nat} (h : (dg a).length = n) : (dg (a % b)).length ≤ n := by
  rw [← h]; exact dg_len_mono (Nat.mod_le _ _)

set_option maxHeartbeats 1000000 in
theorem near_any (A A' : Option Addr) (n c n' c' a b : Nat) (w : World) (h : Num w w.heap.size A n c a) (h' : Num w w.heap.size A' n' c' b) (hn : n ≤ 100000) (hb : 0 < b) :
    Calls Try.prog 14 #[.slice A n c, .slice A' n' c'] w (RetSub w (nearN a b)) := by
  have E := Env.two h h'
  have LA := Lib.hid h.len
  obtain ⟨q, hq⟩ : ∃ q, a / b = q := ⟨_, rfl⟩
  obtain ⟨r, hr⟩ : ∃ r, a % b = r := ⟨_, rfl⟩
  have C := Lib.hid (div_is h h' hn hb hq hr)
  have LQ : (dg q).length ≤ n := by rw [← hq]; exact div_len_le LA.out
  have LR : (dg r).length ≤ n := by rw [← hr]; exact mod_len_le LA.out
  have HN : Hid (nearN a b = if b < 2 * r then q + 1 else if 2 * r = b ∧ q % 2 = 1 then q + 1 else q) := by show _ = _; unfold nearN; rw [hq, hr]
  have LQ := Lib.hid LQ
  have LR := Lib.hid LR
  clear h h' hq hr hb
  rcases Nat.lt_trichotomy (r + r) b with hlt | heq | hgt
  · have HV : Hid (nearN a b = q) := by show _ = _; rw [HN.out, if_neg (by omega), if_neg (by omega)]
    have HC := Lib.hid (cmpN_lt hlt)
    clear hlt
    go_enter Try.func14, Try.ntmps14
    go_wp2_with fail
    refine C.out.mono ?_; rintro e w1 ⟨A1, n1, c1, A2, n2, c2, rfl, h1, h2, hb1⟩; replace E := Env.push E hb1 h1; replace E := Env.push E (Below.refl _ _) h2
    have hn2 : n2 ≤ n := by rw [← h2.len]; exact LR.out
    clear h1 h2 hb1
    go_wp2_with fail
    refine (add_is (a := r) (b := r) (Env.get E (A := A2) (n := n2) (c := c2) (by simp)) (Env.get E (A := A2) (n := n2) (c := c2) (by simp)) (by omega) (by omega) rfl).mono ?_; rintro e w2 ⟨A3, n3, c3, rfl, h3, hb⟩; replace E := Env.push E hb h3
    clear h3 hb
    go_wp2_with fail
    refine (cmp_is (a := r + r) (b := b) (Env.get E (A := A3) (n := n3) (c := c3) (by simp)) (Env.get E (A := A') (n := n') (c := c') (by simp)) HC.out).mono ?_; rintro e w3 ⟨rfl, hb⟩; replace E := Env.step E hb
    clear hb
    go_wp2_with fail
    go_ret2
    exact ⟨_, _, _, rfl, by rw [HV.out]; exact Env.get E (by simp), E.out.1⟩
  · have HC := Lib.hid (cmpN_eq heq)
    rcases Nat.mod_two_eq_zero_or_one q with h2 | h2
    · have HV : Hid (nearN a b = q) := by show _ = _; rw [HN.out, if_neg (by omega), if_neg (by omega)]
      have hd : decide (q % 2 = 0) = true := decide_eq_true h2
      have HD := Lib.hid hd
      clear heq h2 hd
      go_enter Try.func14, Try.ntmps14
      go_wp2_with fail
      refine C.out.mono ?_; rintro e w1 ⟨A1, n1, c1, A2, n2, c2, rfl, h1, h2, hb1⟩; replace E := Env.push E hb1 h1; replace E := Env.push E (Below.refl _ _) h2
      have hn2 : n2 ≤ n := by rw [← h2.len]; exact LR.out
      clear h1 h2 hb1
      go_wp2_with fail
      refine (add_is (a := r) (b := r) (Env.get E (A := A2) (n := n2) (c := c2) (by simp)) (Env.get E (A := A2) (n := n2) (c := c2) (by simp)) (by omega) (by omega) rfl).mono ?_; rintro e w2 ⟨A3, n3, c3, rfl, h3, hb⟩; replace E := Env.push E hb h3
      clear h3 hb
      go_wp2_with fail
      refine (cmp_is (a := r + r) (b := b) (Env.get E (A := A3) (n := n3) (c := c3) (by simp)) (Env.get E (A := A') (n := n') (c := c') (by simp)) HC.out).mono ?_; rintro e w3 ⟨rfl, hb⟩; replace E := Env.step E hb
      clear hb
      go_wp2_with fail
      refine (even_is (a := q) (t := true) (Env.get E (A := A1) (n := n1) (c := c1) (by simp)) HD.out).mono ?_; rintro e w' ⟨rfl, rfl⟩
      go_wp2_with fail
      go_ret2
      exact ⟨_, _, _, rfl, by rw [HV.out]; exact Env.get E (by simp), E.out.1⟩
    · have HV : Hid (nearN a b = q + 1) := by show _ = _; rw [HN.out, if_neg (by omega), if_pos ⟨by omega, h2⟩]
      have hd : decide (q % 2 = 0) = false := decide_eq_false (by omega)
      have HD := Lib.hid hd
      clear heq h2 hd
      go_enter Try.func14, Try.ntmps14
      go_wp2_with fail
      refine C.out.mono ?_; rintro e w1 ⟨A1, n1, c1, A2, n2, c2, rfl, h1, h2, hb1⟩; replace E := Env.push E hb1 h1; replace E := Env.push E (Below.refl _ _) h2
      have hn1 : n1 ≤ n := by rw [← h1.len]; exact LQ.out
      have hn2 : n2 ≤ n := by rw [← h2.len]; exact LR.out
      clear h1 h2 hb1
      go_wp2_with fail
      refine (add_is (a := r) (b := r) (Env.get E (A := A2) (n := n2) (c := c2) (by simp)) (Env.get E (A := A2) (n := n2) (c := c2) (by simp)) (by omega) (by omega) rfl).mono ?_; rintro e w2 ⟨A3, n3, c3, rfl, h3, hb⟩; replace E := Env.push E hb h3
      clear h3 hb
      go_wp2_with fail
      refine (cmp_is (a := r + r) (b := b) (Env.get E (A := A3) (n := n3) (c := c3) (by simp)) (Env.get E (A := A') (n := n') (c := c') (by simp)) HC.out).mono ?_; rintro e w3 ⟨rfl, hb⟩; replace E := Env.step E hb
      clear hb
      go_wp2_with fail
      refine (even_is (a := q) (t := false) (Env.get E (A := A1) (n := n1) (c := c1) (by simp)) HD.out).mono ?_; rintro e w' ⟨rfl, rfl⟩
      go_wp2_with fail
      refine (mk_any 1 _ rfl (by decide) _).mono ?_; rintro e w4 ⟨A4, n4, c4, rfl, h4, hb⟩; replace E := Env.push E hb h4
      have hn4 : n4 ≤ 3 := by have := len_of_u64 (N := 1) (by decide); rwa [h4.len] at this
      clear h4 hb
      go_wp2_with fail
      refine (add_is (a := q) (b := 1) (Env.get E (A := A1) (n := n1) (c := c1) (by simp)) (Env.get E (A := A4) (n := n4) (c := c4) (by simp)) (by omega) (by omega) rfl).mono ?_; rintro e w5 ⟨A5, n5, c5, rfl, h5, hb⟩; replace E := Env.push E hb h5
      clear h5 hb
      go_wp2_with fail
      go_ret2
      exact ⟨_, _, _, rfl, by rw [HV.out]; exact Env.get E (by simp), E.out.1⟩
  · have HV : Hid (nearN a b = q + 1) := by show _ = _; rw [HN.out, if_pos (by omega)]
    have HC := Lib.hid (cmpN_gt hgt)
    clear hgt
    go_enter Try.func14, Try.ntmps14
    go_wp2_with fail
    refine C.out.mono ?_; rintro e w1 ⟨A1, n1, c1, A2, n2, c2, rfl, h1, h2, hb1⟩; replace E := Env.push E hb1 h1; replace E := Env.push E (Below.refl _ _) h2
    have hn1 : n1 ≤ n := by rw [← h1.len]; exact LQ.out
    have hn2 : n2 ≤ n := by rw [← h2.len]; exact LR.out
    clear h1 h2 hb1
    go_wp2_with fail
    refine (add_is (a := r) (b := r) (Env.get E (A := A2) (n := n2) (c := c2) (by simp)) (Env.get E (A := A2) (n := n2) (c := c2) (by simp)) (by omega) (by omega) rfl).mono ?_; rintro e w2 ⟨A3, n3, c3, rfl, h3, hb⟩; replace E := Env.push E hb h3
    clear h3 hb
    go_wp2_with fail
    refine (cmp_is (a := r + r) (b := b) (Env.get E (A := A3) (n := n3) (c := c3) (by simp)) (Env.get E (A := A') (n := n') (c := c') (by simp)) HC.out).mono ?_; rintro e w3 ⟨rfl, hb⟩; replace E := Env.step E hb
    clear hb
    go_wp2_with fail
    refine (mk_any 1 _ rfl (by decide) _).mono ?_; rintro e w4 ⟨A4, n4, c4, rfl, h4, hb⟩; replace E := Env.push E hb h4
    have hn4 : n4 ≤ 3 := by have := len_of_u64 (N := 1) (by decide); rwa [h4.len] at this
    clear h4 hb
    go_wp2_with fail
    refine (add_is (a := q) (b := 1) (Env.get E (A := A1) (n := n1) (c := c1) (by simp)) (Env.get E (A := A4) (n := n4) (c := c4) (by simp)) (by omega) (by omega) rfl).mono ?_; rintro e w5 ⟨A5, n5, c5, rfl, h5, hb⟩; replace E := Env.push E hb h5
    clear h5 hb
    go_wp2_with fail
    go_ret2
    exact ⟨_, _, _, rfl, by rw [HV.out]; exact Env.get E (by simp), E.out.1⟩
theorem near_is {A A' : Option Addr} {n c n' c' a b m : Nat} {w : World} (h : Num w w.heap.size A n c a) (h' : Num w w.heap.size A' n' c' b) (hn : n ≤ 100000) (hb : 0 < b) (hm : nearN a b = m) :
    Calls Try.prog 14 #[.slice A n c, .slice A' n' c'] w (RetSub w m) := by
  subst hm; exact near_any A A' n c n' c' a b w h h' hn hb

set_option maxHeartbeats 1000000 in
theorem gcd_any (A A' : Option Addr) (n c n' c' a b : Nat) (w : World) (h : Num w w.heap.size A n c a) (h' : Num w w.heap.size A' n' c' b) (hn : n ≤ 100000) (hn' : n' ≤ 100000) :
    Calls Try.prog 22 #[.slice A n c, .slice A' n' c'] w (RetNum w (Nat.gcd a b)) := by
  have H := Lib.hid h
  have H' := Lib.hid h'
  clear h h'
  go_enter Try.func22, Try.ntmps22
  go_wp2
  go_loopg [0, 1] b (fun gk av bv wr => ∃ (A1 : Option Addr) (n1 c1 : Nat) (A2 : Option Addr) (n2 c2 x : Nat), av = .slice A1 n1 c1 ∧ bv = .slice A2 n2 c2 ∧ n1 ≤ 100000 ∧ n2 ≤ 100000 ∧ Num wr wr.heap.size A1 n1 c1 x ∧ Num wr wr.heap.size A2 n2 c2 gk ∧ Nat.gcd x gk = Nat.gcd a b ∧ Below w.heap.size w wr)
  case atStart => exact ⟨A, n, c, A', n', c', a, rfl, rfl, hn, hn', H.out, H'.out, rfl, Below.refl _ _⟩
  case round =>
    obtain ⟨A1, n1, c1, A2, n2, c2, x, rfl, rfl, hn1, hn2, h1, h2, hg, hb⟩ := hrel
    have E := Env.two h1 h2
    have HG := Lib.hid hg
    have HB := Lib.hid hb
    have L1 := Lib.hid h1.len
    have L2 := Lib.hid h2.len
    clear hg hb h1 h2
    rcases Nat.eq_zero_or_pos gk with h0 | h0
    · subst h0
      obtain rfl : n2 = 0 := L2.out.symm.trans (by rw [dg_zero]; rfl)
      have HX : Hid (x = Nat.gcd a b) := by show _ = _; rw [← HG.out]; exact (Nat.gcd_zero_right x).symm
      go_wp2_with fail
      refine (trim_is (Env.get E (A := A1) (n := n1) (c := c1) (a := x) (by simp)) (limbs_dg x) (by omega) (m := Nat.gcd a b) (by rw [val_dg]; exact HX.out)).mono ?_; rintro e w2 ⟨A3, n3, c3, rfl, h3, hb3⟩
      have H3 := Lib.hid h3
      have HB3 := Lib.hid (HB.out.trans (hb3.mono HB.out.size))
      clear h3 hb3
      go_wp2_with fail
      go_ret
      exact ⟨_, _, _, rfl, H3.out, HB3.out⟩
    · have hp := dg_len_pos L2.out h0
      have C := Lib.hid (div_is (a := x) (b := gk) (Env.get E (A := A1) (n := n1) (c := c1) (by simp)) (Env.get E (A := A2) (n := n2) (c := c2) (by simp)) hn1 h0 rfl rfl)
      go_wp2_with fail
      refine C.out.mono ?_; rintro e w2 ⟨A3, n3, c3, A4, n4, c4, rfl, h3, h4, hb3⟩; replace E := Env.push E hb3 h3; replace E := Env.push E (Below.refl _ _) h4
      have hn4 : n4 ≤ n1 := by rw [← h4.len]; exact mod_len_le L1.out
      have HB3 := Lib.hid (HB.out.trans (hb3.mono HB.out.size))
      clear h3 h4 hb3
      go_wp2_with fail
      go_roundg (x % gk)
      case measure => exact Nat.mod_lt _ h0
      case rel => exact ⟨A2, n2, c2, A4, n4, c4, gk, rfl, rfl, hn2, by omega, Env.get E (by simp), Env.get E (by simp), by rw [← HG.out, Nat.gcd_comm x gk, Nat.gcd_rec gk x, Nat.gcd_comm], HB3.out⟩
theorem gcd_is {A A' : Option Addr} {n c n' c' a b m : Nat} {w : World} (h : Num w w.heap.size A n c a) (h' : Num w w.heap.size A' n' c' b) (hn : n ≤ 100000) (hn' : n' ≤ 100000) (hm : Nat.gcd a b = m) :
    Calls Try.prog 22 #[.slice A n c, .slice A' n' c'] w (RetNum w m) := by
  subst hm; exact gcd_any A A' n c n' c' a b w h h' hn hn'

end Go.Proofs.Ytenelfclalnfhaa
