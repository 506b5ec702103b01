/-
  Contracts of layer 6, the third part: nearest, Div.
-/
import Derived.Test.YtllcjahekckbfaaRouB
set_option linter.unusedVariables false
set_option linter.unusedSimpArgs false
namespace Go.Proofs.Ytllcjahekckbfaa
open Go.RowKit

theorem short_le_len (a m : Nat) : (dg (shortN a m)).length ≤ (dg a).length + 1 := by
  have h1 : a / 1000000000 ^ m ≤ a := Nat.div_le_self _ _
  have h2 := dg_len_mono (a := a / 1000000000 ^ m + 1) (b := a + 1) (by omega)
  have h3 := dg_len_add a 1
  have h4 : (dg 1).length ≤ 1 := dg_len_le (by decide)
  have h5 := dg_len_mono (a := a / 1000000000 ^ m) (b := a / 1000000000 ^ m + 1) (by omega)
  have h6 : (dg (a + 1)).length ≤ (dg a).length + 1 := by
    rcases Nat.eq_zero_or_pos a with h0 | h0
    · subst h0; rw [Nat.zero_add, dg_zero]; simpa using h4
    · rw [dg_pos h0] at h3 ⊢; simp only [List.length_cons] at h3 ⊢; omega
  unfold shortN
  split <;> omega

set_option maxRecDepth 100000 in
theorem nearest_up {A A' : Option Addr} {n c n' c' a b k x : Nat} {v : Int} {w : World} (h : Num w w.heap.size A n c a) (h' : Num w w.heap.size A' n' c' b) (hn : n ≤ 1000000) (hk : k ≤ 1000000) (hv : v = (k : Int)) (hb : 0 < b) (hl : (dg (a * 10 ^ k)).length ≤ 100000) (hx : nearN (a * 10 ^ k) b = x) :
    Calls Try.prog 41 #[.slice A n c, .slice A' n' c', .int .i64 v] w (RetSub w x) := by
  subst hv
  have E := Env.two h h'
  have HX := Lib.hid hx
  have HL := Lib.hid hl
  have HB := Lib.hid hb
  clear h h' hx hl hb
  go_enter Try.func41, Try.ntmps41
  go_wp2_with fail
  refine (shift_is (a := a) (k := k) (Env.get E (by simp)) hn hk rfl rfl).mono ?_; rintro e w1 ⟨A1, n1, c1, rfl, h1, hb1⟩
  have hn1 : n1 ≤ 100000 := by rw [← h1.len]; exact HL.out
  replace E := Env.push E hb1 h1; clear h1 hb1
  go_wp2_with fail
  refine (near_is (a := a * 10 ^ k) (b := b) (Env.get E (A := A1) (n := n1) (c := c1) (by simp)) (Env.get E (A := A') (n := n') (c := c') (by simp)) hn1 HB.out HX.out).mono ?_; rintro e w2 ⟨A2, n2, c2, rfl, h1, hb1⟩
  replace E := Env.push E hb1 h1; clear h1 hb1
  go_wp2_with fail
  go_ret2
  exact ⟨A2, n2, c2, rfl, Env.get E (by simp), E.out.1⟩

set_option maxRecDepth 100000 in
theorem nearest_down {A A' : Option Addr} {n c n' c' a b d x : Nat} {v : Int} {w : World} (h : Num w w.heap.size A n c a) (h' : Num w w.heap.size A' n' c' b) (hn : n ≤ 10000) (hn' : n' ≤ 1000000) (hd : d ≤ 1000000) (hd0 : 0 < d) (hv : v = -(d : Int)) (hb : 0 < b) (hx : nearN (shortN a (min ((d - 10) / 9) (n - 1))) (b * 10 ^ (d - 9 * ((d - 10) / 9))) = x) :
    Calls Try.prog 41 #[.slice A n c, .slice A' n' c', .int .i64 v] w (RetSub w x) := by
  subst hv
  have E := Env.two h h'
  have HX := Lib.hid hx
  have HB : Hid (0 < b * 10 ^ (d - 9 * ((d - 10) / 9))) := Nat.mul_pos hb (ten_pos _)
  have hlen := h.len
  clear h h' hx hb
  obtain ⟨L, hL⟩ : ∃ L, (d - 10) / 9 = L := ⟨_, rfl⟩
  have HLL := Lib.hid hL
  obtain ⟨m0, hm0⟩ : ∃ m0 : Nat, d - 10 = m0 := ⟨_, rfl⟩
  have hmx := max_gen (P := Try.prog) (x := (d : Int) - 9 - 1) (y := 0) (z := (m0 : Int)) (by omega)
  obtain ⟨r, hr⟩ : ∃ r, d - 9 * L = r := ⟨_, rfl⟩
  have q1 : (m0 : Int) / 9 = (L : Int) := by omega
  have q2 : (d : Int) - (L : Int) * 9 = (r : Int) := by omega
  have hL9 : 9 * L ≤ d := by omega
  obtain ⟨S, hS⟩ : ∃ S, shortN a (min L (n - 1)) = S := ⟨_, rfl⟩
  have HSL : Hid ((dg S).length ≤ 10001) := by show _ ≤ _; rw [← hS]; have := short_le_len a (min L (n - 1)); omega
  have HSS := Lib.hid hS
  rw [hL, hr] at HX HB
  rw [hS] at HX
  have hLb : L ≤ 1000000 := by omega
  have hrb : r ≤ 1000000 := by omega
  have hmb : m0 ≤ 1000000 := by omega
  clear hS hL hm0 hr hlen
  go_enter Try.func41, Try.ntmps41
  go_wp2_with fail
  refine (shift_is (a := b) (k := r) (Env.get E (A := A') (n := n') (c := c') (by simp)) hn' hrb (by omega) rfl).mono ?_; rintro e w1 ⟨A1, n1, c1, rfl, h1, hb1⟩
  replace E := Env.push E hb1 h1; clear h1 hb1
  go_wp2_with fail
  refine (shortened_is (a := a) (k := L) (Env.get E (A := A) (n := n) (c := c) (by simp)) (by omega) (by omega) hLb HSS.out).mono ?_; rintro e w2 ⟨A2, n2, c2, rfl, h1, hb1⟩
  have hn2 : n2 ≤ 100000 := by have := h1.len; have := HSL.out; omega
  replace E := Env.push E hb1 h1; clear h1 hb1
  go_wp2_with fail
  refine (near_is (a := S) (b := b * 10 ^ r) (Env.get E (A := A2) (n := n2) (c := c2) (by simp)) (Env.get E (A := A1) (n := n1) (c := c1) (by simp)) hn2 HB.out HX.out).mono ?_; rintro e w3 ⟨A3, n3, c3, rfl, h1, hb1⟩
  replace E := Env.push E hb1 h1; clear h1 hb1
  go_wp2_with fail
  go_ret2
  exact ⟨A3, n3, c3, rfl, Env.get E (by simp), E.out.1⟩

/-- Nought divides nothing. -/
theorem nought_len {w : World} {B n c : Nat} {A : Option Addr} (h : Num w B A n c 0) : n = 0 := by
  have := h.len; rw [dg_zero] at this; exact this.symm
set_option maxRecDepth 100000 in
theorem nearest_zero_up {A A' : Option Addr} {n c n' c' a k : Nat} {v : Int} {w : World} (h : Num w w.heap.size A n c a) (h' : Num w w.heap.size A' n' c' 0) (hn : n ≤ 1000000) (hk : k ≤ 1000000) (hv : v = (k : Int)) :
    Calls Try.prog 41 #[.slice A n c, .slice A' n' c', .int .i64 v] w (RetVal w (.tuple #[.slice none 0 0, .int .i64 4])) := by
  subst hv
  obtain rfl := nought_len h'
  have E := Env.two h h'
  clear h h'
  go_enter Try.func41, Try.ntmps41
  go_wp2_with fail
  refine (shift_is (a := a) (k := k) (Env.get E (by simp)) hn hk rfl rfl).mono ?_; rintro e w1 ⟨A1, n1, c1, rfl, h1, hb1⟩
  replace E := Env.push E hb1 h1; clear h1 hb1
  go_wp2_with fail
  refine (near_zero A1 A' n1 c1 c' (a * 10 ^ k) _ (Env.get E (A := A1) (n := n1) (c := c1) (by simp)) (Env.get E (A := A') (n := 0) (c := c') (by simp))).mono ?_; rintro e w2 ⟨rfl, hb1⟩
  replace E := Env.step E hb1; clear hb1
  go_wp2_with fail
  go_ret2
  exact ⟨rfl, E.out.1⟩
set_option maxRecDepth 100000 in
theorem nearest_zero_down {A A' : Option Addr} {n c n' c' a d : Nat} {v : Int} {w : World} (h : Num w w.heap.size A n c a) (h' : Num w w.heap.size A' n' c' 0) (hn : n ≤ 10000) (hd : d ≤ 1000000) (hd0 : 0 < d) (hv : v = -(d : Int)) :
    Calls Try.prog 41 #[.slice A n c, .slice A' n' c', .int .i64 v] w (RetVal w (.tuple #[.slice none 0 0, .int .i64 4])) := by
  subst hv
  obtain rfl := nought_len h'
  have E := Env.two h h'
  clear h h'
  obtain ⟨L, hL⟩ : ∃ L, (d - 10) / 9 = L := ⟨_, rfl⟩
  obtain ⟨m0, hm0⟩ : ∃ m0 : Nat, d - 10 = m0 := ⟨_, rfl⟩
  have hmx := max_gen (P := Try.prog) (x := (d : Int) - 9 - 1) (y := 0) (z := (m0 : Int)) (by omega)
  obtain ⟨r, hr⟩ : ∃ r, d - 9 * L = r := ⟨_, rfl⟩
  have q1 : (m0 : Int) / 9 = (L : Int) := by omega
  have q2 : (d : Int) - (L : Int) * 9 = (r : Int) := by omega
  have hL9 : 9 * L ≤ d := by omega
  have hLb : L ≤ 1000000 := by omega
  have hrb : r ≤ 1000000 := by omega
  have hmb : m0 ≤ 1000000 := by omega
  clear hL hm0 hr
  go_enter Try.func41, Try.ntmps41
  go_wp2_with fail
  refine (shift_is (a := 0) (k := r) (m := 0) (Env.get E (A := A') (n := 0) (c := c') (by simp)) (by omega) hrb (by omega) (Nat.zero_mul _)).mono ?_; rintro e w1 ⟨A1, n1, c1, rfl, h1, hb1⟩
  obtain rfl := nought_len h1
  replace E := Env.push E hb1 h1; clear h1 hb1
  go_wp2_with fail
  refine (shortened_is (a := a) (k := L) (Env.get E (A := A) (n := n) (c := c) (by simp)) (by omega) (by omega) hLb rfl).mono ?_; rintro e w2 ⟨A2, n2, c2, rfl, h1, hb1⟩
  replace E := Env.push E hb1 h1; clear h1 hb1
  go_wp2_with fail
  refine (near_zero A2 A1 n2 c2 c1 (shortN a (min L (n - 1))) _ (Env.get E (A := A2) (n := n2) (c := c2) (by simp)) (Env.get E (A := A1) (n := 0) (c := c1) (by simp))).mono ?_; rintro e w3 ⟨rfl, hb1⟩
  replace E := Env.step E hb1; clear hb1
  go_wp2_with fail
  go_ret2
  exact ⟨rfl, E.out.1⟩

set_option maxRecDepth 100000 in
set_option maxHeartbeats 4000000 in
theorem divZero_any (A A' : Option Addr) (n c n' c' s t S : Nat) (i j v : Int) (w : World) (h : Num w w.heap.size A n c i.natAbs) (h' : Num w w.heap.size A' n' c' j.natAbs) (hn : n ≤ 1000) (hn' : n' ≤ 1000) (hs : s ≤ 1000) (ht : t ≤ 1000) (hv : max v 0 = (S : Int)) (hS : S ≤ 1000) (h0 : j = 0) :
    Calls Try.prog 18 #[.agg #[.bool (ngB i), .slice A n c, .int .i64 (s : Int)], .agg #[.bool (ngB j), .slice A' n' c', .int .i64 (t : Int)], .int .i64 v] w (RetVal w (.tuple #[.agg #[.bool false, .slice none 0 0, .int .i64 0], .int .i64 4])) := by

  have hkt := stripK_le j t 0
  obtain ⟨T, hT⟩ : ∃ T, t - stripK j t 0 = T := ⟨_, rfl⟩
  obtain ⟨J, hJ⟩ : ∃ J, stripI j t 0 = J := ⟨_, rfl⟩
  have HJ := Lib.hid hJ
  have HT := Lib.hid hT
  have HJL : Hid ((dg J.natAbs).length ≤ 1000) := by
    show _ ≤ _
    have e := (strip_abs j t 0).1
    rw [hJ] at e
    have : J.natAbs ≤ j.natAbs := by rw [← e]; exact Nat.le_mul_of_pos_right _ (ten_pos _)
    have := dg_len_mono this
    rw [h'.len] at this
    omega
  have hTt : T ≤ t := by omega
  have hmS := max_gen (P := Try.prog) hv
  have hmS2 := min_gen (P := Try.prog) (x := (S : Int)) (y := 2000000) (z := (S : Int)) (by omega)
  have hms := max_zero (P := Try.prog) (s := s)
  have hmT := min_gen (P := Try.prog) (x := (T : Int) - (s : Int)) (y := 2000000) (z := (T : Int) - (s : Int)) (by omega)
  have H := Lib.hid h
  have H' := Lib.hid h'
  have HN : Hid (∀ (w0 : World) (A1 : Option Addr) (n1 c1 : Nat), Num w0 w0.heap.size A n c i.natAbs → Num w0 w0.heap.size A1 n1 c1 J.natAbs → Calls Try.prog 41 #[.slice A n c, .slice A1 n1 c1, .int .i64 ((S : Int) + ((T : Int) - (s : Int)))] w0 (RetVal w0 (.tuple #[.slice none 0 0, .int .i64 4]))) := by
    intro w0 A1 n1 c1 g1 g2
    have hJ0 : J = 0 := by rw [← hJ, h0]; exact strip_none t 0
    subst hJ0
    rcases Int.lt_or_le ((S : Int) + ((T : Int) - (s : Int))) 0 with hh | hh
    · exact nearest_zero_down (d := (-((S : Int) + ((T : Int) - (s : Int)))).toNat) g1 g2 (by omega) (by omega) (by omega) (by omega)
    · exact nearest_zero_up (k := ((S : Int) + ((T : Int) - (s : Int))).toNat) g1 g2 (by omega) (by omega) (by omega)
  clear h h' hv hJ hT hkt h0
  go_enter Try.func18, Try.ntmps18
  go_wp2_with fail
  generalize hW : World.alloc (World.alloc (World.alloc w _) _) _ = W0
  have E0 : St w W0 [(A, n, c, (i).natAbs), (A', n', c', (j).natAbs)] [((w.heap.size + 1 + 1), .bool false, .slice none 0 0, .int .i64 0), ((w.heap.size + 1), (.bool (ngB j)), (.slice A' n' c'), (.int .i64 (t : Int))), (w.heap.size, (.bool (ngB i)), (.slice A n c), (.int .i64 (s : Int)))] := by rw [← hW]; exact (((start_two H.out H'.out).lay rfl).lay (by simp)).lay (by simp)
  have E := Lib.hid E0
  clear hW E0
  obtain ⟨q0, q1, q2, qf0, qf1, qf2, qlt⟩ := St.at_ (x0 := (.bool (ngB j))) (x1 := (.slice A' n' c')) (x2 := (.int .i64 (t : Int))) (g := (w.heap.size + 1)) E (by simp)
  go_wp2_with fail
  refine (strip_is5 (L := 0) (St.got E (A := A') (n := n') (c := c') (a := j.natAbs) (by simp)) (by omega) (by omega) rfl (by omega) HT.out HJ.out).mono ?_; rintro e w1 ⟨A1, n1, c1, rfl, h1, hb1⟩
  have hn1 : n1 ≤ 1000 := by have := h1.len; have := HJL.out; omega
  replace E := Lib.hid (St.push E.out hb1 h1); clear h1 hb1
  clear q0 q1 q2 qf0 qf1 qf2 qlt
  obtain ⟨p0, p1, p2, pf0, pf1, pf2, plt⟩ := St.at_ (x0 := (.bool (ngB i))) (x1 := (.slice A n c)) (x2 := (.int .i64 (s : Int))) (g := w.heap.size) E (by simp)
  obtain ⟨q0, q1, q2, qf0, qf1, qf2, qlt⟩ := St.at_ (x0 := (.bool (ngB j))) (x1 := (.slice A' n' c')) (x2 := (.int .i64 (t : Int))) (g := (w.heap.size + 1)) E (by simp)
  go_wp2_with fail
  replace E := Lib.hid (St.store E.out (g := (w.heap.size + 1)) (x0 := .bool (ngB j)) (x1 := .slice A' n' c') (x2 := .int .i64 (t : Int)) (by simp) (noLimb_bool _) (noLimb_slice _ _ _) (noLimb_int _) [((w.heap.size + 1 + 1), .bool false, .slice none 0 0, .int .i64 0), (w.heap.size, (.bool (ngB i)), (.slice A n c), (.int .i64 (s : Int)))] (by simp <;> omega) (.bool (ngB J)) (.slice A1 n1 c1) (.int .i64 (T : Int)))
  clear p0 p1 p2 pf0 pf1 pf2 plt q0 q1 q2 qf0 qf1 qf2 qlt
  obtain ⟨W1, hW⟩ : ∃ W1, put3 w1 (w.heap.size + 1) (.bool (ngB J)) (.slice A1 n1 c1) (.int .i64 (T : Int)) = W1 := ⟨_, rfl⟩
  rw [hW] at E
  unfold put3 at hW
  rw [hW]
  clear hW
  refine (HN.out _ A1 n1 c1 (St.got E (A := A) (n := n) (c := c) (a := i.natAbs) (by simp)) (St.got E (A := A1) (n := n1) (c := c1) (a := J.natAbs) (by simp))).mono ?_; rintro e w2 ⟨rfl, hb1⟩; replace E := Lib.hid (St.step E.out hb1); clear hb1
  obtain ⟨r0, r1, r2, rf0, rf1, rf2, rlt⟩ := St.at_ (x0 := .bool false) (x1 := .slice none 0 0) (x2 := .int .i64 0) (g := (w.heap.size + 1 + 1)) E (by simp)
  go_wp2_with fail
  have EF := Lib.hid (St.store E.out (g := (w.heap.size + 1 + 1)) (x0 := .bool false) (x1 := .slice none 0 0) (x2 := .int .i64 0) (by simp) (noLimb_bool _) (noLimb_slice _ _ _) (noLimb_int _) [] (fun q hq => by cases hq) (.bool false) (.slice none 0 0) (.int .i64 0))
  obtain ⟨e0, e1, e2, _, _, _, _⟩ := St.at_ (x0 := .bool false) (x1 := .slice none 0 0) (x2 := .int .i64 0) (g := (w.heap.size + 1 + 1)) EF (by simp)
  exact bodyPost_ret (v := .tuple #[.agg #[.bool false, .slice none 0 0, .int .i64 0], .int .i64 4]) (by simp [results, Try.results18, go_sem, e0, e1, e2]) rfl ⟨rfl, EF.out.bel⟩

set_option maxRecDepth 100000 in
set_option maxHeartbeats 4000000 in
theorem div_same (A A' : Option Addr) (n c n' c' s t S : Nat) (i j v : Int) (w : World) (h : Num w w.heap.size A n c i.natAbs) (h' : Num w w.heap.size A' n' c' j.natAbs) (hn : n ≤ 1000) (hn' : n' ≤ 1000) (hs : s ≤ 1000) (ht : t ≤ 1000) (hv : max v 0 = (S : Int)) (hS : S ≤ 1000) (h0 : j ≠ 0) (hb : ngB i = ngB j) :
    Calls Try.prog 18 #[.agg #[.bool (ngB i), .slice A n c, .int .i64 (s : Int)], .agg #[.bool (ngB j), .slice A' n' c', .int .i64 (t : Int)], .int .i64 v] w (RetDecE w (divZ i s j t S) S) := by

  have hkt := stripK_le j t 0
  obtain ⟨T, hT⟩ : ∃ T, t - stripK j t 0 = T := ⟨_, rfl⟩
  obtain ⟨J, hJ⟩ : ∃ J, stripI j t 0 = J := ⟨_, rfl⟩
  have HJ := Lib.hid hJ
  have HT := Lib.hid hT
  have HJL : Hid ((dg J.natAbs).length ≤ 1000) := by
    show _ ≤ _
    have e := (strip_abs j t 0).1
    rw [hJ] at e
    have : J.natAbs ≤ j.natAbs := by rw [← e]; exact Nat.le_mul_of_pos_right _ (ten_pos _)
    have := dg_len_mono this
    rw [h'.len] at this
    omega
  have hTt : T ≤ t := by omega
  have hmS := max_gen (P := Try.prog) hv
  have hmS2 := min_gen (P := Try.prog) (x := (S : Int)) (y := 2000000) (z := (S : Int)) (by omega)
  have hms := max_zero (P := Try.prog) (s := s)
  have hmT := min_gen (P := Try.prog) (x := (T : Int) - (s : Int)) (y := 2000000) (z := (T : Int) - (s : Int)) (by omega)
  have H := Lib.hid h
  have H' := Lib.hid h'
  have HN : Hid (∀ (w0 : World) (A1 : Option Addr) (n1 c1 : Nat), Num w0 w0.heap.size A n c i.natAbs → Num w0 w0.heap.size A1 n1 c1 J.natAbs → n1 ≤ 1000 → Calls Try.prog 41 #[.slice A n c, .slice A1 n1 c1, .int .i64 ((S : Int) + ((T : Int) - (s : Int)))] w0 (RetSub w0 (nearN (i.natAbs * 10 ^ (S + t)) (j.natAbs * 10 ^ s)))) := by
    intro w0 A1 n1 c1 g1 g2 g3
    have hJ0 : 0 < J.natAbs := by
      have e := (strip_abs j t 0).1
      rw [hJ] at e
      rcases Nat.eq_zero_or_pos J.natAbs with h1 | h1
      · rw [h1] at e; omega
      · exact h1
    rcases Int.lt_or_le ((S : Int) + ((T : Int) - (s : Int))) 0 with hh | hh
    · obtain ⟨d, hd⟩ : ∃ d : Nat, ((S : Int) + ((T : Int) - (s : Int))) = -(d : Int) := ⟨(-((S : Int) + ((T : Int) - (s : Int)))).toNat, by omega⟩
      refine nearest_down (d := d) g1 g2 (by omega) (by omega) (by omega) (by omega) hd hJ0 ?_
      rw [← hJ]
      exact div_down h0 rfl (by rw [hT]; omega) g1.len (by omega)
    · obtain ⟨d, hd⟩ : ∃ d : Nat, ((S : Int) + ((T : Int) - (s : Int))) = (d : Int) := ⟨((S : Int) + ((T : Int) - (s : Int))).toNat, by omega⟩
      refine nearest_up (k := d) g1 g2 (by omega) (by omega) hd hJ0 ?_ ?_
      · have := up_len (i := i) (s := 0) (M := d) g1.len
        rw [abs_up, Nat.sub_zero] at this
        omega
      · rw [← hJ]
        exact div_up h0 rfl (by rw [hT]; omega)
  have HD : Hid (sgn false (nearN (i.natAbs * 10 ^ (S + t)) (j.natAbs * 10 ^ s)) = divZ i s j t S) := by show _ = _; unfold divZ; rw [bool_neq' hb]
  have hJb : ngB i = ngB J := by rw [← hJ, strip_ng]; exact hb
  obtain ⟨x, hx⟩ : ∃ x, nearN (i.natAbs * 10 ^ (S + t)) (j.natAbs * 10 ^ s) = x := ⟨_, rfl⟩
  obtain ⟨z, hz⟩ : ∃ z, divZ i s j t S = z := ⟨_, rfl⟩
  rw [hx] at HN HD
  rw [hz] at HD ⊢
  have hb3 := bool_neq' hJb
  clear h h' hv hJ hT hkt h0 hb hx hz hJb
  go_enter Try.func18, Try.ntmps18
  go_wp2_with fail
  generalize hW : World.alloc (World.alloc (World.alloc w _) _) _ = W0
  have E0 : St w W0 [(A, n, c, (i).natAbs), (A', n', c', (j).natAbs)] [((w.heap.size + 1 + 1), .bool false, .slice none 0 0, .int .i64 0), ((w.heap.size + 1), (.bool (ngB j)), (.slice A' n' c'), (.int .i64 (t : Int))), (w.heap.size, (.bool (ngB i)), (.slice A n c), (.int .i64 (s : Int)))] := by rw [← hW]; exact (((start_two H.out H'.out).lay rfl).lay (by simp)).lay (by simp)
  have E := Lib.hid E0
  clear hW E0
  obtain ⟨q0, q1, q2, qf0, qf1, qf2, qlt⟩ := St.at_ (x0 := (.bool (ngB j))) (x1 := (.slice A' n' c')) (x2 := (.int .i64 (t : Int))) (g := (w.heap.size + 1)) E (by simp)
  go_wp2_with fail
  refine (strip_is5 (L := 0) (St.got E (A := A') (n := n') (c := c') (a := j.natAbs) (by simp)) (by omega) (by omega) rfl (by omega) HT.out HJ.out).mono ?_; rintro e w1 ⟨A1, n1, c1, rfl, h1, hb1⟩
  have hn1 : n1 ≤ 1000 := by have := h1.len; have := HJL.out; omega
  replace E := Lib.hid (St.push E.out hb1 h1); clear h1 hb1
  clear q0 q1 q2 qf0 qf1 qf2 qlt
  obtain ⟨p0, p1, p2, pf0, pf1, pf2, plt⟩ := St.at_ (x0 := (.bool (ngB i))) (x1 := (.slice A n c)) (x2 := (.int .i64 (s : Int))) (g := w.heap.size) E (by simp)
  obtain ⟨q0, q1, q2, qf0, qf1, qf2, qlt⟩ := St.at_ (x0 := (.bool (ngB j))) (x1 := (.slice A' n' c')) (x2 := (.int .i64 (t : Int))) (g := (w.heap.size + 1)) E (by simp)
  go_wp2_with fail
  replace E := Lib.hid (St.store E.out (g := (w.heap.size + 1)) (x0 := .bool (ngB j)) (x1 := .slice A' n' c') (x2 := .int .i64 (t : Int)) (by simp) (noLimb_bool _) (noLimb_slice _ _ _) (noLimb_int _) [((w.heap.size + 1 + 1), .bool false, .slice none 0 0, .int .i64 0), (w.heap.size, (.bool (ngB i)), (.slice A n c), (.int .i64 (s : Int)))] (by simp <;> omega) (.bool (ngB J)) (.slice A1 n1 c1) (.int .i64 (T : Int)))
  clear p0 p1 p2 pf0 pf1 pf2 plt q0 q1 q2 qf0 qf1 qf2 qlt
  obtain ⟨W1, hW⟩ : ∃ W1, put3 w1 (w.heap.size + 1) (.bool (ngB J)) (.slice A1 n1 c1) (.int .i64 (T : Int)) = W1 := ⟨_, rfl⟩
  rw [hW] at E
  unfold put3 at hW
  rw [hW]
  clear hW
  refine (HN.out _ A1 n1 c1 (St.got E (A := A) (n := n) (c := c) (a := i.natAbs) (by simp)) (St.got E (A := A1) (n := n1) (c := c1) (a := J.natAbs) (by simp)) hn1).mono ?_; rintro e w2 ⟨A2, n2, c2, rfl, h1, hb1⟩
  have hnz := num_pos h1
  replace E := Lib.hid (St.push E.out hb1 h1); clear h1 hb1
  clear hmS hmS2 hms hmT
  have HNZ := Lib.hid hnz
  clear hnz
  go_wp2_with fail
  replace E := Lib.hid (St.drew E.out)
  go_region_held3 (fun v => v.cell? ⟨w.heap.size, 0, none⟩ = some (.bool (ngB i)) ∧ v.cell? ⟨w.heap.size, 1, none⟩ = some (.slice A n c) ∧ v.cell? ⟨w.heap.size, 2, none⟩ = some (.int .i64 (s : Int)) ∧ v.cell? ⟨w.heap.size + 1, 0, none⟩ = some (.bool (ngB J)) ∧ v.cell? ⟨w.heap.size + 1, 1, none⟩ = some (.slice A1 n1 c1) ∧ v.cell? ⟨w.heap.size + 1, 2, none⟩ = some (.int .i64 (T : Int))) (first | (have X0 := St.at_ (x0 := (.bool (ngB i))) (x1 := (.slice A n c)) (x2 := (.int .i64 (s : Int))) (g := w.heap.size) E (by simp); have X1 := St.at_ (x0 := (.bool (ngB J))) (x1 := (.slice A1 n1 c1)) (x2 := (.int .i64 (T : Int))) (g := (w.heap.size + 1)) E (by simp); with_reducible exact ⟨X0.c0, X0.c1, X0.c2, X1.c0, X1.c1, X1.c2⟩))
    (first | (go_at_call 33; first | ((with_reducible refine (isBelow_any A n c s i _ (St.got E (A := A) (n := n) (c := c) (a := i.natAbs) (by simp))).mono ?_); rintro e w3 ⟨rfl, hb1⟩; replace E := Lib.hid (St.step E.out hb1); clear hb1) | ((with_reducible refine (isBelow_any A1 n1 c1 T J _ (St.got E (A := A1) (n := n1) (c := c1) (a := J.natAbs) (by simp))).mono ?_); rintro e w4 ⟨rfl, hb1⟩; replace E := Lib.hid (St.step E.out hb1); clear hb1)))
  all_goals
    rw [show (!(ngB i == ngB J)) = false from hb3]
    clear hb3
    obtain ⟨r0, r1, r2, rf0, rf1, rf2, rlt⟩ := St.at_ (x0 := .bool false) (x1 := .slice none 0 0) (x2 := .int .i64 0) (g := (w.heap.size + 1 + 1)) E (by simp)
    go_wp2_with fail
    have EF := Lib.hid (St.store E.out (g := (w.heap.size + 1 + 1)) (x0 := .bool false) (x1 := .slice none 0 0) (x2 := .int .i64 0) (by simp) (noLimb_bool _) (noLimb_slice _ _ _) (noLimb_int _) [] (fun q hq => by cases hq) (.bool false) (.slice A2 n2 c2) (.int .i64 (S : Int)))
    obtain ⟨e0, e1, e2, _, _, _, _⟩ := St.at_ (x0 := .bool false) (x1 := .slice A2 n2 c2) (x2 := .int .i64 (S : Int)) (g := (w.heap.size + 1 + 1)) EF (by simp)
    exact bodyPost_ret (v := .tuple #[.agg #[.bool false, .slice A2 n2 c2, .int .i64 (S : Int)], .int .i64 0]) (by simp [results, Try.results18, go_sem, e0, e1, e2]) rfl ⟨A2, n2, c2, by rw [← HD.out, ng_sgn]; simp [HNZ.out], by rw [← HD.out, abs_sgn]; exact St.got EF (by simp), EF.out.bel⟩

set_option maxRecDepth 100000 in
set_option maxHeartbeats 4000000 in
theorem div_apart (A A' : Option Addr) (n c n' c' s t S : Nat) (i j v : Int) (w : World) (h : Num w w.heap.size A n c i.natAbs) (h' : Num w w.heap.size A' n' c' j.natAbs) (hn : n ≤ 1000) (hn' : n' ≤ 1000) (hs : s ≤ 1000) (ht : t ≤ 1000) (hv : max v 0 = (S : Int)) (hS : S ≤ 1000) (h0 : j ≠ 0) (hb : ngB i ≠ ngB j) :
    Calls Try.prog 18 #[.agg #[.bool (ngB i), .slice A n c, .int .i64 (s : Int)], .agg #[.bool (ngB j), .slice A' n' c', .int .i64 (t : Int)], .int .i64 v] w (RetDecE w (divZ i s j t S) S) := by

  have hkt := stripK_le j t 0
  obtain ⟨T, hT⟩ : ∃ T, t - stripK j t 0 = T := ⟨_, rfl⟩
  obtain ⟨J, hJ⟩ : ∃ J, stripI j t 0 = J := ⟨_, rfl⟩
  have HJ := Lib.hid hJ
  have HT := Lib.hid hT
  have HJL : Hid ((dg J.natAbs).length ≤ 1000) := by
    show _ ≤ _
    have e := (strip_abs j t 0).1
    rw [hJ] at e
    have : J.natAbs ≤ j.natAbs := by rw [← e]; exact Nat.le_mul_of_pos_right _ (ten_pos _)
    have := dg_len_mono this
    rw [h'.len] at this
    omega
  have hTt : T ≤ t := by omega
  have hmS := max_gen (P := Try.prog) hv
  have hmS2 := min_gen (P := Try.prog) (x := (S : Int)) (y := 2000000) (z := (S : Int)) (by omega)
  have hms := max_zero (P := Try.prog) (s := s)
  have hmT := min_gen (P := Try.prog) (x := (T : Int) - (s : Int)) (y := 2000000) (z := (T : Int) - (s : Int)) (by omega)
  have H := Lib.hid h
  have H' := Lib.hid h'
  have HN : Hid (∀ (w0 : World) (A1 : Option Addr) (n1 c1 : Nat), Num w0 w0.heap.size A n c i.natAbs → Num w0 w0.heap.size A1 n1 c1 J.natAbs → n1 ≤ 1000 → Calls Try.prog 41 #[.slice A n c, .slice A1 n1 c1, .int .i64 ((S : Int) + ((T : Int) - (s : Int)))] w0 (RetSub w0 (nearN (i.natAbs * 10 ^ (S + t)) (j.natAbs * 10 ^ s)))) := by
    intro w0 A1 n1 c1 g1 g2 g3
    have hJ0 : 0 < J.natAbs := by
      have e := (strip_abs j t 0).1
      rw [hJ] at e
      rcases Nat.eq_zero_or_pos J.natAbs with h1 | h1
      · rw [h1] at e; omega
      · exact h1
    rcases Int.lt_or_le ((S : Int) + ((T : Int) - (s : Int))) 0 with hh | hh
    · obtain ⟨d, hd⟩ : ∃ d : Nat, ((S : Int) + ((T : Int) - (s : Int))) = -(d : Int) := ⟨(-((S : Int) + ((T : Int) - (s : Int)))).toNat, by omega⟩
      refine nearest_down (d := d) g1 g2 (by omega) (by omega) (by omega) (by omega) hd hJ0 ?_
      rw [← hJ]
      exact div_down h0 rfl (by rw [hT]; omega) g1.len (by omega)
    · obtain ⟨d, hd⟩ : ∃ d : Nat, ((S : Int) + ((T : Int) - (s : Int))) = (d : Int) := ⟨((S : Int) + ((T : Int) - (s : Int))).toNat, by omega⟩
      refine nearest_up (k := d) g1 g2 (by omega) (by omega) hd hJ0 ?_ ?_
      · have := up_len (i := i) (s := 0) (M := d) g1.len
        rw [abs_up, Nat.sub_zero] at this
        omega
      · rw [← hJ]
        exact div_up h0 rfl (by rw [hT]; omega)
  have HD : Hid (sgn true (nearN (i.natAbs * 10 ^ (S + t)) (j.natAbs * 10 ^ s)) = divZ i s j t S) := by show _ = _; unfold divZ; rw [bool_neq hb]
  have hJb : ngB i ≠ ngB J := by rw [← hJ, strip_ng]; exact hb
  obtain ⟨x, hx⟩ : ∃ x, nearN (i.natAbs * 10 ^ (S + t)) (j.natAbs * 10 ^ s) = x := ⟨_, rfl⟩
  obtain ⟨z, hz⟩ : ∃ z, divZ i s j t S = z := ⟨_, rfl⟩
  rw [hx] at HN HD
  rw [hz] at HD ⊢
  have hb3 := bool_neq hJb
  clear h h' hv hJ hT hkt h0 hb hx hz hJb
  go_enter Try.func18, Try.ntmps18
  go_wp2_with fail
  generalize hW : World.alloc (World.alloc (World.alloc w _) _) _ = W0
  have E0 : St w W0 [(A, n, c, (i).natAbs), (A', n', c', (j).natAbs)] [((w.heap.size + 1 + 1), .bool false, .slice none 0 0, .int .i64 0), ((w.heap.size + 1), (.bool (ngB j)), (.slice A' n' c'), (.int .i64 (t : Int))), (w.heap.size, (.bool (ngB i)), (.slice A n c), (.int .i64 (s : Int)))] := by rw [← hW]; exact (((start_two H.out H'.out).lay rfl).lay (by simp)).lay (by simp)
  have E := Lib.hid E0
  clear hW E0
  obtain ⟨q0, q1, q2, qf0, qf1, qf2, qlt⟩ := St.at_ (x0 := (.bool (ngB j))) (x1 := (.slice A' n' c')) (x2 := (.int .i64 (t : Int))) (g := (w.heap.size + 1)) E (by simp)
  go_wp2_with fail
  refine (strip_is5 (L := 0) (St.got E (A := A') (n := n') (c := c') (a := j.natAbs) (by simp)) (by omega) (by omega) rfl (by omega) HT.out HJ.out).mono ?_; rintro e w1 ⟨A1, n1, c1, rfl, h1, hb1⟩
  have hn1 : n1 ≤ 1000 := by have := h1.len; have := HJL.out; omega
  replace E := Lib.hid (St.push E.out hb1 h1); clear h1 hb1
  clear q0 q1 q2 qf0 qf1 qf2 qlt
  obtain ⟨p0, p1, p2, pf0, pf1, pf2, plt⟩ := St.at_ (x0 := (.bool (ngB i))) (x1 := (.slice A n c)) (x2 := (.int .i64 (s : Int))) (g := w.heap.size) E (by simp)
  obtain ⟨q0, q1, q2, qf0, qf1, qf2, qlt⟩ := St.at_ (x0 := (.bool (ngB j))) (x1 := (.slice A' n' c')) (x2 := (.int .i64 (t : Int))) (g := (w.heap.size + 1)) E (by simp)
  go_wp2_with fail
  replace E := Lib.hid (St.store E.out (g := (w.heap.size + 1)) (x0 := .bool (ngB j)) (x1 := .slice A' n' c') (x2 := .int .i64 (t : Int)) (by simp) (noLimb_bool _) (noLimb_slice _ _ _) (noLimb_int _) [((w.heap.size + 1 + 1), .bool false, .slice none 0 0, .int .i64 0), (w.heap.size, (.bool (ngB i)), (.slice A n c), (.int .i64 (s : Int)))] (by simp <;> omega) (.bool (ngB J)) (.slice A1 n1 c1) (.int .i64 (T : Int)))
  clear p0 p1 p2 pf0 pf1 pf2 plt q0 q1 q2 qf0 qf1 qf2 qlt
  obtain ⟨W1, hW⟩ : ∃ W1, put3 w1 (w.heap.size + 1) (.bool (ngB J)) (.slice A1 n1 c1) (.int .i64 (T : Int)) = W1 := ⟨_, rfl⟩
  rw [hW] at E
  unfold put3 at hW
  rw [hW]
  clear hW
  refine (HN.out _ A1 n1 c1 (St.got E (A := A) (n := n) (c := c) (a := i.natAbs) (by simp)) (St.got E (A := A1) (n := n1) (c := c1) (a := J.natAbs) (by simp)) hn1).mono ?_; rintro e w2 ⟨A2, n2, c2, rfl, h1, hb1⟩
  have hnz := num_pos h1
  replace E := Lib.hid (St.push E.out hb1 h1); clear h1 hb1
  clear hmS hmS2 hms hmT
  have HNZ := Lib.hid hnz
  clear hnz
  go_wp2_with fail
  replace E := Lib.hid (St.drew E.out)
  go_region_held3 (fun v => v.cell? ⟨w.heap.size, 0, none⟩ = some (.bool (ngB i)) ∧ v.cell? ⟨w.heap.size, 1, none⟩ = some (.slice A n c) ∧ v.cell? ⟨w.heap.size, 2, none⟩ = some (.int .i64 (s : Int)) ∧ v.cell? ⟨w.heap.size + 1, 0, none⟩ = some (.bool (ngB J)) ∧ v.cell? ⟨w.heap.size + 1, 1, none⟩ = some (.slice A1 n1 c1) ∧ v.cell? ⟨w.heap.size + 1, 2, none⟩ = some (.int .i64 (T : Int))) (first | (have X0 := St.at_ (x0 := (.bool (ngB i))) (x1 := (.slice A n c)) (x2 := (.int .i64 (s : Int))) (g := w.heap.size) E (by simp); have X1 := St.at_ (x0 := (.bool (ngB J))) (x1 := (.slice A1 n1 c1)) (x2 := (.int .i64 (T : Int))) (g := (w.heap.size + 1)) E (by simp); with_reducible exact ⟨X0.c0, X0.c1, X0.c2, X1.c0, X1.c1, X1.c2⟩))
    (first | (go_at_call 33; first | ((with_reducible refine (isBelow_any A n c s i _ (St.got E (A := A) (n := n) (c := c) (a := i.natAbs) (by simp))).mono ?_); rintro e w3 ⟨rfl, hb1⟩; replace E := Lib.hid (St.step E.out hb1); clear hb1) | ((with_reducible refine (isBelow_any A1 n1 c1 T J _ (St.got E (A := A1) (n := n1) (c := c1) (a := J.natAbs) (by simp))).mono ?_); rintro e w4 ⟨rfl, hb1⟩; replace E := Lib.hid (St.step E.out hb1); clear hb1)))
  all_goals
    rw [show (!(ngB i == ngB J)) = true from hb3]
    clear hb3
    obtain ⟨r0, r1, r2, rf0, rf1, rf2, rlt⟩ := St.at_ (x0 := .bool false) (x1 := .slice none 0 0) (x2 := .int .i64 0) (g := (w.heap.size + 1 + 1)) E (by simp)
    go_wp2_with fail
    have EF := Lib.hid (St.store E.out (g := (w.heap.size + 1 + 1)) (x0 := .bool false) (x1 := .slice none 0 0) (x2 := .int .i64 0) (by simp) (noLimb_bool _) (noLimb_slice _ _ _) (noLimb_int _) [] (fun q hq => by cases hq) (.bool (decide (0 < n2))) (.slice A2 n2 c2) (.int .i64 (S : Int)))
    obtain ⟨e0, e1, e2, _, _, _, _⟩ := St.at_ (x0 := .bool (decide (0 < n2))) (x1 := .slice A2 n2 c2) (x2 := .int .i64 (S : Int)) (g := (w.heap.size + 1 + 1)) EF (by simp)
    exact bodyPost_ret (v := .tuple #[.agg #[.bool (decide (0 < n2)), .slice A2 n2 c2, .int .i64 (S : Int)], .int .i64 0]) (by simp [results, Try.results18, go_sem, e0, e1, e2]) rfl ⟨A2, n2, c2, by rw [← HD.out, ng_sgn]; simp [HNZ.out], by rw [← HD.out, abs_sgn]; exact St.got EF (by simp), EF.out.bel⟩

theorem rdiv_is {A A' : Option Addr} {n c n' c' s t S : Nat} {i j v z : Int} {w : World} (h : Num w w.heap.size A n c i.natAbs) (h' : Num w w.heap.size A' n' c' j.natAbs) (hn : n ≤ 1000) (hn' : n' ≤ 1000) (hs : s ≤ 1000) (ht : t ≤ 1000) (hv : max v 0 = (S : Int)) (hS : S ≤ 1000) (h0 : j ≠ 0) (hz : divZ i s j t S = z) :
    Calls Try.prog 18 #[.agg #[.bool (ngB i), .slice A n c, .int .i64 (s : Int)], .agg #[.bool (ngB j), .slice A' n' c', .int .i64 (t : Int)], .int .i64 v] w (RetDecE w z S) := by
  subst hz
  by_cases hb : ngB i = ngB j
  · exact div_same A A' n c n' c' s t S i j v w h h' hn hn' hs ht hv hS h0 hb
  · exact div_apart A A' n c n' c' s t S i j v w h h' hn hn' hs ht hv hS h0 hb
theorem rdiv_zero {A A' : Option Addr} {n c n' c' s t S : Nat} {i j v : Int} {w : World} (h : Num w w.heap.size A n c i.natAbs) (h' : Num w w.heap.size A' n' c' j.natAbs) (hn : n ≤ 1000) (hn' : n' ≤ 1000) (hs : s ≤ 1000) (ht : t ≤ 1000) (hv : max v 0 = (S : Int)) (hS : S ≤ 1000) (h0 : j = 0) :
    Calls Try.prog 18 #[.agg #[.bool (ngB i), .slice A n c, .int .i64 (s : Int)], .agg #[.bool (ngB j), .slice A' n' c', .int .i64 (t : Int)], .int .i64 v] w (RetVal w (.tuple #[.agg #[.bool false, .slice none 0 0, .int .i64 0], .int .i64 4])) :=
  divZero_any A A' n c n' c' s t S i j v w h h' hn hn' hs ht hv hS h0

end Go.Proofs.Ytllcjahekckbfaa
