/-
  Contracts of layer 5, the thirteenth part: Strip and the document's.
-/
import Derived.Test.YtafbkoejobkncaaDecM
import Derived.Test.YtafbkoejobkncaaAllDigF
namespace Go.Proofs.Ytafbkoejobkncaa
open Go.RowKit

theorem max_gen {P : Program} {x y z : Int} (h : max x y = z) (ts : Array TypeId) (ty : TypeId) (W : World) : (Builtin.max_ ts ty #[.int .i64 x, .int .i64 y]).run P W = .ok (.int .i64 z) W := by
  rw [run_max_int2]
  have e : (if y > x then y else x) = z := by rw [← h]; split <;> omega
  rw [e]
theorem min_gen {P : Program} {x y z : Int} (h : min x y = z) (ts : Array TypeId) (ty : TypeId) (W : World) : (Builtin.min_ ts ty #[.int .i64 x, .int .i64 y]).run P W = .ok (.int .i64 z) W := by
  rw [run_min_int2]
  have e : (if y < x then y else x) = z := by rw [← h]; split <;> omega
  rw [e]
/-- How many noughts go. -/
def stripK (i : Int) (s L : Nat) : Nat := if i = 0 then s - L else min (s - L) (tz i.natAbs)
/-- What is left of the digits. -/
def stripI (i : Int) (s L : Nat) : Int := sgn (ngB i) (i.natAbs / 10 ^ stripK i s L)
theorem stripK_le (i : Int) (s L : Nat) : stripK i s L ≤ s := by unfold stripK; split <;> omega

set_option maxHeartbeats 4000000 in
theorem strip_zero (A : Option Addr) (n c s L : Nat) (i v : Int) (w : World) (h : Num w w.heap.size A n c i.natAbs) (hn : n ≤ 1000) (hs : s ≤ 100000) (hv : max v 0 = (L : Int)) (hL : L ≤ 9223372036854775807) (h0 : i = 0) :
    Calls Try.prog 34 #[.agg #[.bool (ngB i), .slice A n c, .int .i64 (s : Int)], .int .i64 v] w (RetDec w (stripI i s L) (s - stripK i s L)) := by
  have hnz := num_pos_iff h
  obtain ⟨k, hk⟩ : ∃ k, stripK i s L = k := ⟨_, rfl⟩
  have hks := stripK_le i s L
  obtain ⟨x, hx⟩ : ∃ x, stripI i s L = x := ⟨_, rfl⟩
  have HX0 : sgn (ngB i) (i.natAbs / 10 ^ k) = x := by rw [← hx, ← hk]; rfl
  have HXA : Hid (i.natAbs / 10 ^ k = x.natAbs) := (by show _ = _; rw [← HX0, abs_sgn])
  have HX : Hid (sgn (ngB i) x.natAbs = x) := (by show _ = _; rw [← HXA.out]; exact HX0)
  rw [hx, hk]
  rw [hk] at hks
  unfold stripK at hk
  clear hx HX0
  rw [if_pos h0] at hk
  have hn0 : n = 0 := by rcases Nat.eq_zero_or_pos n with h1 | h1; exact h1; have := hnz.1 h1; omega
  subst hn0
  have hm1 := max_gen (P := Try.prog) hv
  have hm2 := max_gen (P := Try.prog) (x := (s : Int) - (L : Int)) (y := 0) (z := ((s - L : Nat) : Int)) (by omega)
  obtain ⟨d0, hd0⟩ : ∃ d0, s - L = d0 := ⟨_, rfl⟩
  rw [hd0] at hm2 hk
  subst hk
  have hsm := max_zero (P := Try.prog) (s := s)
  obtain ⟨r, hr⟩ : ∃ r, s - d0 = r := ⟨_, rfl⟩
  have hsk : (s : Int) - (d0 : Int) = (r : Int) := by omega
  rw [hr]
  have hrb : r ≤ 100000 := by omega
  have hkb : d0 ≤ 100000 := by omega
  have H := Lib.hid h
  have HZ : Hid (i = 0) := h0
  clear h hv hr hd0 hnz h0
  go_enter Try.func34, Try.ntmps34
  go_wp2_with fail
  generalize hW : World.alloc (World.alloc w _) _ = W0
  have E0 : St w W0 [(A, 0, c, (i).natAbs)] [((w.heap.size + 1), .bool false, .slice none 0 0, .int .i64 0), (w.heap.size, (.bool (ngB i)), (.slice A 0 c), (.int .i64 (s : Int)))] := by rw [← hW]; exact ((start_one H.out).lay rfl).lay (by simp)
  have E := Lib.hid E0
  clear hW E0
  obtain ⟨p0, p1, p2, pf0, pf1, pf2, plt⟩ := St.at_ (x0 := (.bool (ngB i))) (x1 := (.slice A 0 c)) (x2 := (.int .i64 (s : Int))) (g := w.heap.size) E (by simp)
  go_wp2_with fail
  clear hm1 hm2 hsm
  refine (drop_is (a := i.natAbs) (k := d0) (St.got E (by simp)) (by omega) (by omega) rfl HXA.out).mono ?_; rintro e w2 ⟨A1, n1, c1, rfl, h1, hb1⟩; replace E := Lib.hid (St.push E.out hb1 h1); clear h1 hb1
  clear p0 p1 p2 pf0 pf1 pf2 plt
  obtain ⟨p0, p1, p2, pf0, pf1, pf2, plt⟩ := St.at_ (x0 := (.bool (ngB i))) (x1 := (.slice A 0 c)) (x2 := (.int .i64 (s : Int))) (g := w.heap.size) E (by simp)
  go_wp2_with fail
  refine (decimal_is (b := ngB i) (A := A1) (n := n1) (c := c1) (s := r) (St.got E (by simp)) (by omega) HX.out).mono ?_; rintro e w3 ⟨rfl, hb1⟩; replace E := Lib.hid (St.step E.out hb1); clear hb1
  clear p0 p1 p2 pf0 pf1 pf2 plt
  obtain ⟨r0, r1, r2, rf0, rf1, rf2, rlt⟩ := St.at_ (x0 := .bool false) (x1 := .slice none 0 0) (x2 := .int .i64 0) (g := (w.heap.size + 1)) E (by simp)
  go_wp2_with fail
  have EF := Lib.hid (St.store E.out (g := (w.heap.size + 1)) (x0 := .bool false) (x1 := .slice none 0 0) (x2 := .int .i64 0) (by simp) (noLimb_bool _) (noLimb_slice _ _ _) (noLimb_int _) [] (fun q hq => by cases hq) (.bool (ngB (x))) (.slice A1 n1 c1) (.int .i64 (r : Int)))
  obtain ⟨e0, e1, e2, _, _, _, _⟩ := St.at_ (x0 := .bool (ngB (x))) (x1 := .slice A1 n1 c1) (x2 := .int .i64 (r : Int)) (g := (w.heap.size + 1)) EF (by simp)
  exact bodyPost_ret (v := .agg #[.bool (ngB (x)), .slice A1 n1 c1, .int .i64 (r : Int)]) (by simp [results, Try.results34, go_sem, e0, e1, e2]) rfl ⟨A1, n1, c1, rfl, St.got EF (by simp), EF.out.bel⟩

set_option maxHeartbeats 4000000 in
theorem strip_pos (A : Option Addr) (n c s L : Nat) (i v : Int) (w : World) (h : Num w w.heap.size A n c i.natAbs) (hn : n ≤ 1000) (hs : s ≤ 100000) (hv : max v 0 = (L : Int)) (hL : L ≤ 9223372036854775807) (h0 : i ≠ 0) :
    Calls Try.prog 34 #[.agg #[.bool (ngB i), .slice A n c, .int .i64 (s : Int)], .int .i64 v] w (RetDec w (stripI i s L) (s - stripK i s L)) := by
  have hnz := num_pos_iff h
  obtain ⟨k, hk⟩ : ∃ k, stripK i s L = k := ⟨_, rfl⟩
  have hks := stripK_le i s L
  obtain ⟨x, hx⟩ : ∃ x, stripI i s L = x := ⟨_, rfl⟩
  have HX0 : sgn (ngB i) (i.natAbs / 10 ^ k) = x := by rw [← hx, ← hk]; rfl
  have HXA : Hid (i.natAbs / 10 ^ k = x.natAbs) := (by show _ = _; rw [← HX0, abs_sgn])
  have HX : Hid (sgn (ngB i) x.natAbs = x) := (by show _ = _; rw [← HXA.out]; exact HX0)
  rw [hx, hk]
  rw [hk] at hks
  unfold stripK at hk
  clear hx HX0
  rw [if_neg h0] at hk
  have hn0 : 0 < n := hnz.2 (by omega)
  obtain ⟨T, hT⟩ : ∃ T, tz i.natAbs = T := ⟨_, rfl⟩
  rw [hT] at hk
  have HT := Lib.hid hT
  clear hT
  have hm1 := max_gen (P := Try.prog) hv
  have hm2 := max_gen (P := Try.prog) (x := (s : Int) - (L : Int)) (y := 0) (z := ((s - L : Nat) : Int)) (by omega)
  obtain ⟨d0, hd0⟩ : ∃ d0, s - L = d0 := ⟨_, rfl⟩
  rw [hd0] at hm2 hk
  have hm3 := min_gen (P := Try.prog) (x := (d0 : Int)) (y := (T : Int)) (z := (k : Int)) (by omega)
  have hsm := max_zero (P := Try.prog) (s := s)
  obtain ⟨r, hr⟩ : ∃ r, s - k = r := ⟨_, rfl⟩
  have hsk : (s : Int) - (k : Int) = (r : Int) := by omega
  rw [hr]
  have hrb : r ≤ 100000 := by omega
  have hkb : k ≤ 100000 := by omega
  have H := Lib.hid h
  have HZ : Hid (i ≠ 0) := h0
  clear h hv hr hd0 hnz h0 hk
  go_enter Try.func34, Try.ntmps34
  go_wp2_with fail
  generalize hW : World.alloc (World.alloc w _) _ = W0
  have E0 : St w W0 [(A, n, c, (i).natAbs)] [((w.heap.size + 1), .bool false, .slice none 0 0, .int .i64 0), (w.heap.size, (.bool (ngB i)), (.slice A n c), (.int .i64 (s : Int)))] := by rw [← hW]; exact ((start_one H.out).lay rfl).lay (by simp)
  have E := Lib.hid E0
  clear hW E0
  obtain ⟨p0, p1, p2, pf0, pf1, pf2, plt⟩ := St.at_ (x0 := (.bool (ngB i))) (x1 := (.slice A n c)) (x2 := (.int .i64 (s : Int))) (g := w.heap.size) E (by simp)
  go_wp2_with fail
  refine (noughts_is (B := W0.heap.size) (St.got E (by simp)) (by omega) HT.out).mono ?_; rintro e w1 ⟨rfl, rfl⟩
  go_wp2_with fail
  clear hm1 hm2 hm3 hsm
  refine (drop_is (a := i.natAbs) (k := k) (St.got E (by simp)) (by omega) (by omega) rfl HXA.out).mono ?_; rintro e w2 ⟨A1, n1, c1, rfl, h1, hb1⟩; replace E := Lib.hid (St.push E.out hb1 h1); clear h1 hb1
  clear p0 p1 p2 pf0 pf1 pf2 plt
  obtain ⟨p0, p1, p2, pf0, pf1, pf2, plt⟩ := St.at_ (x0 := (.bool (ngB i))) (x1 := (.slice A n c)) (x2 := (.int .i64 (s : Int))) (g := w.heap.size) E (by simp)
  go_wp2_with fail
  refine (decimal_is (b := ngB i) (A := A1) (n := n1) (c := c1) (s := r) (St.got E (by simp)) (by omega) HX.out).mono ?_; rintro e w3 ⟨rfl, hb1⟩; replace E := Lib.hid (St.step E.out hb1); clear hb1
  clear p0 p1 p2 pf0 pf1 pf2 plt
  obtain ⟨r0, r1, r2, rf0, rf1, rf2, rlt⟩ := St.at_ (x0 := .bool false) (x1 := .slice none 0 0) (x2 := .int .i64 0) (g := (w.heap.size + 1)) E (by simp)
  go_wp2_with fail
  have EF := Lib.hid (St.store E.out (g := (w.heap.size + 1)) (x0 := .bool false) (x1 := .slice none 0 0) (x2 := .int .i64 0) (by simp) (noLimb_bool _) (noLimb_slice _ _ _) (noLimb_int _) [] (fun q hq => by cases hq) (.bool (ngB (x))) (.slice A1 n1 c1) (.int .i64 (r : Int)))
  obtain ⟨e0, e1, e2, _, _, _, _⟩ := St.at_ (x0 := .bool (ngB (x))) (x1 := .slice A1 n1 c1) (x2 := .int .i64 (r : Int)) (g := (w.heap.size + 1)) EF (by simp)
  exact bodyPost_ret (v := .agg #[.bool (ngB (x)), .slice A1 n1 c1, .int .i64 (r : Int)]) (by simp [results, Try.results34, go_sem, e0, e1, e2]) rfl ⟨A1, n1, c1, rfl, St.got EF (by simp), EF.out.bel⟩

theorem strip_any (A : Option Addr) (n c s L : Nat) (i v : Int) (w : World) (h : Num w w.heap.size A n c i.natAbs) (hn : n ≤ 1000) (hs : s ≤ 100000) (hv : max v 0 = (L : Int)) (hL : L ≤ 9223372036854775807) :
    Calls Try.prog 34 #[.agg #[.bool (ngB i), .slice A n c, .int .i64 (s : Int)], .int .i64 v] w (RetDec w (stripI i s L) (s - stripK i s L)) := by
  by_cases h0 : i = 0
  · exact strip_zero A n c s L i v w h hn hs hv hL h0
  · exact strip_pos A n c s L i v w h hn hs hv hL h0

set_option maxHeartbeats 4000000 in
theorem refStrip_zero (A : Option Addr) (n c s L : Nat) (i v : Int) (w : World) (h : Num w w.heap.size A n c i.natAbs) (hn : n ≤ 1000) (hs : s ≤ 100000) (hv : max v 0 = (L : Int)) (hL : L ≤ 9223372036854775807) (h0 : i = 0) :
    Calls Try.prog 35 #[.agg #[.bool (ngB i), .slice A n c, .int .i64 (s : Int)], .int .i64 v] w (RetDec w (stripI i s L) (s - stripK i s L)) := by
  have hnz := num_pos_iff h
  obtain ⟨k, hk⟩ : ∃ k, stripK i s L = k := ⟨_, rfl⟩
  have hks := stripK_le i s L
  obtain ⟨x, hx⟩ : ∃ x, stripI i s L = x := ⟨_, rfl⟩
  have HX0 : sgn (ngB i) (i.natAbs / 10 ^ k) = x := by rw [← hx, ← hk]; rfl
  have HXA : Hid (i.natAbs / 10 ^ k = x.natAbs) := (by show _ = _; rw [← HX0, abs_sgn])
  have HX : Hid (sgn (ngB i) x.natAbs = x) := (by show _ = _; rw [← HXA.out]; exact HX0)
  rw [hx, hk]
  rw [hk] at hks
  unfold stripK at hk
  clear hx HX0
  rw [if_pos h0] at hk
  have hn0 : n = 0 := by rcases Nat.eq_zero_or_pos n with h1 | h1; exact h1; have := hnz.1 h1; omega
  subst hn0
  have hm1 := max_gen (P := Try.prog) (x := 0) (y := v) (z := (L : Int)) (by omega)
  have hm2 := min_gen (P := Try.prog) (x := (s : Int)) (y := (L : Int)) (z := ((s - k : Nat) : Int)) (by omega)
  obtain ⟨r, hr⟩ : ∃ r, s - k = r := ⟨_, rfl⟩
  rw [hr] at hm2 ⊢
  have hx0 : x = 0 := by
    have e1 := HXA.out
    subst h0
    rw [show (0 : Int).natAbs = 0 from rfl, Nat.zero_div] at e1
    omega
  subst hx0
  have H := Lib.hid h
  clear h hv hr hk hnz h0 HX HXA
  go_enter Try.func35, Try.ntmps35
  go_wp2
  exact bodyPost_ret (v := .agg #[.bool false, .slice none 0 0, .int .i64 (r : Int)]) (by simp [results, Try.results35, go_sem]) rfl ⟨none, 0, 0, rfl, by rw [show (0 : Int).natAbs = 0 from rfl, Num, dg_zero]; exact Lim.nil, ((Below.refl _ _).alloc (Nat.le_refl _) _).alloc (by simp) _⟩

set_option maxHeartbeats 4000000 in
theorem refStrip_pos (A : Option Addr) (n c s L : Nat) (i v : Int) (w : World) (h : Num w w.heap.size A n c i.natAbs) (hn : n ≤ 1000) (hs : s ≤ 100000) (hv : max v 0 = (L : Int)) (hL : L ≤ 9223372036854775807) (h0 : i ≠ 0) :
    Calls Try.prog 35 #[.agg #[.bool (ngB i), .slice A n c, .int .i64 (s : Int)], .int .i64 v] w (RetDec w (stripI i s L) (s - stripK i s L)) := by
  have hnz := num_pos_iff h
  obtain ⟨k, hk⟩ : ∃ k, stripK i s L = k := ⟨_, rfl⟩
  have hks := stripK_le i s L
  obtain ⟨x, hx⟩ : ∃ x, stripI i s L = x := ⟨_, rfl⟩
  have HX0 : sgn (ngB i) (i.natAbs / 10 ^ k) = x := by rw [← hx, ← hk]; rfl
  have HXA : Hid (i.natAbs / 10 ^ k = x.natAbs) := (by show _ = _; rw [← HX0, abs_sgn])
  have HX : Hid (sgn (ngB i) x.natAbs = x) := (by show _ = _; rw [← HXA.out]; exact HX0)
  rw [hx, hk]
  rw [hk] at hks
  unfold stripK at hk
  clear hx HX0
  rw [if_neg h0] at hk
  have hn0 : 0 < n := hnz.2 (by omega)
  obtain ⟨T, hT⟩ : ∃ T, tz i.natAbs = T := ⟨_, rfl⟩
  rw [hT] at hk
  have HT := Lib.hid hT
  clear hT
  have hm1 := max_gen (P := Try.prog) (x := 0) (y := v) (z := (L : Int)) (by omega)
  obtain ⟨m, hm⟩ : ∃ m, min (T : Int) ((s : Int) - (L : Int)) = m := ⟨_, rfl⟩
  have hm2 := min_gen (P := Try.prog) hm
  have hm3 := max_gen (P := Try.prog) (x := 0) (y := m) (z := (k : Int)) (by omega)
  obtain ⟨r, hr⟩ : ∃ r, s - k = r := ⟨_, rfl⟩
  have hsk : (s : Int) - (k : Int) = (r : Int) := by omega
  rw [hr]
  have hw : IntKind.i64.wrap ((s : Int) - (L : Int)) = (s : Int) - (L : Int) := IntWalk.i64_in _ ⟨by omega, by omega⟩
  have hrb : r ≤ 100000 := by omega
  have hkb : k ≤ 100000 := by omega
  have H := Lib.hid h
  clear h hv hr hnz h0 hk hm
  go_enter Try.func35, Try.ntmps35
  go_wp2_with fail
  generalize hW : World.alloc (World.alloc w _) _ = W0
  have E0 : St w W0 [(A, n, c, (i).natAbs)] [((w.heap.size + 1), .bool false, .slice none 0 0, .int .i64 0), (w.heap.size, (.bool (ngB i)), (.slice A n c), (.int .i64 (s : Int)))] := by rw [← hW]; exact ((start_one H.out).lay rfl).lay (by simp)
  have E := Lib.hid E0
  clear hW E0
  obtain ⟨p0, p1, p2, pf0, pf1, pf2, plt⟩ := St.at_ (x0 := (.bool (ngB i))) (x1 := (.slice A n c)) (x2 := (.int .i64 (s : Int))) (g := w.heap.size) E (by simp)
  go_wp2_with fail
  clear p0 p1 p2 pf0 pf1 pf2 plt
  replace E := Lib.hid (St.drew E.out)
  go_region_held3 (fun v => v.cell? ⟨w.heap.size, 0, none⟩ = some (.bool (ngB i)) ∧ v.cell? ⟨w.heap.size, 1, none⟩ = some (.slice A n c) ∧ v.cell? ⟨w.heap.size, 2, none⟩ = some (.int .i64 (s : Int))) (first | (have X0 := St.at_ (x0 := (.bool (ngB i))) (x1 := (.slice A n c)) (x2 := (.int .i64 (s : Int))) (g := w.heap.size) E (by simp); with_reducible exact ⟨X0.c0, X0.c1, X0.c2⟩))
    (first | (go_at_call 66; refine (rnoughts_is (St.got E (by simp)) (by omega) HT.out).mono ?_; rintro e w1 ⟨rfl, hb1⟩; replace E := Lib.hid (St.step E.out hb1); clear hb1))
  all_goals
    clear hw hm1 hm2 hm3
    obtain ⟨p0, p1, p2, pf0, pf1, pf2, plt⟩ := St.at_ (x0 := (.bool (ngB i))) (x1 := (.slice A n c)) (x2 := (.int .i64 (s : Int))) (g := w.heap.size) E (by simp)
    go_wp2_with fail
    refine (rdrop_is (a := i.natAbs) (k := k) (St.got E (by simp)) (by omega) (by omega) rfl HXA.out).mono ?_; rintro e w2 ⟨A1, n1, c1, rfl, h1, hb1⟩; replace E := Lib.hid (St.push E.out hb1 h1); clear h1 hb1
    clear p0 p1 p2 pf0 pf1 pf2 plt
    obtain ⟨p0, p1, p2, pf0, pf1, pf2, plt⟩ := St.at_ (x0 := (.bool (ngB i))) (x1 := (.slice A n c)) (x2 := (.int .i64 (s : Int))) (g := w.heap.size) E (by simp)
    go_wp2_with fail
    refine (refDone_is (b := ngB i) (A := A1) (n := n1) (c := c1) (s := r) (St.got E (by simp)) (by omega) HX.out).mono ?_; rintro e w3 ⟨rfl, hb1⟩; replace E := Lib.hid (St.step E.out hb1); clear hb1
    clear p0 p1 p2 pf0 pf1 pf2 plt
    obtain ⟨r0, r1, r2, rf0, rf1, rf2, rlt⟩ := St.at_ (x0 := .bool false) (x1 := .slice none 0 0) (x2 := .int .i64 0) (g := (w.heap.size + 1)) E (by simp)
    go_wp2_with fail
    have EF := Lib.hid (St.store E.out (g := (w.heap.size + 1)) (x0 := .bool false) (x1 := .slice none 0 0) (x2 := .int .i64 0) (by simp) (noLimb_bool _) (noLimb_slice _ _ _) (noLimb_int _) [] (fun q hq => by cases hq) (.bool (ngB (x))) (.slice A1 n1 c1) (.int .i64 (r : Int)))
    obtain ⟨e0, e1, e2, _, _, _, _⟩ := St.at_ (x0 := .bool (ngB (x))) (x1 := .slice A1 n1 c1) (x2 := .int .i64 (r : Int)) (g := (w.heap.size + 1)) EF (by simp)
    exact bodyPost_ret (v := .agg #[.bool (ngB (x)), .slice A1 n1 c1, .int .i64 (r : Int)]) (by simp [results, Try.results35, go_sem, e0, e1, e2]) rfl ⟨A1, n1, c1, rfl, St.got EF (by simp), EF.out.bel⟩

theorem refStrip_any (A : Option Addr) (n c s L : Nat) (i v : Int) (w : World) (h : Num w w.heap.size A n c i.natAbs) (hn : n ≤ 1000) (hs : s ≤ 100000) (hv : max v 0 = (L : Int)) (hL : L ≤ 9223372036854775807) :
    Calls Try.prog 35 #[.agg #[.bool (ngB i), .slice A n c, .int .i64 (s : Int)], .int .i64 v] w (RetDec w (stripI i s L) (s - stripK i s L)) := by
  by_cases h0 : i = 0
  · exact refStrip_zero A n c s L i v w h hn hs hv hL h0
  · exact refStrip_pos A n c s L i v w h hn hs hv hL h0

end Go.Proofs.Ytafbkoejobkncaa
