/-
  Contracts of layer 5, the twelfth part: Make, Between and the document's.
-/
import Derived.Test.YtafbkoejobkncaaDecL
namespace Go.Proofs.Ytafbkoejobkncaa
open Go.RowKit

theorem u64_any (n : Int) : IntKind.u64.wrap n = n % 18446744073709551616 := by simp [IntKind.wrap, IntKind.bits, IntKind.signed]
theorem cmp5_is {A A' : Option Addr} {n c n' c' s t : Nat} {i j z : Int} {w : World} (h : Num w w.heap.size A n c i.natAbs) (h' : Num w w.heap.size A' n' c' j.natAbs) (hn : n ≤ 1000000) (hn' : n' ≤ 1000000) (hs : s ≤ 100000) (ht : t ≤ 100000) (hz : cmpD i s j t = z) :
    Calls Try.prog 23 #[.agg #[.bool (ngB i), .slice A n c, .int .i64 (s : Int)], .agg #[.bool (ngB j), .slice A' n' c', .int .i64 (t : Int)]] w (RetVal w (.int .i64 z)) := by
  subst hz; exact cmp5_any A A' n c n' c' s t i j w h h' hn hn' hs ht
theorem refCmp5_is {A A' : Option Addr} {n c n' c' s t : Nat} {i j z : Int} {w : World} (h : Num w w.heap.size A n c i.natAbs) (h' : Num w w.heap.size A' n' c' j.natAbs) (hn : n ≤ 1000000) (hn' : n' ≤ 1000000) (hs : s ≤ 100000) (ht : t ≤ 100000) (hz : cmpD i s j t = z) :
    Calls Try.prog 24 #[.agg #[.bool (ngB i), .slice A n c, .int .i64 (s : Int)], .agg #[.bool (ngB j), .slice A' n' c', .int .i64 (t : Int)]] w (RetVal w (.int .i64 z)) := by
  subst hz; exact refCmp5_any A A' n c n' c' s t i j w h h' hn hn' hs ht
theorem max_zero' {P : Program} {s : Nat} (ts : Array TypeId) (ty : TypeId) (W : World) : (Builtin.max_ ts ty #[.int .i64 0, .int .i64 (s : Int)]).run P W = .ok (.int .i64 (s : Int)) W := by
  rw [run_max_int2]
  have e : (if (s : Int) > (0 : Int) then (s : Int) else (0 : Int)) = (s : Int) := by split <;> omega
  rw [e]

set_option maxHeartbeats 2000000 in
theorem mk5_pos (i : Int) (s : Nat) (w : World) (h1 : Hid (-9223372036854775808 ≤ i)) (h2 : Hid (i ≤ 9223372036854775807)) (h0 : 0 ≤ i) (hs : s ≤ 100000) :
    Calls Try.prog 11 #[.int .i64 i, .int .i64 (s : Int)] w (RetDec w i s) := by
  have HX : Hid (sgn false i.natAbs = i) := by
    have := sgn_ng i
    rwa [show ngB i = false from decide_eq_false (by omega)] at this
  have HN : Hid (i.natAbs < 18446744073709551616) := by have := h1.out; have := h2.out; show _ < _; omega
  obtain ⟨a, ha⟩ : ∃ a, i.natAbs = a := ⟨_, rfl⟩
  have hb : IntKind.u64.wrap i = (a : Int) := by
    have := HN.out
    rw [u64_any]
    omega
  rw [ha] at HX HN
  have HA := Lib.hid ha
  have hd : decide (i < (0 : Int)) = false := decide_eq_false (by omega)
  clear h1 h2 ha
  have hmx := max_zero (P := Try.prog) (s := s)
  go_enter Try.func11, Try.ntmps11
  go_wp2_with fail
  generalize hW : World.alloc w _ = W0
  have E0 : St w W0 [] [(w.heap.size, .bool false, .slice none 0 0, .int .i64 0)] := by rw [← hW]; exact (St.start w (l := []) (fun q hq => by cases hq)).lay rfl
  have E := Lib.hid E0
  clear hW E0 hb
  refine (mk_any a _ rfl HN.out _).mono ?_; rintro e w1 ⟨A1, n1, c1, rfl, h1, hb1⟩; replace E := Lib.hid (St.push E.out hb1 h1); clear h1 hb1
  go_wp2_with fail
  refine (decimal_is (b := false) (x := i) (a := a) (St.got E (by simp)) (by omega) HX.out).mono ?_; rintro e w2 ⟨rfl, hb1⟩; replace E := Lib.hid (St.step E.out hb1); clear hb1
  obtain ⟨r0, r1, r2, rf0, rf1, rf2, rlt⟩ := St.at_ (x0 := .bool false) (x1 := .slice none 0 0) (x2 := .int .i64 0) (g := w.heap.size) E (by simp)
  go_wp2_with fail
  have EF := Lib.hid (St.store E.out (g := w.heap.size) (x0 := .bool false) (x1 := .slice none 0 0) (x2 := .int .i64 0) (by simp) (noLimb_bool _) (noLimb_slice _ _ _) (noLimb_int _) [] (fun q hq => by cases hq) (.bool (ngB (i))) (.slice A1 n1 c1) (.int .i64 (s : Int)))
  obtain ⟨e0, e1, e2, _, _, _, _⟩ := St.at_ (x0 := .bool (ngB (i))) (x1 := .slice A1 n1 c1) (x2 := .int .i64 (s : Int)) (g := w.heap.size) EF (by simp)
  exact bodyPost_ret (v := .agg #[.bool (ngB (i)), .slice A1 n1 c1, .int .i64 (s : Int)]) (by simp [results, Try.results11, go_sem, e0, e1, e2]) rfl ⟨A1, n1, c1, rfl, by rw [HA.out]; exact St.got EF (by simp), EF.out.bel⟩

set_option maxHeartbeats 2000000 in
theorem mk5_neg (i : Int) (s : Nat) (w : World) (h1 : Hid (-9223372036854775808 ≤ i)) (h2 : Hid (i ≤ 9223372036854775807)) (h0 : i < 0) (hs : s ≤ 100000) :
    Calls Try.prog 11 #[.int .i64 i, .int .i64 (s : Int)] w (RetDec w i s) := by
  have HX : Hid (sgn true i.natAbs = i) := by
    have := sgn_ng i
    rwa [show ngB i = true from decide_eq_true h0] at this
  have HN : Hid (i.natAbs < 18446744073709551616) := by have := h1.out; have := h2.out; show _ < _; omega
  obtain ⟨a, ha⟩ : ∃ a, i.natAbs = a := ⟨_, rfl⟩
  obtain ⟨b, hb⟩ : ∃ b : Nat, IntKind.u64.wrap i = (b : Int) := ⟨(IntKind.u64.wrap i).toNat, by rw [u64_any]; omega⟩
  have hb2 : IntKind.u64.wrap (-(b : Int)) = (a : Int) := by
    have := HN.out
    have := h1.out
    rw [u64_any] at hb
    rw [u64_any]
    omega
  rw [ha] at HX HN
  have HA := Lib.hid ha
  have hd : decide (i < (0 : Int)) = true := decide_eq_true h0
  clear h1 h2 ha
  have hmx := max_zero (P := Try.prog) (s := s)
  go_enter Try.func11, Try.ntmps11
  go_wp2_with fail
  generalize hW : World.alloc w _ = W0
  have E0 : St w W0 [] [(w.heap.size, .bool false, .slice none 0 0, .int .i64 0)] := by rw [← hW]; exact (St.start w (l := []) (fun q hq => by cases hq)).lay rfl
  have E := Lib.hid E0
  clear hW E0 hb hb2
  refine (mk_any a _ rfl HN.out _).mono ?_; rintro e w1 ⟨A1, n1, c1, rfl, h1, hb1⟩; replace E := Lib.hid (St.push E.out hb1 h1); clear h1 hb1
  go_wp2_with fail
  refine (decimal_is (b := true) (x := i) (a := a) (St.got E (by simp)) (by omega) HX.out).mono ?_; rintro e w2 ⟨rfl, hb1⟩; replace E := Lib.hid (St.step E.out hb1); clear hb1
  obtain ⟨r0, r1, r2, rf0, rf1, rf2, rlt⟩ := St.at_ (x0 := .bool false) (x1 := .slice none 0 0) (x2 := .int .i64 0) (g := w.heap.size) E (by simp)
  go_wp2_with fail
  have EF := Lib.hid (St.store E.out (g := w.heap.size) (x0 := .bool false) (x1 := .slice none 0 0) (x2 := .int .i64 0) (by simp) (noLimb_bool _) (noLimb_slice _ _ _) (noLimb_int _) [] (fun q hq => by cases hq) (.bool (ngB (i))) (.slice A1 n1 c1) (.int .i64 (s : Int)))
  obtain ⟨e0, e1, e2, _, _, _, _⟩ := St.at_ (x0 := .bool (ngB (i))) (x1 := .slice A1 n1 c1) (x2 := .int .i64 (s : Int)) (g := w.heap.size) EF (by simp)
  exact bodyPost_ret (v := .agg #[.bool (ngB (i)), .slice A1 n1 c1, .int .i64 (s : Int)]) (by simp [results, Try.results11, go_sem, e0, e1, e2]) rfl ⟨A1, n1, c1, rfl, by rw [HA.out]; exact St.got EF (by simp), EF.out.bel⟩

theorem mk5_any (i : Int) (s : Nat) (w : World) (h1 : Hid (-9223372036854775808 ≤ i)) (h2 : Hid (i ≤ 9223372036854775807)) (hs : s ≤ 100000) :
    Calls Try.prog 11 #[.int .i64 i, .int .i64 (s : Int)] w (RetDec w i s) := by
  rcases Int.lt_or_le i 0 with h | h
  · exact mk5_neg i s w h1 h2 h hs
  · exact mk5_pos i s w h1 h2 h hs

set_option maxHeartbeats 2000000 in
theorem refMk5_pos (i : Int) (s : Nat) (w : World) (h1 : Hid (-9223372036854775808 ≤ i)) (h2 : Hid (i ≤ 9223372036854775807)) (h0 : 0 ≤ i) (hs : s ≤ 100000) :
    Calls Try.prog 12 #[.int .i64 i, .int .i64 (s : Int)] w (RetDec w i s) := by
  have HX : Hid (sgn false i.natAbs = i) := by
    have := sgn_ng i
    rwa [show ngB i = false from decide_eq_false (by omega)] at this
  have HN : Hid (i.natAbs < 18446744073709551616) := by have := h1.out; have := h2.out; show _ < _; omega
  obtain ⟨a, ha⟩ : ∃ a, i.natAbs = a := ⟨_, rfl⟩
  have hb : IntKind.u64.wrap i = (a : Int) := by
    have := HN.out
    rw [u64_any]
    omega
  rw [ha] at HX HN
  have HA := Lib.hid ha
  have hd : decide (i < (0 : Int)) = false := decide_eq_false (by omega)
  clear h1 h2 ha
  have hmx := max_zero' (P := Try.prog) (s := s)
  go_enter Try.func12, Try.ntmps12
  go_wp2_with fail
  generalize hW : World.alloc w _ = W0
  have E0 : St w W0 [] [(w.heap.size, .bool false, .slice none 0 0, .int .i64 0)] := by rw [← hW]; exact (St.start w (l := []) (fun q hq => by cases hq)).lay rfl
  have E := Lib.hid E0
  clear hW E0 hb
  refine (refMk_any a _ rfl HN.out _).mono ?_; rintro e w1 ⟨A1, n1, c1, rfl, h1, hb1⟩; replace E := Lib.hid (St.push E.out hb1 h1); clear h1 hb1
  go_wp2_with fail
  refine (refDone_is (b := false) (x := i) (a := a) (St.got E (by simp)) (by omega) HX.out).mono ?_; rintro e w2 ⟨rfl, hb1⟩; replace E := Lib.hid (St.step E.out hb1); clear hb1
  obtain ⟨r0, r1, r2, rf0, rf1, rf2, rlt⟩ := St.at_ (x0 := .bool false) (x1 := .slice none 0 0) (x2 := .int .i64 0) (g := w.heap.size) E (by simp)
  go_wp2_with fail
  have EF := Lib.hid (St.store E.out (g := w.heap.size) (x0 := .bool false) (x1 := .slice none 0 0) (x2 := .int .i64 0) (by simp) (noLimb_bool _) (noLimb_slice _ _ _) (noLimb_int _) [] (fun q hq => by cases hq) (.bool (ngB (i))) (.slice A1 n1 c1) (.int .i64 (s : Int)))
  obtain ⟨e0, e1, e2, _, _, _, _⟩ := St.at_ (x0 := .bool (ngB (i))) (x1 := .slice A1 n1 c1) (x2 := .int .i64 (s : Int)) (g := w.heap.size) EF (by simp)
  exact bodyPost_ret (v := .agg #[.bool (ngB (i)), .slice A1 n1 c1, .int .i64 (s : Int)]) (by simp [results, Try.results12, go_sem, e0, e1, e2]) rfl ⟨A1, n1, c1, rfl, by rw [HA.out]; exact St.got EF (by simp), EF.out.bel⟩

set_option maxHeartbeats 2000000 in
theorem refMk5_neg (i : Int) (s : Nat) (w : World) (h1 : Hid (-9223372036854775808 ≤ i)) (h2 : Hid (i ≤ 9223372036854775807)) (h0 : i < 0) (hs : s ≤ 100000) :
    Calls Try.prog 12 #[.int .i64 i, .int .i64 (s : Int)] w (RetDec w i s) := by
  have HX : Hid (sgn true i.natAbs = i) := by
    have := sgn_ng i
    rwa [show ngB i = true from decide_eq_true h0] at this
  have HN : Hid (i.natAbs < 18446744073709551616) := by have := h1.out; have := h2.out; show _ < _; omega
  obtain ⟨a, ha⟩ : ∃ a, i.natAbs = a := ⟨_, rfl⟩
  obtain ⟨b, hb⟩ : ∃ b : Nat, IntKind.u64.wrap i = (b : Int) := ⟨(IntKind.u64.wrap i).toNat, by rw [u64_any]; omega⟩
  have hb2 : IntKind.u64.wrap (-(b : Int)) = (a : Int) := by
    have := HN.out
    have := h1.out
    rw [u64_any] at hb
    rw [u64_any]
    omega
  rw [ha] at HX HN
  have HA := Lib.hid ha
  have hd : decide (i < (0 : Int)) = true := decide_eq_true h0
  clear h1 h2 ha
  have hmx := max_zero' (P := Try.prog) (s := s)
  go_enter Try.func12, Try.ntmps12
  go_wp2_with fail
  generalize hW : World.alloc w _ = W0
  have E0 : St w W0 [] [(w.heap.size, .bool false, .slice none 0 0, .int .i64 0)] := by rw [← hW]; exact (St.start w (l := []) (fun q hq => by cases hq)).lay rfl
  have E := Lib.hid E0
  clear hW E0 hb hb2
  refine (refMk_any a _ rfl HN.out _).mono ?_; rintro e w1 ⟨A1, n1, c1, rfl, h1, hb1⟩; replace E := Lib.hid (St.push E.out hb1 h1); clear h1 hb1
  go_wp2_with fail
  refine (refDone_is (b := true) (x := i) (a := a) (St.got E (by simp)) (by omega) HX.out).mono ?_; rintro e w2 ⟨rfl, hb1⟩; replace E := Lib.hid (St.step E.out hb1); clear hb1
  obtain ⟨r0, r1, r2, rf0, rf1, rf2, rlt⟩ := St.at_ (x0 := .bool false) (x1 := .slice none 0 0) (x2 := .int .i64 0) (g := w.heap.size) E (by simp)
  go_wp2_with fail
  have EF := Lib.hid (St.store E.out (g := w.heap.size) (x0 := .bool false) (x1 := .slice none 0 0) (x2 := .int .i64 0) (by simp) (noLimb_bool _) (noLimb_slice _ _ _) (noLimb_int _) [] (fun q hq => by cases hq) (.bool (ngB (i))) (.slice A1 n1 c1) (.int .i64 (s : Int)))
  obtain ⟨e0, e1, e2, _, _, _, _⟩ := St.at_ (x0 := .bool (ngB (i))) (x1 := .slice A1 n1 c1) (x2 := .int .i64 (s : Int)) (g := w.heap.size) EF (by simp)
  exact bodyPost_ret (v := .agg #[.bool (ngB (i)), .slice A1 n1 c1, .int .i64 (s : Int)]) (by simp [results, Try.results12, go_sem, e0, e1, e2]) rfl ⟨A1, n1, c1, rfl, by rw [HA.out]; exact St.got EF (by simp), EF.out.bel⟩

theorem refMk5_any (i : Int) (s : Nat) (w : World) (h1 : Hid (-9223372036854775808 ≤ i)) (h2 : Hid (i ≤ 9223372036854775807)) (hs : s ≤ 100000) :
    Calls Try.prog 12 #[.int .i64 i, .int .i64 (s : Int)] w (RetDec w i s) := by
  rcases Int.lt_or_le i 0 with h | h
  · exact refMk5_neg i s w h1 h2 h hs
  · exact refMk5_pos i s w h1 h2 h hs

theorem start_three {w : World} {A A' A'' : Option Addr} {n c a n' c' a' n'' c'' a'' : Nat} (h : Num w w.heap.size A n c a) (h' : Num w w.heap.size A' n' c' a') (h'' : Num w w.heap.size A'' n'' c'' a'') : St w w [(A, n, c, a), (A', n', c', a'), (A'', n'', c'', a'')] [] := St.start w (by simp; exact ⟨h, h', h''⟩)

set_option maxHeartbeats 2000000 in
theorem between_a (A A' A'' : Option Addr) (n c n' c' n'' c'' s t u : Nat) (i j k : Int) (w : World) (h : Num w w.heap.size A n c i.natAbs) (h' : Num w w.heap.size A' n' c' j.natAbs) (h'' : Num w w.heap.size A'' n'' c'' k.natAbs) (hn : n ≤ 1000000) (hn' : n' ≤ 1000000) (hn'' : n'' ≤ 1000000) (hs : s ≤ 100000) (ht : t ≤ 100000) (hu : u ≤ 100000) (hz : cmpD i s j t < 0) :
    Calls Try.prog 42 #[.agg #[.bool (ngB i), .slice A n c, .int .i64 (s : Int)], .agg #[.bool (ngB j), .slice A' n' c', .int .i64 (t : Int)], .agg #[.bool (ngB k), .slice A'' n'' c'', .int .i64 (u : Int)]] w (RetDec w j t) := by
  have H := Lib.hid h
  have H' := Lib.hid h'
  have H'' := Lib.hid h''
  clear h h' h''
  obtain ⟨z, hzz⟩ : ∃ z, cmpD i s j t = z := ⟨_, rfl⟩
  have HZ := Lib.hid hzz
  rw [hzz] at hz
  clear hzz
  go_enter Try.func42, Try.ntmps42
  go_wp2_with fail
  generalize hW : World.alloc (World.alloc (World.alloc (World.alloc w _) _) _) _ = W0
  have E0 : St w W0 [(A, n, c, (i).natAbs), (A', n', c', (j).natAbs), (A'', n'', c'', (k).natAbs)] [((w.heap.size + 1 + 1 + 1), .bool false, .slice none 0 0, .int .i64 0), ((w.heap.size + 1 + 1), (.bool (ngB k)), (.slice A'' n'' c''), (.int .i64 (u : Int))), ((w.heap.size + 1), (.bool (ngB j)), (.slice A' n' c'), (.int .i64 (t : Int))), (w.heap.size, (.bool (ngB i)), (.slice A n c), (.int .i64 (s : Int)))] := by rw [← hW]; exact ((((start_three H.out H'.out H''.out).lay rfl).lay (by simp)).lay (by simp)).lay (by simp)
  have E := Lib.hid E0
  clear hW E0
  obtain ⟨p0, p1, p2, pf0, pf1, pf2, plt⟩ := St.at_ (x0 := (.bool (ngB i))) (x1 := (.slice A n c)) (x2 := (.int .i64 (s : Int))) (g := w.heap.size) E (by simp)
  obtain ⟨q0, q1, q2, qf0, qf1, qf2, qlt⟩ := St.at_ (x0 := (.bool (ngB j))) (x1 := (.slice A' n' c')) (x2 := (.int .i64 (t : Int))) (g := (w.heap.size + 1)) E (by simp)
  obtain ⟨v0, v1, v2, vf0, vf1, vf2, vlt⟩ := St.at_ (x0 := (.bool (ngB k))) (x1 := (.slice A'' n'' c'')) (x2 := (.int .i64 (u : Int))) (g := (w.heap.size + 1 + 1)) E (by simp)
  go_wp2_with fail
  refine (cmp5_is (St.got E (by simp)) (St.got E (by simp)) hn hn' hs ht HZ.out).mono ?_; rintro e w1 ⟨rfl, hb1⟩; replace E := Lib.hid (St.step E.out hb1); clear hb1
  clear p0 p1 p2 pf0 pf1 pf2 plt q0 q1 q2 qf0 qf1 qf2 qlt v0 v1 v2 vf0 vf1 vf2 vlt
  obtain ⟨p0, p1, p2, pf0, pf1, pf2, plt⟩ := St.at_ (x0 := (.bool (ngB i))) (x1 := (.slice A n c)) (x2 := (.int .i64 (s : Int))) (g := w.heap.size) E (by simp)
  obtain ⟨q0, q1, q2, qf0, qf1, qf2, qlt⟩ := St.at_ (x0 := (.bool (ngB j))) (x1 := (.slice A' n' c')) (x2 := (.int .i64 (t : Int))) (g := (w.heap.size + 1)) E (by simp)
  obtain ⟨v0, v1, v2, vf0, vf1, vf2, vlt⟩ := St.at_ (x0 := (.bool (ngB k))) (x1 := (.slice A'' n'' c'')) (x2 := (.int .i64 (u : Int))) (g := (w.heap.size + 1 + 1)) E (by simp)
  go_wp2_with fail
  refine (copied_any A' n' c' t j _ (St.got E (by simp)) (by omega) (by omega)).mono ?_; rintro e w3 ⟨A1, n1, c1, rfl, h1, hb1⟩; replace E := Lib.hid (St.push E.out hb1 h1); clear h1 hb1
  clear p0 p1 p2 pf0 pf1 pf2 plt q0 q1 q2 qf0 qf1 qf2 qlt v0 v1 v2 vf0 vf1 vf2 vlt
  obtain ⟨r0, r1, r2, rf0, rf1, rf2, rlt⟩ := St.at_ (x0 := .bool false) (x1 := .slice none 0 0) (x2 := .int .i64 0) (g := (w.heap.size + 1 + 1 + 1)) E (by simp)
  go_wp2_with fail
  have EF := Lib.hid (St.store E.out (g := (w.heap.size + 1 + 1 + 1)) (x0 := .bool false) (x1 := .slice none 0 0) (x2 := .int .i64 0) (by simp) (noLimb_bool _) (noLimb_slice _ _ _) (noLimb_int _) [] (fun q hq => by cases hq) (.bool (ngB (j))) (.slice A1 n1 c1) (.int .i64 (t : Int)))
  obtain ⟨e0, e1, e2, _, _, _, _⟩ := St.at_ (x0 := .bool (ngB (j))) (x1 := .slice A1 n1 c1) (x2 := .int .i64 (t : Int)) (g := (w.heap.size + 1 + 1 + 1)) EF (by simp)
  exact bodyPost_ret (v := .agg #[.bool (ngB (j)), .slice A1 n1 c1, .int .i64 (t : Int)]) (by simp [results, Try.results42, go_sem, e0, e1, e2]) rfl ⟨A1, n1, c1, rfl, St.got EF (by simp), EF.out.bel⟩

set_option maxHeartbeats 2000000 in
theorem between_b (A A' A'' : Option Addr) (n c n' c' n'' c'' s t u : Nat) (i j k : Int) (w : World) (h : Num w w.heap.size A n c i.natAbs) (h' : Num w w.heap.size A' n' c' j.natAbs) (h'' : Num w w.heap.size A'' n'' c'' k.natAbs) (hn : n ≤ 1000000) (hn' : n' ≤ 1000000) (hn'' : n'' ≤ 1000000) (hs : s ≤ 100000) (ht : t ≤ 100000) (hu : u ≤ 100000) (hz : 0 ≤ cmpD i s j t) (hy : 0 < cmpD i s k u) :
    Calls Try.prog 42 #[.agg #[.bool (ngB i), .slice A n c, .int .i64 (s : Int)], .agg #[.bool (ngB j), .slice A' n' c', .int .i64 (t : Int)], .agg #[.bool (ngB k), .slice A'' n'' c'', .int .i64 (u : Int)]] w (RetDec w k u) := by
  have H := Lib.hid h
  have H' := Lib.hid h'
  have H'' := Lib.hid h''
  clear h h' h''
  obtain ⟨z, hzz⟩ : ∃ z, cmpD i s j t = z := ⟨_, rfl⟩
  have HZ := Lib.hid hzz
  rw [hzz] at hz
  obtain ⟨y, hyy⟩ : ∃ y, cmpD i s k u = y := ⟨_, rfl⟩
  have HY := Lib.hid hyy
  rw [hyy] at hy
  clear hyy
  clear hzz
  go_enter Try.func42, Try.ntmps42
  go_wp2_with fail
  generalize hW : World.alloc (World.alloc (World.alloc (World.alloc w _) _) _) _ = W0
  have E0 : St w W0 [(A, n, c, (i).natAbs), (A', n', c', (j).natAbs), (A'', n'', c'', (k).natAbs)] [((w.heap.size + 1 + 1 + 1), .bool false, .slice none 0 0, .int .i64 0), ((w.heap.size + 1 + 1), (.bool (ngB k)), (.slice A'' n'' c''), (.int .i64 (u : Int))), ((w.heap.size + 1), (.bool (ngB j)), (.slice A' n' c'), (.int .i64 (t : Int))), (w.heap.size, (.bool (ngB i)), (.slice A n c), (.int .i64 (s : Int)))] := by rw [← hW]; exact ((((start_three H.out H'.out H''.out).lay rfl).lay (by simp)).lay (by simp)).lay (by simp)
  have E := Lib.hid E0
  clear hW E0
  obtain ⟨p0, p1, p2, pf0, pf1, pf2, plt⟩ := St.at_ (x0 := (.bool (ngB i))) (x1 := (.slice A n c)) (x2 := (.int .i64 (s : Int))) (g := w.heap.size) E (by simp)
  obtain ⟨q0, q1, q2, qf0, qf1, qf2, qlt⟩ := St.at_ (x0 := (.bool (ngB j))) (x1 := (.slice A' n' c')) (x2 := (.int .i64 (t : Int))) (g := (w.heap.size + 1)) E (by simp)
  obtain ⟨v0, v1, v2, vf0, vf1, vf2, vlt⟩ := St.at_ (x0 := (.bool (ngB k))) (x1 := (.slice A'' n'' c'')) (x2 := (.int .i64 (u : Int))) (g := (w.heap.size + 1 + 1)) E (by simp)
  go_wp2_with fail
  refine (cmp5_is (St.got E (by simp)) (St.got E (by simp)) hn hn' hs ht HZ.out).mono ?_; rintro e w1 ⟨rfl, hb1⟩; replace E := Lib.hid (St.step E.out hb1); clear hb1
  clear p0 p1 p2 pf0 pf1 pf2 plt q0 q1 q2 qf0 qf1 qf2 qlt v0 v1 v2 vf0 vf1 vf2 vlt
  obtain ⟨p0, p1, p2, pf0, pf1, pf2, plt⟩ := St.at_ (x0 := (.bool (ngB i))) (x1 := (.slice A n c)) (x2 := (.int .i64 (s : Int))) (g := w.heap.size) E (by simp)
  obtain ⟨q0, q1, q2, qf0, qf1, qf2, qlt⟩ := St.at_ (x0 := (.bool (ngB j))) (x1 := (.slice A' n' c')) (x2 := (.int .i64 (t : Int))) (g := (w.heap.size + 1)) E (by simp)
  obtain ⟨v0, v1, v2, vf0, vf1, vf2, vlt⟩ := St.at_ (x0 := (.bool (ngB k))) (x1 := (.slice A'' n'' c'')) (x2 := (.int .i64 (u : Int))) (g := (w.heap.size + 1 + 1)) E (by simp)
  go_wp2_with fail
  refine (cmp5_is (St.got E (by simp)) (St.got E (by simp)) hn hn'' hs hu HY.out).mono ?_; rintro e w2 ⟨rfl, hb1⟩; replace E := Lib.hid (St.step E.out hb1); clear hb1
  clear p0 p1 p2 pf0 pf1 pf2 plt q0 q1 q2 qf0 qf1 qf2 qlt v0 v1 v2 vf0 vf1 vf2 vlt
  obtain ⟨p0, p1, p2, pf0, pf1, pf2, plt⟩ := St.at_ (x0 := (.bool (ngB i))) (x1 := (.slice A n c)) (x2 := (.int .i64 (s : Int))) (g := w.heap.size) E (by simp)
  obtain ⟨q0, q1, q2, qf0, qf1, qf2, qlt⟩ := St.at_ (x0 := (.bool (ngB j))) (x1 := (.slice A' n' c')) (x2 := (.int .i64 (t : Int))) (g := (w.heap.size + 1)) E (by simp)
  obtain ⟨v0, v1, v2, vf0, vf1, vf2, vlt⟩ := St.at_ (x0 := (.bool (ngB k))) (x1 := (.slice A'' n'' c'')) (x2 := (.int .i64 (u : Int))) (g := (w.heap.size + 1 + 1)) E (by simp)
  go_wp2_with fail
  refine (copied_any A'' n'' c'' u k _ (St.got E (by simp)) (by omega) (by omega)).mono ?_; rintro e w3 ⟨A1, n1, c1, rfl, h1, hb1⟩; replace E := Lib.hid (St.push E.out hb1 h1); clear h1 hb1
  clear p0 p1 p2 pf0 pf1 pf2 plt q0 q1 q2 qf0 qf1 qf2 qlt v0 v1 v2 vf0 vf1 vf2 vlt
  obtain ⟨r0, r1, r2, rf0, rf1, rf2, rlt⟩ := St.at_ (x0 := .bool false) (x1 := .slice none 0 0) (x2 := .int .i64 0) (g := (w.heap.size + 1 + 1 + 1)) E (by simp)
  go_wp2_with fail
  have EF := Lib.hid (St.store E.out (g := (w.heap.size + 1 + 1 + 1)) (x0 := .bool false) (x1 := .slice none 0 0) (x2 := .int .i64 0) (by simp) (noLimb_bool _) (noLimb_slice _ _ _) (noLimb_int _) [] (fun q hq => by cases hq) (.bool (ngB (k))) (.slice A1 n1 c1) (.int .i64 (u : Int)))
  obtain ⟨e0, e1, e2, _, _, _, _⟩ := St.at_ (x0 := .bool (ngB (k))) (x1 := .slice A1 n1 c1) (x2 := .int .i64 (u : Int)) (g := (w.heap.size + 1 + 1 + 1)) EF (by simp)
  exact bodyPost_ret (v := .agg #[.bool (ngB (k)), .slice A1 n1 c1, .int .i64 (u : Int)]) (by simp [results, Try.results42, go_sem, e0, e1, e2]) rfl ⟨A1, n1, c1, rfl, St.got EF (by simp), EF.out.bel⟩

set_option maxHeartbeats 2000000 in
theorem between_d (A A' A'' : Option Addr) (n c n' c' n'' c'' s t u : Nat) (i j k : Int) (w : World) (h : Num w w.heap.size A n c i.natAbs) (h' : Num w w.heap.size A' n' c' j.natAbs) (h'' : Num w w.heap.size A'' n'' c'' k.natAbs) (hn : n ≤ 1000000) (hn' : n' ≤ 1000000) (hn'' : n'' ≤ 1000000) (hs : s ≤ 100000) (ht : t ≤ 100000) (hu : u ≤ 100000) (hz : 0 ≤ cmpD i s j t) (hy : cmpD i s k u ≤ 0) :
    Calls Try.prog 42 #[.agg #[.bool (ngB i), .slice A n c, .int .i64 (s : Int)], .agg #[.bool (ngB j), .slice A' n' c', .int .i64 (t : Int)], .agg #[.bool (ngB k), .slice A'' n'' c'', .int .i64 (u : Int)]] w (RetDec w i s) := by
  have H := Lib.hid h
  have H' := Lib.hid h'
  have H'' := Lib.hid h''
  clear h h' h''
  obtain ⟨z, hzz⟩ : ∃ z, cmpD i s j t = z := ⟨_, rfl⟩
  have HZ := Lib.hid hzz
  rw [hzz] at hz
  obtain ⟨y, hyy⟩ : ∃ y, cmpD i s k u = y := ⟨_, rfl⟩
  have HY := Lib.hid hyy
  rw [hyy] at hy
  clear hyy
  clear hzz
  go_enter Try.func42, Try.ntmps42
  go_wp2_with fail
  generalize hW : World.alloc (World.alloc (World.alloc (World.alloc w _) _) _) _ = W0
  have E0 : St w W0 [(A, n, c, (i).natAbs), (A', n', c', (j).natAbs), (A'', n'', c'', (k).natAbs)] [((w.heap.size + 1 + 1 + 1), .bool false, .slice none 0 0, .int .i64 0), ((w.heap.size + 1 + 1), (.bool (ngB k)), (.slice A'' n'' c''), (.int .i64 (u : Int))), ((w.heap.size + 1), (.bool (ngB j)), (.slice A' n' c'), (.int .i64 (t : Int))), (w.heap.size, (.bool (ngB i)), (.slice A n c), (.int .i64 (s : Int)))] := by rw [← hW]; exact ((((start_three H.out H'.out H''.out).lay rfl).lay (by simp)).lay (by simp)).lay (by simp)
  have E := Lib.hid E0
  clear hW E0
  obtain ⟨p0, p1, p2, pf0, pf1, pf2, plt⟩ := St.at_ (x0 := (.bool (ngB i))) (x1 := (.slice A n c)) (x2 := (.int .i64 (s : Int))) (g := w.heap.size) E (by simp)
  obtain ⟨q0, q1, q2, qf0, qf1, qf2, qlt⟩ := St.at_ (x0 := (.bool (ngB j))) (x1 := (.slice A' n' c')) (x2 := (.int .i64 (t : Int))) (g := (w.heap.size + 1)) E (by simp)
  obtain ⟨v0, v1, v2, vf0, vf1, vf2, vlt⟩ := St.at_ (x0 := (.bool (ngB k))) (x1 := (.slice A'' n'' c'')) (x2 := (.int .i64 (u : Int))) (g := (w.heap.size + 1 + 1)) E (by simp)
  go_wp2_with fail
  refine (cmp5_is (St.got E (by simp)) (St.got E (by simp)) hn hn' hs ht HZ.out).mono ?_; rintro e w1 ⟨rfl, hb1⟩; replace E := Lib.hid (St.step E.out hb1); clear hb1
  clear p0 p1 p2 pf0 pf1 pf2 plt q0 q1 q2 qf0 qf1 qf2 qlt v0 v1 v2 vf0 vf1 vf2 vlt
  obtain ⟨p0, p1, p2, pf0, pf1, pf2, plt⟩ := St.at_ (x0 := (.bool (ngB i))) (x1 := (.slice A n c)) (x2 := (.int .i64 (s : Int))) (g := w.heap.size) E (by simp)
  obtain ⟨q0, q1, q2, qf0, qf1, qf2, qlt⟩ := St.at_ (x0 := (.bool (ngB j))) (x1 := (.slice A' n' c')) (x2 := (.int .i64 (t : Int))) (g := (w.heap.size + 1)) E (by simp)
  obtain ⟨v0, v1, v2, vf0, vf1, vf2, vlt⟩ := St.at_ (x0 := (.bool (ngB k))) (x1 := (.slice A'' n'' c'')) (x2 := (.int .i64 (u : Int))) (g := (w.heap.size + 1 + 1)) E (by simp)
  go_wp2_with fail
  refine (cmp5_is (St.got E (by simp)) (St.got E (by simp)) hn hn'' hs hu HY.out).mono ?_; rintro e w2 ⟨rfl, hb1⟩; replace E := Lib.hid (St.step E.out hb1); clear hb1
  clear p0 p1 p2 pf0 pf1 pf2 plt q0 q1 q2 qf0 qf1 qf2 qlt v0 v1 v2 vf0 vf1 vf2 vlt
  obtain ⟨p0, p1, p2, pf0, pf1, pf2, plt⟩ := St.at_ (x0 := (.bool (ngB i))) (x1 := (.slice A n c)) (x2 := (.int .i64 (s : Int))) (g := w.heap.size) E (by simp)
  obtain ⟨q0, q1, q2, qf0, qf1, qf2, qlt⟩ := St.at_ (x0 := (.bool (ngB j))) (x1 := (.slice A' n' c')) (x2 := (.int .i64 (t : Int))) (g := (w.heap.size + 1)) E (by simp)
  obtain ⟨v0, v1, v2, vf0, vf1, vf2, vlt⟩ := St.at_ (x0 := (.bool (ngB k))) (x1 := (.slice A'' n'' c'')) (x2 := (.int .i64 (u : Int))) (g := (w.heap.size + 1 + 1)) E (by simp)
  go_wp2_with fail
  refine (copied_any A n c s i _ (St.got E (by simp)) (by omega) (by omega)).mono ?_; rintro e w3 ⟨A1, n1, c1, rfl, h1, hb1⟩; replace E := Lib.hid (St.push E.out hb1 h1); clear h1 hb1
  clear p0 p1 p2 pf0 pf1 pf2 plt q0 q1 q2 qf0 qf1 qf2 qlt v0 v1 v2 vf0 vf1 vf2 vlt
  obtain ⟨r0, r1, r2, rf0, rf1, rf2, rlt⟩ := St.at_ (x0 := .bool false) (x1 := .slice none 0 0) (x2 := .int .i64 0) (g := (w.heap.size + 1 + 1 + 1)) E (by simp)
  go_wp2_with fail
  have EF := Lib.hid (St.store E.out (g := (w.heap.size + 1 + 1 + 1)) (x0 := .bool false) (x1 := .slice none 0 0) (x2 := .int .i64 0) (by simp) (noLimb_bool _) (noLimb_slice _ _ _) (noLimb_int _) [] (fun q hq => by cases hq) (.bool (ngB (i))) (.slice A1 n1 c1) (.int .i64 (s : Int)))
  obtain ⟨e0, e1, e2, _, _, _, _⟩ := St.at_ (x0 := .bool (ngB (i))) (x1 := .slice A1 n1 c1) (x2 := .int .i64 (s : Int)) (g := (w.heap.size + 1 + 1 + 1)) EF (by simp)
  exact bodyPost_ret (v := .agg #[.bool (ngB (i)), .slice A1 n1 c1, .int .i64 (s : Int)]) (by simp [results, Try.results42, go_sem, e0, e1, e2]) rfl ⟨A1, n1, c1, rfl, St.got EF (by simp), EF.out.bel⟩

set_option maxHeartbeats 2000000 in
theorem refBetween_a (A A' A'' : Option Addr) (n c n' c' n'' c'' s t u : Nat) (i j k : Int) (w : World) (h : Num w w.heap.size A n c i.natAbs) (h' : Num w w.heap.size A' n' c' j.natAbs) (h'' : Num w w.heap.size A'' n'' c'' k.natAbs) (hn : n ≤ 1000000) (hn' : n' ≤ 1000000) (hn'' : n'' ≤ 1000000) (hs : s ≤ 100000) (ht : t ≤ 100000) (hu : u ≤ 100000) (hz : cmpD i s j t < 0) :
    Calls Try.prog 43 #[.agg #[.bool (ngB i), .slice A n c, .int .i64 (s : Int)], .agg #[.bool (ngB j), .slice A' n' c', .int .i64 (t : Int)], .agg #[.bool (ngB k), .slice A'' n'' c'', .int .i64 (u : Int)]] w (RetDec w j t) := by
  have H := Lib.hid h
  have H' := Lib.hid h'
  have H'' := Lib.hid h''
  clear h h' h''
  obtain ⟨z, hzz⟩ : ∃ z, cmpD i s j t = z := ⟨_, rfl⟩
  have HZ := Lib.hid hzz
  rw [hzz] at hz
  clear hzz
  go_enter Try.func43, Try.ntmps43
  go_wp2_with fail
  generalize hW : World.alloc (World.alloc (World.alloc (World.alloc w _) _) _) _ = W0
  have E0 : St w W0 [(A, n, c, (i).natAbs), (A', n', c', (j).natAbs), (A'', n'', c'', (k).natAbs)] [((w.heap.size + 1 + 1 + 1), .bool false, .slice none 0 0, .int .i64 0), ((w.heap.size + 1 + 1), (.bool (ngB k)), (.slice A'' n'' c''), (.int .i64 (u : Int))), ((w.heap.size + 1), (.bool (ngB j)), (.slice A' n' c'), (.int .i64 (t : Int))), (w.heap.size, (.bool (ngB i)), (.slice A n c), (.int .i64 (s : Int)))] := by rw [← hW]; exact ((((start_three H.out H'.out H''.out).lay rfl).lay (by simp)).lay (by simp)).lay (by simp)
  have E := Lib.hid E0
  clear hW E0
  obtain ⟨p0, p1, p2, pf0, pf1, pf2, plt⟩ := St.at_ (x0 := (.bool (ngB i))) (x1 := (.slice A n c)) (x2 := (.int .i64 (s : Int))) (g := w.heap.size) E (by simp)
  obtain ⟨q0, q1, q2, qf0, qf1, qf2, qlt⟩ := St.at_ (x0 := (.bool (ngB j))) (x1 := (.slice A' n' c')) (x2 := (.int .i64 (t : Int))) (g := (w.heap.size + 1)) E (by simp)
  obtain ⟨v0, v1, v2, vf0, vf1, vf2, vlt⟩ := St.at_ (x0 := (.bool (ngB k))) (x1 := (.slice A'' n'' c'')) (x2 := (.int .i64 (u : Int))) (g := (w.heap.size + 1 + 1)) E (by simp)
  go_wp2_with fail
  refine (refCmp5_is (St.got E (by simp)) (St.got E (by simp)) hn hn' hs ht HZ.out).mono ?_; rintro e w1 ⟨rfl, hb1⟩; replace E := Lib.hid (St.step E.out hb1); clear hb1
  clear p0 p1 p2 pf0 pf1 pf2 plt q0 q1 q2 qf0 qf1 qf2 qlt v0 v1 v2 vf0 vf1 vf2 vlt
  obtain ⟨p0, p1, p2, pf0, pf1, pf2, plt⟩ := St.at_ (x0 := (.bool (ngB i))) (x1 := (.slice A n c)) (x2 := (.int .i64 (s : Int))) (g := w.heap.size) E (by simp)
  obtain ⟨q0, q1, q2, qf0, qf1, qf2, qlt⟩ := St.at_ (x0 := (.bool (ngB j))) (x1 := (.slice A' n' c')) (x2 := (.int .i64 (t : Int))) (g := (w.heap.size + 1)) E (by simp)
  obtain ⟨v0, v1, v2, vf0, vf1, vf2, vlt⟩ := St.at_ (x0 := (.bool (ngB k))) (x1 := (.slice A'' n'' c'')) (x2 := (.int .i64 (u : Int))) (g := (w.heap.size + 1 + 1)) E (by simp)
  obtain ⟨r0, r1, r2, rf0, rf1, rf2, rlt⟩ := St.at_ (x0 := .bool false) (x1 := .slice none 0 0) (x2 := .int .i64 0) (g := (w.heap.size + 1 + 1 + 1)) E (by simp)
  go_wp2_with fail
  have EF := Lib.hid (St.store E.out (g := (w.heap.size + 1 + 1 + 1)) (x0 := .bool false) (x1 := .slice none 0 0) (x2 := .int .i64 0) (by simp) (noLimb_bool _) (noLimb_slice _ _ _) (noLimb_int _) [] (fun q hq => by cases hq) (.bool (ngB (j))) (.slice A' n' c') (.int .i64 (t : Int)))
  obtain ⟨e0, e1, e2, _, _, _, _⟩ := St.at_ (x0 := .bool (ngB (j))) (x1 := .slice A' n' c') (x2 := .int .i64 (t : Int)) (g := (w.heap.size + 1 + 1 + 1)) EF (by simp)
  exact bodyPost_ret (v := .agg #[.bool (ngB (j)), .slice A' n' c', .int .i64 (t : Int)]) (by simp [results, Try.results43, go_sem, e0, e1, e2]) rfl ⟨A', n', c', rfl, St.got EF (by simp), EF.out.bel⟩

set_option maxHeartbeats 2000000 in
theorem refBetween_b (A A' A'' : Option Addr) (n c n' c' n'' c'' s t u : Nat) (i j k : Int) (w : World) (h : Num w w.heap.size A n c i.natAbs) (h' : Num w w.heap.size A' n' c' j.natAbs) (h'' : Num w w.heap.size A'' n'' c'' k.natAbs) (hn : n ≤ 1000000) (hn' : n' ≤ 1000000) (hn'' : n'' ≤ 1000000) (hs : s ≤ 100000) (ht : t ≤ 100000) (hu : u ≤ 100000) (hz : 0 ≤ cmpD i s j t) (hy : 0 < cmpD i s k u) :
    Calls Try.prog 43 #[.agg #[.bool (ngB i), .slice A n c, .int .i64 (s : Int)], .agg #[.bool (ngB j), .slice A' n' c', .int .i64 (t : Int)], .agg #[.bool (ngB k), .slice A'' n'' c'', .int .i64 (u : Int)]] w (RetDec w k u) := by
  have H := Lib.hid h
  have H' := Lib.hid h'
  have H'' := Lib.hid h''
  clear h h' h''
  obtain ⟨z, hzz⟩ : ∃ z, cmpD i s j t = z := ⟨_, rfl⟩
  have HZ := Lib.hid hzz
  rw [hzz] at hz
  obtain ⟨y, hyy⟩ : ∃ y, cmpD i s k u = y := ⟨_, rfl⟩
  have HY := Lib.hid hyy
  rw [hyy] at hy
  clear hyy
  clear hzz
  go_enter Try.func43, Try.ntmps43
  go_wp2_with fail
  generalize hW : World.alloc (World.alloc (World.alloc (World.alloc w _) _) _) _ = W0
  have E0 : St w W0 [(A, n, c, (i).natAbs), (A', n', c', (j).natAbs), (A'', n'', c'', (k).natAbs)] [((w.heap.size + 1 + 1 + 1), .bool false, .slice none 0 0, .int .i64 0), ((w.heap.size + 1 + 1), (.bool (ngB k)), (.slice A'' n'' c''), (.int .i64 (u : Int))), ((w.heap.size + 1), (.bool (ngB j)), (.slice A' n' c'), (.int .i64 (t : Int))), (w.heap.size, (.bool (ngB i)), (.slice A n c), (.int .i64 (s : Int)))] := by rw [← hW]; exact ((((start_three H.out H'.out H''.out).lay rfl).lay (by simp)).lay (by simp)).lay (by simp)
  have E := Lib.hid E0
  clear hW E0
  obtain ⟨p0, p1, p2, pf0, pf1, pf2, plt⟩ := St.at_ (x0 := (.bool (ngB i))) (x1 := (.slice A n c)) (x2 := (.int .i64 (s : Int))) (g := w.heap.size) E (by simp)
  obtain ⟨q0, q1, q2, qf0, qf1, qf2, qlt⟩ := St.at_ (x0 := (.bool (ngB j))) (x1 := (.slice A' n' c')) (x2 := (.int .i64 (t : Int))) (g := (w.heap.size + 1)) E (by simp)
  obtain ⟨v0, v1, v2, vf0, vf1, vf2, vlt⟩ := St.at_ (x0 := (.bool (ngB k))) (x1 := (.slice A'' n'' c'')) (x2 := (.int .i64 (u : Int))) (g := (w.heap.size + 1 + 1)) E (by simp)
  go_wp2_with fail
  refine (refCmp5_is (St.got E (by simp)) (St.got E (by simp)) hn hn' hs ht HZ.out).mono ?_; rintro e w1 ⟨rfl, hb1⟩; replace E := Lib.hid (St.step E.out hb1); clear hb1
  clear p0 p1 p2 pf0 pf1 pf2 plt q0 q1 q2 qf0 qf1 qf2 qlt v0 v1 v2 vf0 vf1 vf2 vlt
  obtain ⟨p0, p1, p2, pf0, pf1, pf2, plt⟩ := St.at_ (x0 := (.bool (ngB i))) (x1 := (.slice A n c)) (x2 := (.int .i64 (s : Int))) (g := w.heap.size) E (by simp)
  obtain ⟨q0, q1, q2, qf0, qf1, qf2, qlt⟩ := St.at_ (x0 := (.bool (ngB j))) (x1 := (.slice A' n' c')) (x2 := (.int .i64 (t : Int))) (g := (w.heap.size + 1)) E (by simp)
  obtain ⟨v0, v1, v2, vf0, vf1, vf2, vlt⟩ := St.at_ (x0 := (.bool (ngB k))) (x1 := (.slice A'' n'' c'')) (x2 := (.int .i64 (u : Int))) (g := (w.heap.size + 1 + 1)) E (by simp)
  go_wp2_with fail
  refine (refCmp5_is (St.got E (by simp)) (St.got E (by simp)) hn hn'' hs hu HY.out).mono ?_; rintro e w2 ⟨rfl, hb1⟩; replace E := Lib.hid (St.step E.out hb1); clear hb1
  clear p0 p1 p2 pf0 pf1 pf2 plt q0 q1 q2 qf0 qf1 qf2 qlt v0 v1 v2 vf0 vf1 vf2 vlt
  obtain ⟨p0, p1, p2, pf0, pf1, pf2, plt⟩ := St.at_ (x0 := (.bool (ngB i))) (x1 := (.slice A n c)) (x2 := (.int .i64 (s : Int))) (g := w.heap.size) E (by simp)
  obtain ⟨q0, q1, q2, qf0, qf1, qf2, qlt⟩ := St.at_ (x0 := (.bool (ngB j))) (x1 := (.slice A' n' c')) (x2 := (.int .i64 (t : Int))) (g := (w.heap.size + 1)) E (by simp)
  obtain ⟨v0, v1, v2, vf0, vf1, vf2, vlt⟩ := St.at_ (x0 := (.bool (ngB k))) (x1 := (.slice A'' n'' c'')) (x2 := (.int .i64 (u : Int))) (g := (w.heap.size + 1 + 1)) E (by simp)
  obtain ⟨r0, r1, r2, rf0, rf1, rf2, rlt⟩ := St.at_ (x0 := .bool false) (x1 := .slice none 0 0) (x2 := .int .i64 0) (g := (w.heap.size + 1 + 1 + 1)) E (by simp)
  go_wp2_with fail
  have EF := Lib.hid (St.store E.out (g := (w.heap.size + 1 + 1 + 1)) (x0 := .bool false) (x1 := .slice none 0 0) (x2 := .int .i64 0) (by simp) (noLimb_bool _) (noLimb_slice _ _ _) (noLimb_int _) [] (fun q hq => by cases hq) (.bool (ngB (k))) (.slice A'' n'' c'') (.int .i64 (u : Int)))
  obtain ⟨e0, e1, e2, _, _, _, _⟩ := St.at_ (x0 := .bool (ngB (k))) (x1 := .slice A'' n'' c'') (x2 := .int .i64 (u : Int)) (g := (w.heap.size + 1 + 1 + 1)) EF (by simp)
  exact bodyPost_ret (v := .agg #[.bool (ngB (k)), .slice A'' n'' c'', .int .i64 (u : Int)]) (by simp [results, Try.results43, go_sem, e0, e1, e2]) rfl ⟨A'', n'', c'', rfl, St.got EF (by simp), EF.out.bel⟩

set_option maxHeartbeats 2000000 in
theorem refBetween_d (A A' A'' : Option Addr) (n c n' c' n'' c'' s t u : Nat) (i j k : Int) (w : World) (h : Num w w.heap.size A n c i.natAbs) (h' : Num w w.heap.size A' n' c' j.natAbs) (h'' : Num w w.heap.size A'' n'' c'' k.natAbs) (hn : n ≤ 1000000) (hn' : n' ≤ 1000000) (hn'' : n'' ≤ 1000000) (hs : s ≤ 100000) (ht : t ≤ 100000) (hu : u ≤ 100000) (hz : 0 ≤ cmpD i s j t) (hy : cmpD i s k u ≤ 0) :
    Calls Try.prog 43 #[.agg #[.bool (ngB i), .slice A n c, .int .i64 (s : Int)], .agg #[.bool (ngB j), .slice A' n' c', .int .i64 (t : Int)], .agg #[.bool (ngB k), .slice A'' n'' c'', .int .i64 (u : Int)]] w (RetDec w i s) := by
  have H := Lib.hid h
  have H' := Lib.hid h'
  have H'' := Lib.hid h''
  clear h h' h''
  obtain ⟨z, hzz⟩ : ∃ z, cmpD i s j t = z := ⟨_, rfl⟩
  have HZ := Lib.hid hzz
  rw [hzz] at hz
  obtain ⟨y, hyy⟩ : ∃ y, cmpD i s k u = y := ⟨_, rfl⟩
  have HY := Lib.hid hyy
  rw [hyy] at hy
  clear hyy
  clear hzz
  go_enter Try.func43, Try.ntmps43
  go_wp2_with fail
  generalize hW : World.alloc (World.alloc (World.alloc (World.alloc w _) _) _) _ = W0
  have E0 : St w W0 [(A, n, c, (i).natAbs), (A', n', c', (j).natAbs), (A'', n'', c'', (k).natAbs)] [((w.heap.size + 1 + 1 + 1), .bool false, .slice none 0 0, .int .i64 0), ((w.heap.size + 1 + 1), (.bool (ngB k)), (.slice A'' n'' c''), (.int .i64 (u : Int))), ((w.heap.size + 1), (.bool (ngB j)), (.slice A' n' c'), (.int .i64 (t : Int))), (w.heap.size, (.bool (ngB i)), (.slice A n c), (.int .i64 (s : Int)))] := by rw [← hW]; exact ((((start_three H.out H'.out H''.out).lay rfl).lay (by simp)).lay (by simp)).lay (by simp)
  have E := Lib.hid E0
  clear hW E0
  obtain ⟨p0, p1, p2, pf0, pf1, pf2, plt⟩ := St.at_ (x0 := (.bool (ngB i))) (x1 := (.slice A n c)) (x2 := (.int .i64 (s : Int))) (g := w.heap.size) E (by simp)
  obtain ⟨q0, q1, q2, qf0, qf1, qf2, qlt⟩ := St.at_ (x0 := (.bool (ngB j))) (x1 := (.slice A' n' c')) (x2 := (.int .i64 (t : Int))) (g := (w.heap.size + 1)) E (by simp)
  obtain ⟨v0, v1, v2, vf0, vf1, vf2, vlt⟩ := St.at_ (x0 := (.bool (ngB k))) (x1 := (.slice A'' n'' c'')) (x2 := (.int .i64 (u : Int))) (g := (w.heap.size + 1 + 1)) E (by simp)
  go_wp2_with fail
  refine (refCmp5_is (St.got E (by simp)) (St.got E (by simp)) hn hn' hs ht HZ.out).mono ?_; rintro e w1 ⟨rfl, hb1⟩; replace E := Lib.hid (St.step E.out hb1); clear hb1
  clear p0 p1 p2 pf0 pf1 pf2 plt q0 q1 q2 qf0 qf1 qf2 qlt v0 v1 v2 vf0 vf1 vf2 vlt
  obtain ⟨p0, p1, p2, pf0, pf1, pf2, plt⟩ := St.at_ (x0 := (.bool (ngB i))) (x1 := (.slice A n c)) (x2 := (.int .i64 (s : Int))) (g := w.heap.size) E (by simp)
  obtain ⟨q0, q1, q2, qf0, qf1, qf2, qlt⟩ := St.at_ (x0 := (.bool (ngB j))) (x1 := (.slice A' n' c')) (x2 := (.int .i64 (t : Int))) (g := (w.heap.size + 1)) E (by simp)
  obtain ⟨v0, v1, v2, vf0, vf1, vf2, vlt⟩ := St.at_ (x0 := (.bool (ngB k))) (x1 := (.slice A'' n'' c'')) (x2 := (.int .i64 (u : Int))) (g := (w.heap.size + 1 + 1)) E (by simp)
  go_wp2_with fail
  refine (refCmp5_is (St.got E (by simp)) (St.got E (by simp)) hn hn'' hs hu HY.out).mono ?_; rintro e w2 ⟨rfl, hb1⟩; replace E := Lib.hid (St.step E.out hb1); clear hb1
  clear p0 p1 p2 pf0 pf1 pf2 plt q0 q1 q2 qf0 qf1 qf2 qlt v0 v1 v2 vf0 vf1 vf2 vlt
  obtain ⟨p0, p1, p2, pf0, pf1, pf2, plt⟩ := St.at_ (x0 := (.bool (ngB i))) (x1 := (.slice A n c)) (x2 := (.int .i64 (s : Int))) (g := w.heap.size) E (by simp)
  obtain ⟨q0, q1, q2, qf0, qf1, qf2, qlt⟩ := St.at_ (x0 := (.bool (ngB j))) (x1 := (.slice A' n' c')) (x2 := (.int .i64 (t : Int))) (g := (w.heap.size + 1)) E (by simp)
  obtain ⟨v0, v1, v2, vf0, vf1, vf2, vlt⟩ := St.at_ (x0 := (.bool (ngB k))) (x1 := (.slice A'' n'' c'')) (x2 := (.int .i64 (u : Int))) (g := (w.heap.size + 1 + 1)) E (by simp)
  obtain ⟨r0, r1, r2, rf0, rf1, rf2, rlt⟩ := St.at_ (x0 := .bool false) (x1 := .slice none 0 0) (x2 := .int .i64 0) (g := (w.heap.size + 1 + 1 + 1)) E (by simp)
  go_wp2_with fail
  have EF := Lib.hid (St.store E.out (g := (w.heap.size + 1 + 1 + 1)) (x0 := .bool false) (x1 := .slice none 0 0) (x2 := .int .i64 0) (by simp) (noLimb_bool _) (noLimb_slice _ _ _) (noLimb_int _) [] (fun q hq => by cases hq) (.bool (ngB (i))) (.slice A n c) (.int .i64 (s : Int)))
  obtain ⟨e0, e1, e2, _, _, _, _⟩ := St.at_ (x0 := .bool (ngB (i))) (x1 := .slice A n c) (x2 := .int .i64 (s : Int)) (g := (w.heap.size + 1 + 1 + 1)) EF (by simp)
  exact bodyPost_ret (v := .agg #[.bool (ngB (i)), .slice A n c, .int .i64 (s : Int)]) (by simp [results, Try.results43, go_sem, e0, e1, e2]) rfl ⟨A, n, c, rfl, St.got EF (by simp), EF.out.bel⟩

end Go.Proofs.Ytafbkoejobkncaa
