/-
  Contracts of layer 5, the tenth part: Add, Sub and the document's.
-/
import Derived.Test.YtafbkoejobkncaaDecI
import Derived.Test.YtafbkoejobkncaaAllDigD
namespace Go.Proofs.Ytafbkoejobkncaa
open Go.RowKit

theorem up_len {i : Int} {s M n : Nat} (h : (dg i.natAbs).length = n) : (dg (up i s M).natAbs).length ≤ n + (M - s) + 1 := by
  rw [abs_up]
  have h1 := dg_len_mul i.natAbs (10 ^ (M - s))
  have h2 := pow10_len (N := M - s) (k := M - s + 1) (by omega)
  omega
theorem sgn_add {x y : Int} (h : ngB x = ngB y) : sgn (ngB x) (x.natAbs + y.natAbs) = x + y := by
  unfold ngB at h
  have h2 : (x < 0) ↔ (y < 0) := by simpa using h
  unfold sgn ngB
  by_cases h0 : x < 0
  · rw [decide_eq_true h0, if_pos rfl]; omega
  · rw [decide_eq_false h0, if_neg (by simp)]; omega
theorem sgn_sub {x y : Int} (h : ngB x ≠ ngB y) (hl : y.natAbs ≤ x.natAbs) : sgn (ngB x) (x.natAbs - y.natAbs) = x + y := by
  unfold ngB at h
  have h2 : ¬((x < 0) ↔ (y < 0)) := by simpa using h
  unfold sgn ngB
  by_cases h0 : x < 0
  · rw [decide_eq_true h0, if_pos rfl]; omega
  · rw [decide_eq_false h0, if_neg (by simp)]; omega
theorem sgn_bus {x y : Int} (h : ngB x ≠ ngB y) (hl : x.natAbs ≤ y.natAbs) : sgn (ngB y) (y.natAbs - x.natAbs) = x + y := by
  rw [sgn_sub (fun e => h e.symm) hl, Int.add_comm]
/-- The sum of two decimals, at the greater scale. -/
def addZ (i : Int) (s : Nat) (j : Int) (t : Nat) : Int := up i s (max s t) + up j t (max s t)

set_option maxHeartbeats 4000000 in
theorem add5_same (A A' : Option Addr) (n c n' c' s t : Nat) (i j : Int) (w : World) (h : Num w w.heap.size A n c i.natAbs) (h' : Num w w.heap.size A' n' c' j.natAbs) (hn : n ≤ 1000000) (hn' : n' ≤ 1000000) (hs : s ≤ 100000) (ht : t ≤ 100000) (M : Nat) (hm : max s t = M) (x y : Int) (hx : up i s M = x) (hy : up j t M = y) (hb : ngB x = ngB y) :
    Calls Try.prog 28 #[.agg #[.bool (ngB i), .slice A n c, .int .i64 (s : Int)], .agg #[.bool (ngB j), .slice A' n' c', .int .i64 (t : Int)]] w (RetDec w (x + y) M) := by
  have L1 : (dg x.natAbs).length ≤ n + (M - s) + 1 := by rw [← hx]; exact up_len h.len
  have L2 : (dg y.natAbs).length ≤ n' + (M - t) + 1 := by rw [← hy]; exact up_len h'.len
  have HA : Hid (∀ (w : World), Num w w.heap.size A n c i.natAbs → Num w w.heap.size A' n' c' j.natAbs → Calls Try.prog 15 #[.agg #[.bool (ngB i), .slice A n c, .int .i64 (s : Int)], .agg #[.bool (ngB j), .slice A' n' c', .int .i64 (t : Int)]] w (RetDec2 w x M y M)) := fun w h h' => by
    subst hx; subst hy; subst hm; exact align_any A A' n c n' c' s t i j w h h' hn hn' hs ht
  have hM : M ≤ 100000 := by omega
  have HX0 : sgn (ngB x) (x.natAbs + y.natAbs) = x + y := sgn_add hb
  have HXA : Hid (x.natAbs + y.natAbs = (x + y).natAbs) := (by show _ = _; rw [← HX0, abs_sgn])
  have HX : Hid (sgn (ngB x) (x + y).natAbs = x + y) := (by show _ = _; rw [← HXA.out]; exact HX0)
  clear HX0
  have hb2 := bool_eq hb
  skip
  have HL1 : Hid ((dg x.natAbs).length ≤ 2000000) := (by show _ ≤ _; omega)
  have HL2 : Hid ((dg y.natAbs).length ≤ 2000000) := (by show _ ≤ _; omega)
  have H := Lib.hid h
  have H' := Lib.hid h'
  clear h h'
  clear L1 L2 hx hy hm hb
  go_enter Try.func28, Try.ntmps28
  go_wp2_with fail
  generalize hW : World.alloc (World.alloc (World.alloc w _) _) _ = W0
  have E0 : St w W0 [(A, n, c, (i).natAbs), (A', n', c', (j).natAbs)] [((w.heap.size + 1 + 1), .bool false, .slice none 0 0, .int .i64 0), ((w.heap.size + 1), (.bool (ngB j)), (.slice A' n' c'), (.int .i64 (t : Int))), (w.heap.size, (.bool (ngB i)), (.slice A n c), (.int .i64 (s : Int)))] := by rw [← hW]; exact (((start_two H.out H'.out).lay rfl).lay (by simp)).lay (by simp)
  have E := Lib.hid E0
  clear hW E0
  obtain ⟨p0, p1, p2, pf0, pf1, pf2, plt⟩ := St.at_ (x0 := (.bool (ngB i))) (x1 := (.slice A n c)) (x2 := (.int .i64 (s : Int))) (g := w.heap.size) E (by simp)
  obtain ⟨q0, q1, q2, qf0, qf1, qf2, qlt⟩ := St.at_ (x0 := (.bool (ngB j))) (x1 := (.slice A' n' c')) (x2 := (.int .i64 (t : Int))) (g := (w.heap.size + 1)) E (by simp)
  
  go_wp2_with fail
  refine (HA.out _ (St.got E (by simp)) (St.got E (by simp))).mono ?_
  rintro e w4 ⟨A1, n1, c1, A2, n2, c2, rfl, h1, h2, hb4⟩
  have hn1 : n1 ≤ 2000000 := by have := h1.len; have := HL1.out; omega
  have hn2 : n2 ≤ 2000000 := by have := h2.len; have := HL2.out; omega
  replace E : Hid (St w w4 [(A1, n1, c1, (x).natAbs), (A2, n2, c2, (y).natAbs)] [((w.heap.size + 1 + 1), .bool false, .slice none 0 0, .int .i64 0), ((w.heap.size + 1), (.bool (ngB j)), (.slice A' n' c'), (.int .i64 (t : Int))), (w.heap.size, (.bool (ngB i)), (.slice A n c), (.int .i64 (s : Int)))]) := ⟨(E.out.step hb4).bel, (St.start w4 (l := [(A1, n1, c1, (x).natAbs), (A2, n2, c2, (y).natAbs)]) (by simp; exact ⟨h1, h2⟩)).num, (E.out.step hb4).box⟩
  clear h1 h2 hb4 p0 p1 p2 pf0 pf1 pf2 plt q0 q1 q2 qf0 qf1 qf2 qlt
  obtain ⟨p0, p1, p2, pf0, pf1, pf2, plt⟩ := St.at_ (x0 := (.bool (ngB i))) (x1 := (.slice A n c)) (x2 := (.int .i64 (s : Int))) (g := w.heap.size) E (by simp)
  obtain ⟨q0, q1, q2, qf0, qf1, qf2, qlt⟩ := St.at_ (x0 := (.bool (ngB j))) (x1 := (.slice A' n' c')) (x2 := (.int .i64 (t : Int))) (g := (w.heap.size + 1)) E (by simp)
  obtain ⟨r0, r1, r2, rf0, rf1, rf2, rlt⟩ := St.at_ (x0 := .bool false) (x1 := .slice none 0 0) (x2 := .int .i64 0) (g := (w.heap.size + 1 + 1)) E (by simp)
  go_wp2_with fail
  have E4 := Lib.hid (St.store E.out (g := w.heap.size) (x0 := (.bool (ngB i))) (x1 := (.slice A n c)) (x2 := (.int .i64 (s : Int))) (by simp) (noLimb_bool _) (noLimb_slice _ _ _) (noLimb_int _) [((w.heap.size + 1 + 1), .bool false, .slice none 0 0, .int .i64 0), ((w.heap.size + 1), (.bool (ngB j)), (.slice A' n' c'), (.int .i64 (t : Int)))] (by simp <;> omega) (.bool (ngB x)) (.slice A1 n1 c1) (.int .i64 (M : Int)))
  have E5 := Lib.hid (St.store E4.out (g := (w.heap.size + 1)) (x0 := (.bool (ngB j))) (x1 := (.slice A' n' c')) (x2 := (.int .i64 (t : Int))) (by simp) (noLimb_bool _) (noLimb_slice _ _ _) (noLimb_int _) [((w.heap.size + 1 + 1), .bool false, .slice none 0 0, .int .i64 0), (w.heap.size, (.bool (ngB x)), (.slice A1 n1 c1), (.int .i64 (M : Int)))] (by simp <;> omega) (.bool (ngB y)) (.slice A2 n2 c2) (.int .i64 (M : Int)))
  unfold put3 at E5
  clear p0 p1 p2 pf0 pf1 pf2 plt q0 q1 q2 qf0 qf1 qf2 qlt
  clear r0 r1 r2 rf0 rf1 rf2 rlt
  generalize hW2 : (World.setCell (World.setCell (World.setCell (World.setCell (World.setCell (World.setCell w4 _ _) _ _) _ _) _ _) _ _) _ _) = W1 at E5 ⊢
  clear hW2 E
  have E := Lib.hid (St.drew E5.out)
  clear E5
  go_region_held3 (fun v => v.cell? ⟨w.heap.size, 0, none⟩ = some (.bool (ngB x)) ∧ v.cell? ⟨w.heap.size, 1, none⟩ = some (.slice A1 n1 c1) ∧ v.cell? ⟨w.heap.size, 2, none⟩ = some (.int .i64 (M : Int)) ∧ v.cell? ⟨w.heap.size + 1, 0, none⟩ = some (.bool (ngB y)) ∧ v.cell? ⟨w.heap.size + 1, 1, none⟩ = some (.slice A2 n2 c2) ∧ v.cell? ⟨w.heap.size + 1, 2, none⟩ = some (.int .i64 (M : Int))) (first | (have X0 := St.at_ (x0 := (.bool (ngB x))) (x1 := (.slice A1 n1 c1)) (x2 := (.int .i64 (M : Int))) (g := w.heap.size) E (by simp); have X1 := St.at_ (x0 := (.bool (ngB y))) (x1 := (.slice A2 n2 c2)) (x2 := (.int .i64 (M : Int))) (g := (w.heap.size + 1)) E (by simp); with_reducible exact ⟨X0.c0, X0.c1, X0.c2, X1.c0, X1.c1, X1.c2⟩) | (with_reducible exact ⟨((St.at_ (x0 := (.bool (ngB x))) (x1 := (.slice A1 n1 c1)) (x2 := (.int .i64 (M : Int))) (g := w.heap.size) E (by simp)).apart (g' := (w.heap.size + 1 + 1)) _ _ _ (by omega)).c0, ((St.at_ (x0 := (.bool (ngB x))) (x1 := (.slice A1 n1 c1)) (x2 := (.int .i64 (M : Int))) (g := w.heap.size) E (by simp)).apart (g' := (w.heap.size + 1 + 1)) _ _ _ (by omega)).c1, ((St.at_ (x0 := (.bool (ngB x))) (x1 := (.slice A1 n1 c1)) (x2 := (.int .i64 (M : Int))) (g := w.heap.size) E (by simp)).apart (g' := (w.heap.size + 1 + 1)) _ _ _ (by omega)).c2, ((St.at_ (x0 := (.bool (ngB y))) (x1 := (.slice A2 n2 c2)) (x2 := (.int .i64 (M : Int))) (g := (w.heap.size + 1)) E (by simp)).apart (g' := (w.heap.size + 1 + 1)) _ _ _ (by omega)).c0, ((St.at_ (x0 := (.bool (ngB y))) (x1 := (.slice A2 n2 c2)) (x2 := (.int .i64 (M : Int))) (g := (w.heap.size + 1)) E (by simp)).apart (g' := (w.heap.size + 1 + 1)) _ _ _ (by omega)).c1, ((St.at_ (x0 := (.bool (ngB y))) (x1 := (.slice A2 n2 c2)) (x2 := (.int .i64 (M : Int))) (g := (w.heap.size + 1)) E (by simp)).apart (g' := (w.heap.size + 1 + 1)) _ _ _ (by omega)).c2⟩))
    (first | (go_at_call 58; refine (add_any A1 A2 n1 c1 n2 c2 x.natAbs y.natAbs _ (St.got E (by simp)) (St.got E (by simp)) (by omega) (by omega)).mono ?_; rintro e w6 ⟨A3, n3, c3, rfl, h1, hb1⟩; rw [HXA.out] at h1; replace E := Lib.hid (St.push E.out hb1 h1); clear h1 hb1) | (go_at_call 47; refine (decimal_is (b := ngB x) (A := A3) (n := n3) (c := c3) (s := M) (St.got E (by simp)) (by omega) HX.out).mono ?_; rintro e w7 ⟨rfl, hb1⟩; replace E := Lib.hid (St.step E.out hb1); clear hb1; obtain ⟨r0, r1, r2, rf0, rf1, rf2, rlt⟩ := St.at_ (x0 := .bool false) (x1 := .slice none 0 0) (x2 := .int .i64 0) (g := (w.heap.size + 1 + 1)) E (by simp)))
  all_goals
    go_wp2_with fail
    have EF := Lib.hid (St.store E.out (g := (w.heap.size + 1 + 1)) (x0 := .bool false) (x1 := .slice none 0 0) (x2 := .int .i64 0) (by simp) (noLimb_bool _) (noLimb_slice _ _ _) (noLimb_int _) [] (fun q hq => by cases hq) (.bool (ngB (x + y))) (.slice A3 n3 c3) (.int .i64 (M : Int)))
    obtain ⟨e0, e1, e2, _, _, _, _⟩ := St.at_ (x0 := .bool (ngB (x + y))) (x1 := .slice A3 n3 c3) (x2 := .int .i64 (M : Int)) (g := (w.heap.size + 1 + 1)) EF (by simp)
    exact bodyPost_ret (v := .agg #[.bool (ngB (x + y)), .slice A3 n3 c3, .int .i64 (M : Int)]) (by simp [results, Try.results28, go_sem, e0, e1, e2]) rfl ⟨A3, n3, c3, rfl, St.got EF (by simp), EF.out.bel⟩

set_option maxHeartbeats 4000000 in
theorem add5_ge (A A' : Option Addr) (n c n' c' s t : Nat) (i j : Int) (w : World) (h : Num w w.heap.size A n c i.natAbs) (h' : Num w w.heap.size A' n' c' j.natAbs) (hn : n ≤ 1000000) (hn' : n' ≤ 1000000) (hs : s ≤ 100000) (ht : t ≤ 100000) (M : Nat) (hm : max s t = M) (x y : Int) (hx : up i s M = x) (hy : up j t M = y) (hb : ngB x ≠ ngB y) (hl : y.natAbs ≤ x.natAbs) :
    Calls Try.prog 28 #[.agg #[.bool (ngB i), .slice A n c, .int .i64 (s : Int)], .agg #[.bool (ngB j), .slice A' n' c', .int .i64 (t : Int)]] w (RetDec w (x + y) M) := by
  have L1 : (dg x.natAbs).length ≤ n + (M - s) + 1 := by rw [← hx]; exact up_len h.len
  have L2 : (dg y.natAbs).length ≤ n' + (M - t) + 1 := by rw [← hy]; exact up_len h'.len
  have HA : Hid (∀ (w : World), Num w w.heap.size A n c i.natAbs → Num w w.heap.size A' n' c' j.natAbs → Calls Try.prog 15 #[.agg #[.bool (ngB i), .slice A n c, .int .i64 (s : Int)], .agg #[.bool (ngB j), .slice A' n' c', .int .i64 (t : Int)]] w (RetDec2 w x M y M)) := fun w h h' => by
    subst hx; subst hy; subst hm; exact align_any A A' n c n' c' s t i j w h h' hn hn' hs ht
  have hM : M ≤ 100000 := by omega
  have HX0 : sgn (ngB x) (x.natAbs - y.natAbs) = x + y := sgn_sub hb hl
  have HXA : Hid (x.natAbs - y.natAbs = (x + y).natAbs) := (by show _ = _; rw [← HX0, abs_sgn])
  have HX : Hid (sgn (ngB x) (x + y).natAbs = x + y) := (by show _ = _; rw [← HXA.out]; exact HX0)
  clear HX0
  have hb2 := bool_ne hb
  have hz1 := (cmpN_size x.natAbs y.natAbs); have hz2 : 0 ≤ cmpN x.natAbs y.natAbs := (by rcases Int.lt_or_le (cmpN x.natAbs y.natAbs) 0 with h1 | h1; (rw [cmpN_neg] at h1; omega); exact h1); obtain ⟨z, hz⟩ : ∃ z, cmpN x.natAbs y.natAbs = z := ⟨_, rfl⟩; rw [hz] at hz1 hz2; have HZ := Lib.hid hz; obtain ⟨_, hz1⟩ := hz1; clear hz; have HLE := Lib.hid hl
  have HL1 : Hid ((dg x.natAbs).length ≤ 2000000) := (by show _ ≤ _; omega)
  have HL2 : Hid ((dg y.natAbs).length ≤ 2000000) := (by show _ ≤ _; omega)
  have H := Lib.hid h
  have H' := Lib.hid h'
  clear h h'
  clear L1 L2 hx hy hm hb hl
  go_enter Try.func28, Try.ntmps28
  go_wp2_with fail
  generalize hW : World.alloc (World.alloc (World.alloc w _) _) _ = W0
  have E0 : St w W0 [(A, n, c, (i).natAbs), (A', n', c', (j).natAbs)] [((w.heap.size + 1 + 1), .bool false, .slice none 0 0, .int .i64 0), ((w.heap.size + 1), (.bool (ngB j)), (.slice A' n' c'), (.int .i64 (t : Int))), (w.heap.size, (.bool (ngB i)), (.slice A n c), (.int .i64 (s : Int)))] := by rw [← hW]; exact (((start_two H.out H'.out).lay rfl).lay (by simp)).lay (by simp)
  have E := Lib.hid E0
  clear hW E0
  obtain ⟨p0, p1, p2, pf0, pf1, pf2, plt⟩ := St.at_ (x0 := (.bool (ngB i))) (x1 := (.slice A n c)) (x2 := (.int .i64 (s : Int))) (g := w.heap.size) E (by simp)
  obtain ⟨q0, q1, q2, qf0, qf1, qf2, qlt⟩ := St.at_ (x0 := (.bool (ngB j))) (x1 := (.slice A' n' c')) (x2 := (.int .i64 (t : Int))) (g := (w.heap.size + 1)) E (by simp)
  
  go_wp2_with fail
  refine (HA.out _ (St.got E (by simp)) (St.got E (by simp))).mono ?_
  rintro e w4 ⟨A1, n1, c1, A2, n2, c2, rfl, h1, h2, hb4⟩
  have hn1 : n1 ≤ 2000000 := by have := h1.len; have := HL1.out; omega
  have hn2 : n2 ≤ 2000000 := by have := h2.len; have := HL2.out; omega
  replace E : Hid (St w w4 [(A1, n1, c1, (x).natAbs), (A2, n2, c2, (y).natAbs)] [((w.heap.size + 1 + 1), .bool false, .slice none 0 0, .int .i64 0), ((w.heap.size + 1), (.bool (ngB j)), (.slice A' n' c'), (.int .i64 (t : Int))), (w.heap.size, (.bool (ngB i)), (.slice A n c), (.int .i64 (s : Int)))]) := ⟨(E.out.step hb4).bel, (St.start w4 (l := [(A1, n1, c1, (x).natAbs), (A2, n2, c2, (y).natAbs)]) (by simp; exact ⟨h1, h2⟩)).num, (E.out.step hb4).box⟩
  clear h1 h2 hb4 p0 p1 p2 pf0 pf1 pf2 plt q0 q1 q2 qf0 qf1 qf2 qlt
  obtain ⟨p0, p1, p2, pf0, pf1, pf2, plt⟩ := St.at_ (x0 := (.bool (ngB i))) (x1 := (.slice A n c)) (x2 := (.int .i64 (s : Int))) (g := w.heap.size) E (by simp)
  obtain ⟨q0, q1, q2, qf0, qf1, qf2, qlt⟩ := St.at_ (x0 := (.bool (ngB j))) (x1 := (.slice A' n' c')) (x2 := (.int .i64 (t : Int))) (g := (w.heap.size + 1)) E (by simp)
  obtain ⟨r0, r1, r2, rf0, rf1, rf2, rlt⟩ := St.at_ (x0 := .bool false) (x1 := .slice none 0 0) (x2 := .int .i64 0) (g := (w.heap.size + 1 + 1)) E (by simp)
  go_wp2_with fail
  have E4 := Lib.hid (St.store E.out (g := w.heap.size) (x0 := (.bool (ngB i))) (x1 := (.slice A n c)) (x2 := (.int .i64 (s : Int))) (by simp) (noLimb_bool _) (noLimb_slice _ _ _) (noLimb_int _) [((w.heap.size + 1 + 1), .bool false, .slice none 0 0, .int .i64 0), ((w.heap.size + 1), (.bool (ngB j)), (.slice A' n' c'), (.int .i64 (t : Int)))] (by simp <;> omega) (.bool (ngB x)) (.slice A1 n1 c1) (.int .i64 (M : Int)))
  have E5 := Lib.hid (St.store E4.out (g := (w.heap.size + 1)) (x0 := (.bool (ngB j))) (x1 := (.slice A' n' c')) (x2 := (.int .i64 (t : Int))) (by simp) (noLimb_bool _) (noLimb_slice _ _ _) (noLimb_int _) [((w.heap.size + 1 + 1), .bool false, .slice none 0 0, .int .i64 0), (w.heap.size, (.bool (ngB x)), (.slice A1 n1 c1), (.int .i64 (M : Int)))] (by simp <;> omega) (.bool (ngB y)) (.slice A2 n2 c2) (.int .i64 (M : Int)))
  unfold put3 at E5
  clear p0 p1 p2 pf0 pf1 pf2 plt q0 q1 q2 qf0 qf1 qf2 qlt
  clear r0 r1 r2 rf0 rf1 rf2 rlt
  generalize hW2 : (World.setCell (World.setCell (World.setCell (World.setCell (World.setCell (World.setCell w4 _ _) _ _) _ _) _ _) _ _) _ _) = W1 at E5 ⊢
  clear hW2 E
  have E := E5
  clear E5
  refine (cmp_is (St.got E (by simp)) (St.got E (by simp)) HZ.out).mono ?_; rintro e w5 ⟨rfl, hb1⟩; replace E := Lib.hid (St.step E.out hb1); clear hb1
  obtain ⟨p0, p1, p2, pf0, pf1, pf2, plt⟩ := St.at_ (x0 := (.bool (ngB x))) (x1 := (.slice A1 n1 c1)) (x2 := (.int .i64 (M : Int))) (g := w.heap.size) E (by simp)
  obtain ⟨q0, q1, q2, qf0, qf1, qf2, qlt⟩ := St.at_ (x0 := (.bool (ngB y))) (x1 := (.slice A2 n2 c2)) (x2 := (.int .i64 (M : Int))) (g := (w.heap.size + 1)) E (by simp)
  go_wp2_with fail
  clear p0 p1 p2 pf0 pf1 pf2 plt q0 q1 q2 qf0 qf1 qf2 qlt
  refine (sub_ge A1 A2 n1 c1 n2 c2 (x).natAbs (y).natAbs _ (St.got E (by simp)) (St.got E (by simp)) (by omega) HLE.out).mono ?_; rintro e w6 ⟨A3, n3, c3, rfl, h1, hb1⟩; rw [HXA.out] at h1; replace E := Lib.hid (St.push E.out hb1 h1); clear h1 hb1
  obtain ⟨p0, p1, p2, pf0, pf1, pf2, plt⟩ := St.at_ (x0 := (.bool (ngB x))) (x1 := (.slice A1 n1 c1)) (x2 := (.int .i64 (M : Int))) (g := w.heap.size) E (by simp)
  go_wp2_with fail
  refine (decimal_is (b := (ngB x)) (A := A3) (n := n3) (c := c3) (s := M) (St.got E (by simp)) (by omega) HX.out).mono ?_; rintro e w7 ⟨rfl, hb1⟩; replace E := Lib.hid (St.step E.out hb1); clear hb1
  clear p0 p1 p2 pf0 pf1 pf2 plt
  obtain ⟨r0, r1, r2, rf0, rf1, rf2, rlt⟩ := St.at_ (x0 := .bool false) (x1 := .slice none 0 0) (x2 := .int .i64 0) (g := (w.heap.size + 1 + 1)) E (by simp)
  go_wp2_with fail
  have EF := Lib.hid (St.store E.out (g := (w.heap.size + 1 + 1)) (x0 := .bool false) (x1 := .slice none 0 0) (x2 := .int .i64 0) (by simp) (noLimb_bool _) (noLimb_slice _ _ _) (noLimb_int _) [] (fun q hq => by cases hq) (.bool (ngB (x + y))) (.slice A3 n3 c3) (.int .i64 (M : Int)))
  obtain ⟨e0, e1, e2, _, _, _, _⟩ := St.at_ (x0 := .bool (ngB (x + y))) (x1 := .slice A3 n3 c3) (x2 := .int .i64 (M : Int)) (g := (w.heap.size + 1 + 1)) EF (by simp)
  exact bodyPost_ret (v := .agg #[.bool (ngB (x + y)), .slice A3 n3 c3, .int .i64 (M : Int)]) (by simp [results, Try.results28, go_sem, e0, e1, e2]) rfl ⟨A3, n3, c3, rfl, St.got EF (by simp), EF.out.bel⟩

set_option maxHeartbeats 4000000 in
theorem add5_lt (A A' : Option Addr) (n c n' c' s t : Nat) (i j : Int) (w : World) (h : Num w w.heap.size A n c i.natAbs) (h' : Num w w.heap.size A' n' c' j.natAbs) (hn : n ≤ 1000000) (hn' : n' ≤ 1000000) (hs : s ≤ 100000) (ht : t ≤ 100000) (M : Nat) (hm : max s t = M) (x y : Int) (hx : up i s M = x) (hy : up j t M = y) (hb : ngB x ≠ ngB y) (hl : x.natAbs < y.natAbs) :
    Calls Try.prog 28 #[.agg #[.bool (ngB i), .slice A n c, .int .i64 (s : Int)], .agg #[.bool (ngB j), .slice A' n' c', .int .i64 (t : Int)]] w (RetDec w (x + y) M) := by
  have L1 : (dg x.natAbs).length ≤ n + (M - s) + 1 := by rw [← hx]; exact up_len h.len
  have L2 : (dg y.natAbs).length ≤ n' + (M - t) + 1 := by rw [← hy]; exact up_len h'.len
  have HA : Hid (∀ (w : World), Num w w.heap.size A n c i.natAbs → Num w w.heap.size A' n' c' j.natAbs → Calls Try.prog 15 #[.agg #[.bool (ngB i), .slice A n c, .int .i64 (s : Int)], .agg #[.bool (ngB j), .slice A' n' c', .int .i64 (t : Int)]] w (RetDec2 w x M y M)) := fun w h h' => by
    subst hx; subst hy; subst hm; exact align_any A A' n c n' c' s t i j w h h' hn hn' hs ht
  have hM : M ≤ 100000 := by omega
  have HX0 : sgn (ngB y) (y.natAbs - x.natAbs) = x + y := sgn_bus hb (Nat.le_of_lt hl)
  have HXA : Hid (y.natAbs - x.natAbs = (x + y).natAbs) := (by show _ = _; rw [← HX0, abs_sgn])
  have HX : Hid (sgn (ngB y) (x + y).natAbs = x + y) := (by show _ = _; rw [← HXA.out]; exact HX0)
  clear HX0
  have hb2 := bool_ne hb
  have HZ := Lib.hid (cmpN_lt hl); have HLE := Lib.hid (Nat.le_of_lt hl)
  have HL1 : Hid ((dg x.natAbs).length ≤ 2000000) := (by show _ ≤ _; omega)
  have HL2 : Hid ((dg y.natAbs).length ≤ 2000000) := (by show _ ≤ _; omega)
  have H := Lib.hid h
  have H' := Lib.hid h'
  clear h h'
  clear L1 L2 hx hy hm hb hl
  go_enter Try.func28, Try.ntmps28
  go_wp2_with fail
  generalize hW : World.alloc (World.alloc (World.alloc w _) _) _ = W0
  have E0 : St w W0 [(A, n, c, (i).natAbs), (A', n', c', (j).natAbs)] [((w.heap.size + 1 + 1), .bool false, .slice none 0 0, .int .i64 0), ((w.heap.size + 1), (.bool (ngB j)), (.slice A' n' c'), (.int .i64 (t : Int))), (w.heap.size, (.bool (ngB i)), (.slice A n c), (.int .i64 (s : Int)))] := by rw [← hW]; exact (((start_two H.out H'.out).lay rfl).lay (by simp)).lay (by simp)
  have E := Lib.hid E0
  clear hW E0
  obtain ⟨p0, p1, p2, pf0, pf1, pf2, plt⟩ := St.at_ (x0 := (.bool (ngB i))) (x1 := (.slice A n c)) (x2 := (.int .i64 (s : Int))) (g := w.heap.size) E (by simp)
  obtain ⟨q0, q1, q2, qf0, qf1, qf2, qlt⟩ := St.at_ (x0 := (.bool (ngB j))) (x1 := (.slice A' n' c')) (x2 := (.int .i64 (t : Int))) (g := (w.heap.size + 1)) E (by simp)
  
  go_wp2_with fail
  refine (HA.out _ (St.got E (by simp)) (St.got E (by simp))).mono ?_
  rintro e w4 ⟨A1, n1, c1, A2, n2, c2, rfl, h1, h2, hb4⟩
  have hn1 : n1 ≤ 2000000 := by have := h1.len; have := HL1.out; omega
  have hn2 : n2 ≤ 2000000 := by have := h2.len; have := HL2.out; omega
  replace E : Hid (St w w4 [(A1, n1, c1, (x).natAbs), (A2, n2, c2, (y).natAbs)] [((w.heap.size + 1 + 1), .bool false, .slice none 0 0, .int .i64 0), ((w.heap.size + 1), (.bool (ngB j)), (.slice A' n' c'), (.int .i64 (t : Int))), (w.heap.size, (.bool (ngB i)), (.slice A n c), (.int .i64 (s : Int)))]) := ⟨(E.out.step hb4).bel, (St.start w4 (l := [(A1, n1, c1, (x).natAbs), (A2, n2, c2, (y).natAbs)]) (by simp; exact ⟨h1, h2⟩)).num, (E.out.step hb4).box⟩
  clear h1 h2 hb4 p0 p1 p2 pf0 pf1 pf2 plt q0 q1 q2 qf0 qf1 qf2 qlt
  obtain ⟨p0, p1, p2, pf0, pf1, pf2, plt⟩ := St.at_ (x0 := (.bool (ngB i))) (x1 := (.slice A n c)) (x2 := (.int .i64 (s : Int))) (g := w.heap.size) E (by simp)
  obtain ⟨q0, q1, q2, qf0, qf1, qf2, qlt⟩ := St.at_ (x0 := (.bool (ngB j))) (x1 := (.slice A' n' c')) (x2 := (.int .i64 (t : Int))) (g := (w.heap.size + 1)) E (by simp)
  obtain ⟨r0, r1, r2, rf0, rf1, rf2, rlt⟩ := St.at_ (x0 := .bool false) (x1 := .slice none 0 0) (x2 := .int .i64 0) (g := (w.heap.size + 1 + 1)) E (by simp)
  go_wp2_with fail
  have E4 := Lib.hid (St.store E.out (g := w.heap.size) (x0 := (.bool (ngB i))) (x1 := (.slice A n c)) (x2 := (.int .i64 (s : Int))) (by simp) (noLimb_bool _) (noLimb_slice _ _ _) (noLimb_int _) [((w.heap.size + 1 + 1), .bool false, .slice none 0 0, .int .i64 0), ((w.heap.size + 1), (.bool (ngB j)), (.slice A' n' c'), (.int .i64 (t : Int)))] (by simp <;> omega) (.bool (ngB x)) (.slice A1 n1 c1) (.int .i64 (M : Int)))
  have E5 := Lib.hid (St.store E4.out (g := (w.heap.size + 1)) (x0 := (.bool (ngB j))) (x1 := (.slice A' n' c')) (x2 := (.int .i64 (t : Int))) (by simp) (noLimb_bool _) (noLimb_slice _ _ _) (noLimb_int _) [((w.heap.size + 1 + 1), .bool false, .slice none 0 0, .int .i64 0), (w.heap.size, (.bool (ngB x)), (.slice A1 n1 c1), (.int .i64 (M : Int)))] (by simp <;> omega) (.bool (ngB y)) (.slice A2 n2 c2) (.int .i64 (M : Int)))
  unfold put3 at E5
  clear p0 p1 p2 pf0 pf1 pf2 plt q0 q1 q2 qf0 qf1 qf2 qlt
  clear r0 r1 r2 rf0 rf1 rf2 rlt
  generalize hW2 : (World.setCell (World.setCell (World.setCell (World.setCell (World.setCell (World.setCell w4 _ _) _ _) _ _) _ _) _ _) _ _) = W1 at E5 ⊢
  clear hW2 E
  have E := E5
  clear E5
  refine (cmp_is (St.got E (by simp)) (St.got E (by simp)) HZ.out).mono ?_; rintro e w5 ⟨rfl, hb1⟩; replace E := Lib.hid (St.step E.out hb1); clear hb1
  obtain ⟨p0, p1, p2, pf0, pf1, pf2, plt⟩ := St.at_ (x0 := (.bool (ngB x))) (x1 := (.slice A1 n1 c1)) (x2 := (.int .i64 (M : Int))) (g := w.heap.size) E (by simp)
  obtain ⟨q0, q1, q2, qf0, qf1, qf2, qlt⟩ := St.at_ (x0 := (.bool (ngB y))) (x1 := (.slice A2 n2 c2)) (x2 := (.int .i64 (M : Int))) (g := (w.heap.size + 1)) E (by simp)
  go_wp2_with fail
  have E6 := Lib.hid (St.store E.out (g := w.heap.size) (x0 := (.bool (ngB x))) (x1 := (.slice A1 n1 c1)) (x2 := (.int .i64 (M : Int))) (by simp) (noLimb_bool _) (noLimb_slice _ _ _) (noLimb_int _) [((w.heap.size + 1 + 1), .bool false, .slice none 0 0, .int .i64 0), ((w.heap.size + 1), (.bool (ngB y)), (.slice A2 n2 c2), (.int .i64 (M : Int)))] (by simp <;> omega) (.bool (ngB y)) (.slice A2 n2 c2) (.int .i64 (M : Int)))
  have E7 := Lib.hid (St.store E6.out (g := (w.heap.size + 1)) (x0 := (.bool (ngB y))) (x1 := (.slice A2 n2 c2)) (x2 := (.int .i64 (M : Int))) (by simp) (noLimb_bool _) (noLimb_slice _ _ _) (noLimb_int _) [((w.heap.size + 1 + 1), .bool false, .slice none 0 0, .int .i64 0), (w.heap.size, (.bool (ngB y)), (.slice A2 n2 c2), (.int .i64 (M : Int)))] (by simp <;> omega) (.bool (ngB x)) (.slice A1 n1 c1) (.int .i64 (M : Int)))
  clear p0 p1 p2 pf0 pf1 pf2 plt q0 q1 q2 qf0 qf1 qf2 qlt
  unfold put3 at E7
  generalize hW2 : (World.setCell (World.setCell (World.setCell (World.setCell (World.setCell (World.setCell w5 _ _) _ _) _ _) _ _) _ _) _ _) = W2 at E7 ⊢
  have E := E7
  clear hW2 E7 E6
  refine (sub_ge A2 A1 n2 c2 n1 c1 (y).natAbs (x).natAbs _ (St.got E (by simp)) (St.got E (by simp)) (by omega) HLE.out).mono ?_; rintro e w6 ⟨A3, n3, c3, rfl, h1, hb1⟩; rw [HXA.out] at h1; replace E := Lib.hid (St.push E.out hb1 h1); clear h1 hb1
  obtain ⟨p0, p1, p2, pf0, pf1, pf2, plt⟩ := St.at_ (x0 := (.bool (ngB y))) (x1 := (.slice A2 n2 c2)) (x2 := (.int .i64 (M : Int))) (g := w.heap.size) E (by simp)
  go_wp2_with fail
  refine (decimal_is (b := (ngB y)) (A := A3) (n := n3) (c := c3) (s := M) (St.got E (by simp)) (by omega) HX.out).mono ?_; rintro e w7 ⟨rfl, hb1⟩; replace E := Lib.hid (St.step E.out hb1); clear hb1
  clear p0 p1 p2 pf0 pf1 pf2 plt
  obtain ⟨r0, r1, r2, rf0, rf1, rf2, rlt⟩ := St.at_ (x0 := .bool false) (x1 := .slice none 0 0) (x2 := .int .i64 0) (g := (w.heap.size + 1 + 1)) E (by simp)
  go_wp2_with fail
  have EF := Lib.hid (St.store E.out (g := (w.heap.size + 1 + 1)) (x0 := .bool false) (x1 := .slice none 0 0) (x2 := .int .i64 0) (by simp) (noLimb_bool _) (noLimb_slice _ _ _) (noLimb_int _) [] (fun q hq => by cases hq) (.bool (ngB (x + y))) (.slice A3 n3 c3) (.int .i64 (M : Int)))
  obtain ⟨e0, e1, e2, _, _, _, _⟩ := St.at_ (x0 := .bool (ngB (x + y))) (x1 := .slice A3 n3 c3) (x2 := .int .i64 (M : Int)) (g := (w.heap.size + 1 + 1)) EF (by simp)
  exact bodyPost_ret (v := .agg #[.bool (ngB (x + y)), .slice A3 n3 c3, .int .i64 (M : Int)]) (by simp [results, Try.results28, go_sem, e0, e1, e2]) rfl ⟨A3, n3, c3, rfl, St.got EF (by simp), EF.out.bel⟩

theorem add5_any (A A' : Option Addr) (n c n' c' s t : Nat) (i j : Int) (w : World) (h : Num w w.heap.size A n c i.natAbs) (h' : Num w w.heap.size A' n' c' j.natAbs) (hn : n ≤ 1000000) (hn' : n' ≤ 1000000) (hs : s ≤ 100000) (ht : t ≤ 100000) :
    Calls Try.prog 28 #[.agg #[.bool (ngB i), .slice A n c, .int .i64 (s : Int)], .agg #[.bool (ngB j), .slice A' n' c', .int .i64 (t : Int)]] w (RetDec w (addZ i s j t) (max s t)) := by
  unfold addZ
  by_cases hb : ngB (up i s (max s t)) = ngB (up j t (max s t))
  · exact add5_same A A' n c n' c' s t i j w h h' hn hn' hs ht _ rfl _ _ rfl rfl hb
  · rcases Nat.lt_or_ge (up i s (max s t)).natAbs (up j t (max s t)).natAbs with hl | hl
    · exact add5_lt A A' n c n' c' s t i j w h h' hn hn' hs ht _ rfl _ _ rfl rfl hb hl
    · exact add5_ge A A' n c n' c' s t i j w h h' hn hn' hs ht _ rfl _ _ rfl rfl hb hl

set_option maxHeartbeats 4000000 in
theorem refAdd5_same (A A' : Option Addr) (n c n' c' s t : Nat) (i j : Int) (w : World) (h : Num w w.heap.size A n c i.natAbs) (h' : Num w w.heap.size A' n' c' j.natAbs) (hn : n ≤ 1000000) (hn' : n' ≤ 1000000) (hs : s ≤ 100000) (ht : t ≤ 100000) (M : Nat) (hm : max s t = M) (x y : Int) (hx : up i s M = x) (hy : up j t M = y) (hb : ngB x = ngB y) :
    Calls Try.prog 29 #[.agg #[.bool (ngB i), .slice A n c, .int .i64 (s : Int)], .agg #[.bool (ngB j), .slice A' n' c', .int .i64 (t : Int)]] w (RetDec w (x + y) M) := by
  have L1 : (dg x.natAbs).length ≤ n + (M - s) + 1 := by rw [← hx]; exact up_len h.len
  have L2 : (dg y.natAbs).length ≤ n' + (M - t) + 1 := by rw [← hy]; exact up_len h'.len
  have HA : Hid (∀ (w : World), Num w w.heap.size A n c i.natAbs → Num w w.heap.size A' n' c' j.natAbs → Calls Try.prog 16 #[.agg #[.bool (ngB i), .slice A n c, .int .i64 (s : Int)], .agg #[.bool (ngB j), .slice A' n' c', .int .i64 (t : Int)]] w (RetDec2 w x M y M)) := fun w h h' => by
    subst hx; subst hy; subst hm; exact refAlign_any A A' n c n' c' s t i j w h h' hn hn' hs ht
  have hM : M ≤ 100000 := by omega
  have HX0 : sgn (ngB x) (x.natAbs + y.natAbs) = x + y := sgn_add hb
  have HXA : Hid (x.natAbs + y.natAbs = (x + y).natAbs) := (by show _ = _; rw [← HX0, abs_sgn])
  have HX : Hid (sgn (ngB x) (x + y).natAbs = x + y) := (by show _ = _; rw [← HXA.out]; exact HX0)
  clear HX0
  have hb2 := bool_eq hb
  skip
  have HL1 : Hid ((dg x.natAbs).length ≤ 2000000) := (by show _ ≤ _; omega)
  have HL2 : Hid ((dg y.natAbs).length ≤ 2000000) := (by show _ ≤ _; omega)
  have H := Lib.hid h
  have H' := Lib.hid h'
  clear h h'
  clear L1 L2 hx hy hm hb
  go_enter Try.func29, Try.ntmps29
  go_wp2_with fail
  generalize hW : World.alloc (World.alloc (World.alloc w _) _) _ = W0
  have E0 : St w W0 [(A, n, c, (i).natAbs), (A', n', c', (j).natAbs)] [((w.heap.size + 1 + 1), .bool false, .slice none 0 0, .int .i64 0), ((w.heap.size + 1), (.bool (ngB j)), (.slice A' n' c'), (.int .i64 (t : Int))), (w.heap.size, (.bool (ngB i)), (.slice A n c), (.int .i64 (s : Int)))] := by rw [← hW]; exact (((start_two H.out H'.out).lay rfl).lay (by simp)).lay (by simp)
  have E := Lib.hid E0
  clear hW E0
  obtain ⟨p0, p1, p2, pf0, pf1, pf2, plt⟩ := St.at_ (x0 := (.bool (ngB i))) (x1 := (.slice A n c)) (x2 := (.int .i64 (s : Int))) (g := w.heap.size) E (by simp)
  obtain ⟨q0, q1, q2, qf0, qf1, qf2, qlt⟩ := St.at_ (x0 := (.bool (ngB j))) (x1 := (.slice A' n' c')) (x2 := (.int .i64 (t : Int))) (g := (w.heap.size + 1)) E (by simp)
  
  go_wp2_with fail
  refine (HA.out _ (St.got E (by simp)) (St.got E (by simp))).mono ?_
  rintro e w4 ⟨A1, n1, c1, A2, n2, c2, rfl, h1, h2, hb4⟩
  have hn1 : n1 ≤ 2000000 := by have := h1.len; have := HL1.out; omega
  have hn2 : n2 ≤ 2000000 := by have := h2.len; have := HL2.out; omega
  replace E : Hid (St w w4 [(A1, n1, c1, (x).natAbs), (A2, n2, c2, (y).natAbs)] [((w.heap.size + 1 + 1), .bool false, .slice none 0 0, .int .i64 0), ((w.heap.size + 1), (.bool (ngB j)), (.slice A' n' c'), (.int .i64 (t : Int))), (w.heap.size, (.bool (ngB i)), (.slice A n c), (.int .i64 (s : Int)))]) := ⟨(E.out.step hb4).bel, (St.start w4 (l := [(A1, n1, c1, (x).natAbs), (A2, n2, c2, (y).natAbs)]) (by simp; exact ⟨h1, h2⟩)).num, (E.out.step hb4).box⟩
  clear h1 h2 hb4 p0 p1 p2 pf0 pf1 pf2 plt q0 q1 q2 qf0 qf1 qf2 qlt
  obtain ⟨p0, p1, p2, pf0, pf1, pf2, plt⟩ := St.at_ (x0 := (.bool (ngB i))) (x1 := (.slice A n c)) (x2 := (.int .i64 (s : Int))) (g := w.heap.size) E (by simp)
  obtain ⟨q0, q1, q2, qf0, qf1, qf2, qlt⟩ := St.at_ (x0 := (.bool (ngB j))) (x1 := (.slice A' n' c')) (x2 := (.int .i64 (t : Int))) (g := (w.heap.size + 1)) E (by simp)
  obtain ⟨r0, r1, r2, rf0, rf1, rf2, rlt⟩ := St.at_ (x0 := .bool false) (x1 := .slice none 0 0) (x2 := .int .i64 0) (g := (w.heap.size + 1 + 1)) E (by simp)
  go_wp2_with fail
  have hz4 : w.heap.size + 1 + 1 < w4.heap.size := rlt
  have E5 : Hid (St w ((w4.alloc (.cells #[(.bool (ngB x)), (.slice A1 n1 c1), (.int .i64 (M : Int))] 25)).alloc (.cells #[(.bool (ngB y)), (.slice A2 n2 c2), (.int .i64 (M : Int))] 25)) [(A1, n1, c1, (x).natAbs), (A2, n2, c2, (y).natAbs)] [((w4.heap.size + 1), (.bool (ngB y)), (.slice A2 n2 c2), (.int .i64 (M : Int))), (w4.heap.size, (.bool (ngB x)), (.slice A1 n1 c1), (.int .i64 (M : Int))), ((w.heap.size + 1 + 1), .bool false, .slice none 0 0, .int .i64 0)]) := by
    have e1 := St.lay (t := 25) (x0 := (.bool (ngB y))) (x1 := (.slice A2 n2 c2)) (x2 := (.int .i64 (M : Int))) (g := w4.heap.size + 1) (St.lay (t := 25) (x0 := (.bool (ngB x))) (x1 := (.slice A1 n1 c1)) (x2 := (.int .i64 (M : Int))) (g := w4.heap.size) E.out rfl) (by simp)
    exact ⟨e1.bel, e1.num, fun q hq => e1.box q (by simp at hq ⊢; rcases hq with h | h | h <;> simp [h])⟩
  clear p0 p1 p2 pf0 pf1 pf2 plt q0 q1 q2 qf0 qf1 qf2 qlt
  clear r0 r1 r2 rf0 rf1 rf2 rlt
  generalize hW2 : (World.alloc (World.alloc w4 _) _) = W1 at E5 ⊢
  clear hW2 E
  have E := Lib.hid (St.drew E5.out)
  clear E5
  go_region_held3 (fun v => v.cell? ⟨w4.heap.size, 0, none⟩ = some (.bool (ngB x)) ∧ v.cell? ⟨w4.heap.size, 1, none⟩ = some (.slice A1 n1 c1) ∧ v.cell? ⟨w4.heap.size, 2, none⟩ = some (.int .i64 (M : Int)) ∧ v.cell? ⟨w4.heap.size + 1, 0, none⟩ = some (.bool (ngB y)) ∧ v.cell? ⟨w4.heap.size + 1, 1, none⟩ = some (.slice A2 n2 c2) ∧ v.cell? ⟨w4.heap.size + 1, 2, none⟩ = some (.int .i64 (M : Int))) (first | (have X0 := St.at_ (x0 := (.bool (ngB x))) (x1 := (.slice A1 n1 c1)) (x2 := (.int .i64 (M : Int))) (g := w4.heap.size) E (by simp); have X1 := St.at_ (x0 := (.bool (ngB y))) (x1 := (.slice A2 n2 c2)) (x2 := (.int .i64 (M : Int))) (g := (w4.heap.size + 1)) E (by simp); with_reducible exact ⟨X0.c0, X0.c1, X0.c2, X1.c0, X1.c1, X1.c2⟩) | (with_reducible exact ⟨((St.at_ (x0 := (.bool (ngB x))) (x1 := (.slice A1 n1 c1)) (x2 := (.int .i64 (M : Int))) (g := w4.heap.size) E (by simp)).apart (g' := (w.heap.size + 1 + 1)) _ _ _ (by omega)).c0, ((St.at_ (x0 := (.bool (ngB x))) (x1 := (.slice A1 n1 c1)) (x2 := (.int .i64 (M : Int))) (g := w4.heap.size) E (by simp)).apart (g' := (w.heap.size + 1 + 1)) _ _ _ (by omega)).c1, ((St.at_ (x0 := (.bool (ngB x))) (x1 := (.slice A1 n1 c1)) (x2 := (.int .i64 (M : Int))) (g := w4.heap.size) E (by simp)).apart (g' := (w.heap.size + 1 + 1)) _ _ _ (by omega)).c2, ((St.at_ (x0 := (.bool (ngB y))) (x1 := (.slice A2 n2 c2)) (x2 := (.int .i64 (M : Int))) (g := (w4.heap.size + 1)) E (by simp)).apart (g' := (w.heap.size + 1 + 1)) _ _ _ (by omega)).c0, ((St.at_ (x0 := (.bool (ngB y))) (x1 := (.slice A2 n2 c2)) (x2 := (.int .i64 (M : Int))) (g := (w4.heap.size + 1)) E (by simp)).apart (g' := (w.heap.size + 1 + 1)) _ _ _ (by omega)).c1, ((St.at_ (x0 := (.bool (ngB y))) (x1 := (.slice A2 n2 c2)) (x2 := (.int .i64 (M : Int))) (g := (w4.heap.size + 1)) E (by simp)).apart (g' := (w.heap.size + 1 + 1)) _ _ _ (by omega)).c2⟩))
    (first | (go_at_call 61; refine (refAdd_any A1 A2 n1 c1 n2 c2 x.natAbs y.natAbs _ (St.got E (by simp)) (St.got E (by simp)) (by omega) (by omega)).mono ?_; rintro e w6 ⟨A3, n3, c3, rfl, h1, hb1⟩; rw [HXA.out] at h1; replace E := Lib.hid (St.push E.out hb1 h1); clear h1 hb1) | (go_at_call 49; refine (refDone_is (b := ngB x) (A := A3) (n := n3) (c := c3) (s := M) (St.got E (by simp)) (by omega) HX.out).mono ?_; rintro e w7 ⟨rfl, hb1⟩; replace E := Lib.hid (St.step E.out hb1); clear hb1; obtain ⟨r0, r1, r2, rf0, rf1, rf2, rlt⟩ := St.at_ (x0 := .bool false) (x1 := .slice none 0 0) (x2 := .int .i64 0) (g := (w.heap.size + 1 + 1)) E (by simp)))
  all_goals
    go_wp2_with fail
    have EF := Lib.hid (St.store E.out (g := (w.heap.size + 1 + 1)) (x0 := .bool false) (x1 := .slice none 0 0) (x2 := .int .i64 0) (by simp) (noLimb_bool _) (noLimb_slice _ _ _) (noLimb_int _) [] (fun q hq => by cases hq) (.bool (ngB (x + y))) (.slice A3 n3 c3) (.int .i64 (M : Int)))
    obtain ⟨e0, e1, e2, _, _, _, _⟩ := St.at_ (x0 := .bool (ngB (x + y))) (x1 := .slice A3 n3 c3) (x2 := .int .i64 (M : Int)) (g := (w.heap.size + 1 + 1)) EF (by simp)
    exact bodyPost_ret (v := .agg #[.bool (ngB (x + y)), .slice A3 n3 c3, .int .i64 (M : Int)]) (by simp [results, Try.results29, go_sem, e0, e1, e2]) rfl ⟨A3, n3, c3, rfl, St.got EF (by simp), EF.out.bel⟩

set_option maxHeartbeats 4000000 in
theorem refAdd5_ge (A A' : Option Addr) (n c n' c' s t : Nat) (i j : Int) (w : World) (h : Num w w.heap.size A n c i.natAbs) (h' : Num w w.heap.size A' n' c' j.natAbs) (hn : n ≤ 1000000) (hn' : n' ≤ 1000000) (hs : s ≤ 100000) (ht : t ≤ 100000) (M : Nat) (hm : max s t = M) (x y : Int) (hx : up i s M = x) (hy : up j t M = y) (hb : ngB x ≠ ngB y) (hl : y.natAbs ≤ x.natAbs) :
    Calls Try.prog 29 #[.agg #[.bool (ngB i), .slice A n c, .int .i64 (s : Int)], .agg #[.bool (ngB j), .slice A' n' c', .int .i64 (t : Int)]] w (RetDec w (x + y) M) := by
  have L1 : (dg x.natAbs).length ≤ n + (M - s) + 1 := by rw [← hx]; exact up_len h.len
  have L2 : (dg y.natAbs).length ≤ n' + (M - t) + 1 := by rw [← hy]; exact up_len h'.len
  have HA : Hid (∀ (w : World), Num w w.heap.size A n c i.natAbs → Num w w.heap.size A' n' c' j.natAbs → Calls Try.prog 16 #[.agg #[.bool (ngB i), .slice A n c, .int .i64 (s : Int)], .agg #[.bool (ngB j), .slice A' n' c', .int .i64 (t : Int)]] w (RetDec2 w x M y M)) := fun w h h' => by
    subst hx; subst hy; subst hm; exact refAlign_any A A' n c n' c' s t i j w h h' hn hn' hs ht
  have hM : M ≤ 100000 := by omega
  have HX0 : sgn (ngB x) (x.natAbs - y.natAbs) = x + y := sgn_sub hb hl
  have HXA : Hid (x.natAbs - y.natAbs = (x + y).natAbs) := (by show _ = _; rw [← HX0, abs_sgn])
  have HX : Hid (sgn (ngB x) (x + y).natAbs = x + y) := (by show _ = _; rw [← HXA.out]; exact HX0)
  clear HX0
  have hb2 := bool_ne hb
  have hz1 := (cmpN_size x.natAbs y.natAbs); have hz2 : 0 ≤ cmpN x.natAbs y.natAbs := (by rcases Int.lt_or_le (cmpN x.natAbs y.natAbs) 0 with h1 | h1; (rw [cmpN_neg] at h1; omega); exact h1); obtain ⟨z, hz⟩ : ∃ z, cmpN x.natAbs y.natAbs = z := ⟨_, rfl⟩; rw [hz] at hz1 hz2; have HZ := Lib.hid hz; obtain ⟨_, hz1⟩ := hz1; clear hz; have HLE := Lib.hid hl
  have HL1 : Hid ((dg x.natAbs).length ≤ 2000000) := (by show _ ≤ _; omega)
  have HL2 : Hid ((dg y.natAbs).length ≤ 2000000) := (by show _ ≤ _; omega)
  have H := Lib.hid h
  have H' := Lib.hid h'
  clear h h'
  clear L1 L2 hx hy hm hb hl
  go_enter Try.func29, Try.ntmps29
  go_wp2_with fail
  generalize hW : World.alloc (World.alloc (World.alloc w _) _) _ = W0
  have E0 : St w W0 [(A, n, c, (i).natAbs), (A', n', c', (j).natAbs)] [((w.heap.size + 1 + 1), .bool false, .slice none 0 0, .int .i64 0), ((w.heap.size + 1), (.bool (ngB j)), (.slice A' n' c'), (.int .i64 (t : Int))), (w.heap.size, (.bool (ngB i)), (.slice A n c), (.int .i64 (s : Int)))] := by rw [← hW]; exact (((start_two H.out H'.out).lay rfl).lay (by simp)).lay (by simp)
  have E := Lib.hid E0
  clear hW E0
  obtain ⟨p0, p1, p2, pf0, pf1, pf2, plt⟩ := St.at_ (x0 := (.bool (ngB i))) (x1 := (.slice A n c)) (x2 := (.int .i64 (s : Int))) (g := w.heap.size) E (by simp)
  obtain ⟨q0, q1, q2, qf0, qf1, qf2, qlt⟩ := St.at_ (x0 := (.bool (ngB j))) (x1 := (.slice A' n' c')) (x2 := (.int .i64 (t : Int))) (g := (w.heap.size + 1)) E (by simp)
  
  go_wp2_with fail
  refine (HA.out _ (St.got E (by simp)) (St.got E (by simp))).mono ?_
  rintro e w4 ⟨A1, n1, c1, A2, n2, c2, rfl, h1, h2, hb4⟩
  have hn1 : n1 ≤ 2000000 := by have := h1.len; have := HL1.out; omega
  have hn2 : n2 ≤ 2000000 := by have := h2.len; have := HL2.out; omega
  replace E : Hid (St w w4 [(A1, n1, c1, (x).natAbs), (A2, n2, c2, (y).natAbs)] [((w.heap.size + 1 + 1), .bool false, .slice none 0 0, .int .i64 0), ((w.heap.size + 1), (.bool (ngB j)), (.slice A' n' c'), (.int .i64 (t : Int))), (w.heap.size, (.bool (ngB i)), (.slice A n c), (.int .i64 (s : Int)))]) := ⟨(E.out.step hb4).bel, (St.start w4 (l := [(A1, n1, c1, (x).natAbs), (A2, n2, c2, (y).natAbs)]) (by simp; exact ⟨h1, h2⟩)).num, (E.out.step hb4).box⟩
  clear h1 h2 hb4 p0 p1 p2 pf0 pf1 pf2 plt q0 q1 q2 qf0 qf1 qf2 qlt
  obtain ⟨p0, p1, p2, pf0, pf1, pf2, plt⟩ := St.at_ (x0 := (.bool (ngB i))) (x1 := (.slice A n c)) (x2 := (.int .i64 (s : Int))) (g := w.heap.size) E (by simp)
  obtain ⟨q0, q1, q2, qf0, qf1, qf2, qlt⟩ := St.at_ (x0 := (.bool (ngB j))) (x1 := (.slice A' n' c')) (x2 := (.int .i64 (t : Int))) (g := (w.heap.size + 1)) E (by simp)
  obtain ⟨r0, r1, r2, rf0, rf1, rf2, rlt⟩ := St.at_ (x0 := .bool false) (x1 := .slice none 0 0) (x2 := .int .i64 0) (g := (w.heap.size + 1 + 1)) E (by simp)
  go_wp2_with fail
  have hz4 : w.heap.size + 1 + 1 < w4.heap.size := rlt
  have E5 : Hid (St w ((w4.alloc (.cells #[(.bool (ngB x)), (.slice A1 n1 c1), (.int .i64 (M : Int))] 25)).alloc (.cells #[(.bool (ngB y)), (.slice A2 n2 c2), (.int .i64 (M : Int))] 25)) [(A1, n1, c1, (x).natAbs), (A2, n2, c2, (y).natAbs)] [((w4.heap.size + 1), (.bool (ngB y)), (.slice A2 n2 c2), (.int .i64 (M : Int))), (w4.heap.size, (.bool (ngB x)), (.slice A1 n1 c1), (.int .i64 (M : Int))), ((w.heap.size + 1 + 1), .bool false, .slice none 0 0, .int .i64 0)]) := by
    have e1 := St.lay (t := 25) (x0 := (.bool (ngB y))) (x1 := (.slice A2 n2 c2)) (x2 := (.int .i64 (M : Int))) (g := w4.heap.size + 1) (St.lay (t := 25) (x0 := (.bool (ngB x))) (x1 := (.slice A1 n1 c1)) (x2 := (.int .i64 (M : Int))) (g := w4.heap.size) E.out rfl) (by simp)
    exact ⟨e1.bel, e1.num, fun q hq => e1.box q (by simp at hq ⊢; rcases hq with h | h | h <;> simp [h])⟩
  clear p0 p1 p2 pf0 pf1 pf2 plt q0 q1 q2 qf0 qf1 qf2 qlt
  clear r0 r1 r2 rf0 rf1 rf2 rlt
  generalize hW2 : (World.alloc (World.alloc w4 _) _) = W1 at E5 ⊢
  clear hW2 E
  have E := E5
  clear E5
  refine (refCmpN_is (St.got E (by simp)) (St.got E (by simp)) HZ.out).mono ?_; rintro e w5 ⟨rfl, hb1⟩; replace E := Lib.hid (St.step E.out hb1); clear hb1
  obtain ⟨p0, p1, p2, pf0, pf1, pf2, plt⟩ := St.at_ (x0 := (.bool (ngB x))) (x1 := (.slice A1 n1 c1)) (x2 := (.int .i64 (M : Int))) (g := w4.heap.size) E (by simp)
  obtain ⟨q0, q1, q2, qf0, qf1, qf2, qlt⟩ := St.at_ (x0 := (.bool (ngB y))) (x1 := (.slice A2 n2 c2)) (x2 := (.int .i64 (M : Int))) (g := (w4.heap.size + 1)) E (by simp)
  go_wp2_with fail
  clear p0 p1 p2 pf0 pf1 pf2 plt q0 q1 q2 qf0 qf1 qf2 qlt
  refine (refSub_ge A1 A2 n1 c1 n2 c2 (x).natAbs (y).natAbs _ (St.got E (by simp)) (St.got E (by simp)) (by omega) HLE.out).mono ?_; rintro e w6 ⟨A3, n3, c3, rfl, h1, hb1⟩; rw [HXA.out] at h1; replace E := Lib.hid (St.push E.out hb1 h1); clear h1 hb1
  obtain ⟨p0, p1, p2, pf0, pf1, pf2, plt⟩ := St.at_ (x0 := (.bool (ngB x))) (x1 := (.slice A1 n1 c1)) (x2 := (.int .i64 (M : Int))) (g := w4.heap.size) E (by simp)
  go_wp2_with fail
  refine (refDone_is (b := (ngB x)) (A := A3) (n := n3) (c := c3) (s := M) (St.got E (by simp)) (by omega) HX.out).mono ?_; rintro e w7 ⟨rfl, hb1⟩; replace E := Lib.hid (St.step E.out hb1); clear hb1
  clear p0 p1 p2 pf0 pf1 pf2 plt
  obtain ⟨r0, r1, r2, rf0, rf1, rf2, rlt⟩ := St.at_ (x0 := .bool false) (x1 := .slice none 0 0) (x2 := .int .i64 0) (g := (w.heap.size + 1 + 1)) E (by simp)
  go_wp2_with fail
  have EF := Lib.hid (St.store E.out (g := (w.heap.size + 1 + 1)) (x0 := .bool false) (x1 := .slice none 0 0) (x2 := .int .i64 0) (by simp) (noLimb_bool _) (noLimb_slice _ _ _) (noLimb_int _) [] (fun q hq => by cases hq) (.bool (ngB (x + y))) (.slice A3 n3 c3) (.int .i64 (M : Int)))
  obtain ⟨e0, e1, e2, _, _, _, _⟩ := St.at_ (x0 := .bool (ngB (x + y))) (x1 := .slice A3 n3 c3) (x2 := .int .i64 (M : Int)) (g := (w.heap.size + 1 + 1)) EF (by simp)
  exact bodyPost_ret (v := .agg #[.bool (ngB (x + y)), .slice A3 n3 c3, .int .i64 (M : Int)]) (by simp [results, Try.results29, go_sem, e0, e1, e2]) rfl ⟨A3, n3, c3, rfl, St.got EF (by simp), EF.out.bel⟩

set_option maxHeartbeats 4000000 in
theorem refAdd5_lt (A A' : Option Addr) (n c n' c' s t : Nat) (i j : Int) (w : World) (h : Num w w.heap.size A n c i.natAbs) (h' : Num w w.heap.size A' n' c' j.natAbs) (hn : n ≤ 1000000) (hn' : n' ≤ 1000000) (hs : s ≤ 100000) (ht : t ≤ 100000) (M : Nat) (hm : max s t = M) (x y : Int) (hx : up i s M = x) (hy : up j t M = y) (hb : ngB x ≠ ngB y) (hl : x.natAbs < y.natAbs) :
    Calls Try.prog 29 #[.agg #[.bool (ngB i), .slice A n c, .int .i64 (s : Int)], .agg #[.bool (ngB j), .slice A' n' c', .int .i64 (t : Int)]] w (RetDec w (x + y) M) := by
  have L1 : (dg x.natAbs).length ≤ n + (M - s) + 1 := by rw [← hx]; exact up_len h.len
  have L2 : (dg y.natAbs).length ≤ n' + (M - t) + 1 := by rw [← hy]; exact up_len h'.len
  have HA : Hid (∀ (w : World), Num w w.heap.size A n c i.natAbs → Num w w.heap.size A' n' c' j.natAbs → Calls Try.prog 16 #[.agg #[.bool (ngB i), .slice A n c, .int .i64 (s : Int)], .agg #[.bool (ngB j), .slice A' n' c', .int .i64 (t : Int)]] w (RetDec2 w x M y M)) := fun w h h' => by
    subst hx; subst hy; subst hm; exact refAlign_any A A' n c n' c' s t i j w h h' hn hn' hs ht
  have hM : M ≤ 100000 := by omega
  have HX0 : sgn (ngB y) (y.natAbs - x.natAbs) = x + y := sgn_bus hb (Nat.le_of_lt hl)
  have HXA : Hid (y.natAbs - x.natAbs = (x + y).natAbs) := (by show _ = _; rw [← HX0, abs_sgn])
  have HX : Hid (sgn (ngB y) (x + y).natAbs = x + y) := (by show _ = _; rw [← HXA.out]; exact HX0)
  clear HX0
  have hb2 := bool_ne hb
  have HZ := Lib.hid (cmpN_lt hl); have HLE := Lib.hid (Nat.le_of_lt hl)
  have HL1 : Hid ((dg x.natAbs).length ≤ 2000000) := (by show _ ≤ _; omega)
  have HL2 : Hid ((dg y.natAbs).length ≤ 2000000) := (by show _ ≤ _; omega)
  have H := Lib.hid h
  have H' := Lib.hid h'
  clear h h'
  clear L1 L2 hx hy hm hb hl
  go_enter Try.func29, Try.ntmps29
  go_wp2_with fail
  generalize hW : World.alloc (World.alloc (World.alloc w _) _) _ = W0
  have E0 : St w W0 [(A, n, c, (i).natAbs), (A', n', c', (j).natAbs)] [((w.heap.size + 1 + 1), .bool false, .slice none 0 0, .int .i64 0), ((w.heap.size + 1), (.bool (ngB j)), (.slice A' n' c'), (.int .i64 (t : Int))), (w.heap.size, (.bool (ngB i)), (.slice A n c), (.int .i64 (s : Int)))] := by rw [← hW]; exact (((start_two H.out H'.out).lay rfl).lay (by simp)).lay (by simp)
  have E := Lib.hid E0
  clear hW E0
  obtain ⟨p0, p1, p2, pf0, pf1, pf2, plt⟩ := St.at_ (x0 := (.bool (ngB i))) (x1 := (.slice A n c)) (x2 := (.int .i64 (s : Int))) (g := w.heap.size) E (by simp)
  obtain ⟨q0, q1, q2, qf0, qf1, qf2, qlt⟩ := St.at_ (x0 := (.bool (ngB j))) (x1 := (.slice A' n' c')) (x2 := (.int .i64 (t : Int))) (g := (w.heap.size + 1)) E (by simp)
  
  go_wp2_with fail
  refine (HA.out _ (St.got E (by simp)) (St.got E (by simp))).mono ?_
  rintro e w4 ⟨A1, n1, c1, A2, n2, c2, rfl, h1, h2, hb4⟩
  have hn1 : n1 ≤ 2000000 := by have := h1.len; have := HL1.out; omega
  have hn2 : n2 ≤ 2000000 := by have := h2.len; have := HL2.out; omega
  replace E : Hid (St w w4 [(A1, n1, c1, (x).natAbs), (A2, n2, c2, (y).natAbs)] [((w.heap.size + 1 + 1), .bool false, .slice none 0 0, .int .i64 0), ((w.heap.size + 1), (.bool (ngB j)), (.slice A' n' c'), (.int .i64 (t : Int))), (w.heap.size, (.bool (ngB i)), (.slice A n c), (.int .i64 (s : Int)))]) := ⟨(E.out.step hb4).bel, (St.start w4 (l := [(A1, n1, c1, (x).natAbs), (A2, n2, c2, (y).natAbs)]) (by simp; exact ⟨h1, h2⟩)).num, (E.out.step hb4).box⟩
  clear h1 h2 hb4 p0 p1 p2 pf0 pf1 pf2 plt q0 q1 q2 qf0 qf1 qf2 qlt
  obtain ⟨p0, p1, p2, pf0, pf1, pf2, plt⟩ := St.at_ (x0 := (.bool (ngB i))) (x1 := (.slice A n c)) (x2 := (.int .i64 (s : Int))) (g := w.heap.size) E (by simp)
  obtain ⟨q0, q1, q2, qf0, qf1, qf2, qlt⟩ := St.at_ (x0 := (.bool (ngB j))) (x1 := (.slice A' n' c')) (x2 := (.int .i64 (t : Int))) (g := (w.heap.size + 1)) E (by simp)
  obtain ⟨r0, r1, r2, rf0, rf1, rf2, rlt⟩ := St.at_ (x0 := .bool false) (x1 := .slice none 0 0) (x2 := .int .i64 0) (g := (w.heap.size + 1 + 1)) E (by simp)
  go_wp2_with fail
  have hz4 : w.heap.size + 1 + 1 < w4.heap.size := rlt
  have E5 : Hid (St w ((w4.alloc (.cells #[(.bool (ngB x)), (.slice A1 n1 c1), (.int .i64 (M : Int))] 25)).alloc (.cells #[(.bool (ngB y)), (.slice A2 n2 c2), (.int .i64 (M : Int))] 25)) [(A1, n1, c1, (x).natAbs), (A2, n2, c2, (y).natAbs)] [((w4.heap.size + 1), (.bool (ngB y)), (.slice A2 n2 c2), (.int .i64 (M : Int))), (w4.heap.size, (.bool (ngB x)), (.slice A1 n1 c1), (.int .i64 (M : Int))), ((w.heap.size + 1 + 1), .bool false, .slice none 0 0, .int .i64 0)]) := by
    have e1 := St.lay (t := 25) (x0 := (.bool (ngB y))) (x1 := (.slice A2 n2 c2)) (x2 := (.int .i64 (M : Int))) (g := w4.heap.size + 1) (St.lay (t := 25) (x0 := (.bool (ngB x))) (x1 := (.slice A1 n1 c1)) (x2 := (.int .i64 (M : Int))) (g := w4.heap.size) E.out rfl) (by simp)
    exact ⟨e1.bel, e1.num, fun q hq => e1.box q (by simp at hq ⊢; rcases hq with h | h | h <;> simp [h])⟩
  clear p0 p1 p2 pf0 pf1 pf2 plt q0 q1 q2 qf0 qf1 qf2 qlt
  clear r0 r1 r2 rf0 rf1 rf2 rlt
  generalize hW2 : (World.alloc (World.alloc w4 _) _) = W1 at E5 ⊢
  clear hW2 E
  have E := E5
  clear E5
  refine (refCmpN_is (St.got E (by simp)) (St.got E (by simp)) HZ.out).mono ?_; rintro e w5 ⟨rfl, hb1⟩; replace E := Lib.hid (St.step E.out hb1); clear hb1
  obtain ⟨p0, p1, p2, pf0, pf1, pf2, plt⟩ := St.at_ (x0 := (.bool (ngB x))) (x1 := (.slice A1 n1 c1)) (x2 := (.int .i64 (M : Int))) (g := w4.heap.size) E (by simp)
  obtain ⟨q0, q1, q2, qf0, qf1, qf2, qlt⟩ := St.at_ (x0 := (.bool (ngB y))) (x1 := (.slice A2 n2 c2)) (x2 := (.int .i64 (M : Int))) (g := (w4.heap.size + 1)) E (by simp)
  go_wp2_with fail
  have E6 := Lib.hid (St.store E.out (g := w4.heap.size) (x0 := (.bool (ngB x))) (x1 := (.slice A1 n1 c1)) (x2 := (.int .i64 (M : Int))) (by simp) (noLimb_bool _) (noLimb_slice _ _ _) (noLimb_int _) [((w.heap.size + 1 + 1), .bool false, .slice none 0 0, .int .i64 0), ((w4.heap.size + 1), (.bool (ngB y)), (.slice A2 n2 c2), (.int .i64 (M : Int)))] (by simp <;> omega) (.bool (ngB y)) (.slice A2 n2 c2) (.int .i64 (M : Int)))
  have E7 := Lib.hid (St.store E6.out (g := (w4.heap.size + 1)) (x0 := (.bool (ngB y))) (x1 := (.slice A2 n2 c2)) (x2 := (.int .i64 (M : Int))) (by simp) (noLimb_bool _) (noLimb_slice _ _ _) (noLimb_int _) [((w.heap.size + 1 + 1), .bool false, .slice none 0 0, .int .i64 0), (w4.heap.size, (.bool (ngB y)), (.slice A2 n2 c2), (.int .i64 (M : Int)))] (by simp <;> omega) (.bool (ngB x)) (.slice A1 n1 c1) (.int .i64 (M : Int)))
  clear p0 p1 p2 pf0 pf1 pf2 plt q0 q1 q2 qf0 qf1 qf2 qlt
  unfold put3 at E7
  generalize hW2 : (World.setCell (World.setCell (World.setCell (World.setCell (World.setCell (World.setCell w5 _ _) _ _) _ _) _ _) _ _) _ _) = W2 at E7 ⊢
  have E := E7
  clear hW2 E7 E6
  refine (refSub_ge A2 A1 n2 c2 n1 c1 (y).natAbs (x).natAbs _ (St.got E (by simp)) (St.got E (by simp)) (by omega) HLE.out).mono ?_; rintro e w6 ⟨A3, n3, c3, rfl, h1, hb1⟩; rw [HXA.out] at h1; replace E := Lib.hid (St.push E.out hb1 h1); clear h1 hb1
  obtain ⟨p0, p1, p2, pf0, pf1, pf2, plt⟩ := St.at_ (x0 := (.bool (ngB y))) (x1 := (.slice A2 n2 c2)) (x2 := (.int .i64 (M : Int))) (g := w4.heap.size) E (by simp)
  go_wp2_with fail
  refine (refDone_is (b := (ngB y)) (A := A3) (n := n3) (c := c3) (s := M) (St.got E (by simp)) (by omega) HX.out).mono ?_; rintro e w7 ⟨rfl, hb1⟩; replace E := Lib.hid (St.step E.out hb1); clear hb1
  clear p0 p1 p2 pf0 pf1 pf2 plt
  obtain ⟨r0, r1, r2, rf0, rf1, rf2, rlt⟩ := St.at_ (x0 := .bool false) (x1 := .slice none 0 0) (x2 := .int .i64 0) (g := (w.heap.size + 1 + 1)) E (by simp)
  go_wp2_with fail
  have EF := Lib.hid (St.store E.out (g := (w.heap.size + 1 + 1)) (x0 := .bool false) (x1 := .slice none 0 0) (x2 := .int .i64 0) (by simp) (noLimb_bool _) (noLimb_slice _ _ _) (noLimb_int _) [] (fun q hq => by cases hq) (.bool (ngB (x + y))) (.slice A3 n3 c3) (.int .i64 (M : Int)))
  obtain ⟨e0, e1, e2, _, _, _, _⟩ := St.at_ (x0 := .bool (ngB (x + y))) (x1 := .slice A3 n3 c3) (x2 := .int .i64 (M : Int)) (g := (w.heap.size + 1 + 1)) EF (by simp)
  exact bodyPost_ret (v := .agg #[.bool (ngB (x + y)), .slice A3 n3 c3, .int .i64 (M : Int)]) (by simp [results, Try.results29, go_sem, e0, e1, e2]) rfl ⟨A3, n3, c3, rfl, St.got EF (by simp), EF.out.bel⟩

theorem refAdd5_any (A A' : Option Addr) (n c n' c' s t : Nat) (i j : Int) (w : World) (h : Num w w.heap.size A n c i.natAbs) (h' : Num w w.heap.size A' n' c' j.natAbs) (hn : n ≤ 1000000) (hn' : n' ≤ 1000000) (hs : s ≤ 100000) (ht : t ≤ 100000) :
    Calls Try.prog 29 #[.agg #[.bool (ngB i), .slice A n c, .int .i64 (s : Int)], .agg #[.bool (ngB j), .slice A' n' c', .int .i64 (t : Int)]] w (RetDec w (addZ i s j t) (max s t)) := by
  unfold addZ
  by_cases hb : ngB (up i s (max s t)) = ngB (up j t (max s t))
  · exact refAdd5_same A A' n c n' c' s t i j w h h' hn hn' hs ht _ rfl _ _ rfl rfl hb
  · rcases Nat.lt_or_ge (up i s (max s t)).natAbs (up j t (max s t)).natAbs with hl | hl
    · exact refAdd5_lt A A' n c n' c' s t i j w h h' hn hn' hs ht _ rfl _ _ rfl rfl hb hl
    · exact refAdd5_ge A A' n c n' c' s t i j w h h' hn hn' hs ht _ rfl _ _ rfl rfl hb hl

end Go.Proofs.Ytafbkoejobkncaa
