/-
  Contracts of layer 5, the ninth part: Alike, Right and the document's; Long.
-/
import Derived.Test.YtafbkoejobkncaaDecH
namespace Go.Proofs.Ytafbkoejobkncaa
open Go.RowKit

/-- Are two decimals told alike? -/
def alikeB (i : Int) (s : Nat) (j : Int) (t : Nat) : Bool := decide (i = j ∧ s = t)
theorem alike_yes {i j : Int} {s t : Nat} (h : i = j) (h' : s = t) : alikeB i s j t = true := decide_eq_true ⟨h, h'⟩
theorem alike_no {i j : Int} {s t : Nat} (h : ¬ (i = j ∧ s = t)) : alikeB i s j t = false := decide_eq_false h
theorem alike_abs {i j : Int} {s : Nat} (h : ngB i = ngB j) : decide (i.natAbs = j.natAbs) = alikeB i s j s := by
  unfold alikeB
  unfold ngB at h
  by_cases e : i.natAbs = j.natAbs
  · have : i = j := by
      have h2 : (i < 0) ↔ (j < 0) := by simpa using h
      omega
    rw [decide_eq_true e, decide_eq_true ⟨this, rfl⟩]
  · rw [decide_eq_false e, decide_eq_false (by intro h3; exact e (by rw [h3.1]))]
theorem bool_eq {a b : Bool} (h : a = b) : (a == b) = true := by subst h; simp
theorem bool_ne {a b : Bool} (h : a ≠ b) : (a == b) = false := by simpa using h

set_option maxHeartbeats 4000000 in
theorem alike_sign (A A' : Option Addr) (n c n' c' s t : Nat) (i j : Int) (w : World) (h : Num w w.heap.size A n c i.natAbs) (h' : Num w w.heap.size A' n' c' j.natAbs) (hb : ngB i ≠ ngB j) :
    Calls Try.prog 27 #[.agg #[.bool (ngB i), .slice A n c, .int .i64 (s : Int)], .agg #[.bool (ngB j), .slice A' n' c', .int .i64 (t : Int)]] w (RetVal w (.bool false)) := by
  have H := Lib.hid h
  have H' := Lib.hid h'
  clear h h'
  have hb2 := bool_ne hb
  clear hb
  go_enter Try.func27, Try.ntmps27
  go_wp2_with fail
  generalize hW : World.alloc (World.alloc w _) _ = W0
  have E0 : St w W0 [(A, n, c, (i).natAbs), (A', n', c', (j).natAbs)] [((w.heap.size + 1), (.bool (ngB j)), (.slice A' n' c'), (.int .i64 (t : Int))), (w.heap.size, (.bool (ngB i)), (.slice A n c), (.int .i64 (s : Int)))] := by rw [← hW]; exact ((start_two H.out H'.out).lay rfl).lay (by simp)
  have E := Lib.hid E0
  clear hW E0
  obtain ⟨p0, p1, p2, pf0, pf1, pf2, plt⟩ := St.at_ (x0 := (.bool (ngB i))) (x1 := (.slice A n c)) (x2 := (.int .i64 (s : Int))) (g := w.heap.size) E (by simp)
  obtain ⟨q0, q1, q2, qf0, qf1, qf2, qlt⟩ := St.at_ (x0 := (.bool (ngB j))) (x1 := (.slice A' n' c')) (x2 := (.int .i64 (t : Int))) (g := (w.heap.size + 1)) E (by simp)
  go_wp2_with fail
  go_ret
  exact ⟨rfl, E.out.bel⟩

set_option maxHeartbeats 4000000 in
theorem alike_scale (A A' : Option Addr) (n c n' c' s t : Nat) (i j : Int) (w : World) (h : Num w w.heap.size A n c i.natAbs) (h' : Num w w.heap.size A' n' c' j.natAbs) (hb : ngB i = ngB j) (hst : s ≠ t) :
    Calls Try.prog 27 #[.agg #[.bool (ngB i), .slice A n c, .int .i64 (s : Int)], .agg #[.bool (ngB j), .slice A' n' c', .int .i64 (t : Int)]] w (RetVal w (.bool false)) := by
  have H := Lib.hid h
  have H' := Lib.hid h'
  clear h h'
  have hb2 := bool_eq hb
  have hst2 : ((s : Int) == (t : Int)) = false := by simp; omega
  clear hb hst
  go_enter Try.func27, Try.ntmps27
  go_wp2_with fail
  generalize hW : World.alloc (World.alloc w _) _ = W0
  have E0 : St w W0 [(A, n, c, (i).natAbs), (A', n', c', (j).natAbs)] [((w.heap.size + 1), (.bool (ngB j)), (.slice A' n' c'), (.int .i64 (t : Int))), (w.heap.size, (.bool (ngB i)), (.slice A n c), (.int .i64 (s : Int)))] := by rw [← hW]; exact ((start_two H.out H'.out).lay rfl).lay (by simp)
  have E := Lib.hid E0
  clear hW E0
  obtain ⟨p0, p1, p2, pf0, pf1, pf2, plt⟩ := St.at_ (x0 := (.bool (ngB i))) (x1 := (.slice A n c)) (x2 := (.int .i64 (s : Int))) (g := w.heap.size) E (by simp)
  obtain ⟨q0, q1, q2, qf0, qf1, qf2, qlt⟩ := St.at_ (x0 := (.bool (ngB j))) (x1 := (.slice A' n' c')) (x2 := (.int .i64 (t : Int))) (g := (w.heap.size + 1)) E (by simp)
  go_wp2_with fail
  go_ret
  exact ⟨rfl, E.out.bel⟩

set_option maxHeartbeats 4000000 in
theorem alike_rest (A A' : Option Addr) (n c n' c' s : Nat) (i j : Int) (w : World) (h : Num w w.heap.size A n c i.natAbs) (h' : Num w w.heap.size A' n' c' j.natAbs) (hb : ngB i = ngB j) :
    Calls Try.prog 27 #[.agg #[.bool (ngB i), .slice A n c, .int .i64 (s : Int)], .agg #[.bool (ngB j), .slice A' n' c', .int .i64 (s : Int)]] w (RetVal w (.bool (alikeB i s j s))) := by
  have H := Lib.hid h
  have H' := Lib.hid h'
  clear h h'
  have hb2 := bool_eq hb
  have HX := Lib.hid (alike_abs (s := s) hb)
  clear hb
  go_enter Try.func27, Try.ntmps27
  go_wp2_with fail
  generalize hW : World.alloc (World.alloc w _) _ = W0
  have E0 : St w W0 [(A, n, c, (i).natAbs), (A', n', c', (j).natAbs)] [((w.heap.size + 1), (.bool (ngB j)), (.slice A' n' c'), (.int .i64 (s : Int))), (w.heap.size, (.bool (ngB i)), (.slice A n c), (.int .i64 (s : Int)))] := by rw [← hW]; exact ((start_two H.out H'.out).lay rfl).lay (by simp)
  have E := Lib.hid E0
  clear hW E0
  obtain ⟨p0, p1, p2, pf0, pf1, pf2, plt⟩ := St.at_ (x0 := (.bool (ngB i))) (x1 := (.slice A n c)) (x2 := (.int .i64 (s : Int))) (g := w.heap.size) E (by simp)
  obtain ⟨q0, q1, q2, qf0, qf1, qf2, qlt⟩ := St.at_ (x0 := (.bool (ngB j))) (x1 := (.slice A' n' c')) (x2 := (.int .i64 (s : Int))) (g := (w.heap.size + 1)) E (by simp)
  go_wp2_with fail
  refine (same_any A A' n c n' c' i.natAbs j.natAbs _ (St.got E (by simp)) (St.got E (by simp))).mono ?_; rintro e w1 ⟨rfl, hb1⟩; replace E := Lib.hid (St.step E.out hb1); clear hb1
  rw [HX.out]
  go_wp2_with fail
  go_ret
  exact ⟨rfl, E.out.bel⟩

theorem alike_any (A A' : Option Addr) (n c n' c' s t : Nat) (i j : Int) (w : World) (h : Num w w.heap.size A n c i.natAbs) (h' : Num w w.heap.size A' n' c' j.natAbs) :
    Calls Try.prog 27 #[.agg #[.bool (ngB i), .slice A n c, .int .i64 (s : Int)], .agg #[.bool (ngB j), .slice A' n' c', .int .i64 (t : Int)]] w (RetVal w (.bool (alikeB i s j t))) := by
  by_cases hb : ngB i = ngB j
  · by_cases hst : s = t
    · subst hst
      exact alike_rest A A' n c n' c' s i j w h h' hb
    · rw [alike_no (by omega)]
      exact alike_scale A A' n c n' c' s t i j w h h' hb hst
  · rw [alike_no (by rintro ⟨h1, _⟩; exact hb (by rw [h1]))]
    exact alike_sign A A' n c n' c' s t i j w h h' hb

set_option maxHeartbeats 4000000 in
theorem refAlike_sign (A A' : Option Addr) (n c n' c' s t : Nat) (i j : Int) (w : World) (h : Num w w.heap.size A n c i.natAbs) (h' : Num w w.heap.size A' n' c' j.natAbs) (hb : ngB i ≠ ngB j) :
    Calls Try.prog 10 #[.agg #[.bool (ngB i), .slice A n c, .int .i64 (s : Int)], .agg #[.bool (ngB j), .slice A' n' c', .int .i64 (t : Int)]] w (RetVal w (.bool false)) := by
  have H := Lib.hid h
  have H' := Lib.hid h'
  clear h h'
  have hb2 := bool_ne hb
  clear hb
  go_enter Try.func10, Try.ntmps10
  go_wp2_with fail
  generalize hW : World.alloc (World.alloc w _) _ = W0
  have E0 : St w W0 [(A, n, c, (i).natAbs), (A', n', c', (j).natAbs)] [((w.heap.size + 1), (.bool (ngB j)), (.slice A' n' c'), (.int .i64 (t : Int))), (w.heap.size, (.bool (ngB i)), (.slice A n c), (.int .i64 (s : Int)))] := by rw [← hW]; exact ((start_two H.out H'.out).lay rfl).lay (by simp)
  have E := Lib.hid E0
  clear hW E0
  obtain ⟨p0, p1, p2, pf0, pf1, pf2, plt⟩ := St.at_ (x0 := (.bool (ngB i))) (x1 := (.slice A n c)) (x2 := (.int .i64 (s : Int))) (g := w.heap.size) E (by simp)
  obtain ⟨q0, q1, q2, qf0, qf1, qf2, qlt⟩ := St.at_ (x0 := (.bool (ngB j))) (x1 := (.slice A' n' c')) (x2 := (.int .i64 (t : Int))) (g := (w.heap.size + 1)) E (by simp)
  go_wp2_with fail
  go_ret
  exact ⟨rfl, E.out.bel⟩

set_option maxHeartbeats 4000000 in
theorem refAlike_scale (A A' : Option Addr) (n c n' c' s t : Nat) (i j : Int) (w : World) (h : Num w w.heap.size A n c i.natAbs) (h' : Num w w.heap.size A' n' c' j.natAbs) (hb : ngB i = ngB j) (hst : s ≠ t) :
    Calls Try.prog 10 #[.agg #[.bool (ngB i), .slice A n c, .int .i64 (s : Int)], .agg #[.bool (ngB j), .slice A' n' c', .int .i64 (t : Int)]] w (RetVal w (.bool false)) := by
  have H := Lib.hid h
  have H' := Lib.hid h'
  clear h h'
  have hb2 := bool_eq hb
  have hst2 : ((s : Int) == (t : Int)) = false := by simp; omega
  clear hb hst
  go_enter Try.func10, Try.ntmps10
  go_wp2_with fail
  generalize hW : World.alloc (World.alloc w _) _ = W0
  have E0 : St w W0 [(A, n, c, (i).natAbs), (A', n', c', (j).natAbs)] [((w.heap.size + 1), (.bool (ngB j)), (.slice A' n' c'), (.int .i64 (t : Int))), (w.heap.size, (.bool (ngB i)), (.slice A n c), (.int .i64 (s : Int)))] := by rw [← hW]; exact ((start_two H.out H'.out).lay rfl).lay (by simp)
  have E := Lib.hid E0
  clear hW E0
  obtain ⟨p0, p1, p2, pf0, pf1, pf2, plt⟩ := St.at_ (x0 := (.bool (ngB i))) (x1 := (.slice A n c)) (x2 := (.int .i64 (s : Int))) (g := w.heap.size) E (by simp)
  obtain ⟨q0, q1, q2, qf0, qf1, qf2, qlt⟩ := St.at_ (x0 := (.bool (ngB j))) (x1 := (.slice A' n' c')) (x2 := (.int .i64 (t : Int))) (g := (w.heap.size + 1)) E (by simp)
  go_wp2_with fail
  go_ret
  exact ⟨rfl, E.out.bel⟩

set_option maxHeartbeats 4000000 in
theorem refAlike_rest (A A' : Option Addr) (n c n' c' s : Nat) (i j : Int) (w : World) (h : Num w w.heap.size A n c i.natAbs) (h' : Num w w.heap.size A' n' c' j.natAbs) (hb : ngB i = ngB j) :
    Calls Try.prog 10 #[.agg #[.bool (ngB i), .slice A n c, .int .i64 (s : Int)], .agg #[.bool (ngB j), .slice A' n' c', .int .i64 (s : Int)]] w (RetVal w (.bool (alikeB i s j s))) := by
  have H := Lib.hid h
  have H' := Lib.hid h'
  clear h h'
  have hb2 := bool_eq hb
  have HX := Lib.hid (alike_abs (s := s) hb)
  clear hb
  go_enter Try.func10, Try.ntmps10
  go_wp2_with fail
  generalize hW : World.alloc (World.alloc w _) _ = W0
  have E0 : St w W0 [(A, n, c, (i).natAbs), (A', n', c', (j).natAbs)] [((w.heap.size + 1), (.bool (ngB j)), (.slice A' n' c'), (.int .i64 (s : Int))), (w.heap.size, (.bool (ngB i)), (.slice A n c), (.int .i64 (s : Int)))] := by rw [← hW]; exact ((start_two H.out H'.out).lay rfl).lay (by simp)
  have E := Lib.hid E0
  clear hW E0
  obtain ⟨p0, p1, p2, pf0, pf1, pf2, plt⟩ := St.at_ (x0 := (.bool (ngB i))) (x1 := (.slice A n c)) (x2 := (.int .i64 (s : Int))) (g := w.heap.size) E (by simp)
  obtain ⟨q0, q1, q2, qf0, qf1, qf2, qlt⟩ := St.at_ (x0 := (.bool (ngB j))) (x1 := (.slice A' n' c')) (x2 := (.int .i64 (s : Int))) (g := (w.heap.size + 1)) E (by simp)
  go_wp2_with fail
  refine (refSame_any A A' n c n' c' i.natAbs j.natAbs _ (St.got E (by simp)) (St.got E (by simp))).mono ?_; rintro e w1 ⟨rfl, hb1⟩; replace E := Lib.hid (St.step E.out hb1); clear hb1
  rw [HX.out]
  go_wp2_with fail
  go_ret
  exact ⟨rfl, E.out.bel⟩

theorem refAlike_any (A A' : Option Addr) (n c n' c' s t : Nat) (i j : Int) (w : World) (h : Num w w.heap.size A n c i.natAbs) (h' : Num w w.heap.size A' n' c' j.natAbs) :
    Calls Try.prog 10 #[.agg #[.bool (ngB i), .slice A n c, .int .i64 (s : Int)], .agg #[.bool (ngB j), .slice A' n' c', .int .i64 (t : Int)]] w (RetVal w (.bool (alikeB i s j t))) := by
  by_cases hb : ngB i = ngB j
  · by_cases hst : s = t
    · subst hst
      exact refAlike_rest A A' n c n' c' s i j w h h' hb
    · rw [alike_no (by omega)]
      exact refAlike_scale A A' n c n' c' s t i j w h h' hb hst
  · rw [alike_no (by rintro ⟨h1, _⟩; exact hb (by rw [h1]))]
    exact refAlike_sign A A' n c n' c' s t i j w h h' hb

/-- Is it a decimal? -/
def rightD (b : Bool) (n : Nat) (xs : List Nat) (k : Int) : Bool := rightB xs && (decide (0 ≤ k) && !(b && decide (n = 0)))

set_option maxHeartbeats 1000000 in
theorem right5_xs (b : Bool) (A : Option Addr) (n c : Nat) (xs : List Nat) (k : Int) (w : World) (h : Lim w w.heap.size A n c xs) (hx : rightB xs = false) :
    Calls Try.prog 8 #[.agg #[.bool b, .slice A n c, .int .i64 k]] w (RetVal w (.bool false)) := by
  have H := Lib.hid h
  have HX := Lib.hid hx
  clear h hx
  skip
  go_enter Try.func8, Try.ntmps8
  go_wp2_with fail
  refine (right_any A _ c w.heap.size xs _ (Lim.keep H.out (fun p hp => ?_))).mono ?_
  · exact ((Below.refl w.heap.size w).alloc (Nat.le_refl _) _).cell hp
  rw [HX.out]
  rintro e w' ⟨rfl, rfl⟩
  go_wp2_with fail
  all_goals first | (exfalso; omega) | (go_ret; exact ⟨rfl, (Below.refl _ _).alloc (Nat.le_refl _) _⟩)

set_option maxHeartbeats 1000000 in
theorem right5_sc (b : Bool) (A : Option Addr) (n c : Nat) (xs : List Nat) (k : Int) (w : World) (h : Lim w w.heap.size A n c xs) (hx : rightB xs = true) (hk : k < 0) :
    Calls Try.prog 8 #[.agg #[.bool b, .slice A n c, .int .i64 k]] w (RetVal w (.bool false)) := by
  have H := Lib.hid h
  have HX := Lib.hid hx
  clear h hx
  skip
  go_enter Try.func8, Try.ntmps8
  go_wp2_with fail
  refine (right_any A _ c w.heap.size xs _ (Lim.keep H.out (fun p hp => ?_))).mono ?_
  · exact ((Below.refl w.heap.size w).alloc (Nat.le_refl _) _).cell hp
  rw [HX.out]
  rintro e w' ⟨rfl, rfl⟩
  go_wp2_with fail
  all_goals first | (exfalso; omega) | (go_ret; exact ⟨rfl, (Below.refl _ _).alloc (Nat.le_refl _) _⟩)

set_option maxHeartbeats 1000000 in
theorem right5_pos (b : Bool) (A : Option Addr) (n c : Nat) (xs : List Nat) (k : Int) (w : World) (h : Lim w w.heap.size A n c xs) (hx : rightB xs = true) (hk : 0 ≤ k) (hb : b = false) :
    Calls Try.prog 8 #[.agg #[.bool b, .slice A n c, .int .i64 k]] w (RetVal w (.bool true)) := by
  have H := Lib.hid h
  have HX := Lib.hid hx
  clear h hx
  subst hb
  go_enter Try.func8, Try.ntmps8
  go_wp2_with fail
  refine (right_any A _ c w.heap.size xs _ (Lim.keep H.out (fun p hp => ?_))).mono ?_
  · exact ((Below.refl w.heap.size w).alloc (Nat.le_refl _) _).cell hp
  rw [HX.out]
  rintro e w' ⟨rfl, rfl⟩
  go_wp2_with fail
  all_goals first | (exfalso; omega) | (go_ret; exact ⟨rfl, (Below.refl _ _).alloc (Nat.le_refl _) _⟩)

set_option maxHeartbeats 1000000 in
theorem right5_not (b : Bool) (A : Option Addr) (n c : Nat) (xs : List Nat) (k : Int) (w : World) (h : Lim w w.heap.size A n c xs) (hx : rightB xs = true) (hk : 0 ≤ k) (hb : b = true) (hn : n = 0) :
    Calls Try.prog 8 #[.agg #[.bool b, .slice A n c, .int .i64 k]] w (RetVal w (.bool false)) := by
  have H := Lib.hid h
  have HX := Lib.hid hx
  clear h hx
  subst hb; subst hn
  go_enter Try.func8, Try.ntmps8
  go_wp2_with fail
  refine (right_any A _ c w.heap.size xs _ (Lim.keep H.out (fun p hp => ?_))).mono ?_
  · exact ((Below.refl w.heap.size w).alloc (Nat.le_refl _) _).cell hp
  rw [HX.out]
  rintro e w' ⟨rfl, rfl⟩
  go_wp2_with fail
  all_goals first | (exfalso; omega) | (go_ret; exact ⟨rfl, (Below.refl _ _).alloc (Nat.le_refl _) _⟩)

set_option maxHeartbeats 1000000 in
theorem right5_neg (b : Bool) (A : Option Addr) (n c : Nat) (xs : List Nat) (k : Int) (w : World) (h : Lim w w.heap.size A n c xs) (hx : rightB xs = true) (hk : 0 ≤ k) (hb : b = true) (hn : 0 < n) :
    Calls Try.prog 8 #[.agg #[.bool b, .slice A n c, .int .i64 k]] w (RetVal w (.bool true)) := by
  have H := Lib.hid h
  have HX := Lib.hid hx
  clear h hx
  subst hb; have hn2 : ((n : Int) == 0) = false := (by simp; omega)
  go_enter Try.func8, Try.ntmps8
  go_wp2_with fail
  refine (right_any A _ c w.heap.size xs _ (Lim.keep H.out (fun p hp => ?_))).mono ?_
  · exact ((Below.refl w.heap.size w).alloc (Nat.le_refl _) _).cell hp
  rw [HX.out]
  rintro e w' ⟨rfl, rfl⟩
  go_wp2_with fail
  all_goals first | (exfalso; omega) | (go_ret; exact ⟨rfl, (Below.refl _ _).alloc (Nat.le_refl _) _⟩)

theorem right5_any (b : Bool) (A : Option Addr) (n c : Nat) (xs : List Nat) (k : Int) (w : World) (h : Lim w w.heap.size A n c xs) :
    Calls Try.prog 8 #[.agg #[.bool b, .slice A n c, .int .i64 k]] w (RetVal w (.bool (rightD b n xs k))) := by
  unfold rightD
  cases hx : rightB xs with
  | false => exact right5_xs b A n c xs k w h hx
  | true =>
    rcases Int.lt_or_le k 0 with hk | hk
    · rw [decide_eq_false (by omega)]; exact right5_sc b A n c xs k w h hx hk
    · rw [decide_eq_true hk]
      cases hb : b with
      | false => rw [← hb]; exact (by rw [hb]; exact right5_pos false A n c xs k w h hx hk rfl)
      | true =>
        rcases Nat.eq_zero_or_pos n with hn | hn
        · rw [decide_eq_true hn]; exact right5_not true A n c xs k w h hx hk rfl hn
        · rw [decide_eq_false (by omega)]; exact right5_neg true A n c xs k w h hx hk rfl hn

set_option maxHeartbeats 1000000 in
theorem refRight5_xs (b : Bool) (A : Option Addr) (n c : Nat) (xs : List Nat) (k : Int) (w : World) (h : Lim w w.heap.size A n c xs) (hx : rightB xs = false) :
    Calls Try.prog 9 #[.agg #[.bool b, .slice A n c, .int .i64 k]] w (RetVal w (.bool false)) := by
  have H := Lib.hid h
  have HX := Lib.hid hx
  clear h hx
  skip
  go_enter Try.func9, Try.ntmps9
  go_wp2_with fail
  refine (refRight_any A _ c w.heap.size xs _ (Lim.keep H.out (fun p hp => ?_))).mono ?_
  · exact ((Below.refl w.heap.size w).alloc (Nat.le_refl _) _).cell hp
  rw [HX.out]
  rintro e w' ⟨rfl, rfl⟩
  go_wp2_with fail
  all_goals first | (exfalso; omega) | (go_ret; exact ⟨rfl, (Below.refl _ _).alloc (Nat.le_refl _) _⟩)

set_option maxHeartbeats 1000000 in
theorem refRight5_sc (b : Bool) (A : Option Addr) (n c : Nat) (xs : List Nat) (k : Int) (w : World) (h : Lim w w.heap.size A n c xs) (hx : rightB xs = true) (hk : k < 0) :
    Calls Try.prog 9 #[.agg #[.bool b, .slice A n c, .int .i64 k]] w (RetVal w (.bool false)) := by
  have H := Lib.hid h
  have HX := Lib.hid hx
  clear h hx
  skip
  go_enter Try.func9, Try.ntmps9
  go_wp2_with fail
  refine (refRight_any A _ c w.heap.size xs _ (Lim.keep H.out (fun p hp => ?_))).mono ?_
  · exact ((Below.refl w.heap.size w).alloc (Nat.le_refl _) _).cell hp
  rw [HX.out]
  rintro e w' ⟨rfl, rfl⟩
  go_wp2_with fail
  all_goals first | (exfalso; omega) | (go_ret; exact ⟨rfl, (Below.refl _ _).alloc (Nat.le_refl _) _⟩)

set_option maxHeartbeats 1000000 in
theorem refRight5_pos (b : Bool) (A : Option Addr) (n c : Nat) (xs : List Nat) (k : Int) (w : World) (h : Lim w w.heap.size A n c xs) (hx : rightB xs = true) (hk : 0 ≤ k) (hb : b = false) :
    Calls Try.prog 9 #[.agg #[.bool b, .slice A n c, .int .i64 k]] w (RetVal w (.bool true)) := by
  have H := Lib.hid h
  have HX := Lib.hid hx
  clear h hx
  subst hb
  go_enter Try.func9, Try.ntmps9
  go_wp2_with fail
  refine (refRight_any A _ c w.heap.size xs _ (Lim.keep H.out (fun p hp => ?_))).mono ?_
  · exact ((Below.refl w.heap.size w).alloc (Nat.le_refl _) _).cell hp
  rw [HX.out]
  rintro e w' ⟨rfl, rfl⟩
  go_wp2_with fail
  all_goals first | (exfalso; omega) | (go_ret; exact ⟨rfl, (Below.refl _ _).alloc (Nat.le_refl _) _⟩)

set_option maxHeartbeats 1000000 in
theorem refRight5_not (b : Bool) (A : Option Addr) (n c : Nat) (xs : List Nat) (k : Int) (w : World) (h : Lim w w.heap.size A n c xs) (hx : rightB xs = true) (hk : 0 ≤ k) (hb : b = true) (hn : n = 0) :
    Calls Try.prog 9 #[.agg #[.bool b, .slice A n c, .int .i64 k]] w (RetVal w (.bool false)) := by
  have H := Lib.hid h
  have HX := Lib.hid hx
  clear h hx
  subst hb; subst hn
  go_enter Try.func9, Try.ntmps9
  go_wp2_with fail
  refine (refRight_any A _ c w.heap.size xs _ (Lim.keep H.out (fun p hp => ?_))).mono ?_
  · exact ((Below.refl w.heap.size w).alloc (Nat.le_refl _) _).cell hp
  rw [HX.out]
  rintro e w' ⟨rfl, rfl⟩
  go_wp2_with fail
  all_goals first | (exfalso; omega) | (go_ret; exact ⟨rfl, (Below.refl _ _).alloc (Nat.le_refl _) _⟩)

set_option maxHeartbeats 1000000 in
theorem refRight5_neg (b : Bool) (A : Option Addr) (n c : Nat) (xs : List Nat) (k : Int) (w : World) (h : Lim w w.heap.size A n c xs) (hx : rightB xs = true) (hk : 0 ≤ k) (hb : b = true) (hn : 0 < n) :
    Calls Try.prog 9 #[.agg #[.bool b, .slice A n c, .int .i64 k]] w (RetVal w (.bool true)) := by
  have H := Lib.hid h
  have HX := Lib.hid hx
  clear h hx
  subst hb; have hn2 : ((n : Int) == 0) = false := (by simp; omega)
  go_enter Try.func9, Try.ntmps9
  go_wp2_with fail
  refine (refRight_any A _ c w.heap.size xs _ (Lim.keep H.out (fun p hp => ?_))).mono ?_
  · exact ((Below.refl w.heap.size w).alloc (Nat.le_refl _) _).cell hp
  rw [HX.out]
  rintro e w' ⟨rfl, rfl⟩
  go_wp2_with fail
  all_goals first | (exfalso; omega) | (go_ret; exact ⟨rfl, (Below.refl _ _).alloc (Nat.le_refl _) _⟩)

theorem refRight5_any (b : Bool) (A : Option Addr) (n c : Nat) (xs : List Nat) (k : Int) (w : World) (h : Lim w w.heap.size A n c xs) :
    Calls Try.prog 9 #[.agg #[.bool b, .slice A n c, .int .i64 k]] w (RetVal w (.bool (rightD b n xs k))) := by
  unfold rightD
  cases hx : rightB xs with
  | false => exact refRight5_xs b A n c xs k w h hx
  | true =>
    rcases Int.lt_or_le k 0 with hk | hk
    · rw [decide_eq_false (by omega)]; exact refRight5_sc b A n c xs k w h hx hk
    · rw [decide_eq_true hk]
      cases hb : b with
      | false => rw [← hb]; exact (by rw [hb]; exact refRight5_pos false A n c xs k w h hx hk rfl)
      | true =>
        rcases Nat.eq_zero_or_pos n with hn | hn
        · rw [decide_eq_true hn]; exact refRight5_not true A n c xs k w h hx hk rfl hn
        · rw [decide_eq_false (by omega)]; exact refRight5_neg true A n c xs k w h hx hk rfl hn

/-- Is it none, or too long? -/
def longB (b : Bool) (n : Nat) (xs : List Nat) (k : Int) : Bool := decide (12 < n) || (decide (60 < k) || !rightD b n xs k)

set_option maxHeartbeats 1000000 in
theorem long_n (b : Bool) (A : Option Addr) (n c : Nat) (xs : List Nat) (k : Int) (w : World) (h : Lim w w.heap.size A n c xs) (hn : 12 < n) :
    Calls Try.prog 13 #[.agg #[.bool b, .slice A n c, .int .i64 k]] w (RetVal w (.bool true)) := by
  have H := Lib.hid h
  clear h
  skip
  go_enter Try.func13, Try.ntmps13
  go_wp2_with fail
  go_ret
  exact ⟨rfl, (Below.refl _ _).alloc (Nat.le_refl _) _⟩

set_option maxHeartbeats 1000000 in
theorem long_k (b : Bool) (A : Option Addr) (n c : Nat) (xs : List Nat) (k : Int) (w : World) (h : Lim w w.heap.size A n c xs) (hn : n ≤ 12) (hk : 60 < k) :
    Calls Try.prog 13 #[.agg #[.bool b, .slice A n c, .int .i64 k]] w (RetVal w (.bool true)) := by
  have H := Lib.hid h
  clear h
  skip
  go_enter Try.func13, Try.ntmps13
  go_wp2_with fail
  go_ret
  exact ⟨rfl, (Below.refl _ _).alloc (Nat.le_refl _) _⟩

set_option maxHeartbeats 1000000 in
theorem long_r (b : Bool) (A : Option Addr) (n c : Nat) (xs : List Nat) (k : Int) (w : World) (h : Lim w w.heap.size A n c xs) (hn : n ≤ 12) (hk : k ≤ 60) :
    Calls Try.prog 13 #[.agg #[.bool b, .slice A n c, .int .i64 k]] w (RetVal w (.bool (!rightD b n xs k))) := by
  have H := Lib.hid h
  clear h
  have hn2 : decide ((12 : Int) < (n : Int)) = false := decide_eq_false (by omega); have hk2 : decide ((60 : Int) < k) = false := decide_eq_false (by omega)
  go_enter Try.func13, Try.ntmps13
  go_wp2_with fail
  refine (refRight5_any b A n c xs k _ (H.out.on ((Below.refl _ _).alloc (Nat.le_refl _) _))).mono ?_; rintro e w1 ⟨rfl, hb1⟩
  have HB := Lib.hid (((Below.refl w.heap.size w).alloc (Nat.le_refl _) _).trans (hb1.mono (by simp)))
  clear hb1
  go_wp2_with fail
  go_ret
  exact ⟨rfl, HB.out⟩

theorem long_any (b : Bool) (A : Option Addr) (n c : Nat) (xs : List Nat) (k : Int) (w : World) (h : Lim w w.heap.size A n c xs) :
    Calls Try.prog 13 #[.agg #[.bool b, .slice A n c, .int .i64 k]] w (RetVal w (.bool (longB b n xs k))) := by
  unfold longB
  rcases Nat.lt_or_ge 12 n with hn | hn
  · rw [decide_eq_true hn]; exact long_n b A n c xs k w h hn
  · rw [decide_eq_false (by omega)]
    rcases Int.lt_or_le 60 k with hk | hk
    · rw [decide_eq_true hk]; exact long_k b A n c xs k w h hn hk
    · rw [decide_eq_false (by omega)]; exact long_r b A n c xs k w h hn hk

/-- What is not too long is a decimal. -/
theorem of_long {b : Bool} {n c B : Nat} {xs : List Nat} {k : Int} {w : World} {A : Option Addr} (hl : longB b n xs k = false) (h : Lim w B A n c xs) :
    ∃ (i : Int) (s : Nat), b = ngB i ∧ xs = dg i.natAbs ∧ k = (s : Int) ∧ n ≤ 12 ∧ s ≤ 60 := by
  unfold longB at hl
  rw [Bool.or_eq_false_iff, Bool.or_eq_false_iff] at hl
  obtain ⟨h1, h2, h3⟩ := hl
  have h1 := of_decide_eq_false h1
  have h2 := of_decide_eq_false h2
  unfold rightD at h3
  rw [Bool.not_eq_false', Bool.and_eq_true, Bool.and_eq_true] at h3
  obtain ⟨h4, h5, h6⟩ := h3
  have h5 := of_decide_eq_true h5
  have hd := dg_of_right h4
  refine ⟨sgn b (val xs), k.toNat, ?_, by rw [abs_sgn, hd], by omega, by omega, by omega⟩
  rw [ng_sgn]
  cases b with
  | false => rfl
  | true =>
    have h0 : Num w B A n c (val xs) := by rw [Num, hd]; exact h
    have := (num_pos_iff h0).1 (by simp at h6; omega)
    rw [decide_eq_true this]; rfl
theorem rightD_dec {w : World} {B n c s : Nat} {A : Option Addr} {i : Int} (h : Num w B A n c i.natAbs) : rightD (ngB i) n (dg i.natAbs) (s : Int) = true := by
  unfold rightD
  rw [right_dg, decide_eq_true (by omega)]
  by_cases h0 : ngB i = true
  · have h1 : i < 0 := of_decide_eq_true h0
    have := (num_pos_iff h).2 (by omega)
    rw [h0, decide_eq_false (by omega)]; rfl
  · have : ngB i = false := by simpa using h0
    rw [this]; rfl

end Go.Proofs.Ytafbkoejobkncaa
