/-
  Contracts of layer 5, the fifth part: the document's Align; cmp.Compare; ahead.
-/
import Derived.Test.YtafbkoejobkncaaDecD
import Derived.Test.YtafbkoejobkncaaAllDigD
namespace Go.Proofs.Ytafbkoejobkncaa
open Go.RowKit

theorem max_two {P : Program} {s t M : Nat} (h : max s t = M) (ts : Array TypeId) (ty : TypeId) (W : World) : (Builtin.max_ ts ty #[.int .i64 (s : Int), .int .i64 (t : Int)]).run P W = .ok (.int .i64 (M : Int)) W := by
  rw [run_max_int2]
  have e : (if (t : Int) > (s : Int) then (t : Int) else (s : Int)) = (M : Int) := by split <;> omega
  rw [e]
theorem max_zero {P : Program} {s : Nat} (ts : Array TypeId) (ty : TypeId) (W : World) : (Builtin.max_ ts ty #[.int .i64 (s : Int), .int .i64 0]).run P W = .ok (.int .i64 (s : Int)) W := by
  rw [run_max_int2]
  have e : (if (0 : Int) > (s : Int) then (0 : Int) else (s : Int)) = (s : Int) := by split <;> omega
  rw [e]
theorem refDone_is {b : Bool} {A : Option Addr} {n c a s : Nat} {x : Int} {w : World} (h : Num w w.heap.size A n c a) (hs : s ≤ 1000000000000) (hx : sgn b a = x) :
    Calls Try.prog 49 #[.bool b, .slice A n c, .int .i64 (s : Int)] w fun e w' => e = .returned (.agg #[.bool (ngB x), .slice A n c, .int .i64 (s : Int)]) ∧ Below w.heap.size w w' := by
  subst hx; exact refDone_any b A n c a s w h hs
theorem decimal_is {b : Bool} {A : Option Addr} {n c a s : Nat} {x : Int} {w : World} (h : Num w w.heap.size A n c a) (hs : s ≤ 1000000000000) (hx : sgn b a = x) :
    Calls Try.prog 47 #[.bool b, .slice A n c, .int .i64 (s : Int)] w fun e w' => e = .returned (.agg #[.bool (ngB x), .slice A n c, .int .i64 (s : Int)]) ∧ Below w.heap.size w w' := by
  subst hx; exact decimal_any b A n c a s w h hs
theorem sgn_upA (i : Int) (s S : Nat) : sgn (ngB i) (up i s S).natAbs = up i s S := by rw [abs_up]; exact sgn_up i s S

set_option maxHeartbeats 4000000 in
theorem refAlign_any (A A' : Option Addr) (n c n' c' s t : Nat) (i j : Int) (w : World) (h : Num w w.heap.size A n c i.natAbs) (h' : Num w w.heap.size A' n' c' j.natAbs) (hn : n ≤ 1000000) (hn' : n' ≤ 1000000) (hs : s ≤ 100000) (ht : t ≤ 100000) :
    Calls Try.prog 16 #[.agg #[.bool (ngB i), .slice A n c, .int .i64 (s : Int)], .agg #[.bool (ngB j), .slice A' n' c', .int .i64 (t : Int)]] w (RetDec2 w (up i s (max s t)) (max s t) (up j t (max s t)) (max s t)) := by
  have H := Lib.hid h
  have H' := Lib.hid h'
  clear h h'
  obtain ⟨M, hm⟩ : ∃ M, max s t = M := ⟨_, rfl⟩
  have hsM : s ≤ M := by omega
  have htM : t ≤ M := by omega
  have hM : M ≤ 100000 := by omega
  rw [hm]
  clear hs ht
  have hmx := max_two (P := Try.prog) hm
  have hk1 : (M : Int) - (s : Int) = ((M - s : Nat) : Int) := by omega
  have hk2 : (M : Int) - (t : Int) = ((M - t : Nat) : Int) := by omega
  obtain ⟨k, hk⟩ : ∃ k, k = M - s := ⟨_, rfl⟩
  obtain ⟨l, hl⟩ : ∃ l, l = M - t := ⟨_, rfl⟩
  rw [← hk] at hk1
  rw [← hl] at hk2
  have U1 := Lib.hid (abs_up i s M)
  have U2 := Lib.hid (abs_up j t M)
  rw [← hk] at U1
  rw [← hl] at U2
  have hkb : k ≤ 100000 := by omega
  have hlb : l ≤ 100000 := by omega
  clear hk hl
  go_enter Try.func16, Try.ntmps16
  go_wp2_with fail
  generalize hW : World.alloc (World.alloc (World.alloc (World.alloc w _) _) _) _ = W0
  have E0 : St w W0 [(A, n, c, (i).natAbs), (A', n', c', (j).natAbs)] [((w.heap.size + 1 + 1 + 1), .bool false, .slice none 0 0, .int .i64 0), ((w.heap.size + 1 + 1), .bool false, .slice none 0 0, .int .i64 0), ((w.heap.size + 1), (.bool (ngB j)), (.slice A' n' c'), (.int .i64 (t : Int))), (w.heap.size, (.bool (ngB i)), (.slice A n c), (.int .i64 (s : Int)))] := by rw [← hW]; exact ((((start_two H.out H'.out).lay rfl).lay (by simp)).lay (by simp)).lay (by simp)
  have E := Lib.hid E0
  clear hW E0
  obtain ⟨p0, p1, p2, pf0, pf1, pf2, plt⟩ := St.at_ (x0 := (.bool (ngB i))) (x1 := (.slice A n c)) (x2 := (.int .i64 (s : Int))) (g := w.heap.size) E (by simp)
  obtain ⟨q0, q1, q2, qf0, qf1, qf2, qlt⟩ := St.at_ (x0 := (.bool (ngB j))) (x1 := (.slice A' n' c')) (x2 := (.int .i64 (t : Int))) (g := (w.heap.size + 1)) E (by simp)
  go_wp2_with fail
  clear hmx hm p0 p1 p2 pf0 pf1 pf2 plt q0 q1 q2 qf0 qf1 qf2 qlt
  refine (refShift_is (a := i.natAbs) (k := k) (St.got E (by simp)) hn (by omega) rfl U1.out.symm).mono ?_
  rintro e w1 ⟨A1, n1, c1, rfl, h1, hb1⟩
  replace E := Lib.hid (St.push E.out hb1 h1)
  clear h1 hb1
  obtain ⟨p0, p1, p2, pf0, pf1, pf2, plt⟩ := St.at_ (x0 := (.bool (ngB i))) (x1 := (.slice A n c)) (x2 := (.int .i64 (s : Int))) (g := w.heap.size) E (by simp)
  obtain ⟨q0, q1, q2, qf0, qf1, qf2, qlt⟩ := St.at_ (x0 := (.bool (ngB j))) (x1 := (.slice A' n' c')) (x2 := (.int .i64 (t : Int))) (g := (w.heap.size + 1)) E (by simp)
  go_wp2_with fail
  clear p0 p1 p2 pf0 pf1 pf2 plt q0 q1 q2 qf0 qf1 qf2 qlt
  refine (refShift_is (a := j.natAbs) (k := l) (St.got E (by simp)) hn' (by omega) rfl U2.out.symm).mono ?_
  rintro e w2 ⟨A2, n2, c2, rfl, h2, hb2⟩
  replace E := Lib.hid (St.push E.out hb2 h2)
  clear h2 hb2
  go_wp2_with fail
  replace E := Lib.hid (St.drew E.out)
  go_region_held3 (fun v => v.cell? ⟨w.heap.size, 0, none⟩ = some (.bool (ngB i)) ∧ v.cell? ⟨w.heap.size, 1, none⟩ = some (.slice A n c) ∧ v.cell? ⟨w.heap.size, 2, none⟩ = some (.int .i64 (s : Int)) ∧ v.cell? ⟨w.heap.size + 1, 0, none⟩ = some (.bool (ngB j)) ∧ v.cell? ⟨w.heap.size + 1, 1, none⟩ = some (.slice A' n' c') ∧ v.cell? ⟨w.heap.size + 1, 2, none⟩ = some (.int .i64 (t : Int))) (first | (have X0 := St.at_ (x0 := (.bool (ngB i))) (x1 := (.slice A n c)) (x2 := (.int .i64 (s : Int))) (g := w.heap.size) E (by simp); have X1 := St.at_ (x0 := (.bool (ngB j))) (x1 := (.slice A' n' c')) (x2 := (.int .i64 (t : Int))) (g := (w.heap.size + 1)) E (by simp); with_reducible exact ⟨X0.c0, X0.c1, X0.c2, X1.c0, X1.c1, X1.c2⟩) | (with_reducible exact ⟨((St.at_ (x0 := (.bool (ngB i))) (x1 := (.slice A n c)) (x2 := (.int .i64 (s : Int))) (g := w.heap.size) E (by simp)).apart (g' := (w.heap.size + 1 + 1)) _ _ _ (by omega)).c0, ((St.at_ (x0 := (.bool (ngB i))) (x1 := (.slice A n c)) (x2 := (.int .i64 (s : Int))) (g := w.heap.size) E (by simp)).apart (g' := (w.heap.size + 1 + 1)) _ _ _ (by omega)).c1, ((St.at_ (x0 := (.bool (ngB i))) (x1 := (.slice A n c)) (x2 := (.int .i64 (s : Int))) (g := w.heap.size) E (by simp)).apart (g' := (w.heap.size + 1 + 1)) _ _ _ (by omega)).c2, ((St.at_ (x0 := (.bool (ngB j))) (x1 := (.slice A' n' c')) (x2 := (.int .i64 (t : Int))) (g := (w.heap.size + 1)) E (by simp)).apart (g' := (w.heap.size + 1 + 1)) _ _ _ (by omega)).c0, ((St.at_ (x0 := (.bool (ngB j))) (x1 := (.slice A' n' c')) (x2 := (.int .i64 (t : Int))) (g := (w.heap.size + 1)) E (by simp)).apart (g' := (w.heap.size + 1 + 1)) _ _ _ (by omega)).c1, ((St.at_ (x0 := (.bool (ngB j))) (x1 := (.slice A' n' c')) (x2 := (.int .i64 (t : Int))) (g := (w.heap.size + 1)) E (by simp)).apart (g' := (w.heap.size + 1 + 1)) _ _ _ (by omega)).c2⟩) | (with_reducible exact ⟨(((St.at_ (x0 := (.bool (ngB i))) (x1 := (.slice A n c)) (x2 := (.int .i64 (s : Int))) (g := w.heap.size) E (by simp)).apart (g' := (w.heap.size + 1 + 1)) _ _ _ (by omega)).apart (g' := (w.heap.size + 1 + 1 + 1)) _ _ _ (by omega)).c0, (((St.at_ (x0 := (.bool (ngB i))) (x1 := (.slice A n c)) (x2 := (.int .i64 (s : Int))) (g := w.heap.size) E (by simp)).apart (g' := (w.heap.size + 1 + 1)) _ _ _ (by omega)).apart (g' := (w.heap.size + 1 + 1 + 1)) _ _ _ (by omega)).c1, (((St.at_ (x0 := (.bool (ngB i))) (x1 := (.slice A n c)) (x2 := (.int .i64 (s : Int))) (g := w.heap.size) E (by simp)).apart (g' := (w.heap.size + 1 + 1)) _ _ _ (by omega)).apart (g' := (w.heap.size + 1 + 1 + 1)) _ _ _ (by omega)).c2, (((St.at_ (x0 := (.bool (ngB j))) (x1 := (.slice A' n' c')) (x2 := (.int .i64 (t : Int))) (g := (w.heap.size + 1)) E (by simp)).apart (g' := (w.heap.size + 1 + 1)) _ _ _ (by omega)).apart (g' := (w.heap.size + 1 + 1 + 1)) _ _ _ (by omega)).c0, (((St.at_ (x0 := (.bool (ngB j))) (x1 := (.slice A' n' c')) (x2 := (.int .i64 (t : Int))) (g := (w.heap.size + 1)) E (by simp)).apart (g' := (w.heap.size + 1 + 1)) _ _ _ (by omega)).apart (g' := (w.heap.size + 1 + 1 + 1)) _ _ _ (by omega)).c1, (((St.at_ (x0 := (.bool (ngB j))) (x1 := (.slice A' n' c')) (x2 := (.int .i64 (t : Int))) (g := (w.heap.size + 1)) E (by simp)).apart (g' := (w.heap.size + 1 + 1)) _ _ _ (by omega)).apart (g' := (w.heap.size + 1 + 1 + 1)) _ _ _ (by omega)).c2⟩))
    (first | (go_at_call 49; first | ((with_reducible refine (refDone_is (b := ngB i) (A := A1) (n := n1) (c := c1) (s := M) (St.got E (by simp)) (by omega) (sgn_upA i s M)).mono ?_); rintro e w3 ⟨rfl, hb3⟩; replace E := Lib.hid (St.step E.out hb3); clear hb3) | ((with_reducible refine (refDone_is (b := ngB j) (A := A2) (n := n2) (c := c2) (s := M) (St.got E (by simp)) (by omega) (sgn_upA j t M)).mono ?_); rintro e w4 ⟨rfl, hb4⟩; replace E := Lib.hid (St.step E.out hb4); clear hb4; obtain ⟨r0, r1, r2, rf0, rf1, rf2, rlt⟩ := St.at_ (x0 := .bool false) (x1 := .slice none 0 0) (x2 := .int .i64 0) (g := (w.heap.size + 1 + 1)) E (by simp); obtain ⟨z0, z1, z2, zf0, zf1, zf2, zlt⟩ := St.at_ (x0 := .bool false) (x1 := .slice none 0 0) (x2 := .int .i64 0) (g := (w.heap.size + 1 + 1 + 1)) E (by simp))))
  go_wp2_with fail
  have F := Lib.hid (St.store E.out (g := (w.heap.size + 1 + 1)) (x0 := .bool false) (x1 := .slice none 0 0) (x2 := .int .i64 0) (by simp) (noLimb_bool _) (noLimb_slice _ _ _) (noLimb_int _) [((w.heap.size + 1 + 1 + 1), .bool false, .slice none 0 0, .int .i64 0)] (by simp) (.bool (ngB (up i s M))) (.slice A1 n1 c1) (.int .i64 (M : Int)))
  have G := Lib.hid (St.store F.out (g := (w.heap.size + 1 + 1 + 1)) (x0 := .bool false) (x1 := .slice none 0 0) (x2 := .int .i64 0) (by simp) (noLimb_bool _) (noLimb_slice _ _ _) (noLimb_int _) [((w.heap.size + 1 + 1), .bool (ngB (up i s M)), .slice A1 n1 c1, .int .i64 (M : Int))] (by simp) (.bool (ngB (up j t M))) (.slice A2 n2 c2) (.int .i64 (M : Int)))
  obtain ⟨u0, u1, u2, _, _, _, _⟩ := St.at_ (x0 := .bool (ngB (up i s M))) (x1 := .slice A1 n1 c1) (x2 := .int .i64 (M : Int)) (g := (w.heap.size + 1 + 1)) G (by simp)
  obtain ⟨v0, v1, v2, _, _, _, _⟩ := St.at_ (x0 := .bool (ngB (up j t M))) (x1 := .slice A2 n2 c2) (x2 := .int .i64 (M : Int)) (g := (w.heap.size + 1 + 1 + 1)) G (by simp)
  exact bodyPost_ret (v := .tuple #[.agg #[.bool (ngB (up i s M)), .slice A1 n1 c1, .int .i64 (M : Int)], .agg #[.bool (ngB (up j t M)), .slice A2 n2 c2, .int .i64 (M : Int)]]) (by simp [results, Try.results16, go_sem, u0, u1, u2, v0, v1, v2]) rfl ⟨A1, n1, c1, A2, n2, c2, rfl, St.got G (by simp), St.got G (by simp), G.out.bel⟩

/-- Which of two numbers is the less one. -/
def cmpZ (x y : Int) : Int := if x < y then -1 else if y < x then 1 else 0
theorem cmpZ_lt {x y : Int} (h : x < y) : cmpZ x y = -1 := if_pos h
theorem cmpZ_gt {x y : Int} (h : y < x) : cmpZ x y = 1 := by unfold cmpZ; rw [if_neg (by omega), if_pos h]
theorem cmpZ_eq {x y : Int} (h : x = y) : cmpZ x y = 0 := by unfold cmpZ; rw [if_neg (by omega), if_neg (by omega)]

theorem isNaN_any (x : Int) (w : World) : Calls Try.prog 75 #[.int .i64 x] w fun e w' => e = .returned (.bool false) ∧ w = w' := by
  go_enter Try.func75, Try.ntmps75
  go_wp2
  go_ret
  exact ⟨rfl, rfl⟩

theorem compare_any (x y : Int) (w : World) : Calls Try.prog 54 #[.int .i64 x, .int .i64 y] w fun e w' => e = .returned (.int .i64 (cmpZ x y)) ∧ w = w' := by
  rcases Int.lt_trichotomy x y with h | h | h
  · rw [cmpZ_lt h]
    go_enter Try.func54, Try.ntmps54
    go_wp2_with (go_at_call 75; refine (isNaN_any _ _).mono ?_; rintro e w' ⟨rfl, rfl⟩)
    all_goals first | (exfalso; omega) | (go_ret; exact ⟨rfl, rfl⟩)
  · rw [cmpZ_eq h]
    subst h
    go_enter Try.func54, Try.ntmps54
    go_wp2_with (go_at_call 75; refine (isNaN_any _ _).mono ?_; rintro e w' ⟨rfl, rfl⟩)
    all_goals first | (exfalso; omega) | (go_ret; exact ⟨rfl, rfl⟩)
  · rw [cmpZ_gt h]
    go_enter Try.func54, Try.ntmps54
    go_wp2_with (go_at_call 75; refine (isNaN_any _ _).mono ?_; rintro e w' ⟨rfl, rfl⟩)
    all_goals first | (exfalso; omega) | (go_ret; exact ⟨rfl, rfl⟩)

set_option maxHeartbeats 1000000 in
theorem ahead_any (A : Option Addr) (n c s : Nat) (i : Int) (w : World) (h : Num w w.heap.size A n c i.natAbs) (hn : n ≤ 1000000) (hs : s ≤ 100000) :
    Calls Try.prog 76 #[.agg #[.bool (ngB i), .slice A n c, .int .i64 (s : Int)]] w (RetVal w (.int .i64 ((nd i.natAbs : Int) - (s : Int)))) := by
  have H := Lib.hid h
  have hnd := nd_le_len h.len
  obtain ⟨N, hN⟩ : ∃ N, nd i.natAbs = N := ⟨_, rfl⟩
  rw [hN] at hnd
  rw [hN]
  have HN := Lib.hid hN
  clear h hN
  have hnx : N ≤ 10000000 := by omega
  clear hnd
  have hw : IntKind.i64.wrap ((N : Int) - (s : Int)) = (N : Int) - (s : Int) := IntWalk.i64_in _ ⟨by omega, by omega⟩
  have hmx := max_zero (P := Try.prog) (s := s)
  go_enter Try.func76, Try.ntmps76
  go_wp2_with fail
  generalize hW : World.alloc w _ = W0
  have E0 : St w W0 [(A, n, c, (i).natAbs)] [(w.heap.size, (.bool (ngB i)), (.slice A n c), (.int .i64 (s : Int)))] := by rw [← hW]; exact (start_one H.out).lay rfl
  have E := Lib.hid E0.drew
  clear hW E0
  go_region_held3 (fun v => v.cell? ⟨w.heap.size, 0, none⟩ = some (.bool (ngB i)) ∧ v.cell? ⟨w.heap.size, 1, none⟩ = some (.slice A n c) ∧ v.cell? ⟨w.heap.size, 2, none⟩ = some (.int .i64 (s : Int))) (first | (have X0 := St.at_ (x0 := (.bool (ngB i))) (x1 := (.slice A n c)) (x2 := (.int .i64 (s : Int))) (g := w.heap.size) E (by simp); with_reducible exact ⟨X0.c0, X0.c1, X0.c2⟩))
    (first | (go_at_call 89; refine (count_is (B := W0.drew.heap.size) (St.got E (by simp)) hn HN.out).mono ?_; rintro e w' ⟨rfl, rfl⟩))
  all_goals
    go_wp2_with fail
    go_ret
    exact ⟨rfl, E.out.bel⟩

end Go.Proofs.Ytafbkoejobkncaa
