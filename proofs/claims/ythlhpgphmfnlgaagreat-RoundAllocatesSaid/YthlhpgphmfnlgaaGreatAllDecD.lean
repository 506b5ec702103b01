/- What the proofs of this layer need of the layer Dec, in one text. -/
import Derived.Test.YthlhpgphmfnlgaaGreatAllDecC
import Derived.Laws.Cover1
import Derived.Test.YthlhpgphmfnlgaaGreatAllDigD
import Derived.Test.YthlhpgphmfnlgaaGreatAllDigF
import Derived.Deep.QuietTactic
import Derived.BigQuiet
set_option maxRecDepth 100000
set_option maxHeartbeats 32000000
set_option linter.unusedVariables false
set_option linter.unusedSimpArgs false
/-
 Contracts of layer 5, the fourth part: Align and the document's.
-/
namespace Go.Proofs.YthlhpgphmfnlgaaGreat
open Go.RowKit
theorem max_three {P : Program} {s t M : Nat} (h : max s t = M) (ts : Array TypeId) (ty : TypeId) (W : World) : (Builtin.max_ ts ty #[.int .i64 (s : Int), .int .i64 (t : Int), .int .i64 0]).run P W = .ok (.int .i64 (M : Int)) W := by
 rw [run_max_int3]
 have e : (if (0 : Int) > (if (t : Int) > (s : Int) then (t : Int) else (s : Int)) then (0 : Int) else (if (t : Int) > (s : Int) then (t : Int) else (s : Int))) = (M : Int) := by
   split <;> split <;> omega
 rw [e]
theorem align_any (A A' : Option Addr) (n c n' c' s t : Nat) (i j : Int) (w : World) (h : Num w w.heap.size A n c i.natAbs) (h' : Num w w.heap.size A' n' c' j.natAbs) (hn : n ≤ 1000000) (hn' : n' ≤ 1000000) (hs : s ≤ 100000) (ht : t ≤ 100000) :
   Calls Tryz.prog 54 #[.agg #[.bool (ngB i), .slice A n c, .int .i64 (s : Int)], .agg #[.bool (ngB j), .slice A' n' c', .int .i64 (t : Int)]] w (RetDec2 w (up i s (max s t)) (max s t) (up j t (max s t)) (max s t)) := by
 have H := Lib.hid h
 have H' := Lib.hid h'
 clear h h'
 obtain ⟨M, hm⟩ : ∃ M, max s t = M := ⟨_, rfl⟩
 have hsM : s ≤ M := by omega
 have htM : t ≤ M := by omega
 have hM : M ≤ 100000 := by omega
 rw [hm]
 clear hs ht
 have hmx := max_three (P := Tryz.prog) hm
 go_enter Tryz.func54, Tryz.ntmps54
 go_wp2_with fail
 generalize hW : World.alloc (World.alloc (World.alloc (World.alloc w _) _) _) _ = W0
 have E0 : St w W0 [(A, n, c, (i).natAbs), (A', n', c', (j).natAbs)] [((w.heap.size + 1 + 1 + 1), .bool false, .slice none 0 0, .int .i64 0), ((w.heap.size + 1 + 1), .bool false, .slice none 0 0, .int .i64 0), ((w.heap.size + 1), (.bool (ngB j)), (.slice A' n' c'), (.int .i64 (t : Int))), (w.heap.size, (.bool (ngB i)), (.slice A n c), (.int .i64 (s : Int)))] := by rw [← hW]; exact ((((start_two H.out H'.out).lay rfl).lay (by simp)).lay (by simp)).lay (by simp)
 have E := Lib.hid E0
 clear hW E0
 obtain ⟨p0, p1, p2, pf0, pf1, pf2, plt⟩ := St.at_ (x0 := (.bool (ngB i))) (x1 := (.slice A n c)) (x2 := (.int .i64 (s : Int))) (g := w.heap.size) E (by simp)
 obtain ⟨q0, q1, q2, qf0, qf1, qf2, qlt⟩ := St.at_ (x0 := (.bool (ngB j))) (x1 := (.slice A' n' c')) (x2 := (.int .i64 (t : Int))) (g := (w.heap.size + 1)) E (by simp)
 go_wp2_with fail
 clear hmx hm p0 p1 p2 pf0 pf1 pf2 plt q0 q1 q2 qf0 qf1 qf2 qlt
 replace E := Lib.hid (St.drew E.out)
 go_region_held3 (fun v => v.cell? ⟨w.heap.size, 0, none⟩ = some (.bool (ngB i)) ∧ v.cell? ⟨w.heap.size, 1, none⟩ = some (.slice A n c) ∧ v.cell? ⟨w.heap.size, 2, none⟩ = some (.int .i64 (s : Int)) ∧ v.cell? ⟨w.heap.size + 1, 0, none⟩ = some (.bool (ngB j)) ∧ v.cell? ⟨w.heap.size + 1, 1, none⟩ = some (.slice A' n' c') ∧ v.cell? ⟨w.heap.size + 1, 2, none⟩ = some (.int .i64 (t : Int))) (first | (have X0 := St.at_ (x0 := (.bool (ngB i))) (x1 := (.slice A n c)) (x2 := (.int .i64 (s : Int))) (g := w.heap.size) E (by simp); have X1 := St.at_ (x0 := (.bool (ngB j))) (x1 := (.slice A' n' c')) (x2 := (.int .i64 (t : Int))) (g := (w.heap.size + 1)) E (by simp); with_reducible exact ⟨X0.c0, X0.c1, X0.c2, X1.c0, X1.c1, X1.c2⟩) | (with_reducible exact ⟨((St.at_ (x0 := (.bool (ngB i))) (x1 := (.slice A n c)) (x2 := (.int .i64 (s : Int))) (g := w.heap.size) E (by simp)).apart (g' := (w.heap.size + 1 + 1)) _ _ _ (by omega)).c0, ((St.at_ (x0 := (.bool (ngB i))) (x1 := (.slice A n c)) (x2 := (.int .i64 (s : Int))) (g := w.heap.size) E (by simp)).apart (g' := (w.heap.size + 1 + 1)) _ _ _ (by omega)).c1, ((St.at_ (x0 := (.bool (ngB i))) (x1 := (.slice A n c)) (x2 := (.int .i64 (s : Int))) (g := w.heap.size) E (by simp)).apart (g' := (w.heap.size + 1 + 1)) _ _ _ (by omega)).c2, ((St.at_ (x0 := (.bool (ngB j))) (x1 := (.slice A' n' c')) (x2 := (.int .i64 (t : Int))) (g := (w.heap.size + 1)) E (by simp)).apart (g' := (w.heap.size + 1 + 1)) _ _ _ (by omega)).c0, ((St.at_ (x0 := (.bool (ngB j))) (x1 := (.slice A' n' c')) (x2 := (.int .i64 (t : Int))) (g := (w.heap.size + 1)) E (by simp)).apart (g' := (w.heap.size + 1 + 1)) _ _ _ (by omega)).c1, ((St.at_ (x0 := (.bool (ngB j))) (x1 := (.slice A' n' c')) (x2 := (.int .i64 (t : Int))) (g := (w.heap.size + 1)) E (by simp)).apart (g' := (w.heap.size + 1 + 1)) _ _ _ (by omega)).c2⟩) | (with_reducible exact ⟨(((St.at_ (x0 := (.bool (ngB i))) (x1 := (.slice A n c)) (x2 := (.int .i64 (s : Int))) (g := w.heap.size) E (by simp)).apart (g' := (w.heap.size + 1 + 1)) _ _ _ (by omega)).apart (g' := (w.heap.size + 1 + 1 + 1)) _ _ _ (by omega)).c0, (((St.at_ (x0 := (.bool (ngB i))) (x1 := (.slice A n c)) (x2 := (.int .i64 (s : Int))) (g := w.heap.size) E (by simp)).apart (g' := (w.heap.size + 1 + 1)) _ _ _ (by omega)).apart (g' := (w.heap.size + 1 + 1 + 1)) _ _ _ (by omega)).c1, (((St.at_ (x0 := (.bool (ngB i))) (x1 := (.slice A n c)) (x2 := (.int .i64 (s : Int))) (g := w.heap.size) E (by simp)).apart (g' := (w.heap.size + 1 + 1)) _ _ _ (by omega)).apart (g' := (w.heap.size + 1 + 1 + 1)) _ _ _ (by omega)).c2, (((St.at_ (x0 := (.bool (ngB j))) (x1 := (.slice A' n' c')) (x2 := (.int .i64 (t : Int))) (g := (w.heap.size + 1)) E (by simp)).apart (g' := (w.heap.size + 1 + 1)) _ _ _ (by omega)).apart (g' := (w.heap.size + 1 + 1 + 1)) _ _ _ (by omega)).c0, (((St.at_ (x0 := (.bool (ngB j))) (x1 := (.slice A' n' c')) (x2 := (.int .i64 (t : Int))) (g := (w.heap.size + 1)) E (by simp)).apart (g' := (w.heap.size + 1 + 1)) _ _ _ (by omega)).apart (g' := (w.heap.size + 1 + 1 + 1)) _ _ _ (by omega)).c1, (((St.at_ (x0 := (.bool (ngB j))) (x1 := (.slice A' n' c')) (x2 := (.int .i64 (t : Int))) (g := (w.heap.size + 1)) E (by simp)).apart (g' := (w.heap.size + 1 + 1)) _ _ _ (by omega)).apart (g' := (w.heap.size + 1 + 1 + 1)) _ _ _ (by omega)).c2⟩))
   (first | (go_at_call 84; first | ((with_reducible refine (raised_any A n c s M i _ (St.got E (by simp)) hn hsM hM).mono ?_); rintro e w1 ⟨A1, n1, c1, rfl, h1, hb1⟩; replace E := Lib.hid (St.push E.out hb1 h1); clear h1 hb1) | ((with_reducible refine (raised_any A' n' c' t M j _ (St.got E (by simp)) hn' htM hM).mono ?_); rintro e w2 ⟨A2, n2, c2, rfl, h2, hb2⟩; replace E := Lib.hid (St.push E.out hb2 h2); clear h2 hb2; obtain ⟨r0, r1, r2, rf0, rf1, rf2, rlt⟩ := St.at_ (x0 := .bool false) (x1 := .slice none 0 0) (x2 := .int .i64 0) (g := (w.heap.size + 1 + 1)) E (by simp); obtain ⟨z0, z1, z2, zf0, zf1, zf2, zlt⟩ := St.at_ (x0 := .bool false) (x1 := .slice none 0 0) (x2 := .int .i64 0) (g := (w.heap.size + 1 + 1 + 1)) E (by simp))))
 go_wp2_with fail
 have F := Lib.hid (St.store E.out (g := (w.heap.size + 1 + 1)) (x0 := .bool false) (x1 := .slice none 0 0) (x2 := .int .i64 0) (by simp) (noLimb_bool _) (noLimb_slice _ _ _) (noLimb_int _) [((w.heap.size + 1 + 1 + 1), .bool false, .slice none 0 0, .int .i64 0)] (by simp <;> omega) (.bool (ngB (up i s M))) (.slice A1 n1 c1) (.int .i64 (M : Int)))
 have G := Lib.hid (St.store F.out (g := (w.heap.size + 1 + 1 + 1)) (x0 := .bool false) (x1 := .slice none 0 0) (x2 := .int .i64 0) (by simp) (noLimb_bool _) (noLimb_slice _ _ _) (noLimb_int _) [((w.heap.size + 1 + 1), .bool (ngB (up i s M)), .slice A1 n1 c1, .int .i64 (M : Int))] (by simp <;> omega) (.bool (ngB (up j t M))) (.slice A2 n2 c2) (.int .i64 (M : Int)))
 obtain ⟨u0, u1, u2, _, _, _, _⟩ := St.at_ (x0 := .bool (ngB (up i s M))) (x1 := .slice A1 n1 c1) (x2 := .int .i64 (M : Int)) (g := (w.heap.size + 1 + 1)) G (by simp)
 obtain ⟨v0, v1, v2, _, _, _, _⟩ := St.at_ (x0 := .bool (ngB (up j t M))) (x1 := .slice A2 n2 c2) (x2 := .int .i64 (M : Int)) (g := (w.heap.size + 1 + 1 + 1)) G (by simp)
 exact bodyPost_ret (v := .tuple #[.agg #[.bool (ngB (up i s M)), .slice A1 n1 c1, .int .i64 (M : Int)], .agg #[.bool (ngB (up j t M)), .slice A2 n2 c2, .int .i64 (M : Int)]]) (by simp [results, Tryz.results54, go_sem, u0, u1, u2, v0, v1, v2]) rfl ⟨A1, n1, c1, A2, n2, c2, rfl, St.got G (by simp), St.got G (by simp), G.out.bel⟩
end Go.Proofs.YthlhpgphmfnlgaaGreat
/-
 Contracts of layer 5, the fifth part: the document's Align; cmp.Compare; ahead.
-/
namespace Go.Proofs.YthlhpgphmfnlgaaGreat
open Go.RowKit
theorem max_two {P : Program} {s t M : Nat} (h : max s t = M) (ts : Array TypeId) (ty : TypeId) (W : World) : (Builtin.max_ ts ty #[.int .i64 (s : Int), .int .i64 (t : Int)]).run P W = .ok (.int .i64 (M : Int)) W := by
 rw [run_max_int2]
 have e : (if (t : Int) > (s : Int) then (t : Int) else (s : Int)) = (M : Int) := by split <;> omega
 rw [e]
theorem max_zero {P : Program} {s : Nat} (ts : Array TypeId) (ty : TypeId) (W : World) : (Builtin.max_ ts ty #[.int .i64 (s : Int), .int .i64 0]).run P W = .ok (.int .i64 (s : Int)) W := by
 rw [run_max_int2]
 have e : (if (0 : Int) > (s : Int) then (0 : Int) else (s : Int)) = (s : Int) := by split <;> omega
 rw [e]
theorem refDone_is {b : Bool} {A : Option Addr} {n c a s : Nat} {x : Int} {w : World} (h : Num w w.heap.size A n c a) (hs : s ≤ 1000000000000) (hx : sgn b a = x) :
   Calls Tryz.prog 66 #[.bool b, .slice A n c, .int .i64 (s : Int)] w fun e w' => e = .returned (.agg #[.bool (ngB x), .slice A n c, .int .i64 (s : Int)]) ∧ Below w.heap.size w w' := by
 subst hx; exact refDone_any b A n c a s w h hs
theorem decimal_is {b : Bool} {A : Option Addr} {n c a s : Nat} {x : Int} {w : World} (h : Num w w.heap.size A n c a) (hs : s ≤ 1000000000000) (hx : sgn b a = x) :
   Calls Tryz.prog 48 #[.bool b, .slice A n c, .int .i64 (s : Int)] w fun e w' => e = .returned (.agg #[.bool (ngB x), .slice A n c, .int .i64 (s : Int)]) ∧ Below w.heap.size w w' := by
 subst hx; exact decimal_any b A n c a s w h hs
theorem sgn_upA (i : Int) (s S : Nat) : sgn (ngB i) (up i s S).natAbs = up i s S := by rw [abs_up]; exact sgn_up i s S
theorem refAlign_any (A A' : Option Addr) (n c n' c' s t : Nat) (i j : Int) (w : World) (h : Num w w.heap.size A n c i.natAbs) (h' : Num w w.heap.size A' n' c' j.natAbs) (hn : n ≤ 1000000) (hn' : n' ≤ 1000000) (hs : s ≤ 100000) (ht : t ≤ 100000) :
   Calls Tryz.prog 65 #[.agg #[.bool (ngB i), .slice A n c, .int .i64 (s : Int)], .agg #[.bool (ngB j), .slice A' n' c', .int .i64 (t : Int)]] w (RetDec2 w (up i s (max s t)) (max s t) (up j t (max s t)) (max s t)) := by
 have H := Lib.hid h
 have H' := Lib.hid h'
 clear h h'
 obtain ⟨M, hm⟩ : ∃ M, max s t = M := ⟨_, rfl⟩
 have hsM : s ≤ M := by omega
 have htM : t ≤ M := by omega
 have hM : M ≤ 100000 := by omega
 rw [hm]
 clear hs ht
 have hmx := max_two (P := Tryz.prog) hm
 have hk1 : (M : Int) - (s : Int) = ((M - s : Nat) : Int) := by omega
 have hk2 : (M : Int) - (t : Int) = ((M - t : Nat) : Int) := by omega
 obtain ⟨k, hk⟩ : ∃ k, k = M - s := ⟨_, rfl⟩
 obtain ⟨l, hl⟩ : ∃ l, l = M - t := ⟨_, rfl⟩
 rw [← hk] at hk1
 rw [← hl] at hk2
 have U1 := Lib.hid (abs_up i s M)
 have U2 := Lib.hid (abs_up j t M)
 rw [← hk] at U1
 rw [← hl] at U2
 have hkb : k ≤ 100000 := by omega
 have hlb : l ≤ 100000 := by omega
 clear hk hl
 go_enter Tryz.func65, Tryz.ntmps65
 go_wp2_with fail
 generalize hW : World.alloc (World.alloc (World.alloc (World.alloc w _) _) _) _ = W0
 have E0 : St w W0 [(A, n, c, (i).natAbs), (A', n', c', (j).natAbs)] [((w.heap.size + 1 + 1 + 1), .bool false, .slice none 0 0, .int .i64 0), ((w.heap.size + 1 + 1), .bool false, .slice none 0 0, .int .i64 0), ((w.heap.size + 1), (.bool (ngB j)), (.slice A' n' c'), (.int .i64 (t : Int))), (w.heap.size, (.bool (ngB i)), (.slice A n c), (.int .i64 (s : Int)))] := by rw [← hW]; exact ((((start_two H.out H'.out).lay rfl).lay (by simp)).lay (by simp)).lay (by simp)
 have E := Lib.hid E0
 clear hW E0
 obtain ⟨p0, p1, p2, pf0, pf1, pf2, plt⟩ := St.at_ (x0 := (.bool (ngB i))) (x1 := (.slice A n c)) (x2 := (.int .i64 (s : Int))) (g := w.heap.size) E (by simp)
 obtain ⟨q0, q1, q2, qf0, qf1, qf2, qlt⟩ := St.at_ (x0 := (.bool (ngB j))) (x1 := (.slice A' n' c')) (x2 := (.int .i64 (t : Int))) (g := (w.heap.size + 1)) E (by simp)
 go_wp2_with fail
 clear hmx hm p0 p1 p2 pf0 pf1 pf2 plt q0 q1 q2 qf0 qf1 qf2 qlt
 refine (refShift_is (a := i.natAbs) (k := k) (St.got E (by simp)) hn (by omega) rfl U1.out.symm).mono ?_
 rintro e w1 ⟨A1, n1, c1, rfl, h1, hb1⟩
 replace E := Lib.hid (St.push E.out hb1 h1)
 clear h1 hb1
 obtain ⟨p0, p1, p2, pf0, pf1, pf2, plt⟩ := St.at_ (x0 := (.bool (ngB i))) (x1 := (.slice A n c)) (x2 := (.int .i64 (s : Int))) (g := w.heap.size) E (by simp)
 obtain ⟨q0, q1, q2, qf0, qf1, qf2, qlt⟩ := St.at_ (x0 := (.bool (ngB j))) (x1 := (.slice A' n' c')) (x2 := (.int .i64 (t : Int))) (g := (w.heap.size + 1)) E (by simp)
 go_wp2_with fail
 clear p0 p1 p2 pf0 pf1 pf2 plt q0 q1 q2 qf0 qf1 qf2 qlt
 refine (refShift_is (a := j.natAbs) (k := l) (St.got E (by simp)) hn' (by omega) rfl U2.out.symm).mono ?_
 rintro e w2 ⟨A2, n2, c2, rfl, h2, hb2⟩
 replace E := Lib.hid (St.push E.out hb2 h2)
 clear h2 hb2
 go_wp2_with fail
 replace E := Lib.hid (St.drew E.out)
 go_region_held3 (fun v => v.cell? ⟨w.heap.size, 0, none⟩ = some (.bool (ngB i)) ∧ v.cell? ⟨w.heap.size, 1, none⟩ = some (.slice A n c) ∧ v.cell? ⟨w.heap.size, 2, none⟩ = some (.int .i64 (s : Int)) ∧ v.cell? ⟨w.heap.size + 1, 0, none⟩ = some (.bool (ngB j)) ∧ v.cell? ⟨w.heap.size + 1, 1, none⟩ = some (.slice A' n' c') ∧ v.cell? ⟨w.heap.size + 1, 2, none⟩ = some (.int .i64 (t : Int))) (first | (have X0 := St.at_ (x0 := (.bool (ngB i))) (x1 := (.slice A n c)) (x2 := (.int .i64 (s : Int))) (g := w.heap.size) E (by simp); have X1 := St.at_ (x0 := (.bool (ngB j))) (x1 := (.slice A' n' c')) (x2 := (.int .i64 (t : Int))) (g := (w.heap.size + 1)) E (by simp); with_reducible exact ⟨X0.c0, X0.c1, X0.c2, X1.c0, X1.c1, X1.c2⟩) | (with_reducible exact ⟨((St.at_ (x0 := (.bool (ngB i))) (x1 := (.slice A n c)) (x2 := (.int .i64 (s : Int))) (g := w.heap.size) E (by simp)).apart (g' := (w.heap.size + 1 + 1)) _ _ _ (by omega)).c0, ((St.at_ (x0 := (.bool (ngB i))) (x1 := (.slice A n c)) (x2 := (.int .i64 (s : Int))) (g := w.heap.size) E (by simp)).apart (g' := (w.heap.size + 1 + 1)) _ _ _ (by omega)).c1, ((St.at_ (x0 := (.bool (ngB i))) (x1 := (.slice A n c)) (x2 := (.int .i64 (s : Int))) (g := w.heap.size) E (by simp)).apart (g' := (w.heap.size + 1 + 1)) _ _ _ (by omega)).c2, ((St.at_ (x0 := (.bool (ngB j))) (x1 := (.slice A' n' c')) (x2 := (.int .i64 (t : Int))) (g := (w.heap.size + 1)) E (by simp)).apart (g' := (w.heap.size + 1 + 1)) _ _ _ (by omega)).c0, ((St.at_ (x0 := (.bool (ngB j))) (x1 := (.slice A' n' c')) (x2 := (.int .i64 (t : Int))) (g := (w.heap.size + 1)) E (by simp)).apart (g' := (w.heap.size + 1 + 1)) _ _ _ (by omega)).c1, ((St.at_ (x0 := (.bool (ngB j))) (x1 := (.slice A' n' c')) (x2 := (.int .i64 (t : Int))) (g := (w.heap.size + 1)) E (by simp)).apart (g' := (w.heap.size + 1 + 1)) _ _ _ (by omega)).c2⟩) | (with_reducible exact ⟨(((St.at_ (x0 := (.bool (ngB i))) (x1 := (.slice A n c)) (x2 := (.int .i64 (s : Int))) (g := w.heap.size) E (by simp)).apart (g' := (w.heap.size + 1 + 1)) _ _ _ (by omega)).apart (g' := (w.heap.size + 1 + 1 + 1)) _ _ _ (by omega)).c0, (((St.at_ (x0 := (.bool (ngB i))) (x1 := (.slice A n c)) (x2 := (.int .i64 (s : Int))) (g := w.heap.size) E (by simp)).apart (g' := (w.heap.size + 1 + 1)) _ _ _ (by omega)).apart (g' := (w.heap.size + 1 + 1 + 1)) _ _ _ (by omega)).c1, (((St.at_ (x0 := (.bool (ngB i))) (x1 := (.slice A n c)) (x2 := (.int .i64 (s : Int))) (g := w.heap.size) E (by simp)).apart (g' := (w.heap.size + 1 + 1)) _ _ _ (by omega)).apart (g' := (w.heap.size + 1 + 1 + 1)) _ _ _ (by omega)).c2, (((St.at_ (x0 := (.bool (ngB j))) (x1 := (.slice A' n' c')) (x2 := (.int .i64 (t : Int))) (g := (w.heap.size + 1)) E (by simp)).apart (g' := (w.heap.size + 1 + 1)) _ _ _ (by omega)).apart (g' := (w.heap.size + 1 + 1 + 1)) _ _ _ (by omega)).c0, (((St.at_ (x0 := (.bool (ngB j))) (x1 := (.slice A' n' c')) (x2 := (.int .i64 (t : Int))) (g := (w.heap.size + 1)) E (by simp)).apart (g' := (w.heap.size + 1 + 1)) _ _ _ (by omega)).apart (g' := (w.heap.size + 1 + 1 + 1)) _ _ _ (by omega)).c1, (((St.at_ (x0 := (.bool (ngB j))) (x1 := (.slice A' n' c')) (x2 := (.int .i64 (t : Int))) (g := (w.heap.size + 1)) E (by simp)).apart (g' := (w.heap.size + 1 + 1)) _ _ _ (by omega)).apart (g' := (w.heap.size + 1 + 1 + 1)) _ _ _ (by omega)).c2⟩))
   (first | (go_at_call 66; first | ((with_reducible refine (refDone_is (b := ngB i) (A := A1) (n := n1) (c := c1) (s := M) (St.got E (by simp)) (by omega) (sgn_upA i s M)).mono ?_); rintro e w3 ⟨rfl, hb3⟩; replace E := Lib.hid (St.step E.out hb3); clear hb3) | ((with_reducible refine (refDone_is (b := ngB j) (A := A2) (n := n2) (c := c2) (s := M) (St.got E (by simp)) (by omega) (sgn_upA j t M)).mono ?_); rintro e w4 ⟨rfl, hb4⟩; replace E := Lib.hid (St.step E.out hb4); clear hb4; obtain ⟨r0, r1, r2, rf0, rf1, rf2, rlt⟩ := St.at_ (x0 := .bool false) (x1 := .slice none 0 0) (x2 := .int .i64 0) (g := (w.heap.size + 1 + 1)) E (by simp); obtain ⟨z0, z1, z2, zf0, zf1, zf2, zlt⟩ := St.at_ (x0 := .bool false) (x1 := .slice none 0 0) (x2 := .int .i64 0) (g := (w.heap.size + 1 + 1 + 1)) E (by simp))))
 go_wp2_with fail
 have F := Lib.hid (St.store E.out (g := (w.heap.size + 1 + 1)) (x0 := .bool false) (x1 := .slice none 0 0) (x2 := .int .i64 0) (by simp) (noLimb_bool _) (noLimb_slice _ _ _) (noLimb_int _) [((w.heap.size + 1 + 1 + 1), .bool false, .slice none 0 0, .int .i64 0)] (by simp) (.bool (ngB (up i s M))) (.slice A1 n1 c1) (.int .i64 (M : Int)))
 have G := Lib.hid (St.store F.out (g := (w.heap.size + 1 + 1 + 1)) (x0 := .bool false) (x1 := .slice none 0 0) (x2 := .int .i64 0) (by simp) (noLimb_bool _) (noLimb_slice _ _ _) (noLimb_int _) [((w.heap.size + 1 + 1), .bool (ngB (up i s M)), .slice A1 n1 c1, .int .i64 (M : Int))] (by simp) (.bool (ngB (up j t M))) (.slice A2 n2 c2) (.int .i64 (M : Int)))
 obtain ⟨u0, u1, u2, _, _, _, _⟩ := St.at_ (x0 := .bool (ngB (up i s M))) (x1 := .slice A1 n1 c1) (x2 := .int .i64 (M : Int)) (g := (w.heap.size + 1 + 1)) G (by simp)
 obtain ⟨v0, v1, v2, _, _, _, _⟩ := St.at_ (x0 := .bool (ngB (up j t M))) (x1 := .slice A2 n2 c2) (x2 := .int .i64 (M : Int)) (g := (w.heap.size + 1 + 1 + 1)) G (by simp)
 exact bodyPost_ret (v := .tuple #[.agg #[.bool (ngB (up i s M)), .slice A1 n1 c1, .int .i64 (M : Int)], .agg #[.bool (ngB (up j t M)), .slice A2 n2 c2, .int .i64 (M : Int)]]) (by simp [results, Tryz.results65, go_sem, u0, u1, u2, v0, v1, v2]) rfl ⟨A1, n1, c1, A2, n2, c2, rfl, St.got G (by simp), St.got G (by simp), G.out.bel⟩
def cmpZ (x y : Int) : Int := if x < y then -1 else if y < x then 1 else 0
theorem cmpZ_lt {x y : Int} (h : x < y) : cmpZ x y = -1 := if_pos h
theorem cmpZ_gt {x y : Int} (h : y < x) : cmpZ x y = 1 := by unfold cmpZ; rw [if_neg (by omega), if_pos h]
theorem cmpZ_eq {x y : Int} (h : x = y) : cmpZ x y = 0 := by unfold cmpZ; rw [if_neg (by omega), if_neg (by omega)]
theorem isNaN_any (x : Int) (w : World) : Calls Tryz.prog 93 #[.int .i64 x] w fun e w' => e = .returned (.bool false) ∧ w = w' := by
 go_enter Tryz.func93, Tryz.ntmps93
 go_wp2
 go_ret
 exact ⟨rfl, rfl⟩
theorem compare_any (x y : Int) (w : World) : Calls Tryz.prog 60 #[.int .i64 x, .int .i64 y] w fun e w' => e = .returned (.int .i64 (cmpZ x y)) ∧ w = w' := by
 rcases Int.lt_trichotomy x y with h | h | h
 · rw [cmpZ_lt h]
   go_enter Tryz.func60, Tryz.ntmps60
   go_wp2_with (go_at_call 93; refine (isNaN_any _ _).mono ?_; rintro e w' ⟨rfl, rfl⟩)
   all_goals first | (exfalso; omega) | (go_ret; exact ⟨rfl, rfl⟩)
 · rw [cmpZ_eq h]
   subst h
   go_enter Tryz.func60, Tryz.ntmps60
   go_wp2_with (go_at_call 93; refine (isNaN_any _ _).mono ?_; rintro e w' ⟨rfl, rfl⟩)
   all_goals first | (exfalso; omega) | (go_ret; exact ⟨rfl, rfl⟩)
 · rw [cmpZ_gt h]
   go_enter Tryz.func60, Tryz.ntmps60
   go_wp2_with (go_at_call 93; refine (isNaN_any _ _).mono ?_; rintro e w' ⟨rfl, rfl⟩)
   all_goals first | (exfalso; omega) | (go_ret; exact ⟨rfl, rfl⟩)
theorem ahead_any (A : Option Addr) (n c s : Nat) (i : Int) (w : World) (h : Num w w.heap.size A n c i.natAbs) (hn : n ≤ 1000000) (hs : s ≤ 100000) :
   Calls Tryz.prog 94 #[.agg #[.bool (ngB i), .slice A n c, .int .i64 (s : Int)]] w (RetVal w (.int .i64 ((nd i.natAbs : Int) - (s : Int)))) := by
 have H := Lib.hid h
 have hnd := nd_le_len h.len
 obtain ⟨N, hN⟩ : ∃ N, nd i.natAbs = N := ⟨_, rfl⟩
 rw [hN] at hnd
 rw [hN]
 have HN := Lib.hid hN
 clear h hN
 have hnx : N ≤ 10000000 := by omega
 clear hnd
 have hw : IntKind.i64.wrap ((N : Int) - (s : Int)) = (N : Int) - (s : Int) := IntWalk.i64_in _ ⟨by omega, by omega⟩
 have hmx := max_zero (P := Tryz.prog) (s := s)
 go_enter Tryz.func94, Tryz.ntmps94
 go_wp2_with fail
 generalize hW : World.alloc w _ = W0
 have E0 : St w W0 [(A, n, c, (i).natAbs)] [(w.heap.size, (.bool (ngB i)), (.slice A n c), (.int .i64 (s : Int)))] := by rw [← hW]; exact (start_one H.out).lay rfl
 have E := Lib.hid E0.drew
 clear hW E0
 go_region_held3 (fun v => v.cell? ⟨w.heap.size, 0, none⟩ = some (.bool (ngB i)) ∧ v.cell? ⟨w.heap.size, 1, none⟩ = some (.slice A n c) ∧ v.cell? ⟨w.heap.size, 2, none⟩ = some (.int .i64 (s : Int))) (first | (have X0 := St.at_ (x0 := (.bool (ngB i))) (x1 := (.slice A n c)) (x2 := (.int .i64 (s : Int))) (g := w.heap.size) E (by simp); with_reducible exact ⟨X0.c0, X0.c1, X0.c2⟩))
   (first | (go_at_call 116; refine (count_is (B := W0.drew.heap.size) (St.got E (by simp)) hn HN.out).mono ?_; rintro e w' ⟨rfl, rfl⟩))
 all_goals
   go_wp2_with fail
   go_ret
   exact ⟨rfl, E.out.bel⟩
end Go.Proofs.YthlhpgphmfnlgaaGreat
/-
 Contracts of layer 5, the sixth part: cmpSizes, Cmp, Same.
-/
namespace Go.Proofs.YthlhpgphmfnlgaaGreat
open Go.RowKit
theorem lt_of_nd {x y : Nat} (h : nd x < nd y) : x < y := by
 rcases Nat.lt_or_ge x y with h1 | h1
 · exact h1
 · obtain ⟨k, hk⟩ : ∃ k, nd x = k + 1 := ⟨nd x - 1, by have := nd_pos x; omega⟩
   have h2 := lt_pow_nd x
   rw [hk] at h2
   have := nd_le_of_lt k (Nat.lt_of_le_of_lt h1 h2)
   omega
theorem ahead_lt {a b s t M : Nat} (ha : 0 < a) (hb : 0 < b) (hs : s ≤ M) (ht : t ≤ M) (h : (nd a : Int) - (s : Int) < (nd b : Int) - (t : Int)) : a * 10 ^ (M - s) < b * 10 ^ (M - t) := by
 refine lt_of_nd ?_
 rw [nd_mul ha, nd_mul hb]
 omega
theorem up_pos {i : Int} (s M : Nat) (h : 0 < i) : 0 < up i s M := Int.mul_pos h (by have := ten_pos (M - s); omega)
theorem up_neg {i : Int} (s M : Nat) (h : i < 0) : up i s M < 0 := Int.mul_neg_of_neg_of_pos h (by have := ten_pos (M - s); omega)
theorem up_zero (s M : Nat) : up 0 s M = 0 := Int.zero_mul _
theorem cmpZ_pos {x y : Int} (hx : 0 ≤ x) (hy : 0 ≤ y) : cmpN x.natAbs y.natAbs = cmpZ x y := by
 unfold cmpN cmpZ
 split <;> split <;> (try split) <;> (try split) <;> omega
theorem cmpZ_neg {x y : Int} (hx : x ≤ 0) (hy : y ≤ 0) : -cmpN x.natAbs y.natAbs = cmpZ x y := by
 unfold cmpN cmpZ
 split <;> split <;> (try split) <;> (try split) <;> omega
def cmpD (i : Int) (s : Nat) (j : Int) (t : Nat) : Int := cmpZ (up i s (max s t)) (up j t (max s t))
theorem cmpD_sign {i j : Int} (s t : Nat) (h : i.sign ≠ j.sign ∨ i = 0) : cmpZ i.sign j.sign = cmpD i s j t := by
 unfold cmpD
 generalize max s t = M
 rcases Int.lt_trichotomy i 0 with hi | hi | hi <;> rcases Int.lt_trichotomy j 0 with hj | hj | hj
 · rw [Int.sign_eq_neg_one_iff_neg.2 hi, Int.sign_eq_neg_one_iff_neg.2 hj] at h; exfalso; rcases h with h | h; exact h rfl; omega
 · subst hj; rw [Int.sign_eq_neg_one_iff_neg.2 hi, up_zero, cmpZ_lt (up_neg s M hi)]; rfl
 · rw [Int.sign_eq_neg_one_iff_neg.2 hi, Int.sign_eq_one_iff_pos.2 hj, cmpZ_lt (Int.lt_trans (up_neg s M hi) (up_pos t M hj))]; rfl
 · subst hi; rw [Int.sign_eq_neg_one_iff_neg.2 hj, up_zero, cmpZ_gt (up_neg t M hj)]; rfl
 · subst hi; subst hj; rw [up_zero, up_zero]; rfl
 · subst hi; rw [Int.sign_eq_one_iff_pos.2 hj, up_zero, cmpZ_lt (up_pos t M hj)]; rfl
 · rw [Int.sign_eq_neg_one_iff_neg.2 hj, Int.sign_eq_one_iff_pos.2 hi, cmpZ_gt (Int.lt_trans (up_neg t M hj) (up_pos s M hi))]; rfl
 · subst hj; rw [Int.sign_eq_one_iff_pos.2 hi, up_zero, cmpZ_gt (up_pos s M hi)]; rfl
 · rw [Int.sign_eq_one_iff_pos.2 hi, Int.sign_eq_one_iff_pos.2 hj] at h; exfalso; rcases h with h | h; exact h rfl; omega
theorem compare_is {x y z : Int} {w : World} (h : cmpZ x y = z) : Calls Tryz.prog 60 #[.int .i64 x, .int .i64 y] w fun e w' => e = .returned (.int .i64 z) ∧ w = w' := by
 subst h; exact compare_any x y w
theorem sign_is {A : Option Addr} {n c s : Nat} {i z : Int} {w : World} (h : Num w w.heap.size A n c i.natAbs) (hz : i.sign = z) :
   Calls Tryz.prog 59 #[.agg #[.bool (ngB i), .slice A n c, .int .i64 (s : Int)]] w (RetVal w (.int .i64 z)) := by
 subst hz; exact sign_any A n c s i w h
theorem refSign_is {A : Option Addr} {n c s : Nat} {i z : Int} {w : World} (h : Num w w.heap.size A n c i.natAbs) (hz : i.sign = z) :
   Calls Tryz.prog 44 #[.agg #[.bool (ngB i), .slice A n c, .int .i64 (s : Int)]] w (RetVal w (.int .i64 z)) := by
 subst hz; exact refSign_any A n c s i w h
theorem cmpN_size (a b : Nat) : -1 ≤ cmpN a b ∧ cmpN a b ≤ 1 := by
 unfold cmpN; split
 · omega
 · split <;> omega
theorem cmpSizes_same (A A' : Option Addr) (n c n' c' s : Nat) (i j : Int) (w : World) (h : Num w w.heap.size A n c i.natAbs) (h' : Num w w.heap.size A' n' c' j.natAbs) :
   Calls Tryz.prog 61 #[.agg #[.bool (ngB i), .slice A n c, .int .i64 (s : Int)], .agg #[.bool (ngB j), .slice A' n' c', .int .i64 (s : Int)]] w (RetVal w (.int .i64 (cmpN i.natAbs j.natAbs))) := by
 have H := Lib.hid h
 have H' := Lib.hid h'
 clear h h'
 go_enter Tryz.func61, Tryz.ntmps61
 go_wp2_with fail
 generalize hW : World.alloc (World.alloc w _) _ = W0
 have E0 : St w W0 [(A, n, c, (i).natAbs), (A', n', c', (j).natAbs)] [((w.heap.size + 1), (.bool (ngB j)), (.slice A' n' c'), (.int .i64 (s : Int))), (w.heap.size, (.bool (ngB i)), (.slice A n c), (.int .i64 (s : Int)))] := by rw [← hW]; exact ((start_two H.out H'.out).lay rfl).lay (by simp)
 have E := Lib.hid E0
 clear hW E0
 obtain ⟨p0, p1, p2, pf0, pf1, pf2, plt⟩ := St.at_ (x0 := (.bool (ngB i))) (x1 := (.slice A n c)) (x2 := (.int .i64 (s : Int))) (g := w.heap.size) E (by simp)
 obtain ⟨q0, q1, q2, qf0, qf1, qf2, qlt⟩ := St.at_ (x0 := (.bool (ngB j))) (x1 := (.slice A' n' c')) (x2 := (.int .i64 (s : Int))) (g := (w.heap.size + 1)) E (by simp)
 go_wp2_with fail
 refine (cmp_any A A' n c n' c' i.natAbs j.natAbs _ (St.got E (by simp)) (St.got E (by simp))).mono ?_; rintro e w1 ⟨rfl, hb1⟩; replace E := Lib.hid (St.step E.out hb1); clear hb1
 go_wp2_with fail
 go_ret
 exact ⟨rfl, E.out.bel⟩
theorem cmpSizes_lt (A A' : Option Addr) (n c n' c' s t : Nat) (i j : Int) (w : World) (h : Num w w.heap.size A n c i.natAbs) (h' : Num w w.heap.size A' n' c' j.natAbs) (hn : n ≤ 1000000) (hn' : n' ≤ 1000000) (hs : s ≤ 100000) (ht : t ≤ 100000) (hst : s ≠ t) (hz : (nd i.natAbs : Int) - (s : Int) < (nd j.natAbs : Int) - (t : Int)) :
   Calls Tryz.prog 61 #[.agg #[.bool (ngB i), .slice A n c, .int .i64 (s : Int)], .agg #[.bool (ngB j), .slice A' n' c', .int .i64 (t : Int)]] w (RetVal w (.int .i64 (-1))) := by
 have H := Lib.hid h
 have H' := Lib.hid h'
 have HZ := Lib.hid (cmpZ_lt hz)
 have hst2 : ((s : Int) == (t : Int)) = false := by simp; omega
 clear h h' hz hst
 go_enter Tryz.func61, Tryz.ntmps61
 go_wp2_with fail
 generalize hW : World.alloc (World.alloc w _) _ = W0
 have E0 : St w W0 [(A, n, c, (i).natAbs), (A', n', c', (j).natAbs)] [((w.heap.size + 1), (.bool (ngB j)), (.slice A' n' c'), (.int .i64 (t : Int))), (w.heap.size, (.bool (ngB i)), (.slice A n c), (.int .i64 (s : Int)))] := by rw [← hW]; exact ((start_two H.out H'.out).lay rfl).lay (by simp)
 have E := Lib.hid E0
 clear hW E0
 obtain ⟨p0, p1, p2, pf0, pf1, pf2, plt⟩ := St.at_ (x0 := (.bool (ngB i))) (x1 := (.slice A n c)) (x2 := (.int .i64 (s : Int))) (g := w.heap.size) E (by simp)
 obtain ⟨q0, q1, q2, qf0, qf1, qf2, qlt⟩ := St.at_ (x0 := (.bool (ngB j))) (x1 := (.slice A' n' c')) (x2 := (.int .i64 (t : Int))) (g := (w.heap.size + 1)) E (by simp)
 go_wp2_with fail
 clear hst2
 replace E := Lib.hid (St.drew E.out)
 clear p0 p1 p2 pf0 pf1 pf2 plt q0 q1 q2 qf0 qf1 qf2 qlt
 go_region_held3 (fun v => v.cell? ⟨w.heap.size, 0, none⟩ = some (.bool (ngB i)) ∧ v.cell? ⟨w.heap.size, 1, none⟩ = some (.slice A n c) ∧ v.cell? ⟨w.heap.size, 2, none⟩ = some (.int .i64 (s : Int)) ∧ v.cell? ⟨w.heap.size + 1, 0, none⟩ = some (.bool (ngB j)) ∧ v.cell? ⟨w.heap.size + 1, 1, none⟩ = some (.slice A' n' c') ∧ v.cell? ⟨w.heap.size + 1, 2, none⟩ = some (.int .i64 (t : Int))) (first | (have X0 := St.at_ (x0 := (.bool (ngB i))) (x1 := (.slice A n c)) (x2 := (.int .i64 (s : Int))) (g := w.heap.size) E (by simp); have X1 := St.at_ (x0 := (.bool (ngB j))) (x1 := (.slice A' n' c')) (x2 := (.int .i64 (t : Int))) (g := (w.heap.size + 1)) E (by simp); with_reducible exact ⟨X0.c0, X0.c1, X0.c2, X1.c0, X1.c1, X1.c2⟩))
   (first | (go_at_call 94; first | ((with_reducible refine (ahead_any A n c s i _ (St.got E (by simp)) hn hs).mono ?_); rintro e w1 ⟨rfl, hb1⟩; replace E := Lib.hid (St.step E.out hb1); clear hb1) | ((with_reducible refine (ahead_any A' n' c' t j _ (St.got E (by simp)) hn' ht).mono ?_); rintro e w2 ⟨rfl, hb2⟩; replace E := Lib.hid (St.step E.out hb2); clear hb2)) | (go_at_call 60; refine (compare_is HZ.out).mono ?_; rintro e w3 ⟨rfl, rfl⟩))
 all_goals
   go_wp2_with fail
   go_ret
   exact ⟨rfl, E.out.bel⟩
theorem cmpSizes_gt (A A' : Option Addr) (n c n' c' s t : Nat) (i j : Int) (w : World) (h : Num w w.heap.size A n c i.natAbs) (h' : Num w w.heap.size A' n' c' j.natAbs) (hn : n ≤ 1000000) (hn' : n' ≤ 1000000) (hs : s ≤ 100000) (ht : t ≤ 100000) (hst : s ≠ t) (hz : (nd j.natAbs : Int) - (t : Int) < (nd i.natAbs : Int) - (s : Int)) :
   Calls Tryz.prog 61 #[.agg #[.bool (ngB i), .slice A n c, .int .i64 (s : Int)], .agg #[.bool (ngB j), .slice A' n' c', .int .i64 (t : Int)]] w (RetVal w (.int .i64 1)) := by
 have H := Lib.hid h
 have H' := Lib.hid h'
 have HZ := Lib.hid (cmpZ_gt hz)
 have hst2 : ((s : Int) == (t : Int)) = false := by simp; omega
 clear h h' hz hst
 go_enter Tryz.func61, Tryz.ntmps61
 go_wp2_with fail
 generalize hW : World.alloc (World.alloc w _) _ = W0
 have E0 : St w W0 [(A, n, c, (i).natAbs), (A', n', c', (j).natAbs)] [((w.heap.size + 1), (.bool (ngB j)), (.slice A' n' c'), (.int .i64 (t : Int))), (w.heap.size, (.bool (ngB i)), (.slice A n c), (.int .i64 (s : Int)))] := by rw [← hW]; exact ((start_two H.out H'.out).lay rfl).lay (by simp)
 have E := Lib.hid E0
 clear hW E0
 obtain ⟨p0, p1, p2, pf0, pf1, pf2, plt⟩ := St.at_ (x0 := (.bool (ngB i))) (x1 := (.slice A n c)) (x2 := (.int .i64 (s : Int))) (g := w.heap.size) E (by simp)
 obtain ⟨q0, q1, q2, qf0, qf1, qf2, qlt⟩ := St.at_ (x0 := (.bool (ngB j))) (x1 := (.slice A' n' c')) (x2 := (.int .i64 (t : Int))) (g := (w.heap.size + 1)) E (by simp)
 go_wp2_with fail
 clear hst2
 replace E := Lib.hid (St.drew E.out)
 clear p0 p1 p2 pf0 pf1 pf2 plt q0 q1 q2 qf0 qf1 qf2 qlt
 go_region_held3 (fun v => v.cell? ⟨w.heap.size, 0, none⟩ = some (.bool (ngB i)) ∧ v.cell? ⟨w.heap.size, 1, none⟩ = some (.slice A n c) ∧ v.cell? ⟨w.heap.size, 2, none⟩ = some (.int .i64 (s : Int)) ∧ v.cell? ⟨w.heap.size + 1, 0, none⟩ = some (.bool (ngB j)) ∧ v.cell? ⟨w.heap.size + 1, 1, none⟩ = some (.slice A' n' c') ∧ v.cell? ⟨w.heap.size + 1, 2, none⟩ = some (.int .i64 (t : Int))) (first | (have X0 := St.at_ (x0 := (.bool (ngB i))) (x1 := (.slice A n c)) (x2 := (.int .i64 (s : Int))) (g := w.heap.size) E (by simp); have X1 := St.at_ (x0 := (.bool (ngB j))) (x1 := (.slice A' n' c')) (x2 := (.int .i64 (t : Int))) (g := (w.heap.size + 1)) E (by simp); with_reducible exact ⟨X0.c0, X0.c1, X0.c2, X1.c0, X1.c1, X1.c2⟩))
   (first | (go_at_call 94; first | ((with_reducible refine (ahead_any A n c s i _ (St.got E (by simp)) hn hs).mono ?_); rintro e w1 ⟨rfl, hb1⟩; replace E := Lib.hid (St.step E.out hb1); clear hb1) | ((with_reducible refine (ahead_any A' n' c' t j _ (St.got E (by simp)) hn' ht).mono ?_); rintro e w2 ⟨rfl, hb2⟩; replace E := Lib.hid (St.step E.out hb2); clear hb2)) | (go_at_call 60; refine (compare_is HZ.out).mono ?_; rintro e w3 ⟨rfl, rfl⟩))
 all_goals
   go_wp2_with fail
   go_ret
   exact ⟨rfl, E.out.bel⟩
theorem cmpSizes_eq (A A' : Option Addr) (n c n' c' s t : Nat) (i j : Int) (w : World) (h : Num w w.heap.size A n c i.natAbs) (h' : Num w w.heap.size A' n' c' j.natAbs) (hn : n ≤ 1000000) (hn' : n' ≤ 1000000) (hs : s ≤ 100000) (ht : t ≤ 100000) (hst : s ≠ t) (hz : (nd i.natAbs : Int) - (s : Int) = (nd j.natAbs : Int) - (t : Int)) :
   Calls Tryz.prog 61 #[.agg #[.bool (ngB i), .slice A n c, .int .i64 (s : Int)], .agg #[.bool (ngB j), .slice A' n' c', .int .i64 (t : Int)]] w (RetVal w (.int .i64 (cmpN (up i s (max s t)).natAbs (up j t (max s t)).natAbs))) := by
 have H := Lib.hid h
 have H' := Lib.hid h'
 have HZ := Lib.hid (cmpZ_eq hz)
 have hst2 : ((s : Int) == (t : Int)) = false := by simp; omega
 clear h h' hz hst
 obtain ⟨M, hm⟩ : ∃ M, max s t = M := ⟨_, rfl⟩
 have HA := Lib.hid (fun (A A' : Option Addr) (n c n' c' : Nat) (w : World) h h' hn hn' => align_any A A' n c n' c' s t i j w h h' hn hn' hs ht)
 rw [hm] at HA
 rw [hm]
 clear hm
 go_enter Tryz.func61, Tryz.ntmps61
 go_wp2_with fail
 generalize hW : World.alloc (World.alloc w _) _ = W0
 have E0 : St w W0 [(A, n, c, (i).natAbs), (A', n', c', (j).natAbs)] [((w.heap.size + 1), (.bool (ngB j)), (.slice A' n' c'), (.int .i64 (t : Int))), (w.heap.size, (.bool (ngB i)), (.slice A n c), (.int .i64 (s : Int)))] := by rw [← hW]; exact ((start_two H.out H'.out).lay rfl).lay (by simp)
 have E := Lib.hid E0
 clear hW E0
 obtain ⟨p0, p1, p2, pf0, pf1, pf2, plt⟩ := St.at_ (x0 := (.bool (ngB i))) (x1 := (.slice A n c)) (x2 := (.int .i64 (s : Int))) (g := w.heap.size) E (by simp)
 obtain ⟨q0, q1, q2, qf0, qf1, qf2, qlt⟩ := St.at_ (x0 := (.bool (ngB j))) (x1 := (.slice A' n' c')) (x2 := (.int .i64 (t : Int))) (g := (w.heap.size + 1)) E (by simp)
 go_wp2_with fail
 clear hst2
 replace E := Lib.hid (St.drew E.out)
 clear p0 p1 p2 pf0 pf1 pf2 plt q0 q1 q2 qf0 qf1 qf2 qlt
 go_region_held3 (fun v => v.cell? ⟨w.heap.size, 0, none⟩ = some (.bool (ngB i)) ∧ v.cell? ⟨w.heap.size, 1, none⟩ = some (.slice A n c) ∧ v.cell? ⟨w.heap.size, 2, none⟩ = some (.int .i64 (s : Int)) ∧ v.cell? ⟨w.heap.size + 1, 0, none⟩ = some (.bool (ngB j)) ∧ v.cell? ⟨w.heap.size + 1, 1, none⟩ = some (.slice A' n' c') ∧ v.cell? ⟨w.heap.size + 1, 2, none⟩ = some (.int .i64 (t : Int))) (first | (have X0 := St.at_ (x0 := (.bool (ngB i))) (x1 := (.slice A n c)) (x2 := (.int .i64 (s : Int))) (g := w.heap.size) E (by simp); have X1 := St.at_ (x0 := (.bool (ngB j))) (x1 := (.slice A' n' c')) (x2 := (.int .i64 (t : Int))) (g := (w.heap.size + 1)) E (by simp); with_reducible exact ⟨X0.c0, X0.c1, X0.c2, X1.c0, X1.c1, X1.c2⟩))
   (first | (go_at_call 94; first | ((with_reducible refine (ahead_any A n c s i _ (St.got E (by simp)) hn hs).mono ?_); rintro e w1 ⟨rfl, hb1⟩; replace E := Lib.hid (St.step E.out hb1); clear hb1) | ((with_reducible refine (ahead_any A' n' c' t j _ (St.got E (by simp)) hn' ht).mono ?_); rintro e w2 ⟨rfl, hb2⟩; replace E := Lib.hid (St.step E.out hb2); clear hb2)) | (go_at_call 60; refine (compare_is HZ.out).mono ?_; rintro e w3 ⟨rfl, rfl⟩))
 all_goals
   obtain ⟨p0, p1, p2, pf0, pf1, pf2, plt⟩ := St.at_ (x0 := (.bool (ngB i))) (x1 := (.slice A n c)) (x2 := (.int .i64 (s : Int))) (g := w.heap.size) E (by simp)
   obtain ⟨q0, q1, q2, qf0, qf1, qf2, qlt⟩ := St.at_ (x0 := (.bool (ngB j))) (x1 := (.slice A' n' c')) (x2 := (.int .i64 (t : Int))) (g := (w.heap.size + 1)) E (by simp)
   go_wp2_with fail
   refine (HA.out A A' n c n' c' _ (St.got E (by simp)) (St.got E (by simp)) hn hn').mono ?_
   rintro e w4 ⟨A1, n1, c1, A2, n2, c2, rfl, h1, h2, hb4⟩
   replace E : Hid (St w w4 [(A1, n1, c1, (up i s M).natAbs), (A2, n2, c2, (up j t M).natAbs)] [((w.heap.size + 1), (.bool (ngB j)), (.slice A' n' c'), (.int .i64 (t : Int))), (w.heap.size, (.bool (ngB i)), (.slice A n c), (.int .i64 (s : Int)))]) := ⟨(E.out.step hb4).bel, (St.start w4 (l := [(A1, n1, c1, (up i s M).natAbs), (A2, n2, c2, (up j t M).natAbs)]) (by simp; exact ⟨h1, h2⟩)).num, (E.out.step hb4).box⟩
   clear h1 h2 hb4 p0 p1 p2 pf0 pf1 pf2 plt q0 q1 q2 qf0 qf1 qf2 qlt
   obtain ⟨p0, p1, p2, pf0, pf1, pf2, plt⟩ := St.at_ (x0 := (.bool (ngB i))) (x1 := (.slice A n c)) (x2 := (.int .i64 (s : Int))) (g := w.heap.size) E (by simp)
   obtain ⟨q0, q1, q2, qf0, qf1, qf2, qlt⟩ := St.at_ (x0 := (.bool (ngB j))) (x1 := (.slice A' n' c')) (x2 := (.int .i64 (t : Int))) (g := (w.heap.size + 1)) E (by simp)
   go_wp2_with fail
   have E1 := Lib.hid (St.store E.out (g := w.heap.size) (x0 := (.bool (ngB i))) (x1 := (.slice A n c)) (x2 := (.int .i64 (s : Int))) (by simp) (noLimb_bool _) (noLimb_slice _ _ _) (noLimb_int _) [((w.heap.size + 1), (.bool (ngB j)), (.slice A' n' c'), (.int .i64 (t : Int)))] (by simp <;> omega) (.bool (ngB (up i s M))) (.slice A1 n1 c1) (.int .i64 (M : Int)))
   have E2 := Lib.hid (St.store E1.out (g := (w.heap.size + 1)) (x0 := (.bool (ngB j))) (x1 := (.slice A' n' c')) (x2 := (.int .i64 (t : Int))) (by simp) (noLimb_bool _) (noLimb_slice _ _ _) (noLimb_int _) [(w.heap.size, .bool (ngB (up i s M)), .slice A1 n1 c1, .int .i64 (M : Int))] (by simp <;> omega) (.bool (ngB (up j t M))) (.slice A2 n2 c2) (.int .i64 (M : Int)))
   clear p0 p1 p2 pf0 pf1 pf2 plt q0 q1 q2 qf0 qf1 qf2 qlt
   refine (cmp_any A1 A2 n1 c1 n2 c2 (up i s M).natAbs (up j t M).natAbs _ (St.got E2 (by simp)) (St.got E2 (by simp))).mono ?_; rintro e w5 ⟨rfl, hb5⟩; have E3 := Lib.hid (St.step E2.out hb5); clear hb5
   go_wp2_with fail
   go_ret
   exact ⟨rfl, E3.out.bel⟩
theorem cmpSizes_any (A A' : Option Addr) (n c n' c' s t : Nat) (i j : Int) (w : World) (h : Num w w.heap.size A n c i.natAbs) (h' : Num w w.heap.size A' n' c' j.natAbs) (hn : n ≤ 1000000) (hn' : n' ≤ 1000000) (hs : s ≤ 100000) (ht : t ≤ 100000) (hi : i ≠ 0) (hj : j ≠ 0) :
   Calls Tryz.prog 61 #[.agg #[.bool (ngB i), .slice A n c, .int .i64 (s : Int)], .agg #[.bool (ngB j), .slice A' n' c', .int .i64 (t : Int)]] w (RetVal w (.int .i64 (cmpN (up i s (max s t)).natAbs (up j t (max s t)).natAbs))) := by
 have a1 : 0 < i.natAbs := by omega
 have a2 : 0 < j.natAbs := by omega
 by_cases hst : s = t
 · subst hst
   have := cmpSizes_same A A' n c n' c' s i j w h h'
   rwa [Nat.max_self, up_same, up_same]
 · rcases Int.lt_trichotomy ((nd i.natAbs : Int) - (s : Int)) ((nd j.natAbs : Int) - (t : Int)) with hz | hz | hz
   · rw [abs_up, abs_up, cmpN_lt (ahead_lt a1 a2 (by omega) (by omega) hz)]
     exact cmpSizes_lt A A' n c n' c' s t i j w h h' hn hn' hs ht hst hz
   · exact cmpSizes_eq A A' n c n' c' s t i j w h h' hn hn' hs ht hst hz
   · rw [abs_up, abs_up, cmpN_gt (ahead_lt a2 a1 (by omega) (by omega) hz)]
     exact cmpSizes_gt A A' n c n' c' s t i j w h h' hn hn' hs ht hst hz
end Go.Proofs.YthlhpgphmfnlgaaGreat
/-
 Contracts of layer 5, the seventh part: Cmp, Same, Alike, and the document's; Right and the document's; Long.
-/
namespace Go.Proofs.YthlhpgphmfnlgaaGreat
open Go.RowKit
theorem ret_i64 {a b : Int} (h : a = b) : Ending.returned (.int .i64 a) = .returned (.int .i64 b) := by rw [h]
theorem cmp_zn (A A' : Option Addr) (n c n' c' s t : Nat) (i j : Int) (w : World) (h : Num w w.heap.size A n c i.natAbs) (h' : Num w w.heap.size A' n' c' j.natAbs) (hn : n ≤ 1000000) (hn' : n' ≤ 1000000) (hs : s ≤ 100000) (ht : t ≤ 100000) (hsi : i.sign = 0) (hsj : j.sign = -1) :
   Calls Tryz.prog 28 #[.agg #[.bool (ngB i), .slice A n c, .int .i64 (s : Int)], .agg #[.bool (ngB j), .slice A' n' c', .int .i64 (t : Int)]] w (RetVal w (.int .i64 (cmpD i s j t))) := by
 have H := Lib.hid h
 have H' := Lib.hid h'
 clear h h'
 have HSI := Lib.hid hsi
 have HSJ := Lib.hid hsj
 have HE : Hid (cmpZ (0) (-1) = cmpD i s j t) := by
   have := cmpD_sign (i := i) (j := j) s t (by first | (left; rw [hsi, hsj]; decide) | (right; exact Int.sign_eq_zero_iff_zero.1 hsi))
   rwa [hsi, hsj] at this
 clear hsi hsj
 go_enter Tryz.func28, Tryz.ntmps28
 go_wp2_with fail
 generalize hW : World.alloc (World.alloc w _) _ = W0
 have E0 : St w W0 [(A, n, c, (i).natAbs), (A', n', c', (j).natAbs)] [((w.heap.size + 1), (.bool (ngB j)), (.slice A' n' c'), (.int .i64 (t : Int))), (w.heap.size, (.bool (ngB i)), (.slice A n c), (.int .i64 (s : Int)))] := by rw [← hW]; exact ((start_two H.out H'.out).lay rfl).lay (by simp)
 have E := Lib.hid E0
 clear hW E0
 obtain ⟨p0, p1, p2, pf0, pf1, pf2, plt⟩ := St.at_ (x0 := (.bool (ngB i))) (x1 := (.slice A n c)) (x2 := (.int .i64 (s : Int))) (g := w.heap.size) E (by simp)
 obtain ⟨q0, q1, q2, qf0, qf1, qf2, qlt⟩ := St.at_ (x0 := (.bool (ngB j))) (x1 := (.slice A' n' c')) (x2 := (.int .i64 (t : Int))) (g := (w.heap.size + 1)) E (by simp)
 
 go_wp2_with fail
 refine (sign_is (St.got E (by simp)) HSI.out).mono ?_; rintro e w1 ⟨rfl, hb1⟩; replace E := Lib.hid (St.step E.out hb1); clear hb1
 clear p0 p1 p2 pf0 pf1 pf2 plt q0 q1 q2 qf0 qf1 qf2 qlt
 obtain ⟨p0, p1, p2, pf0, pf1, pf2, plt⟩ := St.at_ (x0 := (.bool (ngB i))) (x1 := (.slice A n c)) (x2 := (.int .i64 (s : Int))) (g := w.heap.size) E (by simp)
 obtain ⟨q0, q1, q2, qf0, qf1, qf2, qlt⟩ := St.at_ (x0 := (.bool (ngB j))) (x1 := (.slice A' n' c')) (x2 := (.int .i64 (t : Int))) (g := (w.heap.size + 1)) E (by simp)
 go_wp2_with fail
 refine (sign_is (St.got E (by simp)) HSJ.out).mono ?_; rintro e w3 ⟨rfl, hb1⟩; replace E := Lib.hid (St.step E.out hb1); clear hb1
 go_wp2_with fail
 refine (compare_is HE.out).mono ?_; rintro e w4 ⟨rfl, rfl⟩
 clear p0 p1 p2 pf0 pf1 pf2 plt q0 q1 q2 qf0 qf1 qf2 qlt
 go_wp2_with fail
 go_ret
 exact ⟨rfl, E.out.bel⟩
theorem cmp_zz (A A' : Option Addr) (n c n' c' s t : Nat) (i j : Int) (w : World) (h : Num w w.heap.size A n c i.natAbs) (h' : Num w w.heap.size A' n' c' j.natAbs) (hn : n ≤ 1000000) (hn' : n' ≤ 1000000) (hs : s ≤ 100000) (ht : t ≤ 100000) (hsi : i.sign = 0) (hsj : j.sign = 0) :
   Calls Tryz.prog 28 #[.agg #[.bool (ngB i), .slice A n c, .int .i64 (s : Int)], .agg #[.bool (ngB j), .slice A' n' c', .int .i64 (t : Int)]] w (RetVal w (.int .i64 (cmpD i s j t))) := by
 have H := Lib.hid h
 have H' := Lib.hid h'
 clear h h'
 have HSI := Lib.hid hsi
 have HSJ := Lib.hid hsj
 have HE : Hid (cmpZ (0) (0) = cmpD i s j t) := by
   have := cmpD_sign (i := i) (j := j) s t (by first | (left; rw [hsi, hsj]; decide) | (right; exact Int.sign_eq_zero_iff_zero.1 hsi))
   rwa [hsi, hsj] at this
 clear hsi hsj
 go_enter Tryz.func28, Tryz.ntmps28
 go_wp2_with fail
 generalize hW : World.alloc (World.alloc w _) _ = W0
 have E0 : St w W0 [(A, n, c, (i).natAbs), (A', n', c', (j).natAbs)] [((w.heap.size + 1), (.bool (ngB j)), (.slice A' n' c'), (.int .i64 (t : Int))), (w.heap.size, (.bool (ngB i)), (.slice A n c), (.int .i64 (s : Int)))] := by rw [← hW]; exact ((start_two H.out H'.out).lay rfl).lay (by simp)
 have E := Lib.hid E0
 clear hW E0
 obtain ⟨p0, p1, p2, pf0, pf1, pf2, plt⟩ := St.at_ (x0 := (.bool (ngB i))) (x1 := (.slice A n c)) (x2 := (.int .i64 (s : Int))) (g := w.heap.size) E (by simp)
 obtain ⟨q0, q1, q2, qf0, qf1, qf2, qlt⟩ := St.at_ (x0 := (.bool (ngB j))) (x1 := (.slice A' n' c')) (x2 := (.int .i64 (t : Int))) (g := (w.heap.size + 1)) E (by simp)
 
 go_wp2_with fail
 refine (sign_is (St.got E (by simp)) HSI.out).mono ?_; rintro e w1 ⟨rfl, hb1⟩; replace E := Lib.hid (St.step E.out hb1); clear hb1
 clear p0 p1 p2 pf0 pf1 pf2 plt q0 q1 q2 qf0 qf1 qf2 qlt
 obtain ⟨p0, p1, p2, pf0, pf1, pf2, plt⟩ := St.at_ (x0 := (.bool (ngB i))) (x1 := (.slice A n c)) (x2 := (.int .i64 (s : Int))) (g := w.heap.size) E (by simp)
 obtain ⟨q0, q1, q2, qf0, qf1, qf2, qlt⟩ := St.at_ (x0 := (.bool (ngB j))) (x1 := (.slice A' n' c')) (x2 := (.int .i64 (t : Int))) (g := (w.heap.size + 1)) E (by simp)
 go_wp2_with fail
 refine (sign_is (St.got E (by simp)) HSJ.out).mono ?_; rintro e w3 ⟨rfl, hb1⟩; replace E := Lib.hid (St.step E.out hb1); clear hb1
 go_wp2_with fail
 refine (compare_is HE.out).mono ?_; rintro e w4 ⟨rfl, rfl⟩
 clear p0 p1 p2 pf0 pf1 pf2 plt q0 q1 q2 qf0 qf1 qf2 qlt
 go_wp2_with fail
 go_ret
 exact ⟨rfl, E.out.bel⟩
theorem cmp_zp (A A' : Option Addr) (n c n' c' s t : Nat) (i j : Int) (w : World) (h : Num w w.heap.size A n c i.natAbs) (h' : Num w w.heap.size A' n' c' j.natAbs) (hn : n ≤ 1000000) (hn' : n' ≤ 1000000) (hs : s ≤ 100000) (ht : t ≤ 100000) (hsi : i.sign = 0) (hsj : j.sign = 1) :
   Calls Tryz.prog 28 #[.agg #[.bool (ngB i), .slice A n c, .int .i64 (s : Int)], .agg #[.bool (ngB j), .slice A' n' c', .int .i64 (t : Int)]] w (RetVal w (.int .i64 (cmpD i s j t))) := by
 have H := Lib.hid h
 have H' := Lib.hid h'
 clear h h'
 have HSI := Lib.hid hsi
 have HSJ := Lib.hid hsj
 have HE : Hid (cmpZ (0) (1) = cmpD i s j t) := by
   have := cmpD_sign (i := i) (j := j) s t (by first | (left; rw [hsi, hsj]; decide) | (right; exact Int.sign_eq_zero_iff_zero.1 hsi))
   rwa [hsi, hsj] at this
 clear hsi hsj
 go_enter Tryz.func28, Tryz.ntmps28
 go_wp2_with fail
 generalize hW : World.alloc (World.alloc w _) _ = W0
 have E0 : St w W0 [(A, n, c, (i).natAbs), (A', n', c', (j).natAbs)] [((w.heap.size + 1), (.bool (ngB j)), (.slice A' n' c'), (.int .i64 (t : Int))), (w.heap.size, (.bool (ngB i)), (.slice A n c), (.int .i64 (s : Int)))] := by rw [← hW]; exact ((start_two H.out H'.out).lay rfl).lay (by simp)
 have E := Lib.hid E0
 clear hW E0
 obtain ⟨p0, p1, p2, pf0, pf1, pf2, plt⟩ := St.at_ (x0 := (.bool (ngB i))) (x1 := (.slice A n c)) (x2 := (.int .i64 (s : Int))) (g := w.heap.size) E (by simp)
 obtain ⟨q0, q1, q2, qf0, qf1, qf2, qlt⟩ := St.at_ (x0 := (.bool (ngB j))) (x1 := (.slice A' n' c')) (x2 := (.int .i64 (t : Int))) (g := (w.heap.size + 1)) E (by simp)
 
 go_wp2_with fail
 refine (sign_is (St.got E (by simp)) HSI.out).mono ?_; rintro e w1 ⟨rfl, hb1⟩; replace E := Lib.hid (St.step E.out hb1); clear hb1
 clear p0 p1 p2 pf0 pf1 pf2 plt q0 q1 q2 qf0 qf1 qf2 qlt
 obtain ⟨p0, p1, p2, pf0, pf1, pf2, plt⟩ := St.at_ (x0 := (.bool (ngB i))) (x1 := (.slice A n c)) (x2 := (.int .i64 (s : Int))) (g := w.heap.size) E (by simp)
 obtain ⟨q0, q1, q2, qf0, qf1, qf2, qlt⟩ := St.at_ (x0 := (.bool (ngB j))) (x1 := (.slice A' n' c')) (x2 := (.int .i64 (t : Int))) (g := (w.heap.size + 1)) E (by simp)
 go_wp2_with fail
 refine (sign_is (St.got E (by simp)) HSJ.out).mono ?_; rintro e w3 ⟨rfl, hb1⟩; replace E := Lib.hid (St.step E.out hb1); clear hb1
 go_wp2_with fail
 refine (compare_is HE.out).mono ?_; rintro e w4 ⟨rfl, rfl⟩
 clear p0 p1 p2 pf0 pf1 pf2 plt q0 q1 q2 qf0 qf1 qf2 qlt
 go_wp2_with fail
 go_ret
 exact ⟨rfl, E.out.bel⟩
theorem cmp_nz (A A' : Option Addr) (n c n' c' s t : Nat) (i j : Int) (w : World) (h : Num w w.heap.size A n c i.natAbs) (h' : Num w w.heap.size A' n' c' j.natAbs) (hn : n ≤ 1000000) (hn' : n' ≤ 1000000) (hs : s ≤ 100000) (ht : t ≤ 100000) (hsi : i.sign = -1) (hsj : j.sign = 0) :
   Calls Tryz.prog 28 #[.agg #[.bool (ngB i), .slice A n c, .int .i64 (s : Int)], .agg #[.bool (ngB j), .slice A' n' c', .int .i64 (t : Int)]] w (RetVal w (.int .i64 (cmpD i s j t))) := by
 have H := Lib.hid h
 have H' := Lib.hid h'
 clear h h'
 have HSI := Lib.hid hsi
 have HSJ := Lib.hid hsj
 have HE : Hid (cmpZ (-1) (0) = cmpD i s j t) := by
   have := cmpD_sign (i := i) (j := j) s t (by first | (left; rw [hsi, hsj]; decide) | (right; exact Int.sign_eq_zero_iff_zero.1 hsi))
   rwa [hsi, hsj] at this
 clear hsi hsj
 go_enter Tryz.func28, Tryz.ntmps28
 go_wp2_with fail
 generalize hW : World.alloc (World.alloc w _) _ = W0
 have E0 : St w W0 [(A, n, c, (i).natAbs), (A', n', c', (j).natAbs)] [((w.heap.size + 1), (.bool (ngB j)), (.slice A' n' c'), (.int .i64 (t : Int))), (w.heap.size, (.bool (ngB i)), (.slice A n c), (.int .i64 (s : Int)))] := by rw [← hW]; exact ((start_two H.out H'.out).lay rfl).lay (by simp)
 have E := Lib.hid E0
 clear hW E0
 obtain ⟨p0, p1, p2, pf0, pf1, pf2, plt⟩ := St.at_ (x0 := (.bool (ngB i))) (x1 := (.slice A n c)) (x2 := (.int .i64 (s : Int))) (g := w.heap.size) E (by simp)
 obtain ⟨q0, q1, q2, qf0, qf1, qf2, qlt⟩ := St.at_ (x0 := (.bool (ngB j))) (x1 := (.slice A' n' c')) (x2 := (.int .i64 (t : Int))) (g := (w.heap.size + 1)) E (by simp)
 
 go_wp2_with fail
 refine (sign_is (St.got E (by simp)) HSI.out).mono ?_; rintro e w1 ⟨rfl, hb1⟩; replace E := Lib.hid (St.step E.out hb1); clear hb1
 clear p0 p1 p2 pf0 pf1 pf2 plt q0 q1 q2 qf0 qf1 qf2 qlt
 obtain ⟨p0, p1, p2, pf0, pf1, pf2, plt⟩ := St.at_ (x0 := (.bool (ngB i))) (x1 := (.slice A n c)) (x2 := (.int .i64 (s : Int))) (g := w.heap.size) E (by simp)
 obtain ⟨q0, q1, q2, qf0, qf1, qf2, qlt⟩ := St.at_ (x0 := (.bool (ngB j))) (x1 := (.slice A' n' c')) (x2 := (.int .i64 (t : Int))) (g := (w.heap.size + 1)) E (by simp)
 go_wp2_with fail
 refine (sign_is (St.got E (by simp)) HSJ.out).mono ?_; rintro e w2 ⟨rfl, hb1⟩; replace E := Lib.hid (St.step E.out hb1); clear hb1
 clear p0 p1 p2 pf0 pf1 pf2 plt q0 q1 q2 qf0 qf1 qf2 qlt
 obtain ⟨p0, p1, p2, pf0, pf1, pf2, plt⟩ := St.at_ (x0 := (.bool (ngB i))) (x1 := (.slice A n c)) (x2 := (.int .i64 (s : Int))) (g := w.heap.size) E (by simp)
 obtain ⟨q0, q1, q2, qf0, qf1, qf2, qlt⟩ := St.at_ (x0 := (.bool (ngB j))) (x1 := (.slice A' n' c')) (x2 := (.int .i64 (t : Int))) (g := (w.heap.size + 1)) E (by simp)
 go_wp2_with fail
 refine (sign_is (St.got E (by simp)) HSJ.out).mono ?_; rintro e w3 ⟨rfl, hb1⟩; replace E := Lib.hid (St.step E.out hb1); clear hb1
 go_wp2_with fail
 refine (compare_is HE.out).mono ?_; rintro e w4 ⟨rfl, rfl⟩
 clear p0 p1 p2 pf0 pf1 pf2 plt q0 q1 q2 qf0 qf1 qf2 qlt
 go_wp2_with fail
 go_ret
 exact ⟨rfl, E.out.bel⟩
theorem cmp_np (A A' : Option Addr) (n c n' c' s t : Nat) (i j : Int) (w : World) (h : Num w w.heap.size A n c i.natAbs) (h' : Num w w.heap.size A' n' c' j.natAbs) (hn : n ≤ 1000000) (hn' : n' ≤ 1000000) (hs : s ≤ 100000) (ht : t ≤ 100000) (hsi : i.sign = -1) (hsj : j.sign = 1) :
   Calls Tryz.prog 28 #[.agg #[.bool (ngB i), .slice A n c, .int .i64 (s : Int)], .agg #[.bool (ngB j), .slice A' n' c', .int .i64 (t : Int)]] w (RetVal w (.int .i64 (cmpD i s j t))) := by
 have H := Lib.hid h
 have H' := Lib.hid h'
 clear h h'
 have HSI := Lib.hid hsi
 have HSJ := Lib.hid hsj
 have HE : Hid (cmpZ (-1) (1) = cmpD i s j t) := by
   have := cmpD_sign (i := i) (j := j) s t (by first | (left; rw [hsi, hsj]; decide) | (right; exact Int.sign_eq_zero_iff_zero.1 hsi))
   rwa [hsi, hsj] at this
 clear hsi hsj
 go_enter Tryz.func28, Tryz.ntmps28
 go_wp2_with fail
 generalize hW : World.alloc (World.alloc w _) _ = W0
 have E0 : St w W0 [(A, n, c, (i).natAbs), (A', n', c', (j).natAbs)] [((w.heap.size + 1), (.bool (ngB j)), (.slice A' n' c'), (.int .i64 (t : Int))), (w.heap.size, (.bool (ngB i)), (.slice A n c), (.int .i64 (s : Int)))] := by rw [← hW]; exact ((start_two H.out H'.out).lay rfl).lay (by simp)
 have E := Lib.hid E0
 clear hW E0
 obtain ⟨p0, p1, p2, pf0, pf1, pf2, plt⟩ := St.at_ (x0 := (.bool (ngB i))) (x1 := (.slice A n c)) (x2 := (.int .i64 (s : Int))) (g := w.heap.size) E (by simp)
 obtain ⟨q0, q1, q2, qf0, qf1, qf2, qlt⟩ := St.at_ (x0 := (.bool (ngB j))) (x1 := (.slice A' n' c')) (x2 := (.int .i64 (t : Int))) (g := (w.heap.size + 1)) E (by simp)
 
 go_wp2_with fail
 refine (sign_is (St.got E (by simp)) HSI.out).mono ?_; rintro e w1 ⟨rfl, hb1⟩; replace E := Lib.hid (St.step E.out hb1); clear hb1
 clear p0 p1 p2 pf0 pf1 pf2 plt q0 q1 q2 qf0 qf1 qf2 qlt
 obtain ⟨p0, p1, p2, pf0, pf1, pf2, plt⟩ := St.at_ (x0 := (.bool (ngB i))) (x1 := (.slice A n c)) (x2 := (.int .i64 (s : Int))) (g := w.heap.size) E (by simp)
 obtain ⟨q0, q1, q2, qf0, qf1, qf2, qlt⟩ := St.at_ (x0 := (.bool (ngB j))) (x1 := (.slice A' n' c')) (x2 := (.int .i64 (t : Int))) (g := (w.heap.size + 1)) E (by simp)
 go_wp2_with fail
 refine (sign_is (St.got E (by simp)) HSJ.out).mono ?_; rintro e w2 ⟨rfl, hb1⟩; replace E := Lib.hid (St.step E.out hb1); clear hb1
 clear p0 p1 p2 pf0 pf1 pf2 plt q0 q1 q2 qf0 qf1 qf2 qlt
 obtain ⟨p0, p1, p2, pf0, pf1, pf2, plt⟩ := St.at_ (x0 := (.bool (ngB i))) (x1 := (.slice A n c)) (x2 := (.int .i64 (s : Int))) (g := w.heap.size) E (by simp)
 obtain ⟨q0, q1, q2, qf0, qf1, qf2, qlt⟩ := St.at_ (x0 := (.bool (ngB j))) (x1 := (.slice A' n' c')) (x2 := (.int .i64 (t : Int))) (g := (w.heap.size + 1)) E (by simp)
 go_wp2_with fail
 refine (sign_is (St.got E (by simp)) HSJ.out).mono ?_; rintro e w3 ⟨rfl, hb1⟩; replace E := Lib.hid (St.step E.out hb1); clear hb1
 go_wp2_with fail
 refine (compare_is HE.out).mono ?_; rintro e w4 ⟨rfl, rfl⟩
 clear p0 p1 p2 pf0 pf1 pf2 plt q0 q1 q2 qf0 qf1 qf2 qlt
 go_wp2_with fail
 go_ret
 exact ⟨rfl, E.out.bel⟩
theorem cmp_pz (A A' : Option Addr) (n c n' c' s t : Nat) (i j : Int) (w : World) (h : Num w w.heap.size A n c i.natAbs) (h' : Num w w.heap.size A' n' c' j.natAbs) (hn : n ≤ 1000000) (hn' : n' ≤ 1000000) (hs : s ≤ 100000) (ht : t ≤ 100000) (hsi : i.sign = 1) (hsj : j.sign = 0) :
   Calls Tryz.prog 28 #[.agg #[.bool (ngB i), .slice A n c, .int .i64 (s : Int)], .agg #[.bool (ngB j), .slice A' n' c', .int .i64 (t : Int)]] w (RetVal w (.int .i64 (cmpD i s j t))) := by
 have H := Lib.hid h
 have H' := Lib.hid h'
 clear h h'
 have HSI := Lib.hid hsi
 have HSJ := Lib.hid hsj
 have HE : Hid (cmpZ (1) (0) = cmpD i s j t) := by
   have := cmpD_sign (i := i) (j := j) s t (by first | (left; rw [hsi, hsj]; decide) | (right; exact Int.sign_eq_zero_iff_zero.1 hsi))
   rwa [hsi, hsj] at this
 clear hsi hsj
 go_enter Tryz.func28, Tryz.ntmps28
 go_wp2_with fail
 generalize hW : World.alloc (World.alloc w _) _ = W0
 have E0 : St w W0 [(A, n, c, (i).natAbs), (A', n', c', (j).natAbs)] [((w.heap.size + 1), (.bool (ngB j)), (.slice A' n' c'), (.int .i64 (t : Int))), (w.heap.size, (.bool (ngB i)), (.slice A n c), (.int .i64 (s : Int)))] := by rw [← hW]; exact ((start_two H.out H'.out).lay rfl).lay (by simp)
 have E := Lib.hid E0
 clear hW E0
 obtain ⟨p0, p1, p2, pf0, pf1, pf2, plt⟩ := St.at_ (x0 := (.bool (ngB i))) (x1 := (.slice A n c)) (x2 := (.int .i64 (s : Int))) (g := w.heap.size) E (by simp)
 obtain ⟨q0, q1, q2, qf0, qf1, qf2, qlt⟩ := St.at_ (x0 := (.bool (ngB j))) (x1 := (.slice A' n' c')) (x2 := (.int .i64 (t : Int))) (g := (w.heap.size + 1)) E (by simp)
 
 go_wp2_with fail
 refine (sign_is (St.got E (by simp)) HSI.out).mono ?_; rintro e w1 ⟨rfl, hb1⟩; replace E := Lib.hid (St.step E.out hb1); clear hb1
 clear p0 p1 p2 pf0 pf1 pf2 plt q0 q1 q2 qf0 qf1 qf2 qlt
 obtain ⟨p0, p1, p2, pf0, pf1, pf2, plt⟩ := St.at_ (x0 := (.bool (ngB i))) (x1 := (.slice A n c)) (x2 := (.int .i64 (s : Int))) (g := w.heap.size) E (by simp)
 obtain ⟨q0, q1, q2, qf0, qf1, qf2, qlt⟩ := St.at_ (x0 := (.bool (ngB j))) (x1 := (.slice A' n' c')) (x2 := (.int .i64 (t : Int))) (g := (w.heap.size + 1)) E (by simp)
 go_wp2_with fail
 refine (sign_is (St.got E (by simp)) HSJ.out).mono ?_; rintro e w2 ⟨rfl, hb1⟩; replace E := Lib.hid (St.step E.out hb1); clear hb1
 clear p0 p1 p2 pf0 pf1 pf2 plt q0 q1 q2 qf0 qf1 qf2 qlt
 obtain ⟨p0, p1, p2, pf0, pf1, pf2, plt⟩ := St.at_ (x0 := (.bool (ngB i))) (x1 := (.slice A n c)) (x2 := (.int .i64 (s : Int))) (g := w.heap.size) E (by simp)
 obtain ⟨q0, q1, q2, qf0, qf1, qf2, qlt⟩ := St.at_ (x0 := (.bool (ngB j))) (x1 := (.slice A' n' c')) (x2 := (.int .i64 (t : Int))) (g := (w.heap.size + 1)) E (by simp)
 go_wp2_with fail
 refine (sign_is (St.got E (by simp)) HSJ.out).mono ?_; rintro e w3 ⟨rfl, hb1⟩; replace E := Lib.hid (St.step E.out hb1); clear hb1
 go_wp2_with fail
 refine (compare_is HE.out).mono ?_; rintro e w4 ⟨rfl, rfl⟩
 clear p0 p1 p2 pf0 pf1 pf2 plt q0 q1 q2 qf0 qf1 qf2 qlt
 go_wp2_with fail
 go_ret
 exact ⟨rfl, E.out.bel⟩
theorem cmp_pn (A A' : Option Addr) (n c n' c' s t : Nat) (i j : Int) (w : World) (h : Num w w.heap.size A n c i.natAbs) (h' : Num w w.heap.size A' n' c' j.natAbs) (hn : n ≤ 1000000) (hn' : n' ≤ 1000000) (hs : s ≤ 100000) (ht : t ≤ 100000) (hsi : i.sign = 1) (hsj : j.sign = -1) :
   Calls Tryz.prog 28 #[.agg #[.bool (ngB i), .slice A n c, .int .i64 (s : Int)], .agg #[.bool (ngB j), .slice A' n' c', .int .i64 (t : Int)]] w (RetVal w (.int .i64 (cmpD i s j t))) := by
 have H := Lib.hid h
 have H' := Lib.hid h'
 clear h h'
 have HSI := Lib.hid hsi
 have HSJ := Lib.hid hsj
 have HE : Hid (cmpZ (1) (-1) = cmpD i s j t) := by
   have := cmpD_sign (i := i) (j := j) s t (by first | (left; rw [hsi, hsj]; decide) | (right; exact Int.sign_eq_zero_iff_zero.1 hsi))
   rwa [hsi, hsj] at this
 clear hsi hsj
 go_enter Tryz.func28, Tryz.ntmps28
 go_wp2_with fail
 generalize hW : World.alloc (World.alloc w _) _ = W0
 have E0 : St w W0 [(A, n, c, (i).natAbs), (A', n', c', (j).natAbs)] [((w.heap.size + 1), (.bool (ngB j)), (.slice A' n' c'), (.int .i64 (t : Int))), (w.heap.size, (.bool (ngB i)), (.slice A n c), (.int .i64 (s : Int)))] := by rw [← hW]; exact ((start_two H.out H'.out).lay rfl).lay (by simp)
 have E := Lib.hid E0
 clear hW E0
 obtain ⟨p0, p1, p2, pf0, pf1, pf2, plt⟩ := St.at_ (x0 := (.bool (ngB i))) (x1 := (.slice A n c)) (x2 := (.int .i64 (s : Int))) (g := w.heap.size) E (by simp)
 obtain ⟨q0, q1, q2, qf0, qf1, qf2, qlt⟩ := St.at_ (x0 := (.bool (ngB j))) (x1 := (.slice A' n' c')) (x2 := (.int .i64 (t : Int))) (g := (w.heap.size + 1)) E (by simp)
 
 go_wp2_with fail
 refine (sign_is (St.got E (by simp)) HSI.out).mono ?_; rintro e w1 ⟨rfl, hb1⟩; replace E := Lib.hid (St.step E.out hb1); clear hb1
 clear p0 p1 p2 pf0 pf1 pf2 plt q0 q1 q2 qf0 qf1 qf2 qlt
 obtain ⟨p0, p1, p2, pf0, pf1, pf2, plt⟩ := St.at_ (x0 := (.bool (ngB i))) (x1 := (.slice A n c)) (x2 := (.int .i64 (s : Int))) (g := w.heap.size) E (by simp)
 obtain ⟨q0, q1, q2, qf0, qf1, qf2, qlt⟩ := St.at_ (x0 := (.bool (ngB j))) (x1 := (.slice A' n' c')) (x2 := (.int .i64 (t : Int))) (g := (w.heap.size + 1)) E (by simp)
 go_wp2_with fail
 refine (sign_is (St.got E (by simp)) HSJ.out).mono ?_; rintro e w2 ⟨rfl, hb1⟩; replace E := Lib.hid (St.step E.out hb1); clear hb1
 clear p0 p1 p2 pf0 pf1 pf2 plt q0 q1 q2 qf0 qf1 qf2 qlt
 obtain ⟨p0, p1, p2, pf0, pf1, pf2, plt⟩ := St.at_ (x0 := (.bool (ngB i))) (x1 := (.slice A n c)) (x2 := (.int .i64 (s : Int))) (g := w.heap.size) E (by simp)
 obtain ⟨q0, q1, q2, qf0, qf1, qf2, qlt⟩ := St.at_ (x0 := (.bool (ngB j))) (x1 := (.slice A' n' c')) (x2 := (.int .i64 (t : Int))) (g := (w.heap.size + 1)) E (by simp)
 go_wp2_with fail
 refine (sign_is (St.got E (by simp)) HSJ.out).mono ?_; rintro e w3 ⟨rfl, hb1⟩; replace E := Lib.hid (St.step E.out hb1); clear hb1
 go_wp2_with fail
 refine (compare_is HE.out).mono ?_; rintro e w4 ⟨rfl, rfl⟩
 clear p0 p1 p2 pf0 pf1 pf2 plt q0 q1 q2 qf0 qf1 qf2 qlt
 go_wp2_with fail
 go_ret
 exact ⟨rfl, E.out.bel⟩
theorem cmp_nn (A A' : Option Addr) (n c n' c' s t : Nat) (i j : Int) (w : World) (h : Num w w.heap.size A n c i.natAbs) (h' : Num w w.heap.size A' n' c' j.natAbs) (hn : n ≤ 1000000) (hn' : n' ≤ 1000000) (hs : s ≤ 100000) (ht : t ≤ 100000) (hsi : i.sign = -1) (hsj : j.sign = -1) :
   Calls Tryz.prog 28 #[.agg #[.bool (ngB i), .slice A n c, .int .i64 (s : Int)], .agg #[.bool (ngB j), .slice A' n' c', .int .i64 (t : Int)]] w (RetVal w (.int .i64 (cmpD i s j t))) := by
 have H := Lib.hid h
 have H' := Lib.hid h'
 clear h h'
 have HSI := Lib.hid hsi
 have HSJ := Lib.hid hsj
 have hi0 : i ≠ 0 := by intro h; subst h; simp at hsi
 have hj0 : j ≠ 0 := by intro h; subst h; simp at hsj
 have HC := Lib.hid (fun (w : World) h h' => cmpSizes_any A A' n c n' c' s t i j w h h' hn hn' hs ht hi0 hj0)
 obtain ⟨z, hz⟩ : ∃ z, cmpN (up i s (max s t)).natAbs (up j t (max s t)).natAbs = z := ⟨_, rfl⟩
 have hzb := cmpN_size (up i s (max s t)).natAbs (up j t (max s t)).natAbs
 rw [hz] at hzb HC
 obtain ⟨hz1, hz2⟩ := hzb
 have HE : Hid (-z = cmpD i s j t) := by
   show _ = _
   unfold cmpD
   rw [← hz]
   exact cmpZ_neg (Int.le_of_lt (up_neg _ _ (Int.sign_eq_neg_one_iff_neg.1 hsi))) (Int.le_of_lt (up_neg _ _ (Int.sign_eq_neg_one_iff_neg.1 hsj)))
 clear hsi hsj hi0 hj0 hz
 go_enter Tryz.func28, Tryz.ntmps28
 go_wp2_with fail
 generalize hW : World.alloc (World.alloc w _) _ = W0
 have E0 : St w W0 [(A, n, c, (i).natAbs), (A', n', c', (j).natAbs)] [((w.heap.size + 1), (.bool (ngB j)), (.slice A' n' c'), (.int .i64 (t : Int))), (w.heap.size, (.bool (ngB i)), (.slice A n c), (.int .i64 (s : Int)))] := by rw [← hW]; exact ((start_two H.out H'.out).lay rfl).lay (by simp)
 have E := Lib.hid E0
 clear hW E0
 obtain ⟨p0, p1, p2, pf0, pf1, pf2, plt⟩ := St.at_ (x0 := (.bool (ngB i))) (x1 := (.slice A n c)) (x2 := (.int .i64 (s : Int))) (g := w.heap.size) E (by simp)
 obtain ⟨q0, q1, q2, qf0, qf1, qf2, qlt⟩ := St.at_ (x0 := (.bool (ngB j))) (x1 := (.slice A' n' c')) (x2 := (.int .i64 (t : Int))) (g := (w.heap.size + 1)) E (by simp)
 
 go_wp2_with fail
 refine (sign_is (St.got E (by simp)) HSI.out).mono ?_; rintro e w1 ⟨rfl, hb1⟩; replace E := Lib.hid (St.step E.out hb1); clear hb1
 clear p0 p1 p2 pf0 pf1 pf2 plt q0 q1 q2 qf0 qf1 qf2 qlt
 obtain ⟨p0, p1, p2, pf0, pf1, pf2, plt⟩ := St.at_ (x0 := (.bool (ngB i))) (x1 := (.slice A n c)) (x2 := (.int .i64 (s : Int))) (g := w.heap.size) E (by simp)
 obtain ⟨q0, q1, q2, qf0, qf1, qf2, qlt⟩ := St.at_ (x0 := (.bool (ngB j))) (x1 := (.slice A' n' c')) (x2 := (.int .i64 (t : Int))) (g := (w.heap.size + 1)) E (by simp)
 go_wp2_with fail
 refine (sign_is (St.got E (by simp)) HSJ.out).mono ?_; rintro e w2 ⟨rfl, hb1⟩; replace E := Lib.hid (St.step E.out hb1); clear hb1
 clear p0 p1 p2 pf0 pf1 pf2 plt q0 q1 q2 qf0 qf1 qf2 qlt
 obtain ⟨p0, p1, p2, pf0, pf1, pf2, plt⟩ := St.at_ (x0 := (.bool (ngB i))) (x1 := (.slice A n c)) (x2 := (.int .i64 (s : Int))) (g := w.heap.size) E (by simp)
 obtain ⟨q0, q1, q2, qf0, qf1, qf2, qlt⟩ := St.at_ (x0 := (.bool (ngB j))) (x1 := (.slice A' n' c')) (x2 := (.int .i64 (t : Int))) (g := (w.heap.size + 1)) E (by simp)
 go_wp2_with fail
 refine (HC.out _ (St.got E (by simp)) (St.got E (by simp))).mono ?_; rintro e w3 ⟨rfl, hb1⟩; replace E := Lib.hid (St.step E.out hb1); clear hb1
 clear p0 p1 p2 pf0 pf1 pf2 plt q0 q1 q2 qf0 qf1 qf2 qlt
 go_wp2_with fail
 go_ret
 exact ⟨ret_i64 HE.out, E.out.bel⟩
theorem cmp_pp (A A' : Option Addr) (n c n' c' s t : Nat) (i j : Int) (w : World) (h : Num w w.heap.size A n c i.natAbs) (h' : Num w w.heap.size A' n' c' j.natAbs) (hn : n ≤ 1000000) (hn' : n' ≤ 1000000) (hs : s ≤ 100000) (ht : t ≤ 100000) (hsi : i.sign = 1) (hsj : j.sign = 1) :
   Calls Tryz.prog 28 #[.agg #[.bool (ngB i), .slice A n c, .int .i64 (s : Int)], .agg #[.bool (ngB j), .slice A' n' c', .int .i64 (t : Int)]] w (RetVal w (.int .i64 (cmpD i s j t))) := by
 have H := Lib.hid h
 have H' := Lib.hid h'
 clear h h'
 have HSI := Lib.hid hsi
 have HSJ := Lib.hid hsj
 have hi0 : i ≠ 0 := by intro h; subst h; simp at hsi
 have hj0 : j ≠ 0 := by intro h; subst h; simp at hsj
 have HC := Lib.hid (fun (w : World) h h' => cmpSizes_any A A' n c n' c' s t i j w h h' hn hn' hs ht hi0 hj0)
 obtain ⟨z, hz⟩ : ∃ z, cmpN (up i s (max s t)).natAbs (up j t (max s t)).natAbs = z := ⟨_, rfl⟩
 have hzb := cmpN_size (up i s (max s t)).natAbs (up j t (max s t)).natAbs
 rw [hz] at hzb HC
 obtain ⟨hz1, hz2⟩ := hzb
 have HE : Hid (z = cmpD i s j t) := by
   show _ = _
   unfold cmpD
   rw [← hz]
   exact cmpZ_pos (Int.le_of_lt (up_pos _ _ (Int.sign_eq_one_iff_pos.1 hsi))) (Int.le_of_lt (up_pos _ _ (Int.sign_eq_one_iff_pos.1 hsj)))
 clear hsi hsj hi0 hj0 hz
 go_enter Tryz.func28, Tryz.ntmps28
 go_wp2_with fail
 generalize hW : World.alloc (World.alloc w _) _ = W0
 have E0 : St w W0 [(A, n, c, (i).natAbs), (A', n', c', (j).natAbs)] [((w.heap.size + 1), (.bool (ngB j)), (.slice A' n' c'), (.int .i64 (t : Int))), (w.heap.size, (.bool (ngB i)), (.slice A n c), (.int .i64 (s : Int)))] := by rw [← hW]; exact ((start_two H.out H'.out).lay rfl).lay (by simp)
 have E := Lib.hid E0
 clear hW E0
 obtain ⟨p0, p1, p2, pf0, pf1, pf2, plt⟩ := St.at_ (x0 := (.bool (ngB i))) (x1 := (.slice A n c)) (x2 := (.int .i64 (s : Int))) (g := w.heap.size) E (by simp)
 obtain ⟨q0, q1, q2, qf0, qf1, qf2, qlt⟩ := St.at_ (x0 := (.bool (ngB j))) (x1 := (.slice A' n' c')) (x2 := (.int .i64 (t : Int))) (g := (w.heap.size + 1)) E (by simp)
 
 go_wp2_with fail
 refine (sign_is (St.got E (by simp)) HSI.out).mono ?_; rintro e w1 ⟨rfl, hb1⟩; replace E := Lib.hid (St.step E.out hb1); clear hb1
 clear p0 p1 p2 pf0 pf1 pf2 plt q0 q1 q2 qf0 qf1 qf2 qlt
 obtain ⟨p0, p1, p2, pf0, pf1, pf2, plt⟩ := St.at_ (x0 := (.bool (ngB i))) (x1 := (.slice A n c)) (x2 := (.int .i64 (s : Int))) (g := w.heap.size) E (by simp)
 obtain ⟨q0, q1, q2, qf0, qf1, qf2, qlt⟩ := St.at_ (x0 := (.bool (ngB j))) (x1 := (.slice A' n' c')) (x2 := (.int .i64 (t : Int))) (g := (w.heap.size + 1)) E (by simp)
 go_wp2_with fail
 refine (sign_is (St.got E (by simp)) HSJ.out).mono ?_; rintro e w2 ⟨rfl, hb1⟩; replace E := Lib.hid (St.step E.out hb1); clear hb1
 clear p0 p1 p2 pf0 pf1 pf2 plt q0 q1 q2 qf0 qf1 qf2 qlt
 obtain ⟨p0, p1, p2, pf0, pf1, pf2, plt⟩ := St.at_ (x0 := (.bool (ngB i))) (x1 := (.slice A n c)) (x2 := (.int .i64 (s : Int))) (g := w.heap.size) E (by simp)
 obtain ⟨q0, q1, q2, qf0, qf1, qf2, qlt⟩ := St.at_ (x0 := (.bool (ngB j))) (x1 := (.slice A' n' c')) (x2 := (.int .i64 (t : Int))) (g := (w.heap.size + 1)) E (by simp)
 go_wp2_with fail
 refine (HC.out _ (St.got E (by simp)) (St.got E (by simp))).mono ?_; rintro e w3 ⟨rfl, hb1⟩; replace E := Lib.hid (St.step E.out hb1); clear hb1
 clear p0 p1 p2 pf0 pf1 pf2 plt q0 q1 q2 qf0 qf1 qf2 qlt
 go_wp2_with fail
 go_ret
 exact ⟨ret_i64 HE.out, E.out.bel⟩
theorem cmp5_any (A A' : Option Addr) (n c n' c' s t : Nat) (i j : Int) (w : World) (h : Num w w.heap.size A n c i.natAbs) (h' : Num w w.heap.size A' n' c' j.natAbs) (hn : n ≤ 1000000) (hn' : n' ≤ 1000000) (hs : s ≤ 100000) (ht : t ≤ 100000) :
   Calls Tryz.prog 28 #[.agg #[.bool (ngB i), .slice A n c, .int .i64 (s : Int)], .agg #[.bool (ngB j), .slice A' n' c', .int .i64 (t : Int)]] w (RetVal w (.int .i64 (cmpD i s j t))) := by
 rcases Int.lt_trichotomy i 0 with hi | hi | hi <;> rcases Int.lt_trichotomy j 0 with hj | hj | hj
 · exact cmp_nn A A' n c n' c' s t i j w h h' hn hn' hs ht (Int.sign_eq_neg_one_iff_neg.2 hi) (Int.sign_eq_neg_one_iff_neg.2 hj)
 · exact cmp_nz A A' n c n' c' s t i j w h h' hn hn' hs ht (Int.sign_eq_neg_one_iff_neg.2 hi) (Int.sign_eq_zero_iff_zero.2 hj)
 · exact cmp_np A A' n c n' c' s t i j w h h' hn hn' hs ht (Int.sign_eq_neg_one_iff_neg.2 hi) (Int.sign_eq_one_iff_pos.2 hj)
 · exact cmp_zn A A' n c n' c' s t i j w h h' hn hn' hs ht (Int.sign_eq_zero_iff_zero.2 hi) (Int.sign_eq_neg_one_iff_neg.2 hj)
 · exact cmp_zz A A' n c n' c' s t i j w h h' hn hn' hs ht (Int.sign_eq_zero_iff_zero.2 hi) (Int.sign_eq_zero_iff_zero.2 hj)
 · exact cmp_zp A A' n c n' c' s t i j w h h' hn hn' hs ht (Int.sign_eq_zero_iff_zero.2 hi) (Int.sign_eq_one_iff_pos.2 hj)
 · exact cmp_pn A A' n c n' c' s t i j w h h' hn hn' hs ht (Int.sign_eq_one_iff_pos.2 hi) (Int.sign_eq_neg_one_iff_neg.2 hj)
 · exact cmp_pz A A' n c n' c' s t i j w h h' hn hn' hs ht (Int.sign_eq_one_iff_pos.2 hi) (Int.sign_eq_zero_iff_zero.2 hj)
 · exact cmp_pp A A' n c n' c' s t i j w h h' hn hn' hs ht (Int.sign_eq_one_iff_pos.2 hi) (Int.sign_eq_one_iff_pos.2 hj)
end Go.Proofs.YthlhpgphmfnlgaaGreat
/-
 Contracts of layer 5, the eighth part: the document's Cmp, Same.
-/
namespace Go.Proofs.YthlhpgphmfnlgaaGreat
open Go.RowKit
theorem refCmpN_is {s : Int} {A A' : Option Addr} {n c n' c' a b : Nat} {w : World} (h : Num w w.heap.size A n c a) (h' : Num w w.heap.size A' n' c' b) (hs : cmpN a b = s) :
   Calls Tryz.prog 68 #[.slice A n c, .slice A' n' c'] w (RetVal w (.int .i64 s)) := by
 subst hs; exact refCmp_any A A' n c n' c' a b w h h'
theorem refCmp_zn (A A' : Option Addr) (n c n' c' s t : Nat) (i j : Int) (w : World) (h : Num w w.heap.size A n c i.natAbs) (h' : Num w w.heap.size A' n' c' j.natAbs) (hn : n ≤ 1000000) (hn' : n' ≤ 1000000) (hs : s ≤ 100000) (ht : t ≤ 100000) (hsi : i.sign = 0) (hsj : j.sign = -1) :
   Calls Tryz.prog 35 #[.agg #[.bool (ngB i), .slice A n c, .int .i64 (s : Int)], .agg #[.bool (ngB j), .slice A' n' c', .int .i64 (t : Int)]] w (RetVal w (.int .i64 (cmpD i s j t))) := by
 have H := Lib.hid h
 have H' := Lib.hid h'
 clear h h'
 have HSI := Lib.hid hsi
 have HSJ := Lib.hid hsj
 have HE : Hid (cmpZ (0) (-1) = cmpD i s j t) := by
   have := cmpD_sign (i := i) (j := j) s t (by left; rw [hsi, hsj]; decide)
   rwa [hsi, hsj] at this
 clear hsi hsj
 go_enter Tryz.func35, Tryz.ntmps35
 go_wp2_with fail
 generalize hW : World.alloc (World.alloc w _) _ = W0
 have E0 : St w W0 [(A, n, c, (i).natAbs), (A', n', c', (j).natAbs)] [((w.heap.size + 1), (.bool (ngB j)), (.slice A' n' c'), (.int .i64 (t : Int))), (w.heap.size, (.bool (ngB i)), (.slice A n c), (.int .i64 (s : Int)))] := by rw [← hW]; exact ((start_two H.out H'.out).lay rfl).lay (by simp)
 have E := Lib.hid E0
 clear hW E0
 obtain ⟨p0, p1, p2, pf0, pf1, pf2, plt⟩ := St.at_ (x0 := (.bool (ngB i))) (x1 := (.slice A n c)) (x2 := (.int .i64 (s : Int))) (g := w.heap.size) E (by simp)
 obtain ⟨q0, q1, q2, qf0, qf1, qf2, qlt⟩ := St.at_ (x0 := (.bool (ngB j))) (x1 := (.slice A' n' c')) (x2 := (.int .i64 (t : Int))) (g := (w.heap.size + 1)) E (by simp)
 
 clear p0 p1 p2 pf0 pf1 pf2 plt q0 q1 q2 qf0 qf1 qf2 qlt
 replace E := Lib.hid (St.drew E.out)
 go_region_held3 (fun v => v.cell? ⟨w.heap.size, 0, none⟩ = some (.bool (ngB i)) ∧ v.cell? ⟨w.heap.size, 1, none⟩ = some (.slice A n c) ∧ v.cell? ⟨w.heap.size, 2, none⟩ = some (.int .i64 (s : Int)) ∧ v.cell? ⟨w.heap.size + 1, 0, none⟩ = some (.bool (ngB j)) ∧ v.cell? ⟨w.heap.size + 1, 1, none⟩ = some (.slice A' n' c') ∧ v.cell? ⟨w.heap.size + 1, 2, none⟩ = some (.int .i64 (t : Int))) (first | (have X0 := St.at_ (x0 := (.bool (ngB i))) (x1 := (.slice A n c)) (x2 := (.int .i64 (s : Int))) (g := w.heap.size) E (by simp); have X1 := St.at_ (x0 := (.bool (ngB j))) (x1 := (.slice A' n' c')) (x2 := (.int .i64 (t : Int))) (g := (w.heap.size + 1)) E (by simp); with_reducible exact ⟨X0.c0, X0.c1, X0.c2, X1.c0, X1.c1, X1.c2⟩))
   (first | (go_at_call 44; first | ((with_reducible refine (refSign_is (A := A) (n := n) (c := c) (s := s) (St.got E (by simp)) HSI.out).mono ?_); rintro e w1 ⟨rfl, hb1⟩; replace E := Lib.hid (St.step E.out hb1); clear hb1) | ((with_reducible refine (refSign_is (A := A') (n := n') (c := c') (s := t) (St.got E (by simp)) HSJ.out).mono ?_); rintro e w2 ⟨rfl, hb2⟩; replace E := Lib.hid (St.step E.out hb2); clear hb2)))
 all_goals
   go_wp2_with fail
   go_ret
   exact ⟨ret_i64 HE.out, E.out.bel⟩
theorem refCmp_zz (A A' : Option Addr) (n c n' c' s t : Nat) (i j : Int) (w : World) (h : Num w w.heap.size A n c i.natAbs) (h' : Num w w.heap.size A' n' c' j.natAbs) (hn : n ≤ 1000000) (hn' : n' ≤ 1000000) (hs : s ≤ 100000) (ht : t ≤ 100000) (hsi : i.sign = 0) (hsj : j.sign = 0) :
   Calls Tryz.prog 35 #[.agg #[.bool (ngB i), .slice A n c, .int .i64 (s : Int)], .agg #[.bool (ngB j), .slice A' n' c', .int .i64 (t : Int)]] w (RetVal w (.int .i64 (cmpD i s j t))) := by
 have H := Lib.hid h
 have H' := Lib.hid h'
 clear h h'
 have HSI := Lib.hid hsi
 have HSJ := Lib.hid hsj
 obtain ⟨M, hm⟩ : ∃ M, max s t = M := ⟨_, rfl⟩
 obtain ⟨z, hz⟩ : ∃ z, cmpN (up i s M).natAbs (up j t M).natAbs = z := ⟨_, rfl⟩
 have hzb := cmpN_size (up i s M).natAbs (up j t M).natAbs
 rw [hz] at hzb
 obtain ⟨hz1, hz2⟩ := hzb
 have HNG : Hid (ngB i = false) := decide_eq_false (by have := Int.sign_eq_zero_iff_zero.1 hsi; omega)
 have HE : Hid (z = cmpD i s j t) := by
   show _ = _
   unfold cmpD
   rw [hm, ← hz]
   exact cmpZ_pos (by rw [Int.sign_eq_zero_iff_zero.1 hsi, up_zero]; omega) (by rw [Int.sign_eq_zero_iff_zero.1 hsj, up_zero]; omega)
 have HZ := Lib.hid hz
 have HA := Lib.hid (fun (w : World) h h' => refAlign_any A A' n c n' c' s t i j w h h' hn hn' hs ht)
 rw [hm] at HA
 clear hsi hsj hz hm
 go_enter Tryz.func35, Tryz.ntmps35
 go_wp2_with fail
 generalize hW : World.alloc (World.alloc w _) _ = W0
 have E0 : St w W0 [(A, n, c, (i).natAbs), (A', n', c', (j).natAbs)] [((w.heap.size + 1), (.bool (ngB j)), (.slice A' n' c'), (.int .i64 (t : Int))), (w.heap.size, (.bool (ngB i)), (.slice A n c), (.int .i64 (s : Int)))] := by rw [← hW]; exact ((start_two H.out H'.out).lay rfl).lay (by simp)
 have E := Lib.hid E0
 clear hW E0
 obtain ⟨p0, p1, p2, pf0, pf1, pf2, plt⟩ := St.at_ (x0 := (.bool (ngB i))) (x1 := (.slice A n c)) (x2 := (.int .i64 (s : Int))) (g := w.heap.size) E (by simp)
 obtain ⟨q0, q1, q2, qf0, qf1, qf2, qlt⟩ := St.at_ (x0 := (.bool (ngB j))) (x1 := (.slice A' n' c')) (x2 := (.int .i64 (t : Int))) (g := (w.heap.size + 1)) E (by simp)
 
 clear p0 p1 p2 pf0 pf1 pf2 plt q0 q1 q2 qf0 qf1 qf2 qlt
 replace E := Lib.hid (St.drew E.out)
 go_region_held3 (fun v => v.cell? ⟨w.heap.size, 0, none⟩ = some (.bool (ngB i)) ∧ v.cell? ⟨w.heap.size, 1, none⟩ = some (.slice A n c) ∧ v.cell? ⟨w.heap.size, 2, none⟩ = some (.int .i64 (s : Int)) ∧ v.cell? ⟨w.heap.size + 1, 0, none⟩ = some (.bool (ngB j)) ∧ v.cell? ⟨w.heap.size + 1, 1, none⟩ = some (.slice A' n' c') ∧ v.cell? ⟨w.heap.size + 1, 2, none⟩ = some (.int .i64 (t : Int))) (first | (have X0 := St.at_ (x0 := (.bool (ngB i))) (x1 := (.slice A n c)) (x2 := (.int .i64 (s : Int))) (g := w.heap.size) E (by simp); have X1 := St.at_ (x0 := (.bool (ngB j))) (x1 := (.slice A' n' c')) (x2 := (.int .i64 (t : Int))) (g := (w.heap.size + 1)) E (by simp); with_reducible exact ⟨X0.c0, X0.c1, X0.c2, X1.c0, X1.c1, X1.c2⟩))
   (first | (go_at_call 44; first | ((with_reducible refine (refSign_is (A := A) (n := n) (c := c) (s := s) (St.got E (by simp)) HSI.out).mono ?_); rintro e w1 ⟨rfl, hb1⟩; replace E := Lib.hid (St.step E.out hb1); clear hb1) | ((with_reducible refine (refSign_is (A := A') (n := n') (c := c') (s := t) (St.got E (by simp)) HSJ.out).mono ?_); rintro e w2 ⟨rfl, hb2⟩; replace E := Lib.hid (St.step E.out hb2); clear hb2)))
 all_goals
   obtain ⟨p0, p1, p2, pf0, pf1, pf2, plt⟩ := St.at_ (x0 := (.bool (ngB i))) (x1 := (.slice A n c)) (x2 := (.int .i64 (s : Int))) (g := w.heap.size) E (by simp)
   obtain ⟨q0, q1, q2, qf0, qf1, qf2, qlt⟩ := St.at_ (x0 := (.bool (ngB j))) (x1 := (.slice A' n' c')) (x2 := (.int .i64 (t : Int))) (g := (w.heap.size + 1)) E (by simp)
   go_wp2_with fail
   refine (HA.out _ (St.got E (by simp)) (St.got E (by simp))).mono ?_
   rintro e w4 ⟨A1, n1, c1, A2, n2, c2, rfl, h1, h2, hb4⟩
   replace E : Hid (St w w4 [(A1, n1, c1, (up i s M).natAbs), (A2, n2, c2, (up j t M).natAbs)] [((w.heap.size + 1), (.bool (ngB j)), (.slice A' n' c'), (.int .i64 (t : Int))), (w.heap.size, (.bool (ngB i)), (.slice A n c), (.int .i64 (s : Int)))]) := ⟨(E.out.step hb4).bel, (St.start w4 (l := [(A1, n1, c1, (up i s M).natAbs), (A2, n2, c2, (up j t M).natAbs)]) (by simp; exact ⟨h1, h2⟩)).num, (E.out.step hb4).box⟩
   clear h1 h2 hb4 p0 p1 p2 pf0 pf1 pf2 plt q0 q1 q2 qf0 qf1 qf2 qlt
   obtain ⟨p0, p1, p2, pf0, pf1, pf2, plt⟩ := St.at_ (x0 := (.bool (ngB i))) (x1 := (.slice A n c)) (x2 := (.int .i64 (s : Int))) (g := w.heap.size) E (by simp)
   obtain ⟨q0, q1, q2, qf0, qf1, qf2, qlt⟩ := St.at_ (x0 := (.bool (ngB j))) (x1 := (.slice A' n' c')) (x2 := (.int .i64 (t : Int))) (g := (w.heap.size + 1)) E (by simp)
   go_wp2_with fail
   clear p0 p1 p2 pf0 pf1 pf2 plt q0 q1 q2 qf0 qf1 qf2 qlt
   have E5 := Lib.hid (St.lay (t := 25) (x0 := .bool (ngB (up j t M))) (x1 := .slice A2 n2 c2) (x2 := .int .i64 (M : Int)) (g := w4.heap.size + 1) (St.lay (t := 25) (x0 := .bool (ngB (up i s M))) (x1 := .slice A1 n1 c1) (x2 := .int .i64 (M : Int)) (g := w4.heap.size) E.out rfl) (by simp))
   refine (refCmpN_is (St.got E5 (by simp)) (St.got E5 (by simp)) HZ.out).mono ?_; rintro e w5 ⟨rfl, hb5⟩; replace E := Lib.hid (St.step E5.out hb5); clear hb5 E5
   obtain ⟨p0, p1, p2, pf0, pf1, pf2, plt⟩ := St.at_ (x0 := (.bool (ngB i))) (x1 := (.slice A n c)) (x2 := (.int .i64 (s : Int))) (g := w.heap.size) E (by simp)
   have hng := HNG.out
   go_wp2_with fail
   go_ret
   exact ⟨ret_i64 HE.out, E.out.bel⟩
theorem refCmp_zp (A A' : Option Addr) (n c n' c' s t : Nat) (i j : Int) (w : World) (h : Num w w.heap.size A n c i.natAbs) (h' : Num w w.heap.size A' n' c' j.natAbs) (hn : n ≤ 1000000) (hn' : n' ≤ 1000000) (hs : s ≤ 100000) (ht : t ≤ 100000) (hsi : i.sign = 0) (hsj : j.sign = 1) :
   Calls Tryz.prog 35 #[.agg #[.bool (ngB i), .slice A n c, .int .i64 (s : Int)], .agg #[.bool (ngB j), .slice A' n' c', .int .i64 (t : Int)]] w (RetVal w (.int .i64 (cmpD i s j t))) := by
 have H := Lib.hid h
 have H' := Lib.hid h'
 clear h h'
 have HSI := Lib.hid hsi
 have HSJ := Lib.hid hsj
 have HE : Hid (cmpZ (0) (1) = cmpD i s j t) := by
   have := cmpD_sign (i := i) (j := j) s t (by left; rw [hsi, hsj]; decide)
   rwa [hsi, hsj] at this
 clear hsi hsj
 go_enter Tryz.func35, Tryz.ntmps35
 go_wp2_with fail
 generalize hW : World.alloc (World.alloc w _) _ = W0
 have E0 : St w W0 [(A, n, c, (i).natAbs), (A', n', c', (j).natAbs)] [((w.heap.size + 1), (.bool (ngB j)), (.slice A' n' c'), (.int .i64 (t : Int))), (w.heap.size, (.bool (ngB i)), (.slice A n c), (.int .i64 (s : Int)))] := by rw [← hW]; exact ((start_two H.out H'.out).lay rfl).lay (by simp)
 have E := Lib.hid E0
 clear hW E0
 obtain ⟨p0, p1, p2, pf0, pf1, pf2, plt⟩ := St.at_ (x0 := (.bool (ngB i))) (x1 := (.slice A n c)) (x2 := (.int .i64 (s : Int))) (g := w.heap.size) E (by simp)
 obtain ⟨q0, q1, q2, qf0, qf1, qf2, qlt⟩ := St.at_ (x0 := (.bool (ngB j))) (x1 := (.slice A' n' c')) (x2 := (.int .i64 (t : Int))) (g := (w.heap.size + 1)) E (by simp)
 
 clear p0 p1 p2 pf0 pf1 pf2 plt q0 q1 q2 qf0 qf1 qf2 qlt
 replace E := Lib.hid (St.drew E.out)
 go_region_held3 (fun v => v.cell? ⟨w.heap.size, 0, none⟩ = some (.bool (ngB i)) ∧ v.cell? ⟨w.heap.size, 1, none⟩ = some (.slice A n c) ∧ v.cell? ⟨w.heap.size, 2, none⟩ = some (.int .i64 (s : Int)) ∧ v.cell? ⟨w.heap.size + 1, 0, none⟩ = some (.bool (ngB j)) ∧ v.cell? ⟨w.heap.size + 1, 1, none⟩ = some (.slice A' n' c') ∧ v.cell? ⟨w.heap.size + 1, 2, none⟩ = some (.int .i64 (t : Int))) (first | (have X0 := St.at_ (x0 := (.bool (ngB i))) (x1 := (.slice A n c)) (x2 := (.int .i64 (s : Int))) (g := w.heap.size) E (by simp); have X1 := St.at_ (x0 := (.bool (ngB j))) (x1 := (.slice A' n' c')) (x2 := (.int .i64 (t : Int))) (g := (w.heap.size + 1)) E (by simp); with_reducible exact ⟨X0.c0, X0.c1, X0.c2, X1.c0, X1.c1, X1.c2⟩))
   (first | (go_at_call 44; first | ((with_reducible refine (refSign_is (A := A) (n := n) (c := c) (s := s) (St.got E (by simp)) HSI.out).mono ?_); rintro e w1 ⟨rfl, hb1⟩; replace E := Lib.hid (St.step E.out hb1); clear hb1) | ((with_reducible refine (refSign_is (A := A') (n := n') (c := c') (s := t) (St.got E (by simp)) HSJ.out).mono ?_); rintro e w2 ⟨rfl, hb2⟩; replace E := Lib.hid (St.step E.out hb2); clear hb2)))
 all_goals
   go_wp2_with fail
   go_ret
   exact ⟨ret_i64 HE.out, E.out.bel⟩
theorem refCmp_nz (A A' : Option Addr) (n c n' c' s t : Nat) (i j : Int) (w : World) (h : Num w w.heap.size A n c i.natAbs) (h' : Num w w.heap.size A' n' c' j.natAbs) (hn : n ≤ 1000000) (hn' : n' ≤ 1000000) (hs : s ≤ 100000) (ht : t ≤ 100000) (hsi : i.sign = -1) (hsj : j.sign = 0) :
   Calls Tryz.prog 35 #[.agg #[.bool (ngB i), .slice A n c, .int .i64 (s : Int)], .agg #[.bool (ngB j), .slice A' n' c', .int .i64 (t : Int)]] w (RetVal w (.int .i64 (cmpD i s j t))) := by
 have H := Lib.hid h
 have H' := Lib.hid h'
 clear h h'
 have HSI := Lib.hid hsi
 have HSJ := Lib.hid hsj
 have HE : Hid (cmpZ (-1) (0) = cmpD i s j t) := by
   have := cmpD_sign (i := i) (j := j) s t (by left; rw [hsi, hsj]; decide)
   rwa [hsi, hsj] at this
 clear hsi hsj
 go_enter Tryz.func35, Tryz.ntmps35
 go_wp2_with fail
 generalize hW : World.alloc (World.alloc w _) _ = W0
 have E0 : St w W0 [(A, n, c, (i).natAbs), (A', n', c', (j).natAbs)] [((w.heap.size + 1), (.bool (ngB j)), (.slice A' n' c'), (.int .i64 (t : Int))), (w.heap.size, (.bool (ngB i)), (.slice A n c), (.int .i64 (s : Int)))] := by rw [← hW]; exact ((start_two H.out H'.out).lay rfl).lay (by simp)
 have E := Lib.hid E0
 clear hW E0
 obtain ⟨p0, p1, p2, pf0, pf1, pf2, plt⟩ := St.at_ (x0 := (.bool (ngB i))) (x1 := (.slice A n c)) (x2 := (.int .i64 (s : Int))) (g := w.heap.size) E (by simp)
 obtain ⟨q0, q1, q2, qf0, qf1, qf2, qlt⟩ := St.at_ (x0 := (.bool (ngB j))) (x1 := (.slice A' n' c')) (x2 := (.int .i64 (t : Int))) (g := (w.heap.size + 1)) E (by simp)
 
 clear p0 p1 p2 pf0 pf1 pf2 plt q0 q1 q2 qf0 qf1 qf2 qlt
 replace E := Lib.hid (St.drew E.out)
 go_region_held3 (fun v => v.cell? ⟨w.heap.size, 0, none⟩ = some (.bool (ngB i)) ∧ v.cell? ⟨w.heap.size, 1, none⟩ = some (.slice A n c) ∧ v.cell? ⟨w.heap.size, 2, none⟩ = some (.int .i64 (s : Int)) ∧ v.cell? ⟨w.heap.size + 1, 0, none⟩ = some (.bool (ngB j)) ∧ v.cell? ⟨w.heap.size + 1, 1, none⟩ = some (.slice A' n' c') ∧ v.cell? ⟨w.heap.size + 1, 2, none⟩ = some (.int .i64 (t : Int))) (first | (have X0 := St.at_ (x0 := (.bool (ngB i))) (x1 := (.slice A n c)) (x2 := (.int .i64 (s : Int))) (g := w.heap.size) E (by simp); have X1 := St.at_ (x0 := (.bool (ngB j))) (x1 := (.slice A' n' c')) (x2 := (.int .i64 (t : Int))) (g := (w.heap.size + 1)) E (by simp); with_reducible exact ⟨X0.c0, X0.c1, X0.c2, X1.c0, X1.c1, X1.c2⟩))
   (first | (go_at_call 44; first | ((with_reducible refine (refSign_is (A := A) (n := n) (c := c) (s := s) (St.got E (by simp)) HSI.out).mono ?_); rintro e w1 ⟨rfl, hb1⟩; replace E := Lib.hid (St.step E.out hb1); clear hb1) | ((with_reducible refine (refSign_is (A := A') (n := n') (c := c') (s := t) (St.got E (by simp)) HSJ.out).mono ?_); rintro e w2 ⟨rfl, hb2⟩; replace E := Lib.hid (St.step E.out hb2); clear hb2)))
 all_goals
   go_wp2_with fail
   go_ret
   exact ⟨ret_i64 HE.out, E.out.bel⟩
theorem refCmp_np (A A' : Option Addr) (n c n' c' s t : Nat) (i j : Int) (w : World) (h : Num w w.heap.size A n c i.natAbs) (h' : Num w w.heap.size A' n' c' j.natAbs) (hn : n ≤ 1000000) (hn' : n' ≤ 1000000) (hs : s ≤ 100000) (ht : t ≤ 100000) (hsi : i.sign = -1) (hsj : j.sign = 1) :
   Calls Tryz.prog 35 #[.agg #[.bool (ngB i), .slice A n c, .int .i64 (s : Int)], .agg #[.bool (ngB j), .slice A' n' c', .int .i64 (t : Int)]] w (RetVal w (.int .i64 (cmpD i s j t))) := by
 have H := Lib.hid h
 have H' := Lib.hid h'
 clear h h'
 have HSI := Lib.hid hsi
 have HSJ := Lib.hid hsj
 have HE : Hid (cmpZ (-1) (1) = cmpD i s j t) := by
   have := cmpD_sign (i := i) (j := j) s t (by left; rw [hsi, hsj]; decide)
   rwa [hsi, hsj] at this
 clear hsi hsj
 go_enter Tryz.func35, Tryz.ntmps35
 go_wp2_with fail
 generalize hW : World.alloc (World.alloc w _) _ = W0
 have E0 : St w W0 [(A, n, c, (i).natAbs), (A', n', c', (j).natAbs)] [((w.heap.size + 1), (.bool (ngB j)), (.slice A' n' c'), (.int .i64 (t : Int))), (w.heap.size, (.bool (ngB i)), (.slice A n c), (.int .i64 (s : Int)))] := by rw [← hW]; exact ((start_two H.out H'.out).lay rfl).lay (by simp)
 have E := Lib.hid E0
 clear hW E0
 obtain ⟨p0, p1, p2, pf0, pf1, pf2, plt⟩ := St.at_ (x0 := (.bool (ngB i))) (x1 := (.slice A n c)) (x2 := (.int .i64 (s : Int))) (g := w.heap.size) E (by simp)
 obtain ⟨q0, q1, q2, qf0, qf1, qf2, qlt⟩ := St.at_ (x0 := (.bool (ngB j))) (x1 := (.slice A' n' c')) (x2 := (.int .i64 (t : Int))) (g := (w.heap.size + 1)) E (by simp)
 
 clear p0 p1 p2 pf0 pf1 pf2 plt q0 q1 q2 qf0 qf1 qf2 qlt
 replace E := Lib.hid (St.drew E.out)
 go_region_held3 (fun v => v.cell? ⟨w.heap.size, 0, none⟩ = some (.bool (ngB i)) ∧ v.cell? ⟨w.heap.size, 1, none⟩ = some (.slice A n c) ∧ v.cell? ⟨w.heap.size, 2, none⟩ = some (.int .i64 (s : Int)) ∧ v.cell? ⟨w.heap.size + 1, 0, none⟩ = some (.bool (ngB j)) ∧ v.cell? ⟨w.heap.size + 1, 1, none⟩ = some (.slice A' n' c') ∧ v.cell? ⟨w.heap.size + 1, 2, none⟩ = some (.int .i64 (t : Int))) (first | (have X0 := St.at_ (x0 := (.bool (ngB i))) (x1 := (.slice A n c)) (x2 := (.int .i64 (s : Int))) (g := w.heap.size) E (by simp); have X1 := St.at_ (x0 := (.bool (ngB j))) (x1 := (.slice A' n' c')) (x2 := (.int .i64 (t : Int))) (g := (w.heap.size + 1)) E (by simp); with_reducible exact ⟨X0.c0, X0.c1, X0.c2, X1.c0, X1.c1, X1.c2⟩))
   (first | (go_at_call 44; first | ((with_reducible refine (refSign_is (A := A) (n := n) (c := c) (s := s) (St.got E (by simp)) HSI.out).mono ?_); rintro e w1 ⟨rfl, hb1⟩; replace E := Lib.hid (St.step E.out hb1); clear hb1) | ((with_reducible refine (refSign_is (A := A') (n := n') (c := c') (s := t) (St.got E (by simp)) HSJ.out).mono ?_); rintro e w2 ⟨rfl, hb2⟩; replace E := Lib.hid (St.step E.out hb2); clear hb2)))
 all_goals
   go_wp2_with fail
   go_ret
   exact ⟨ret_i64 HE.out, E.out.bel⟩
theorem refCmp_pz (A A' : Option Addr) (n c n' c' s t : Nat) (i j : Int) (w : World) (h : Num w w.heap.size A n c i.natAbs) (h' : Num w w.heap.size A' n' c' j.natAbs) (hn : n ≤ 1000000) (hn' : n' ≤ 1000000) (hs : s ≤ 100000) (ht : t ≤ 100000) (hsi : i.sign = 1) (hsj : j.sign = 0) :
   Calls Tryz.prog 35 #[.agg #[.bool (ngB i), .slice A n c, .int .i64 (s : Int)], .agg #[.bool (ngB j), .slice A' n' c', .int .i64 (t : Int)]] w (RetVal w (.int .i64 (cmpD i s j t))) := by
 have H := Lib.hid h
 have H' := Lib.hid h'
 clear h h'
 have HSI := Lib.hid hsi
 have HSJ := Lib.hid hsj
 have HE : Hid (cmpZ (1) (0) = cmpD i s j t) := by
   have := cmpD_sign (i := i) (j := j) s t (by left; rw [hsi, hsj]; decide)
   rwa [hsi, hsj] at this
 clear hsi hsj
 go_enter Tryz.func35, Tryz.ntmps35
 go_wp2_with fail
 generalize hW : World.alloc (World.alloc w _) _ = W0
 have E0 : St w W0 [(A, n, c, (i).natAbs), (A', n', c', (j).natAbs)] [((w.heap.size + 1), (.bool (ngB j)), (.slice A' n' c'), (.int .i64 (t : Int))), (w.heap.size, (.bool (ngB i)), (.slice A n c), (.int .i64 (s : Int)))] := by rw [← hW]; exact ((start_two H.out H'.out).lay rfl).lay (by simp)
 have E := Lib.hid E0
 clear hW E0
 obtain ⟨p0, p1, p2, pf0, pf1, pf2, plt⟩ := St.at_ (x0 := (.bool (ngB i))) (x1 := (.slice A n c)) (x2 := (.int .i64 (s : Int))) (g := w.heap.size) E (by simp)
 obtain ⟨q0, q1, q2, qf0, qf1, qf2, qlt⟩ := St.at_ (x0 := (.bool (ngB j))) (x1 := (.slice A' n' c')) (x2 := (.int .i64 (t : Int))) (g := (w.heap.size + 1)) E (by simp)
 
 clear p0 p1 p2 pf0 pf1 pf2 plt q0 q1 q2 qf0 qf1 qf2 qlt
 replace E := Lib.hid (St.drew E.out)
 go_region_held3 (fun v => v.cell? ⟨w.heap.size, 0, none⟩ = some (.bool (ngB i)) ∧ v.cell? ⟨w.heap.size, 1, none⟩ = some (.slice A n c) ∧ v.cell? ⟨w.heap.size, 2, none⟩ = some (.int .i64 (s : Int)) ∧ v.cell? ⟨w.heap.size + 1, 0, none⟩ = some (.bool (ngB j)) ∧ v.cell? ⟨w.heap.size + 1, 1, none⟩ = some (.slice A' n' c') ∧ v.cell? ⟨w.heap.size + 1, 2, none⟩ = some (.int .i64 (t : Int))) (first | (have X0 := St.at_ (x0 := (.bool (ngB i))) (x1 := (.slice A n c)) (x2 := (.int .i64 (s : Int))) (g := w.heap.size) E (by simp); have X1 := St.at_ (x0 := (.bool (ngB j))) (x1 := (.slice A' n' c')) (x2 := (.int .i64 (t : Int))) (g := (w.heap.size + 1)) E (by simp); with_reducible exact ⟨X0.c0, X0.c1, X0.c2, X1.c0, X1.c1, X1.c2⟩))
   (first | (go_at_call 44; first | ((with_reducible refine (refSign_is (A := A) (n := n) (c := c) (s := s) (St.got E (by simp)) HSI.out).mono ?_); rintro e w1 ⟨rfl, hb1⟩; replace E := Lib.hid (St.step E.out hb1); clear hb1) | ((with_reducible refine (refSign_is (A := A') (n := n') (c := c') (s := t) (St.got E (by simp)) HSJ.out).mono ?_); rintro e w2 ⟨rfl, hb2⟩; replace E := Lib.hid (St.step E.out hb2); clear hb2)))
 all_goals
   go_wp2_with fail
   go_ret
   exact ⟨ret_i64 HE.out, E.out.bel⟩
theorem refCmp_pn (A A' : Option Addr) (n c n' c' s t : Nat) (i j : Int) (w : World) (h : Num w w.heap.size A n c i.natAbs) (h' : Num w w.heap.size A' n' c' j.natAbs) (hn : n ≤ 1000000) (hn' : n' ≤ 1000000) (hs : s ≤ 100000) (ht : t ≤ 100000) (hsi : i.sign = 1) (hsj : j.sign = -1) :
   Calls Tryz.prog 35 #[.agg #[.bool (ngB i), .slice A n c, .int .i64 (s : Int)], .agg #[.bool (ngB j), .slice A' n' c', .int .i64 (t : Int)]] w (RetVal w (.int .i64 (cmpD i s j t))) := by
 have H := Lib.hid h
 have H' := Lib.hid h'
 clear h h'
 have HSI := Lib.hid hsi
 have HSJ := Lib.hid hsj
 have HE : Hid (cmpZ (1) (-1) = cmpD i s j t) := by
   have := cmpD_sign (i := i) (j := j) s t (by left; rw [hsi, hsj]; decide)
   rwa [hsi, hsj] at this
 clear hsi hsj
 go_enter Tryz.func35, Tryz.ntmps35
 go_wp2_with fail
 generalize hW : World.alloc (World.alloc w _) _ = W0
 have E0 : St w W0 [(A, n, c, (i).natAbs), (A', n', c', (j).natAbs)] [((w.heap.size + 1), (.bool (ngB j)), (.slice A' n' c'), (.int .i64 (t : Int))), (w.heap.size, (.bool (ngB i)), (.slice A n c), (.int .i64 (s : Int)))] := by rw [← hW]; exact ((start_two H.out H'.out).lay rfl).lay (by simp)
 have E := Lib.hid E0
 clear hW E0
 obtain ⟨p0, p1, p2, pf0, pf1, pf2, plt⟩ := St.at_ (x0 := (.bool (ngB i))) (x1 := (.slice A n c)) (x2 := (.int .i64 (s : Int))) (g := w.heap.size) E (by simp)
 obtain ⟨q0, q1, q2, qf0, qf1, qf2, qlt⟩ := St.at_ (x0 := (.bool (ngB j))) (x1 := (.slice A' n' c')) (x2 := (.int .i64 (t : Int))) (g := (w.heap.size + 1)) E (by simp)
 
 clear p0 p1 p2 pf0 pf1 pf2 plt q0 q1 q2 qf0 qf1 qf2 qlt
 replace E := Lib.hid (St.drew E.out)
 go_region_held3 (fun v => v.cell? ⟨w.heap.size, 0, none⟩ = some (.bool (ngB i)) ∧ v.cell? ⟨w.heap.size, 1, none⟩ = some (.slice A n c) ∧ v.cell? ⟨w.heap.size, 2, none⟩ = some (.int .i64 (s : Int)) ∧ v.cell? ⟨w.heap.size + 1, 0, none⟩ = some (.bool (ngB j)) ∧ v.cell? ⟨w.heap.size + 1, 1, none⟩ = some (.slice A' n' c') ∧ v.cell? ⟨w.heap.size + 1, 2, none⟩ = some (.int .i64 (t : Int))) (first | (have X0 := St.at_ (x0 := (.bool (ngB i))) (x1 := (.slice A n c)) (x2 := (.int .i64 (s : Int))) (g := w.heap.size) E (by simp); have X1 := St.at_ (x0 := (.bool (ngB j))) (x1 := (.slice A' n' c')) (x2 := (.int .i64 (t : Int))) (g := (w.heap.size + 1)) E (by simp); with_reducible exact ⟨X0.c0, X0.c1, X0.c2, X1.c0, X1.c1, X1.c2⟩))
   (first | (go_at_call 44; first | ((with_reducible refine (refSign_is (A := A) (n := n) (c := c) (s := s) (St.got E (by simp)) HSI.out).mono ?_); rintro e w1 ⟨rfl, hb1⟩; replace E := Lib.hid (St.step E.out hb1); clear hb1) | ((with_reducible refine (refSign_is (A := A') (n := n') (c := c') (s := t) (St.got E (by simp)) HSJ.out).mono ?_); rintro e w2 ⟨rfl, hb2⟩; replace E := Lib.hid (St.step E.out hb2); clear hb2)))
 all_goals
   go_wp2_with fail
   go_ret
   exact ⟨ret_i64 HE.out, E.out.bel⟩
theorem refCmp_nn (A A' : Option Addr) (n c n' c' s t : Nat) (i j : Int) (w : World) (h : Num w w.heap.size A n c i.natAbs) (h' : Num w w.heap.size A' n' c' j.natAbs) (hn : n ≤ 1000000) (hn' : n' ≤ 1000000) (hs : s ≤ 100000) (ht : t ≤ 100000) (hsi : i.sign = -1) (hsj : j.sign = -1) :
   Calls Tryz.prog 35 #[.agg #[.bool (ngB i), .slice A n c, .int .i64 (s : Int)], .agg #[.bool (ngB j), .slice A' n' c', .int .i64 (t : Int)]] w (RetVal w (.int .i64 (cmpD i s j t))) := by
 have H := Lib.hid h
 have H' := Lib.hid h'
 clear h h'
 have HSI := Lib.hid hsi
 have HSJ := Lib.hid hsj
 obtain ⟨M, hm⟩ : ∃ M, max s t = M := ⟨_, rfl⟩
 obtain ⟨z, hz⟩ : ∃ z, cmpN (up i s M).natAbs (up j t M).natAbs = z := ⟨_, rfl⟩
 have hzb := cmpN_size (up i s M).natAbs (up j t M).natAbs
 rw [hz] at hzb
 obtain ⟨hz1, hz2⟩ := hzb
 have HNG : Hid (ngB i = true) := decide_eq_true (Int.sign_eq_neg_one_iff_neg.1 hsi)
 have HE : Hid (-z = cmpD i s j t) := by
   show _ = _
   unfold cmpD
   rw [hm, ← hz]
   exact cmpZ_neg (Int.le_of_lt (up_neg _ _ (Int.sign_eq_neg_one_iff_neg.1 hsi))) (Int.le_of_lt (up_neg _ _ (Int.sign_eq_neg_one_iff_neg.1 hsj)))
 have HZ := Lib.hid hz
 have HA := Lib.hid (fun (w : World) h h' => refAlign_any A A' n c n' c' s t i j w h h' hn hn' hs ht)
 rw [hm] at HA
 clear hsi hsj hz hm
 go_enter Tryz.func35, Tryz.ntmps35
 go_wp2_with fail
 generalize hW : World.alloc (World.alloc w _) _ = W0
 have E0 : St w W0 [(A, n, c, (i).natAbs), (A', n', c', (j).natAbs)] [((w.heap.size + 1), (.bool (ngB j)), (.slice A' n' c'), (.int .i64 (t : Int))), (w.heap.size, (.bool (ngB i)), (.slice A n c), (.int .i64 (s : Int)))] := by rw [← hW]; exact ((start_two H.out H'.out).lay rfl).lay (by simp)
 have E := Lib.hid E0
 clear hW E0
 obtain ⟨p0, p1, p2, pf0, pf1, pf2, plt⟩ := St.at_ (x0 := (.bool (ngB i))) (x1 := (.slice A n c)) (x2 := (.int .i64 (s : Int))) (g := w.heap.size) E (by simp)
 obtain ⟨q0, q1, q2, qf0, qf1, qf2, qlt⟩ := St.at_ (x0 := (.bool (ngB j))) (x1 := (.slice A' n' c')) (x2 := (.int .i64 (t : Int))) (g := (w.heap.size + 1)) E (by simp)
 
 clear p0 p1 p2 pf0 pf1 pf2 plt q0 q1 q2 qf0 qf1 qf2 qlt
 replace E := Lib.hid (St.drew E.out)
 go_region_held3 (fun v => v.cell? ⟨w.heap.size, 0, none⟩ = some (.bool (ngB i)) ∧ v.cell? ⟨w.heap.size, 1, none⟩ = some (.slice A n c) ∧ v.cell? ⟨w.heap.size, 2, none⟩ = some (.int .i64 (s : Int)) ∧ v.cell? ⟨w.heap.size + 1, 0, none⟩ = some (.bool (ngB j)) ∧ v.cell? ⟨w.heap.size + 1, 1, none⟩ = some (.slice A' n' c') ∧ v.cell? ⟨w.heap.size + 1, 2, none⟩ = some (.int .i64 (t : Int))) (first | (have X0 := St.at_ (x0 := (.bool (ngB i))) (x1 := (.slice A n c)) (x2 := (.int .i64 (s : Int))) (g := w.heap.size) E (by simp); have X1 := St.at_ (x0 := (.bool (ngB j))) (x1 := (.slice A' n' c')) (x2 := (.int .i64 (t : Int))) (g := (w.heap.size + 1)) E (by simp); with_reducible exact ⟨X0.c0, X0.c1, X0.c2, X1.c0, X1.c1, X1.c2⟩))
   (first | (go_at_call 44; first | ((with_reducible refine (refSign_is (A := A) (n := n) (c := c) (s := s) (St.got E (by simp)) HSI.out).mono ?_); rintro e w1 ⟨rfl, hb1⟩; replace E := Lib.hid (St.step E.out hb1); clear hb1) | ((with_reducible refine (refSign_is (A := A') (n := n') (c := c') (s := t) (St.got E (by simp)) HSJ.out).mono ?_); rintro e w2 ⟨rfl, hb2⟩; replace E := Lib.hid (St.step E.out hb2); clear hb2)))
 all_goals
   obtain ⟨p0, p1, p2, pf0, pf1, pf2, plt⟩ := St.at_ (x0 := (.bool (ngB i))) (x1 := (.slice A n c)) (x2 := (.int .i64 (s : Int))) (g := w.heap.size) E (by simp)
   obtain ⟨q0, q1, q2, qf0, qf1, qf2, qlt⟩ := St.at_ (x0 := (.bool (ngB j))) (x1 := (.slice A' n' c')) (x2 := (.int .i64 (t : Int))) (g := (w.heap.size + 1)) E (by simp)
   go_wp2_with fail
   refine (HA.out _ (St.got E (by simp)) (St.got E (by simp))).mono ?_
   rintro e w4 ⟨A1, n1, c1, A2, n2, c2, rfl, h1, h2, hb4⟩
   replace E : Hid (St w w4 [(A1, n1, c1, (up i s M).natAbs), (A2, n2, c2, (up j t M).natAbs)] [((w.heap.size + 1), (.bool (ngB j)), (.slice A' n' c'), (.int .i64 (t : Int))), (w.heap.size, (.bool (ngB i)), (.slice A n c), (.int .i64 (s : Int)))]) := ⟨(E.out.step hb4).bel, (St.start w4 (l := [(A1, n1, c1, (up i s M).natAbs), (A2, n2, c2, (up j t M).natAbs)]) (by simp; exact ⟨h1, h2⟩)).num, (E.out.step hb4).box⟩
   clear h1 h2 hb4 p0 p1 p2 pf0 pf1 pf2 plt q0 q1 q2 qf0 qf1 qf2 qlt
   obtain ⟨p0, p1, p2, pf0, pf1, pf2, plt⟩ := St.at_ (x0 := (.bool (ngB i))) (x1 := (.slice A n c)) (x2 := (.int .i64 (s : Int))) (g := w.heap.size) E (by simp)
   obtain ⟨q0, q1, q2, qf0, qf1, qf2, qlt⟩ := St.at_ (x0 := (.bool (ngB j))) (x1 := (.slice A' n' c')) (x2 := (.int .i64 (t : Int))) (g := (w.heap.size + 1)) E (by simp)
   go_wp2_with fail
   clear p0 p1 p2 pf0 pf1 pf2 plt q0 q1 q2 qf0 qf1 qf2 qlt
   have E5 := Lib.hid (St.lay (t := 25) (x0 := .bool (ngB (up j t M))) (x1 := .slice A2 n2 c2) (x2 := .int .i64 (M : Int)) (g := w4.heap.size + 1) (St.lay (t := 25) (x0 := .bool (ngB (up i s M))) (x1 := .slice A1 n1 c1) (x2 := .int .i64 (M : Int)) (g := w4.heap.size) E.out rfl) (by simp))
   refine (refCmpN_is (St.got E5 (by simp)) (St.got E5 (by simp)) HZ.out).mono ?_; rintro e w5 ⟨rfl, hb5⟩; replace E := Lib.hid (St.step E5.out hb5); clear hb5 E5
   obtain ⟨p0, p1, p2, pf0, pf1, pf2, plt⟩ := St.at_ (x0 := (.bool (ngB i))) (x1 := (.slice A n c)) (x2 := (.int .i64 (s : Int))) (g := w.heap.size) E (by simp)
   have hng := HNG.out
   go_wp2_with fail
   go_ret
   exact ⟨ret_i64 HE.out, E.out.bel⟩
theorem refCmp_pp (A A' : Option Addr) (n c n' c' s t : Nat) (i j : Int) (w : World) (h : Num w w.heap.size A n c i.natAbs) (h' : Num w w.heap.size A' n' c' j.natAbs) (hn : n ≤ 1000000) (hn' : n' ≤ 1000000) (hs : s ≤ 100000) (ht : t ≤ 100000) (hsi : i.sign = 1) (hsj : j.sign = 1) :
   Calls Tryz.prog 35 #[.agg #[.bool (ngB i), .slice A n c, .int .i64 (s : Int)], .agg #[.bool (ngB j), .slice A' n' c', .int .i64 (t : Int)]] w (RetVal w (.int .i64 (cmpD i s j t))) := by
 have H := Lib.hid h
 have H' := Lib.hid h'
 clear h h'
 have HSI := Lib.hid hsi
 have HSJ := Lib.hid hsj
 obtain ⟨M, hm⟩ : ∃ M, max s t = M := ⟨_, rfl⟩
 obtain ⟨z, hz⟩ : ∃ z, cmpN (up i s M).natAbs (up j t M).natAbs = z := ⟨_, rfl⟩
 have hzb := cmpN_size (up i s M).natAbs (up j t M).natAbs
 rw [hz] at hzb
 obtain ⟨hz1, hz2⟩ := hzb
 have HNG : Hid (ngB i = false) := decide_eq_false (by have := Int.sign_eq_one_iff_pos.1 hsi; omega)
 have HE : Hid (z = cmpD i s j t) := by
   show _ = _
   unfold cmpD
   rw [hm, ← hz]
   exact cmpZ_pos (Int.le_of_lt (up_pos _ _ (Int.sign_eq_one_iff_pos.1 hsi))) (Int.le_of_lt (up_pos _ _ (Int.sign_eq_one_iff_pos.1 hsj)))
 have HZ := Lib.hid hz
 have HA := Lib.hid (fun (w : World) h h' => refAlign_any A A' n c n' c' s t i j w h h' hn hn' hs ht)
 rw [hm] at HA
 clear hsi hsj hz hm
 go_enter Tryz.func35, Tryz.ntmps35
 go_wp2_with fail
 generalize hW : World.alloc (World.alloc w _) _ = W0
 have E0 : St w W0 [(A, n, c, (i).natAbs), (A', n', c', (j).natAbs)] [((w.heap.size + 1), (.bool (ngB j)), (.slice A' n' c'), (.int .i64 (t : Int))), (w.heap.size, (.bool (ngB i)), (.slice A n c), (.int .i64 (s : Int)))] := by rw [← hW]; exact ((start_two H.out H'.out).lay rfl).lay (by simp)
 have E := Lib.hid E0
 clear hW E0
 obtain ⟨p0, p1, p2, pf0, pf1, pf2, plt⟩ := St.at_ (x0 := (.bool (ngB i))) (x1 := (.slice A n c)) (x2 := (.int .i64 (s : Int))) (g := w.heap.size) E (by simp)
 obtain ⟨q0, q1, q2, qf0, qf1, qf2, qlt⟩ := St.at_ (x0 := (.bool (ngB j))) (x1 := (.slice A' n' c')) (x2 := (.int .i64 (t : Int))) (g := (w.heap.size + 1)) E (by simp)
 
 clear p0 p1 p2 pf0 pf1 pf2 plt q0 q1 q2 qf0 qf1 qf2 qlt
 replace E := Lib.hid (St.drew E.out)
 go_region_held3 (fun v => v.cell? ⟨w.heap.size, 0, none⟩ = some (.bool (ngB i)) ∧ v.cell? ⟨w.heap.size, 1, none⟩ = some (.slice A n c) ∧ v.cell? ⟨w.heap.size, 2, none⟩ = some (.int .i64 (s : Int)) ∧ v.cell? ⟨w.heap.size + 1, 0, none⟩ = some (.bool (ngB j)) ∧ v.cell? ⟨w.heap.size + 1, 1, none⟩ = some (.slice A' n' c') ∧ v.cell? ⟨w.heap.size + 1, 2, none⟩ = some (.int .i64 (t : Int))) (first | (have X0 := St.at_ (x0 := (.bool (ngB i))) (x1 := (.slice A n c)) (x2 := (.int .i64 (s : Int))) (g := w.heap.size) E (by simp); have X1 := St.at_ (x0 := (.bool (ngB j))) (x1 := (.slice A' n' c')) (x2 := (.int .i64 (t : Int))) (g := (w.heap.size + 1)) E (by simp); with_reducible exact ⟨X0.c0, X0.c1, X0.c2, X1.c0, X1.c1, X1.c2⟩))
   (first | (go_at_call 44; first | ((with_reducible refine (refSign_is (A := A) (n := n) (c := c) (s := s) (St.got E (by simp)) HSI.out).mono ?_); rintro e w1 ⟨rfl, hb1⟩; replace E := Lib.hid (St.step E.out hb1); clear hb1) | ((with_reducible refine (refSign_is (A := A') (n := n') (c := c') (s := t) (St.got E (by simp)) HSJ.out).mono ?_); rintro e w2 ⟨rfl, hb2⟩; replace E := Lib.hid (St.step E.out hb2); clear hb2)))
 all_goals
   obtain ⟨p0, p1, p2, pf0, pf1, pf2, plt⟩ := St.at_ (x0 := (.bool (ngB i))) (x1 := (.slice A n c)) (x2 := (.int .i64 (s : Int))) (g := w.heap.size) E (by simp)
   obtain ⟨q0, q1, q2, qf0, qf1, qf2, qlt⟩ := St.at_ (x0 := (.bool (ngB j))) (x1 := (.slice A' n' c')) (x2 := (.int .i64 (t : Int))) (g := (w.heap.size + 1)) E (by simp)
   go_wp2_with fail
   refine (HA.out _ (St.got E (by simp)) (St.got E (by simp))).mono ?_
   rintro e w4 ⟨A1, n1, c1, A2, n2, c2, rfl, h1, h2, hb4⟩
   replace E : Hid (St w w4 [(A1, n1, c1, (up i s M).natAbs), (A2, n2, c2, (up j t M).natAbs)] [((w.heap.size + 1), (.bool (ngB j)), (.slice A' n' c'), (.int .i64 (t : Int))), (w.heap.size, (.bool (ngB i)), (.slice A n c), (.int .i64 (s : Int)))]) := ⟨(E.out.step hb4).bel, (St.start w4 (l := [(A1, n1, c1, (up i s M).natAbs), (A2, n2, c2, (up j t M).natAbs)]) (by simp; exact ⟨h1, h2⟩)).num, (E.out.step hb4).box⟩
   clear h1 h2 hb4 p0 p1 p2 pf0 pf1 pf2 plt q0 q1 q2 qf0 qf1 qf2 qlt
   obtain ⟨p0, p1, p2, pf0, pf1, pf2, plt⟩ := St.at_ (x0 := (.bool (ngB i))) (x1 := (.slice A n c)) (x2 := (.int .i64 (s : Int))) (g := w.heap.size) E (by simp)
   obtain ⟨q0, q1, q2, qf0, qf1, qf2, qlt⟩ := St.at_ (x0 := (.bool (ngB j))) (x1 := (.slice A' n' c')) (x2 := (.int .i64 (t : Int))) (g := (w.heap.size + 1)) E (by simp)
   go_wp2_with fail
   clear p0 p1 p2 pf0 pf1 pf2 plt q0 q1 q2 qf0 qf1 qf2 qlt
   have E5 := Lib.hid (St.lay (t := 25) (x0 := .bool (ngB (up j t M))) (x1 := .slice A2 n2 c2) (x2 := .int .i64 (M : Int)) (g := w4.heap.size + 1) (St.lay (t := 25) (x0 := .bool (ngB (up i s M))) (x1 := .slice A1 n1 c1) (x2 := .int .i64 (M : Int)) (g := w4.heap.size) E.out rfl) (by simp))
   refine (refCmpN_is (St.got E5 (by simp)) (St.got E5 (by simp)) HZ.out).mono ?_; rintro e w5 ⟨rfl, hb5⟩; replace E := Lib.hid (St.step E5.out hb5); clear hb5 E5
   obtain ⟨p0, p1, p2, pf0, pf1, pf2, plt⟩ := St.at_ (x0 := (.bool (ngB i))) (x1 := (.slice A n c)) (x2 := (.int .i64 (s : Int))) (g := w.heap.size) E (by simp)
   have hng := HNG.out
   go_wp2_with fail
   go_ret
   exact ⟨ret_i64 HE.out, E.out.bel⟩
theorem refCmp5_any (A A' : Option Addr) (n c n' c' s t : Nat) (i j : Int) (w : World) (h : Num w w.heap.size A n c i.natAbs) (h' : Num w w.heap.size A' n' c' j.natAbs) (hn : n ≤ 1000000) (hn' : n' ≤ 1000000) (hs : s ≤ 100000) (ht : t ≤ 100000) :
   Calls Tryz.prog 35 #[.agg #[.bool (ngB i), .slice A n c, .int .i64 (s : Int)], .agg #[.bool (ngB j), .slice A' n' c', .int .i64 (t : Int)]] w (RetVal w (.int .i64 (cmpD i s j t))) := by
 rcases Int.lt_trichotomy i 0 with hi | hi | hi <;> rcases Int.lt_trichotomy j 0 with hj | hj | hj
 · exact refCmp_nn A A' n c n' c' s t i j w h h' hn hn' hs ht (Int.sign_eq_neg_one_iff_neg.2 hi) (Int.sign_eq_neg_one_iff_neg.2 hj)
 · exact refCmp_nz A A' n c n' c' s t i j w h h' hn hn' hs ht (Int.sign_eq_neg_one_iff_neg.2 hi) (Int.sign_eq_zero_iff_zero.2 hj)
 · exact refCmp_np A A' n c n' c' s t i j w h h' hn hn' hs ht (Int.sign_eq_neg_one_iff_neg.2 hi) (Int.sign_eq_one_iff_pos.2 hj)
 · exact refCmp_zn A A' n c n' c' s t i j w h h' hn hn' hs ht (Int.sign_eq_zero_iff_zero.2 hi) (Int.sign_eq_neg_one_iff_neg.2 hj)
 · exact refCmp_zz A A' n c n' c' s t i j w h h' hn hn' hs ht (Int.sign_eq_zero_iff_zero.2 hi) (Int.sign_eq_zero_iff_zero.2 hj)
 · exact refCmp_zp A A' n c n' c' s t i j w h h' hn hn' hs ht (Int.sign_eq_zero_iff_zero.2 hi) (Int.sign_eq_one_iff_pos.2 hj)
 · exact refCmp_pn A A' n c n' c' s t i j w h h' hn hn' hs ht (Int.sign_eq_one_iff_pos.2 hi) (Int.sign_eq_neg_one_iff_neg.2 hj)
 · exact refCmp_pz A A' n c n' c' s t i j w h h' hn hn' hs ht (Int.sign_eq_one_iff_pos.2 hi) (Int.sign_eq_zero_iff_zero.2 hj)
 · exact refCmp_pp A A' n c n' c' s t i j w h h' hn hn' hs ht (Int.sign_eq_one_iff_pos.2 hi) (Int.sign_eq_one_iff_pos.2 hj)
end Go.Proofs.YthlhpgphmfnlgaaGreat
/-
 Contracts of layer 5, the ninth part: Alike, Right and the document's; Long.
-/
namespace Go.Proofs.YthlhpgphmfnlgaaGreat
open Go.RowKit
def alikeB (i : Int) (s : Nat) (j : Int) (t : Nat) : Bool := decide (i = j ∧ s = t)
theorem alike_yes {i j : Int} {s t : Nat} (h : i = j) (h' : s = t) : alikeB i s j t = true := decide_eq_true ⟨h, h'⟩
theorem alike_no {i j : Int} {s t : Nat} (h : ¬ (i = j ∧ s = t)) : alikeB i s j t = false := decide_eq_false h
theorem alike_abs {i j : Int} {s : Nat} (h : ngB i = ngB j) : decide (i.natAbs = j.natAbs) = alikeB i s j s := by
 unfold alikeB
 unfold ngB at h
 by_cases e : i.natAbs = j.natAbs
 · have : i = j := by
     have h2 : (i < 0) ↔ (j < 0) := by simpa using h
     omega
   rw [decide_eq_true e, decide_eq_true ⟨this, rfl⟩]
 · rw [decide_eq_false e, decide_eq_false (by intro h3; exact e (by rw [h3.1]))]
theorem bool_eq {a b : Bool} (h : a = b) : (a == b) = true := by subst h; simp
theorem bool_ne {a b : Bool} (h : a ≠ b) : (a == b) = false := by simpa using h
theorem alike_sign (A A' : Option Addr) (n c n' c' s t : Nat) (i j : Int) (w : World) (h : Num w w.heap.size A n c i.natAbs) (h' : Num w w.heap.size A' n' c' j.natAbs) (hb : ngB i ≠ ngB j) :
   Calls Tryz.prog 16 #[.agg #[.bool (ngB i), .slice A n c, .int .i64 (s : Int)], .agg #[.bool (ngB j), .slice A' n' c', .int .i64 (t : Int)]] w (RetVal w (.bool false)) := by
 have H := Lib.hid h
 have H' := Lib.hid h'
 clear h h'
 have hb2 := bool_ne hb
 clear hb
 go_enter Tryz.func16, Tryz.ntmps16
 go_wp2_with fail
 generalize hW : World.alloc (World.alloc w _) _ = W0
 have E0 : St w W0 [(A, n, c, (i).natAbs), (A', n', c', (j).natAbs)] [((w.heap.size + 1), (.bool (ngB j)), (.slice A' n' c'), (.int .i64 (t : Int))), (w.heap.size, (.bool (ngB i)), (.slice A n c), (.int .i64 (s : Int)))] := by rw [← hW]; exact ((start_two H.out H'.out).lay rfl).lay (by simp)
 have E := Lib.hid E0
 clear hW E0
 obtain ⟨p0, p1, p2, pf0, pf1, pf2, plt⟩ := St.at_ (x0 := (.bool (ngB i))) (x1 := (.slice A n c)) (x2 := (.int .i64 (s : Int))) (g := w.heap.size) E (by simp)
 obtain ⟨q0, q1, q2, qf0, qf1, qf2, qlt⟩ := St.at_ (x0 := (.bool (ngB j))) (x1 := (.slice A' n' c')) (x2 := (.int .i64 (t : Int))) (g := (w.heap.size + 1)) E (by simp)
 go_wp2_with fail
 go_ret
 exact ⟨rfl, E.out.bel⟩
theorem alike_scale (A A' : Option Addr) (n c n' c' s t : Nat) (i j : Int) (w : World) (h : Num w w.heap.size A n c i.natAbs) (h' : Num w w.heap.size A' n' c' j.natAbs) (hb : ngB i = ngB j) (hst : s ≠ t) :
   Calls Tryz.prog 16 #[.agg #[.bool (ngB i), .slice A n c, .int .i64 (s : Int)], .agg #[.bool (ngB j), .slice A' n' c', .int .i64 (t : Int)]] w (RetVal w (.bool false)) := by
 have H := Lib.hid h
 have H' := Lib.hid h'
 clear h h'
 have hb2 := bool_eq hb
 have hst2 : ((s : Int) == (t : Int)) = false := by simp; omega
 clear hb hst
 go_enter Tryz.func16, Tryz.ntmps16
 go_wp2_with fail
 generalize hW : World.alloc (World.alloc w _) _ = W0
 have E0 : St w W0 [(A, n, c, (i).natAbs), (A', n', c', (j).natAbs)] [((w.heap.size + 1), (.bool (ngB j)), (.slice A' n' c'), (.int .i64 (t : Int))), (w.heap.size, (.bool (ngB i)), (.slice A n c), (.int .i64 (s : Int)))] := by rw [← hW]; exact ((start_two H.out H'.out).lay rfl).lay (by simp)
 have E := Lib.hid E0
 clear hW E0
 obtain ⟨p0, p1, p2, pf0, pf1, pf2, plt⟩ := St.at_ (x0 := (.bool (ngB i))) (x1 := (.slice A n c)) (x2 := (.int .i64 (s : Int))) (g := w.heap.size) E (by simp)
 obtain ⟨q0, q1, q2, qf0, qf1, qf2, qlt⟩ := St.at_ (x0 := (.bool (ngB j))) (x1 := (.slice A' n' c')) (x2 := (.int .i64 (t : Int))) (g := (w.heap.size + 1)) E (by simp)
 go_wp2_with fail
 go_ret
 exact ⟨rfl, E.out.bel⟩
theorem alike_rest (A A' : Option Addr) (n c n' c' s : Nat) (i j : Int) (w : World) (h : Num w w.heap.size A n c i.natAbs) (h' : Num w w.heap.size A' n' c' j.natAbs) (hb : ngB i = ngB j) :
   Calls Tryz.prog 16 #[.agg #[.bool (ngB i), .slice A n c, .int .i64 (s : Int)], .agg #[.bool (ngB j), .slice A' n' c', .int .i64 (s : Int)]] w (RetVal w (.bool (alikeB i s j s))) := by
 have H := Lib.hid h
 have H' := Lib.hid h'
 clear h h'
 have hb2 := bool_eq hb
 have HX := Lib.hid (alike_abs (s := s) hb)
 clear hb
 go_enter Tryz.func16, Tryz.ntmps16
 go_wp2_with fail
 generalize hW : World.alloc (World.alloc w _) _ = W0
 have E0 : St w W0 [(A, n, c, (i).natAbs), (A', n', c', (j).natAbs)] [((w.heap.size + 1), (.bool (ngB j)), (.slice A' n' c'), (.int .i64 (s : Int))), (w.heap.size, (.bool (ngB i)), (.slice A n c), (.int .i64 (s : Int)))] := by rw [← hW]; exact ((start_two H.out H'.out).lay rfl).lay (by simp)
 have E := Lib.hid E0
 clear hW E0
 obtain ⟨p0, p1, p2, pf0, pf1, pf2, plt⟩ := St.at_ (x0 := (.bool (ngB i))) (x1 := (.slice A n c)) (x2 := (.int .i64 (s : Int))) (g := w.heap.size) E (by simp)
 obtain ⟨q0, q1, q2, qf0, qf1, qf2, qlt⟩ := St.at_ (x0 := (.bool (ngB j))) (x1 := (.slice A' n' c')) (x2 := (.int .i64 (s : Int))) (g := (w.heap.size + 1)) E (by simp)
 go_wp2_with fail
 refine (same_any A A' n c n' c' i.natAbs j.natAbs _ (St.got E (by simp)) (St.got E (by simp))).mono ?_; rintro e w1 ⟨rfl, hb1⟩; replace E := Lib.hid (St.step E.out hb1); clear hb1
 rw [HX.out]
 go_wp2_with fail
 go_ret
 exact ⟨rfl, E.out.bel⟩
theorem alike_any (A A' : Option Addr) (n c n' c' s t : Nat) (i j : Int) (w : World) (h : Num w w.heap.size A n c i.natAbs) (h' : Num w w.heap.size A' n' c' j.natAbs) :
   Calls Tryz.prog 16 #[.agg #[.bool (ngB i), .slice A n c, .int .i64 (s : Int)], .agg #[.bool (ngB j), .slice A' n' c', .int .i64 (t : Int)]] w (RetVal w (.bool (alikeB i s j t))) := by
 by_cases hb : ngB i = ngB j
 · by_cases hst : s = t
   · subst hst
     exact alike_rest A A' n c n' c' s i j w h h' hb
   · rw [alike_no (by omega)]
     exact alike_scale A A' n c n' c' s t i j w h h' hb hst
 · rw [alike_no (by rintro ⟨h1, _⟩; exact hb (by rw [h1]))]
   exact alike_sign A A' n c n' c' s t i j w h h' hb
theorem refAlike_sign (A A' : Option Addr) (n c n' c' s t : Nat) (i j : Int) (w : World) (h : Num w w.heap.size A n c i.natAbs) (h' : Num w w.heap.size A' n' c' j.natAbs) (hb : ngB i ≠ ngB j) :
   Calls Tryz.prog 8 #[.agg #[.bool (ngB i), .slice A n c, .int .i64 (s : Int)], .agg #[.bool (ngB j), .slice A' n' c', .int .i64 (t : Int)]] w (RetVal w (.bool false)) := by
 have H := Lib.hid h
 have H' := Lib.hid h'
 clear h h'
 have hb2 := bool_ne hb
 clear hb
 go_enter Tryz.func8, Tryz.ntmps8
 go_wp2_with fail
 generalize hW : World.alloc (World.alloc w _) _ = W0
 have E0 : St w W0 [(A, n, c, (i).natAbs), (A', n', c', (j).natAbs)] [((w.heap.size + 1), (.bool (ngB j)), (.slice A' n' c'), (.int .i64 (t : Int))), (w.heap.size, (.bool (ngB i)), (.slice A n c), (.int .i64 (s : Int)))] := by rw [← hW]; exact ((start_two H.out H'.out).lay rfl).lay (by simp)
 have E := Lib.hid E0
 clear hW E0
 obtain ⟨p0, p1, p2, pf0, pf1, pf2, plt⟩ := St.at_ (x0 := (.bool (ngB i))) (x1 := (.slice A n c)) (x2 := (.int .i64 (s : Int))) (g := w.heap.size) E (by simp)
 obtain ⟨q0, q1, q2, qf0, qf1, qf2, qlt⟩ := St.at_ (x0 := (.bool (ngB j))) (x1 := (.slice A' n' c')) (x2 := (.int .i64 (t : Int))) (g := (w.heap.size + 1)) E (by simp)
 go_wp2_with fail
 go_ret
 exact ⟨rfl, E.out.bel⟩
theorem refAlike_scale (A A' : Option Addr) (n c n' c' s t : Nat) (i j : Int) (w : World) (h : Num w w.heap.size A n c i.natAbs) (h' : Num w w.heap.size A' n' c' j.natAbs) (hb : ngB i = ngB j) (hst : s ≠ t) :
   Calls Tryz.prog 8 #[.agg #[.bool (ngB i), .slice A n c, .int .i64 (s : Int)], .agg #[.bool (ngB j), .slice A' n' c', .int .i64 (t : Int)]] w (RetVal w (.bool false)) := by
 have H := Lib.hid h
 have H' := Lib.hid h'
 clear h h'
 have hb2 := bool_eq hb
 have hst2 : ((s : Int) == (t : Int)) = false := by simp; omega
 clear hb hst
 go_enter Tryz.func8, Tryz.ntmps8
 go_wp2_with fail
 generalize hW : World.alloc (World.alloc w _) _ = W0
 have E0 : St w W0 [(A, n, c, (i).natAbs), (A', n', c', (j).natAbs)] [((w.heap.size + 1), (.bool (ngB j)), (.slice A' n' c'), (.int .i64 (t : Int))), (w.heap.size, (.bool (ngB i)), (.slice A n c), (.int .i64 (s : Int)))] := by rw [← hW]; exact ((start_two H.out H'.out).lay rfl).lay (by simp)
 have E := Lib.hid E0
 clear hW E0
 obtain ⟨p0, p1, p2, pf0, pf1, pf2, plt⟩ := St.at_ (x0 := (.bool (ngB i))) (x1 := (.slice A n c)) (x2 := (.int .i64 (s : Int))) (g := w.heap.size) E (by simp)
 obtain ⟨q0, q1, q2, qf0, qf1, qf2, qlt⟩ := St.at_ (x0 := (.bool (ngB j))) (x1 := (.slice A' n' c')) (x2 := (.int .i64 (t : Int))) (g := (w.heap.size + 1)) E (by simp)
 go_wp2_with fail
 go_ret
 exact ⟨rfl, E.out.bel⟩
theorem refAlike_rest (A A' : Option Addr) (n c n' c' s : Nat) (i j : Int) (w : World) (h : Num w w.heap.size A n c i.natAbs) (h' : Num w w.heap.size A' n' c' j.natAbs) (hb : ngB i = ngB j) :
   Calls Tryz.prog 8 #[.agg #[.bool (ngB i), .slice A n c, .int .i64 (s : Int)], .agg #[.bool (ngB j), .slice A' n' c', .int .i64 (s : Int)]] w (RetVal w (.bool (alikeB i s j s))) := by
 have H := Lib.hid h
 have H' := Lib.hid h'
 clear h h'
 have hb2 := bool_eq hb
 have HX := Lib.hid (alike_abs (s := s) hb)
 clear hb
 go_enter Tryz.func8, Tryz.ntmps8
 go_wp2_with fail
 generalize hW : World.alloc (World.alloc w _) _ = W0
 have E0 : St w W0 [(A, n, c, (i).natAbs), (A', n', c', (j).natAbs)] [((w.heap.size + 1), (.bool (ngB j)), (.slice A' n' c'), (.int .i64 (s : Int))), (w.heap.size, (.bool (ngB i)), (.slice A n c), (.int .i64 (s : Int)))] := by rw [← hW]; exact ((start_two H.out H'.out).lay rfl).lay (by simp)
 have E := Lib.hid E0
 clear hW E0
 obtain ⟨p0, p1, p2, pf0, pf1, pf2, plt⟩ := St.at_ (x0 := (.bool (ngB i))) (x1 := (.slice A n c)) (x2 := (.int .i64 (s : Int))) (g := w.heap.size) E (by simp)
 obtain ⟨q0, q1, q2, qf0, qf1, qf2, qlt⟩ := St.at_ (x0 := (.bool (ngB j))) (x1 := (.slice A' n' c')) (x2 := (.int .i64 (s : Int))) (g := (w.heap.size + 1)) E (by simp)
 go_wp2_with fail
 refine (refSame_any A A' n c n' c' i.natAbs j.natAbs _ (St.got E (by simp)) (St.got E (by simp))).mono ?_; rintro e w1 ⟨rfl, hb1⟩; replace E := Lib.hid (St.step E.out hb1); clear hb1
 rw [HX.out]
 go_wp2_with fail
 go_ret
 exact ⟨rfl, E.out.bel⟩
theorem refAlike_any (A A' : Option Addr) (n c n' c' s t : Nat) (i j : Int) (w : World) (h : Num w w.heap.size A n c i.natAbs) (h' : Num w w.heap.size A' n' c' j.natAbs) :
   Calls Tryz.prog 8 #[.agg #[.bool (ngB i), .slice A n c, .int .i64 (s : Int)], .agg #[.bool (ngB j), .slice A' n' c', .int .i64 (t : Int)]] w (RetVal w (.bool (alikeB i s j t))) := by
 by_cases hb : ngB i = ngB j
 · by_cases hst : s = t
   · subst hst
     exact refAlike_rest A A' n c n' c' s i j w h h' hb
   · rw [alike_no (by omega)]
     exact refAlike_scale A A' n c n' c' s t i j w h h' hb hst
 · rw [alike_no (by rintro ⟨h1, _⟩; exact hb (by rw [h1]))]
   exact refAlike_sign A A' n c n' c' s t i j w h h' hb
def rightD (b : Bool) (n : Nat) (xs : List Nat) (k : Int) : Bool := rightB xs && (decide (0 ≤ k) && !(b && decide (n = 0)))
theorem refRight5_xs (b : Bool) (A : Option Addr) (n c : Nat) (xs : List Nat) (k : Int) (w : World) (h : Lim w w.heap.size A n c xs) (hx : rightB xs = false) :
   Calls Tryz.prog 13 #[.agg #[.bool b, .slice A n c, .int .i64 k]] w (RetVal w (.bool false)) := by
 have H := Lib.hid h
 have HX := Lib.hid hx
 clear h hx
 skip
 go_enter Tryz.func13, Tryz.ntmps13
 go_wp2_with fail
 refine (refRight_any A _ c w.heap.size xs _ (Lim.keep H.out (fun p hp => ?_))).mono ?_
 · exact ((Below.refl w.heap.size w).alloc (Nat.le_refl _) _).cell hp
 rw [HX.out]
 rintro e w' ⟨rfl, rfl⟩
 go_wp2_with fail
 all_goals first | (exfalso; omega) | (go_ret; exact ⟨rfl, (Below.refl _ _).alloc (Nat.le_refl _) _⟩)
theorem refRight5_sc (b : Bool) (A : Option Addr) (n c : Nat) (xs : List Nat) (k : Int) (w : World) (h : Lim w w.heap.size A n c xs) (hx : rightB xs = true) (hk : k < 0) :
   Calls Tryz.prog 13 #[.agg #[.bool b, .slice A n c, .int .i64 k]] w (RetVal w (.bool false)) := by
 have H := Lib.hid h
 have HX := Lib.hid hx
 clear h hx
 skip
 go_enter Tryz.func13, Tryz.ntmps13
 go_wp2_with fail
 refine (refRight_any A _ c w.heap.size xs _ (Lim.keep H.out (fun p hp => ?_))).mono ?_
 · exact ((Below.refl w.heap.size w).alloc (Nat.le_refl _) _).cell hp
 rw [HX.out]
 rintro e w' ⟨rfl, rfl⟩
 go_wp2_with fail
 all_goals first | (exfalso; omega) | (go_ret; exact ⟨rfl, (Below.refl _ _).alloc (Nat.le_refl _) _⟩)
theorem refRight5_pos (b : Bool) (A : Option Addr) (n c : Nat) (xs : List Nat) (k : Int) (w : World) (h : Lim w w.heap.size A n c xs) (hx : rightB xs = true) (hk : 0 ≤ k) (hb : b = false) :
   Calls Tryz.prog 13 #[.agg #[.bool b, .slice A n c, .int .i64 k]] w (RetVal w (.bool true)) := by
 have H := Lib.hid h
 have HX := Lib.hid hx
 clear h hx
 subst hb
 go_enter Tryz.func13, Tryz.ntmps13
 go_wp2_with fail
 refine (refRight_any A _ c w.heap.size xs _ (Lim.keep H.out (fun p hp => ?_))).mono ?_
 · exact ((Below.refl w.heap.size w).alloc (Nat.le_refl _) _).cell hp
 rw [HX.out]
 rintro e w' ⟨rfl, rfl⟩
 go_wp2_with fail
 all_goals first | (exfalso; omega) | (go_ret; exact ⟨rfl, (Below.refl _ _).alloc (Nat.le_refl _) _⟩)
theorem refRight5_not (b : Bool) (A : Option Addr) (n c : Nat) (xs : List Nat) (k : Int) (w : World) (h : Lim w w.heap.size A n c xs) (hx : rightB xs = true) (hk : 0 ≤ k) (hb : b = true) (hn : n = 0) :
   Calls Tryz.prog 13 #[.agg #[.bool b, .slice A n c, .int .i64 k]] w (RetVal w (.bool false)) := by
 have H := Lib.hid h
 have HX := Lib.hid hx
 clear h hx
 subst hb; subst hn
 go_enter Tryz.func13, Tryz.ntmps13
 go_wp2_with fail
 refine (refRight_any A _ c w.heap.size xs _ (Lim.keep H.out (fun p hp => ?_))).mono ?_
 · exact ((Below.refl w.heap.size w).alloc (Nat.le_refl _) _).cell hp
 rw [HX.out]
 rintro e w' ⟨rfl, rfl⟩
 go_wp2_with fail
 all_goals first | (exfalso; omega) | (go_ret; exact ⟨rfl, (Below.refl _ _).alloc (Nat.le_refl _) _⟩)
theorem refRight5_neg (b : Bool) (A : Option Addr) (n c : Nat) (xs : List Nat) (k : Int) (w : World) (h : Lim w w.heap.size A n c xs) (hx : rightB xs = true) (hk : 0 ≤ k) (hb : b = true) (hn : 0 < n) :
   Calls Tryz.prog 13 #[.agg #[.bool b, .slice A n c, .int .i64 k]] w (RetVal w (.bool true)) := by
 have H := Lib.hid h
 have HX := Lib.hid hx
 clear h hx
 subst hb; have hn2 : ((n : Int) == 0) = false := (by simp; omega)
 go_enter Tryz.func13, Tryz.ntmps13
 go_wp2_with fail
 refine (refRight_any A _ c w.heap.size xs _ (Lim.keep H.out (fun p hp => ?_))).mono ?_
 · exact ((Below.refl w.heap.size w).alloc (Nat.le_refl _) _).cell hp
 rw [HX.out]
 rintro e w' ⟨rfl, rfl⟩
 go_wp2_with fail
 all_goals first | (exfalso; omega) | (go_ret; exact ⟨rfl, (Below.refl _ _).alloc (Nat.le_refl _) _⟩)
theorem refRight5_any (b : Bool) (A : Option Addr) (n c : Nat) (xs : List Nat) (k : Int) (w : World) (h : Lim w w.heap.size A n c xs) :
   Calls Tryz.prog 13 #[.agg #[.bool b, .slice A n c, .int .i64 k]] w (RetVal w (.bool (rightD b n xs k))) := by
 unfold rightD
 cases hx : rightB xs with
 | false => exact refRight5_xs b A n c xs k w h hx
 | true =>
   rcases Int.lt_or_le k 0 with hk | hk
   · rw [decide_eq_false (by omega)]; exact refRight5_sc b A n c xs k w h hx hk
   · rw [decide_eq_true hk]
     cases hb : b with
     | false => rw [← hb]; exact (by rw [hb]; exact refRight5_pos false A n c xs k w h hx hk rfl)
     | true =>
       rcases Nat.eq_zero_or_pos n with hn | hn
       · rw [decide_eq_true hn]; exact refRight5_not true A n c xs k w h hx hk rfl hn
       · rw [decide_eq_false (by omega)]; exact refRight5_neg true A n c xs k w h hx hk rfl hn
def longB (b : Bool) (n : Nat) (xs : List Nat) (k : Int) : Bool := decide (12 < n) || (decide (60 < k) || !rightD b n xs k)
theorem long_n (b : Bool) (A : Option Addr) (n c : Nat) (xs : List Nat) (k : Int) (w : World) (h : Lim w w.heap.size A n c xs) (hn : 12 < n) :
   Calls Tryz.prog 4 #[.agg #[.bool b, .slice A n c, .int .i64 k]] w (RetVal w (.bool true)) := by
 have H := Lib.hid h
 clear h
 skip
 go_enter Tryz.func4, Tryz.ntmps4
 go_wp2_with fail
 go_ret
 exact ⟨rfl, (Below.refl _ _).alloc (Nat.le_refl _) _⟩
theorem long_k (b : Bool) (A : Option Addr) (n c : Nat) (xs : List Nat) (k : Int) (w : World) (h : Lim w w.heap.size A n c xs) (hn : n ≤ 12) (hk : 60 < k) :
   Calls Tryz.prog 4 #[.agg #[.bool b, .slice A n c, .int .i64 k]] w (RetVal w (.bool true)) := by
 have H := Lib.hid h
 clear h
 skip
 go_enter Tryz.func4, Tryz.ntmps4
 go_wp2_with fail
 go_ret
 exact ⟨rfl, (Below.refl _ _).alloc (Nat.le_refl _) _⟩
theorem long_r (b : Bool) (A : Option Addr) (n c : Nat) (xs : List Nat) (k : Int) (w : World) (h : Lim w w.heap.size A n c xs) (hn : n ≤ 12) (hk : k ≤ 60) :
   Calls Tryz.prog 4 #[.agg #[.bool b, .slice A n c, .int .i64 k]] w (RetVal w (.bool (!rightD b n xs k))) := by
 have H := Lib.hid h
 clear h
 have hn2 : decide ((12 : Int) < (n : Int)) = false := decide_eq_false (by omega); have hk2 : decide ((60 : Int) < k) = false := decide_eq_false (by omega)
 go_enter Tryz.func4, Tryz.ntmps4
 go_wp2_with fail
 refine (refRight5_any b A n c xs k _ (H.out.on ((Below.refl _ _).alloc (Nat.le_refl _) _))).mono ?_; rintro e w1 ⟨rfl, hb1⟩
 have HB := Lib.hid (((Below.refl w.heap.size w).alloc (Nat.le_refl _) _).trans (hb1.mono (by simp)))
 clear hb1
 go_wp2_with fail
 go_ret
 exact ⟨rfl, HB.out⟩
theorem long5_any (b : Bool) (A : Option Addr) (n c : Nat) (xs : List Nat) (k : Int) (w : World) (h : Lim w w.heap.size A n c xs) :
   Calls Tryz.prog 4 #[.agg #[.bool b, .slice A n c, .int .i64 k]] w (RetVal w (.bool (longB b n xs k))) := by
 unfold longB
 rcases Nat.lt_or_ge 12 n with hn | hn
 · rw [decide_eq_true hn]; exact long_n b A n c xs k w h hn
 · rw [decide_eq_false (by omega)]
   rcases Int.lt_or_le 60 k with hk | hk
   · rw [decide_eq_true hk]; exact long_k b A n c xs k w h hn hk
   · rw [decide_eq_false (by omega)]; exact long_r b A n c xs k w h hn hk
theorem of_long {b : Bool} {n c B : Nat} {xs : List Nat} {k : Int} {w : World} {A : Option Addr} (hl : longB b n xs k = false) (h : Lim w B A n c xs) :
   ∃ (i : Int) (s : Nat), b = ngB i ∧ xs = dg i.natAbs ∧ k = (s : Int) ∧ n ≤ 12 ∧ s ≤ 60 := by
 unfold longB at hl
 rw [Bool.or_eq_false_iff, Bool.or_eq_false_iff] at hl
 obtain ⟨h1, h2, h3⟩ := hl
 have h1 := of_decide_eq_false h1
 have h2 := of_decide_eq_false h2
 unfold rightD at h3
 rw [Bool.not_eq_false', Bool.and_eq_true, Bool.and_eq_true] at h3
 obtain ⟨h4, h5, h6⟩ := h3
 have h5 := of_decide_eq_true h5
 have hd := dg_of_right h4
 refine ⟨sgn b (val xs), k.toNat, ?_, by rw [abs_sgn, hd], by omega, by omega, by omega⟩
 rw [ng_sgn]
 cases b with
 | false => rfl
 | true =>
   have h0 : Num w B A n c (val xs) := by rw [Num, hd]; exact h
   have := (num_pos_iff h0).1 (by simp at h6; omega)
   rw [decide_eq_true this]; rfl
theorem rightD_dec {w : World} {B n c s : Nat} {A : Option Addr} {i : Int} (h : Num w B A n c i.natAbs) : rightD (ngB i) n (dg i.natAbs) (s : Int) = true := by
 unfold rightD
 rw [right_dg, decide_eq_true (by omega)]
 by_cases h0 : ngB i = true
 · have h1 : i < 0 := of_decide_eq_true h0
   have := (num_pos_iff h).2 (by omega)
   rw [h0, decide_eq_false (by omega)]; rfl
 · have : ngB i = false := by simpa using h0
   rw [this]; rfl
end Go.Proofs.YthlhpgphmfnlgaaGreat
/-
 Contracts of layer 5, the tenth part: Add, Sub and the document's.
-/
namespace Go.Proofs.YthlhpgphmfnlgaaGreat
open Go.RowKit
theorem up_len {i : Int} {s M n : Nat} (h : (dg i.natAbs).length = n) : (dg (up i s M).natAbs).length ≤ n + (M - s) + 1 := by
 rw [abs_up]
 have h1 := dg_len_mul i.natAbs (10 ^ (M - s))
 have h2 := pow10_len (N := M - s) (k := M - s + 1) (by omega)
 omega
theorem sgn_add {x y : Int} (h : ngB x = ngB y) : sgn (ngB x) (x.natAbs + y.natAbs) = x + y := by
 unfold ngB at h
 have h2 : (x < 0) ↔ (y < 0) := by simpa using h
 unfold sgn ngB
 by_cases h0 : x < 0
 · rw [decide_eq_true h0, if_pos rfl]; omega
 · rw [decide_eq_false h0, if_neg (by simp)]; omega
theorem sgn_sub {x y : Int} (h : ngB x ≠ ngB y) (hl : y.natAbs ≤ x.natAbs) : sgn (ngB x) (x.natAbs - y.natAbs) = x + y := by
 unfold ngB at h
 have h2 : ¬((x < 0) ↔ (y < 0)) := by simpa using h
 unfold sgn ngB
 by_cases h0 : x < 0
 · rw [decide_eq_true h0, if_pos rfl]; omega
 · rw [decide_eq_false h0, if_neg (by simp)]; omega
theorem sgn_bus {x y : Int} (h : ngB x ≠ ngB y) (hl : x.natAbs ≤ y.natAbs) : sgn (ngB y) (y.natAbs - x.natAbs) = x + y := by
 rw [sgn_sub (fun e => h e.symm) hl, Int.add_comm]
def addZ (i : Int) (s : Nat) (j : Int) (t : Nat) : Int := up i s (max s t) + up j t (max s t)
theorem add5_same (A A' : Option Addr) (n c n' c' s t : Nat) (i j : Int) (w : World) (h : Num w w.heap.size A n c i.natAbs) (h' : Num w w.heap.size A' n' c' j.natAbs) (hn : n ≤ 1000000) (hn' : n' ≤ 1000000) (hs : s ≤ 100000) (ht : t ≤ 100000) (M : Nat) (hm : max s t = M) (x y : Int) (hx : up i s M = x) (hy : up j t M = y) (hb : ngB x = ngB y) :
   Calls Tryz.prog 29 #[.agg #[.bool (ngB i), .slice A n c, .int .i64 (s : Int)], .agg #[.bool (ngB j), .slice A' n' c', .int .i64 (t : Int)]] w (RetDec w (x + y) M) := by
 have L1 : (dg x.natAbs).length ≤ n + (M - s) + 1 := by rw [← hx]; exact up_len h.len
 have L2 : (dg y.natAbs).length ≤ n' + (M - t) + 1 := by rw [← hy]; exact up_len h'.len
 have HA : Hid (∀ (w : World), Num w w.heap.size A n c i.natAbs → Num w w.heap.size A' n' c' j.natAbs → Calls Tryz.prog 54 #[.agg #[.bool (ngB i), .slice A n c, .int .i64 (s : Int)], .agg #[.bool (ngB j), .slice A' n' c', .int .i64 (t : Int)]] w (RetDec2 w x M y M)) := fun w h h' => by
   subst hx; subst hy; subst hm; exact align_any A A' n c n' c' s t i j w h h' hn hn' hs ht
 have hM : M ≤ 100000 := by omega
 have HX0 : sgn (ngB x) (x.natAbs + y.natAbs) = x + y := sgn_add hb
 have HXA : Hid (x.natAbs + y.natAbs = (x + y).natAbs) := (by show _ = _; rw [← HX0, abs_sgn])
 have HX : Hid (sgn (ngB x) (x + y).natAbs = x + y) := (by show _ = _; rw [← HXA.out]; exact HX0)
 clear HX0
 have hb2 := bool_eq hb
 skip
 have HL1 : Hid ((dg x.natAbs).length ≤ 2000000) := (by show _ ≤ _; omega)
 have HL2 : Hid ((dg y.natAbs).length ≤ 2000000) := (by show _ ≤ _; omega)
 have H := Lib.hid h
 have H' := Lib.hid h'
 clear h h'
 clear L1 L2 hx hy hm hb
 go_enter Tryz.func29, Tryz.ntmps29
 go_wp2_with fail
 generalize hW : World.alloc (World.alloc (World.alloc w _) _) _ = W0
 have E0 : St w W0 [(A, n, c, (i).natAbs), (A', n', c', (j).natAbs)] [((w.heap.size + 1 + 1), .bool false, .slice none 0 0, .int .i64 0), ((w.heap.size + 1), (.bool (ngB j)), (.slice A' n' c'), (.int .i64 (t : Int))), (w.heap.size, (.bool (ngB i)), (.slice A n c), (.int .i64 (s : Int)))] := by rw [← hW]; exact (((start_two H.out H'.out).lay rfl).lay (by simp)).lay (by simp)
 have E := Lib.hid E0
 clear hW E0
 obtain ⟨p0, p1, p2, pf0, pf1, pf2, plt⟩ := St.at_ (x0 := (.bool (ngB i))) (x1 := (.slice A n c)) (x2 := (.int .i64 (s : Int))) (g := w.heap.size) E (by simp)
 obtain ⟨q0, q1, q2, qf0, qf1, qf2, qlt⟩ := St.at_ (x0 := (.bool (ngB j))) (x1 := (.slice A' n' c')) (x2 := (.int .i64 (t : Int))) (g := (w.heap.size + 1)) E (by simp)
 
 go_wp2_with fail
 refine (HA.out _ (St.got E (by simp)) (St.got E (by simp))).mono ?_
 rintro e w4 ⟨A1, n1, c1, A2, n2, c2, rfl, h1, h2, hb4⟩
 have hn1 : n1 ≤ 2000000 := by have := h1.len; have := HL1.out; omega
 have hn2 : n2 ≤ 2000000 := by have := h2.len; have := HL2.out; omega
 replace E : Hid (St w w4 [(A1, n1, c1, (x).natAbs), (A2, n2, c2, (y).natAbs)] [((w.heap.size + 1 + 1), .bool false, .slice none 0 0, .int .i64 0), ((w.heap.size + 1), (.bool (ngB j)), (.slice A' n' c'), (.int .i64 (t : Int))), (w.heap.size, (.bool (ngB i)), (.slice A n c), (.int .i64 (s : Int)))]) := ⟨(E.out.step hb4).bel, (St.start w4 (l := [(A1, n1, c1, (x).natAbs), (A2, n2, c2, (y).natAbs)]) (by simp; exact ⟨h1, h2⟩)).num, (E.out.step hb4).box⟩
 clear h1 h2 hb4 p0 p1 p2 pf0 pf1 pf2 plt q0 q1 q2 qf0 qf1 qf2 qlt
 obtain ⟨p0, p1, p2, pf0, pf1, pf2, plt⟩ := St.at_ (x0 := (.bool (ngB i))) (x1 := (.slice A n c)) (x2 := (.int .i64 (s : Int))) (g := w.heap.size) E (by simp)
 obtain ⟨q0, q1, q2, qf0, qf1, qf2, qlt⟩ := St.at_ (x0 := (.bool (ngB j))) (x1 := (.slice A' n' c')) (x2 := (.int .i64 (t : Int))) (g := (w.heap.size + 1)) E (by simp)
 obtain ⟨r0, r1, r2, rf0, rf1, rf2, rlt⟩ := St.at_ (x0 := .bool false) (x1 := .slice none 0 0) (x2 := .int .i64 0) (g := (w.heap.size + 1 + 1)) E (by simp)
 go_wp2_with fail
 have E4 := Lib.hid (St.store E.out (g := w.heap.size) (x0 := (.bool (ngB i))) (x1 := (.slice A n c)) (x2 := (.int .i64 (s : Int))) (by simp) (noLimb_bool _) (noLimb_slice _ _ _) (noLimb_int _) [((w.heap.size + 1 + 1), .bool false, .slice none 0 0, .int .i64 0), ((w.heap.size + 1), (.bool (ngB j)), (.slice A' n' c'), (.int .i64 (t : Int)))] (by simp <;> omega) (.bool (ngB x)) (.slice A1 n1 c1) (.int .i64 (M : Int)))
 have E5 := Lib.hid (St.store E4.out (g := (w.heap.size + 1)) (x0 := (.bool (ngB j))) (x1 := (.slice A' n' c')) (x2 := (.int .i64 (t : Int))) (by simp) (noLimb_bool _) (noLimb_slice _ _ _) (noLimb_int _) [((w.heap.size + 1 + 1), .bool false, .slice none 0 0, .int .i64 0), (w.heap.size, (.bool (ngB x)), (.slice A1 n1 c1), (.int .i64 (M : Int)))] (by simp <;> omega) (.bool (ngB y)) (.slice A2 n2 c2) (.int .i64 (M : Int)))
 unfold put3 at E5
 clear p0 p1 p2 pf0 pf1 pf2 plt q0 q1 q2 qf0 qf1 qf2 qlt
 clear r0 r1 r2 rf0 rf1 rf2 rlt
 generalize hW2 : (World.setCell (World.setCell (World.setCell (World.setCell (World.setCell (World.setCell w4 _ _) _ _) _ _) _ _) _ _) _ _) = W1 at E5 ⊢
 clear hW2 E
 have E := Lib.hid (St.drew E5.out)
 clear E5
 go_region_held3 (fun v => v.cell? ⟨w.heap.size, 0, none⟩ = some (.bool (ngB x)) ∧ v.cell? ⟨w.heap.size, 1, none⟩ = some (.slice A1 n1 c1) ∧ v.cell? ⟨w.heap.size, 2, none⟩ = some (.int .i64 (M : Int)) ∧ v.cell? ⟨w.heap.size + 1, 0, none⟩ = some (.bool (ngB y)) ∧ v.cell? ⟨w.heap.size + 1, 1, none⟩ = some (.slice A2 n2 c2) ∧ v.cell? ⟨w.heap.size + 1, 2, none⟩ = some (.int .i64 (M : Int))) (first | (have X0 := St.at_ (x0 := (.bool (ngB x))) (x1 := (.slice A1 n1 c1)) (x2 := (.int .i64 (M : Int))) (g := w.heap.size) E (by simp); have X1 := St.at_ (x0 := (.bool (ngB y))) (x1 := (.slice A2 n2 c2)) (x2 := (.int .i64 (M : Int))) (g := (w.heap.size + 1)) E (by simp); with_reducible exact ⟨X0.c0, X0.c1, X0.c2, X1.c0, X1.c1, X1.c2⟩) | (with_reducible exact ⟨((St.at_ (x0 := (.bool (ngB x))) (x1 := (.slice A1 n1 c1)) (x2 := (.int .i64 (M : Int))) (g := w.heap.size) E (by simp)).apart (g' := (w.heap.size + 1 + 1)) _ _ _ (by omega)).c0, ((St.at_ (x0 := (.bool (ngB x))) (x1 := (.slice A1 n1 c1)) (x2 := (.int .i64 (M : Int))) (g := w.heap.size) E (by simp)).apart (g' := (w.heap.size + 1 + 1)) _ _ _ (by omega)).c1, ((St.at_ (x0 := (.bool (ngB x))) (x1 := (.slice A1 n1 c1)) (x2 := (.int .i64 (M : Int))) (g := w.heap.size) E (by simp)).apart (g' := (w.heap.size + 1 + 1)) _ _ _ (by omega)).c2, ((St.at_ (x0 := (.bool (ngB y))) (x1 := (.slice A2 n2 c2)) (x2 := (.int .i64 (M : Int))) (g := (w.heap.size + 1)) E (by simp)).apart (g' := (w.heap.size + 1 + 1)) _ _ _ (by omega)).c0, ((St.at_ (x0 := (.bool (ngB y))) (x1 := (.slice A2 n2 c2)) (x2 := (.int .i64 (M : Int))) (g := (w.heap.size + 1)) E (by simp)).apart (g' := (w.heap.size + 1 + 1)) _ _ _ (by omega)).c1, ((St.at_ (x0 := (.bool (ngB y))) (x1 := (.slice A2 n2 c2)) (x2 := (.int .i64 (M : Int))) (g := (w.heap.size + 1)) E (by simp)).apart (g' := (w.heap.size + 1 + 1)) _ _ _ (by omega)).c2⟩))
   (first | (go_at_call 62; refine (add_any A1 A2 n1 c1 n2 c2 x.natAbs y.natAbs _ (St.got E (by simp)) (St.got E (by simp)) (by omega) (by omega)).mono ?_; rintro e w6 ⟨A3, n3, c3, rfl, h1, hb1⟩; rw [HXA.out] at h1; replace E := Lib.hid (St.push E.out hb1 h1); clear h1 hb1) | (go_at_call 48; refine (decimal_is (b := ngB x) (A := A3) (n := n3) (c := c3) (s := M) (St.got E (by simp)) (by omega) HX.out).mono ?_; rintro e w7 ⟨rfl, hb1⟩; replace E := Lib.hid (St.step E.out hb1); clear hb1; obtain ⟨r0, r1, r2, rf0, rf1, rf2, rlt⟩ := St.at_ (x0 := .bool false) (x1 := .slice none 0 0) (x2 := .int .i64 0) (g := (w.heap.size + 1 + 1)) E (by simp)))
 all_goals
   go_wp2_with fail
   have EF := Lib.hid (St.store E.out (g := (w.heap.size + 1 + 1)) (x0 := .bool false) (x1 := .slice none 0 0) (x2 := .int .i64 0) (by simp) (noLimb_bool _) (noLimb_slice _ _ _) (noLimb_int _) [] (fun q hq => by cases hq) (.bool (ngB (x + y))) (.slice A3 n3 c3) (.int .i64 (M : Int)))
   obtain ⟨e0, e1, e2, _, _, _, _⟩ := St.at_ (x0 := .bool (ngB (x + y))) (x1 := .slice A3 n3 c3) (x2 := .int .i64 (M : Int)) (g := (w.heap.size + 1 + 1)) EF (by simp)
   exact bodyPost_ret (v := .agg #[.bool (ngB (x + y)), .slice A3 n3 c3, .int .i64 (M : Int)]) (by simp [results, Tryz.results29, go_sem, e0, e1, e2]) rfl ⟨A3, n3, c3, rfl, St.got EF (by simp), EF.out.bel⟩
theorem add5_ge (A A' : Option Addr) (n c n' c' s t : Nat) (i j : Int) (w : World) (h : Num w w.heap.size A n c i.natAbs) (h' : Num w w.heap.size A' n' c' j.natAbs) (hn : n ≤ 1000000) (hn' : n' ≤ 1000000) (hs : s ≤ 100000) (ht : t ≤ 100000) (M : Nat) (hm : max s t = M) (x y : Int) (hx : up i s M = x) (hy : up j t M = y) (hb : ngB x ≠ ngB y) (hl : y.natAbs ≤ x.natAbs) :
   Calls Tryz.prog 29 #[.agg #[.bool (ngB i), .slice A n c, .int .i64 (s : Int)], .agg #[.bool (ngB j), .slice A' n' c', .int .i64 (t : Int)]] w (RetDec w (x + y) M) := by
 have L1 : (dg x.natAbs).length ≤ n + (M - s) + 1 := by rw [← hx]; exact up_len h.len
 have L2 : (dg y.natAbs).length ≤ n' + (M - t) + 1 := by rw [← hy]; exact up_len h'.len
 have HA : Hid (∀ (w : World), Num w w.heap.size A n c i.natAbs → Num w w.heap.size A' n' c' j.natAbs → Calls Tryz.prog 54 #[.agg #[.bool (ngB i), .slice A n c, .int .i64 (s : Int)], .agg #[.bool (ngB j), .slice A' n' c', .int .i64 (t : Int)]] w (RetDec2 w x M y M)) := fun w h h' => by
   subst hx; subst hy; subst hm; exact align_any A A' n c n' c' s t i j w h h' hn hn' hs ht
 have hM : M ≤ 100000 := by omega
 have HX0 : sgn (ngB x) (x.natAbs - y.natAbs) = x + y := sgn_sub hb hl
 have HXA : Hid (x.natAbs - y.natAbs = (x + y).natAbs) := (by show _ = _; rw [← HX0, abs_sgn])
 have HX : Hid (sgn (ngB x) (x + y).natAbs = x + y) := (by show _ = _; rw [← HXA.out]; exact HX0)
 clear HX0
 have hb2 := bool_ne hb
 have hz1 := (cmpN_size x.natAbs y.natAbs); have hz2 : 0 ≤ cmpN x.natAbs y.natAbs := (by rcases Int.lt_or_le (cmpN x.natAbs y.natAbs) 0 with h1 | h1; (rw [cmpN_neg] at h1; omega); exact h1); obtain ⟨z, hz⟩ : ∃ z, cmpN x.natAbs y.natAbs = z := ⟨_, rfl⟩; rw [hz] at hz1 hz2; have HZ := Lib.hid hz; obtain ⟨_, hz1⟩ := hz1; clear hz; have HLE := Lib.hid hl
 have HL1 : Hid ((dg x.natAbs).length ≤ 2000000) := (by show _ ≤ _; omega)
 have HL2 : Hid ((dg y.natAbs).length ≤ 2000000) := (by show _ ≤ _; omega)
 have H := Lib.hid h
 have H' := Lib.hid h'
 clear h h'
 clear L1 L2 hx hy hm hb hl
 go_enter Tryz.func29, Tryz.ntmps29
 go_wp2_with fail
 generalize hW : World.alloc (World.alloc (World.alloc w _) _) _ = W0
 have E0 : St w W0 [(A, n, c, (i).natAbs), (A', n', c', (j).natAbs)] [((w.heap.size + 1 + 1), .bool false, .slice none 0 0, .int .i64 0), ((w.heap.size + 1), (.bool (ngB j)), (.slice A' n' c'), (.int .i64 (t : Int))), (w.heap.size, (.bool (ngB i)), (.slice A n c), (.int .i64 (s : Int)))] := by rw [← hW]; exact (((start_two H.out H'.out).lay rfl).lay (by simp)).lay (by simp)
 have E := Lib.hid E0
 clear hW E0
 obtain ⟨p0, p1, p2, pf0, pf1, pf2, plt⟩ := St.at_ (x0 := (.bool (ngB i))) (x1 := (.slice A n c)) (x2 := (.int .i64 (s : Int))) (g := w.heap.size) E (by simp)
 obtain ⟨q0, q1, q2, qf0, qf1, qf2, qlt⟩ := St.at_ (x0 := (.bool (ngB j))) (x1 := (.slice A' n' c')) (x2 := (.int .i64 (t : Int))) (g := (w.heap.size + 1)) E (by simp)
 
 go_wp2_with fail
 refine (HA.out _ (St.got E (by simp)) (St.got E (by simp))).mono ?_
 rintro e w4 ⟨A1, n1, c1, A2, n2, c2, rfl, h1, h2, hb4⟩
 have hn1 : n1 ≤ 2000000 := by have := h1.len; have := HL1.out; omega
 have hn2 : n2 ≤ 2000000 := by have := h2.len; have := HL2.out; omega
 replace E : Hid (St w w4 [(A1, n1, c1, (x).natAbs), (A2, n2, c2, (y).natAbs)] [((w.heap.size + 1 + 1), .bool false, .slice none 0 0, .int .i64 0), ((w.heap.size + 1), (.bool (ngB j)), (.slice A' n' c'), (.int .i64 (t : Int))), (w.heap.size, (.bool (ngB i)), (.slice A n c), (.int .i64 (s : Int)))]) := ⟨(E.out.step hb4).bel, (St.start w4 (l := [(A1, n1, c1, (x).natAbs), (A2, n2, c2, (y).natAbs)]) (by simp; exact ⟨h1, h2⟩)).num, (E.out.step hb4).box⟩
 clear h1 h2 hb4 p0 p1 p2 pf0 pf1 pf2 plt q0 q1 q2 qf0 qf1 qf2 qlt
 obtain ⟨p0, p1, p2, pf0, pf1, pf2, plt⟩ := St.at_ (x0 := (.bool (ngB i))) (x1 := (.slice A n c)) (x2 := (.int .i64 (s : Int))) (g := w.heap.size) E (by simp)
 obtain ⟨q0, q1, q2, qf0, qf1, qf2, qlt⟩ := St.at_ (x0 := (.bool (ngB j))) (x1 := (.slice A' n' c')) (x2 := (.int .i64 (t : Int))) (g := (w.heap.size + 1)) E (by simp)
 obtain ⟨r0, r1, r2, rf0, rf1, rf2, rlt⟩ := St.at_ (x0 := .bool false) (x1 := .slice none 0 0) (x2 := .int .i64 0) (g := (w.heap.size + 1 + 1)) E (by simp)
 go_wp2_with fail
 have E4 := Lib.hid (St.store E.out (g := w.heap.size) (x0 := (.bool (ngB i))) (x1 := (.slice A n c)) (x2 := (.int .i64 (s : Int))) (by simp) (noLimb_bool _) (noLimb_slice _ _ _) (noLimb_int _) [((w.heap.size + 1 + 1), .bool false, .slice none 0 0, .int .i64 0), ((w.heap.size + 1), (.bool (ngB j)), (.slice A' n' c'), (.int .i64 (t : Int)))] (by simp <;> omega) (.bool (ngB x)) (.slice A1 n1 c1) (.int .i64 (M : Int)))
 have E5 := Lib.hid (St.store E4.out (g := (w.heap.size + 1)) (x0 := (.bool (ngB j))) (x1 := (.slice A' n' c')) (x2 := (.int .i64 (t : Int))) (by simp) (noLimb_bool _) (noLimb_slice _ _ _) (noLimb_int _) [((w.heap.size + 1 + 1), .bool false, .slice none 0 0, .int .i64 0), (w.heap.size, (.bool (ngB x)), (.slice A1 n1 c1), (.int .i64 (M : Int)))] (by simp <;> omega) (.bool (ngB y)) (.slice A2 n2 c2) (.int .i64 (M : Int)))
 unfold put3 at E5
 clear p0 p1 p2 pf0 pf1 pf2 plt q0 q1 q2 qf0 qf1 qf2 qlt
 clear r0 r1 r2 rf0 rf1 rf2 rlt
 generalize hW2 : (World.setCell (World.setCell (World.setCell (World.setCell (World.setCell (World.setCell w4 _ _) _ _) _ _) _ _) _ _) _ _) = W1 at E5 ⊢
 clear hW2 E
 have E := E5
 clear E5
 refine (cmp_is (St.got E (by simp)) (St.got E (by simp)) HZ.out).mono ?_; rintro e w5 ⟨rfl, hb1⟩; replace E := Lib.hid (St.step E.out hb1); clear hb1
 obtain ⟨p0, p1, p2, pf0, pf1, pf2, plt⟩ := St.at_ (x0 := (.bool (ngB x))) (x1 := (.slice A1 n1 c1)) (x2 := (.int .i64 (M : Int))) (g := w.heap.size) E (by simp)
 obtain ⟨q0, q1, q2, qf0, qf1, qf2, qlt⟩ := St.at_ (x0 := (.bool (ngB y))) (x1 := (.slice A2 n2 c2)) (x2 := (.int .i64 (M : Int))) (g := (w.heap.size + 1)) E (by simp)
 go_wp2_with fail
 clear p0 p1 p2 pf0 pf1 pf2 plt q0 q1 q2 qf0 qf1 qf2 qlt
 refine (sub_ge A1 A2 n1 c1 n2 c2 (x).natAbs (y).natAbs _ (St.got E (by simp)) (St.got E (by simp)) (by omega) HLE.out).mono ?_; rintro e w6 ⟨A3, n3, c3, rfl, h1, hb1⟩; rw [HXA.out] at h1; replace E := Lib.hid (St.push E.out hb1 h1); clear h1 hb1
 obtain ⟨p0, p1, p2, pf0, pf1, pf2, plt⟩ := St.at_ (x0 := (.bool (ngB x))) (x1 := (.slice A1 n1 c1)) (x2 := (.int .i64 (M : Int))) (g := w.heap.size) E (by simp)
 go_wp2_with fail
 refine (decimal_is (b := (ngB x)) (A := A3) (n := n3) (c := c3) (s := M) (St.got E (by simp)) (by omega) HX.out).mono ?_; rintro e w7 ⟨rfl, hb1⟩; replace E := Lib.hid (St.step E.out hb1); clear hb1
 clear p0 p1 p2 pf0 pf1 pf2 plt
 obtain ⟨r0, r1, r2, rf0, rf1, rf2, rlt⟩ := St.at_ (x0 := .bool false) (x1 := .slice none 0 0) (x2 := .int .i64 0) (g := (w.heap.size + 1 + 1)) E (by simp)
 go_wp2_with fail
 have EF := Lib.hid (St.store E.out (g := (w.heap.size + 1 + 1)) (x0 := .bool false) (x1 := .slice none 0 0) (x2 := .int .i64 0) (by simp) (noLimb_bool _) (noLimb_slice _ _ _) (noLimb_int _) [] (fun q hq => by cases hq) (.bool (ngB (x + y))) (.slice A3 n3 c3) (.int .i64 (M : Int)))
 obtain ⟨e0, e1, e2, _, _, _, _⟩ := St.at_ (x0 := .bool (ngB (x + y))) (x1 := .slice A3 n3 c3) (x2 := .int .i64 (M : Int)) (g := (w.heap.size + 1 + 1)) EF (by simp)
 exact bodyPost_ret (v := .agg #[.bool (ngB (x + y)), .slice A3 n3 c3, .int .i64 (M : Int)]) (by simp [results, Tryz.results29, go_sem, e0, e1, e2]) rfl ⟨A3, n3, c3, rfl, St.got EF (by simp), EF.out.bel⟩
theorem add5_lt (A A' : Option Addr) (n c n' c' s t : Nat) (i j : Int) (w : World) (h : Num w w.heap.size A n c i.natAbs) (h' : Num w w.heap.size A' n' c' j.natAbs) (hn : n ≤ 1000000) (hn' : n' ≤ 1000000) (hs : s ≤ 100000) (ht : t ≤ 100000) (M : Nat) (hm : max s t = M) (x y : Int) (hx : up i s M = x) (hy : up j t M = y) (hb : ngB x ≠ ngB y) (hl : x.natAbs < y.natAbs) :
   Calls Tryz.prog 29 #[.agg #[.bool (ngB i), .slice A n c, .int .i64 (s : Int)], .agg #[.bool (ngB j), .slice A' n' c', .int .i64 (t : Int)]] w (RetDec w (x + y) M) := by
 have L1 : (dg x.natAbs).length ≤ n + (M - s) + 1 := by rw [← hx]; exact up_len h.len
 have L2 : (dg y.natAbs).length ≤ n' + (M - t) + 1 := by rw [← hy]; exact up_len h'.len
 have HA : Hid (∀ (w : World), Num w w.heap.size A n c i.natAbs → Num w w.heap.size A' n' c' j.natAbs → Calls Tryz.prog 54 #[.agg #[.bool (ngB i), .slice A n c, .int .i64 (s : Int)], .agg #[.bool (ngB j), .slice A' n' c', .int .i64 (t : Int)]] w (RetDec2 w x M y M)) := fun w h h' => by
   subst hx; subst hy; subst hm; exact align_any A A' n c n' c' s t i j w h h' hn hn' hs ht
 have hM : M ≤ 100000 := by omega
 have HX0 : sgn (ngB y) (y.natAbs - x.natAbs) = x + y := sgn_bus hb (Nat.le_of_lt hl)
 have HXA : Hid (y.natAbs - x.natAbs = (x + y).natAbs) := (by show _ = _; rw [← HX0, abs_sgn])
 have HX : Hid (sgn (ngB y) (x + y).natAbs = x + y) := (by show _ = _; rw [← HXA.out]; exact HX0)
 clear HX0
 have hb2 := bool_ne hb
 have HZ := Lib.hid (cmpN_lt hl); have HLE := Lib.hid (Nat.le_of_lt hl)
 have HL1 : Hid ((dg x.natAbs).length ≤ 2000000) := (by show _ ≤ _; omega)
 have HL2 : Hid ((dg y.natAbs).length ≤ 2000000) := (by show _ ≤ _; omega)
 have H := Lib.hid h
 have H' := Lib.hid h'
 clear h h'
 clear L1 L2 hx hy hm hb hl
 go_enter Tryz.func29, Tryz.ntmps29
 go_wp2_with fail
 generalize hW : World.alloc (World.alloc (World.alloc w _) _) _ = W0
 have E0 : St w W0 [(A, n, c, (i).natAbs), (A', n', c', (j).natAbs)] [((w.heap.size + 1 + 1), .bool false, .slice none 0 0, .int .i64 0), ((w.heap.size + 1), (.bool (ngB j)), (.slice A' n' c'), (.int .i64 (t : Int))), (w.heap.size, (.bool (ngB i)), (.slice A n c), (.int .i64 (s : Int)))] := by rw [← hW]; exact (((start_two H.out H'.out).lay rfl).lay (by simp)).lay (by simp)
 have E := Lib.hid E0
 clear hW E0
 obtain ⟨p0, p1, p2, pf0, pf1, pf2, plt⟩ := St.at_ (x0 := (.bool (ngB i))) (x1 := (.slice A n c)) (x2 := (.int .i64 (s : Int))) (g := w.heap.size) E (by simp)
 obtain ⟨q0, q1, q2, qf0, qf1, qf2, qlt⟩ := St.at_ (x0 := (.bool (ngB j))) (x1 := (.slice A' n' c')) (x2 := (.int .i64 (t : Int))) (g := (w.heap.size + 1)) E (by simp)
 
 go_wp2_with fail
 refine (HA.out _ (St.got E (by simp)) (St.got E (by simp))).mono ?_
 rintro e w4 ⟨A1, n1, c1, A2, n2, c2, rfl, h1, h2, hb4⟩
 have hn1 : n1 ≤ 2000000 := by have := h1.len; have := HL1.out; omega
 have hn2 : n2 ≤ 2000000 := by have := h2.len; have := HL2.out; omega
 replace E : Hid (St w w4 [(A1, n1, c1, (x).natAbs), (A2, n2, c2, (y).natAbs)] [((w.heap.size + 1 + 1), .bool false, .slice none 0 0, .int .i64 0), ((w.heap.size + 1), (.bool (ngB j)), (.slice A' n' c'), (.int .i64 (t : Int))), (w.heap.size, (.bool (ngB i)), (.slice A n c), (.int .i64 (s : Int)))]) := ⟨(E.out.step hb4).bel, (St.start w4 (l := [(A1, n1, c1, (x).natAbs), (A2, n2, c2, (y).natAbs)]) (by simp; exact ⟨h1, h2⟩)).num, (E.out.step hb4).box⟩
 clear h1 h2 hb4 p0 p1 p2 pf0 pf1 pf2 plt q0 q1 q2 qf0 qf1 qf2 qlt
 obtain ⟨p0, p1, p2, pf0, pf1, pf2, plt⟩ := St.at_ (x0 := (.bool (ngB i))) (x1 := (.slice A n c)) (x2 := (.int .i64 (s : Int))) (g := w.heap.size) E (by simp)
 obtain ⟨q0, q1, q2, qf0, qf1, qf2, qlt⟩ := St.at_ (x0 := (.bool (ngB j))) (x1 := (.slice A' n' c')) (x2 := (.int .i64 (t : Int))) (g := (w.heap.size + 1)) E (by simp)
 obtain ⟨r0, r1, r2, rf0, rf1, rf2, rlt⟩ := St.at_ (x0 := .bool false) (x1 := .slice none 0 0) (x2 := .int .i64 0) (g := (w.heap.size + 1 + 1)) E (by simp)
 go_wp2_with fail
 have E4 := Lib.hid (St.store E.out (g := w.heap.size) (x0 := (.bool (ngB i))) (x1 := (.slice A n c)) (x2 := (.int .i64 (s : Int))) (by simp) (noLimb_bool _) (noLimb_slice _ _ _) (noLimb_int _) [((w.heap.size + 1 + 1), .bool false, .slice none 0 0, .int .i64 0), ((w.heap.size + 1), (.bool (ngB j)), (.slice A' n' c'), (.int .i64 (t : Int)))] (by simp <;> omega) (.bool (ngB x)) (.slice A1 n1 c1) (.int .i64 (M : Int)))
 have E5 := Lib.hid (St.store E4.out (g := (w.heap.size + 1)) (x0 := (.bool (ngB j))) (x1 := (.slice A' n' c')) (x2 := (.int .i64 (t : Int))) (by simp) (noLimb_bool _) (noLimb_slice _ _ _) (noLimb_int _) [((w.heap.size + 1 + 1), .bool false, .slice none 0 0, .int .i64 0), (w.heap.size, (.bool (ngB x)), (.slice A1 n1 c1), (.int .i64 (M : Int)))] (by simp <;> omega) (.bool (ngB y)) (.slice A2 n2 c2) (.int .i64 (M : Int)))
 unfold put3 at E5
 clear p0 p1 p2 pf0 pf1 pf2 plt q0 q1 q2 qf0 qf1 qf2 qlt
 clear r0 r1 r2 rf0 rf1 rf2 rlt
 generalize hW2 : (World.setCell (World.setCell (World.setCell (World.setCell (World.setCell (World.setCell w4 _ _) _ _) _ _) _ _) _ _) _ _) = W1 at E5 ⊢
 clear hW2 E
 have E := E5
 clear E5
 refine (cmp_is (St.got E (by simp)) (St.got E (by simp)) HZ.out).mono ?_; rintro e w5 ⟨rfl, hb1⟩; replace E := Lib.hid (St.step E.out hb1); clear hb1
 obtain ⟨p0, p1, p2, pf0, pf1, pf2, plt⟩ := St.at_ (x0 := (.bool (ngB x))) (x1 := (.slice A1 n1 c1)) (x2 := (.int .i64 (M : Int))) (g := w.heap.size) E (by simp)
 obtain ⟨q0, q1, q2, qf0, qf1, qf2, qlt⟩ := St.at_ (x0 := (.bool (ngB y))) (x1 := (.slice A2 n2 c2)) (x2 := (.int .i64 (M : Int))) (g := (w.heap.size + 1)) E (by simp)
 go_wp2_with fail
 have E6 := Lib.hid (St.store E.out (g := w.heap.size) (x0 := (.bool (ngB x))) (x1 := (.slice A1 n1 c1)) (x2 := (.int .i64 (M : Int))) (by simp) (noLimb_bool _) (noLimb_slice _ _ _) (noLimb_int _) [((w.heap.size + 1 + 1), .bool false, .slice none 0 0, .int .i64 0), ((w.heap.size + 1), (.bool (ngB y)), (.slice A2 n2 c2), (.int .i64 (M : Int)))] (by simp <;> omega) (.bool (ngB y)) (.slice A2 n2 c2) (.int .i64 (M : Int)))
 have E7 := Lib.hid (St.store E6.out (g := (w.heap.size + 1)) (x0 := (.bool (ngB y))) (x1 := (.slice A2 n2 c2)) (x2 := (.int .i64 (M : Int))) (by simp) (noLimb_bool _) (noLimb_slice _ _ _) (noLimb_int _) [((w.heap.size + 1 + 1), .bool false, .slice none 0 0, .int .i64 0), (w.heap.size, (.bool (ngB y)), (.slice A2 n2 c2), (.int .i64 (M : Int)))] (by simp <;> omega) (.bool (ngB x)) (.slice A1 n1 c1) (.int .i64 (M : Int)))
 clear p0 p1 p2 pf0 pf1 pf2 plt q0 q1 q2 qf0 qf1 qf2 qlt
 unfold put3 at E7
 generalize hW2 : (World.setCell (World.setCell (World.setCell (World.setCell (World.setCell (World.setCell w5 _ _) _ _) _ _) _ _) _ _) _ _) = W2 at E7 ⊢
 have E := E7
 clear hW2 E7 E6
 refine (sub_ge A2 A1 n2 c2 n1 c1 (y).natAbs (x).natAbs _ (St.got E (by simp)) (St.got E (by simp)) (by omega) HLE.out).mono ?_; rintro e w6 ⟨A3, n3, c3, rfl, h1, hb1⟩; rw [HXA.out] at h1; replace E := Lib.hid (St.push E.out hb1 h1); clear h1 hb1
 obtain ⟨p0, p1, p2, pf0, pf1, pf2, plt⟩ := St.at_ (x0 := (.bool (ngB y))) (x1 := (.slice A2 n2 c2)) (x2 := (.int .i64 (M : Int))) (g := w.heap.size) E (by simp)
 go_wp2_with fail
 refine (decimal_is (b := (ngB y)) (A := A3) (n := n3) (c := c3) (s := M) (St.got E (by simp)) (by omega) HX.out).mono ?_; rintro e w7 ⟨rfl, hb1⟩; replace E := Lib.hid (St.step E.out hb1); clear hb1
 clear p0 p1 p2 pf0 pf1 pf2 plt
 obtain ⟨r0, r1, r2, rf0, rf1, rf2, rlt⟩ := St.at_ (x0 := .bool false) (x1 := .slice none 0 0) (x2 := .int .i64 0) (g := (w.heap.size + 1 + 1)) E (by simp)
 go_wp2_with fail
 have EF := Lib.hid (St.store E.out (g := (w.heap.size + 1 + 1)) (x0 := .bool false) (x1 := .slice none 0 0) (x2 := .int .i64 0) (by simp) (noLimb_bool _) (noLimb_slice _ _ _) (noLimb_int _) [] (fun q hq => by cases hq) (.bool (ngB (x + y))) (.slice A3 n3 c3) (.int .i64 (M : Int)))
 obtain ⟨e0, e1, e2, _, _, _, _⟩ := St.at_ (x0 := .bool (ngB (x + y))) (x1 := .slice A3 n3 c3) (x2 := .int .i64 (M : Int)) (g := (w.heap.size + 1 + 1)) EF (by simp)
 exact bodyPost_ret (v := .agg #[.bool (ngB (x + y)), .slice A3 n3 c3, .int .i64 (M : Int)]) (by simp [results, Tryz.results29, go_sem, e0, e1, e2]) rfl ⟨A3, n3, c3, rfl, St.got EF (by simp), EF.out.bel⟩
theorem add5_any (A A' : Option Addr) (n c n' c' s t : Nat) (i j : Int) (w : World) (h : Num w w.heap.size A n c i.natAbs) (h' : Num w w.heap.size A' n' c' j.natAbs) (hn : n ≤ 1000000) (hn' : n' ≤ 1000000) (hs : s ≤ 100000) (ht : t ≤ 100000) :
   Calls Tryz.prog 29 #[.agg #[.bool (ngB i), .slice A n c, .int .i64 (s : Int)], .agg #[.bool (ngB j), .slice A' n' c', .int .i64 (t : Int)]] w (RetDec w (addZ i s j t) (max s t)) := by
 unfold addZ
 by_cases hb : ngB (up i s (max s t)) = ngB (up j t (max s t))
 · exact add5_same A A' n c n' c' s t i j w h h' hn hn' hs ht _ rfl _ _ rfl rfl hb
 · rcases Nat.lt_or_ge (up i s (max s t)).natAbs (up j t (max s t)).natAbs with hl | hl
   · exact add5_lt A A' n c n' c' s t i j w h h' hn hn' hs ht _ rfl _ _ rfl rfl hb hl
   · exact add5_ge A A' n c n' c' s t i j w h h' hn hn' hs ht _ rfl _ _ rfl rfl hb hl
theorem refAdd5_same (A A' : Option Addr) (n c n' c' s t : Nat) (i j : Int) (w : World) (h : Num w w.heap.size A n c i.natAbs) (h' : Num w w.heap.size A' n' c' j.natAbs) (hn : n ≤ 1000000) (hn' : n' ≤ 1000000) (hs : s ≤ 100000) (ht : t ≤ 100000) (M : Nat) (hm : max s t = M) (x y : Int) (hx : up i s M = x) (hy : up j t M = y) (hb : ngB x = ngB y) :
   Calls Tryz.prog 32 #[.agg #[.bool (ngB i), .slice A n c, .int .i64 (s : Int)], .agg #[.bool (ngB j), .slice A' n' c', .int .i64 (t : Int)]] w (RetDec w (x + y) M) := by
 have L1 : (dg x.natAbs).length ≤ n + (M - s) + 1 := by rw [← hx]; exact up_len h.len
 have L2 : (dg y.natAbs).length ≤ n' + (M - t) + 1 := by rw [← hy]; exact up_len h'.len
 have HA : Hid (∀ (w : World), Num w w.heap.size A n c i.natAbs → Num w w.heap.size A' n' c' j.natAbs → Calls Tryz.prog 65 #[.agg #[.bool (ngB i), .slice A n c, .int .i64 (s : Int)], .agg #[.bool (ngB j), .slice A' n' c', .int .i64 (t : Int)]] w (RetDec2 w x M y M)) := fun w h h' => by
   subst hx; subst hy; subst hm; exact refAlign_any A A' n c n' c' s t i j w h h' hn hn' hs ht
 have hM : M ≤ 100000 := by omega
 have HX0 : sgn (ngB x) (x.natAbs + y.natAbs) = x + y := sgn_add hb
 have HXA : Hid (x.natAbs + y.natAbs = (x + y).natAbs) := (by show _ = _; rw [← HX0, abs_sgn])
 have HX : Hid (sgn (ngB x) (x + y).natAbs = x + y) := (by show _ = _; rw [← HXA.out]; exact HX0)
 clear HX0
 have hb2 := bool_eq hb
 skip
 have HL1 : Hid ((dg x.natAbs).length ≤ 2000000) := (by show _ ≤ _; omega)
 have HL2 : Hid ((dg y.natAbs).length ≤ 2000000) := (by show _ ≤ _; omega)
 have H := Lib.hid h
 have H' := Lib.hid h'
 clear h h'
 clear L1 L2 hx hy hm hb
 go_enter Tryz.func32, Tryz.ntmps32
 go_wp2_with fail
 generalize hW : World.alloc (World.alloc (World.alloc w _) _) _ = W0
 have E0 : St w W0 [(A, n, c, (i).natAbs), (A', n', c', (j).natAbs)] [((w.heap.size + 1 + 1), .bool false, .slice none 0 0, .int .i64 0), ((w.heap.size + 1), (.bool (ngB j)), (.slice A' n' c'), (.int .i64 (t : Int))), (w.heap.size, (.bool (ngB i)), (.slice A n c), (.int .i64 (s : Int)))] := by rw [← hW]; exact (((start_two H.out H'.out).lay rfl).lay (by simp)).lay (by simp)
 have E := Lib.hid E0
 clear hW E0
 obtain ⟨p0, p1, p2, pf0, pf1, pf2, plt⟩ := St.at_ (x0 := (.bool (ngB i))) (x1 := (.slice A n c)) (x2 := (.int .i64 (s : Int))) (g := w.heap.size) E (by simp)
 obtain ⟨q0, q1, q2, qf0, qf1, qf2, qlt⟩ := St.at_ (x0 := (.bool (ngB j))) (x1 := (.slice A' n' c')) (x2 := (.int .i64 (t : Int))) (g := (w.heap.size + 1)) E (by simp)
 
 go_wp2_with fail
 refine (HA.out _ (St.got E (by simp)) (St.got E (by simp))).mono ?_
 rintro e w4 ⟨A1, n1, c1, A2, n2, c2, rfl, h1, h2, hb4⟩
 have hn1 : n1 ≤ 2000000 := by have := h1.len; have := HL1.out; omega
 have hn2 : n2 ≤ 2000000 := by have := h2.len; have := HL2.out; omega
 replace E : Hid (St w w4 [(A1, n1, c1, (x).natAbs), (A2, n2, c2, (y).natAbs)] [((w.heap.size + 1 + 1), .bool false, .slice none 0 0, .int .i64 0), ((w.heap.size + 1), (.bool (ngB j)), (.slice A' n' c'), (.int .i64 (t : Int))), (w.heap.size, (.bool (ngB i)), (.slice A n c), (.int .i64 (s : Int)))]) := ⟨(E.out.step hb4).bel, (St.start w4 (l := [(A1, n1, c1, (x).natAbs), (A2, n2, c2, (y).natAbs)]) (by simp; exact ⟨h1, h2⟩)).num, (E.out.step hb4).box⟩
 clear h1 h2 hb4 p0 p1 p2 pf0 pf1 pf2 plt q0 q1 q2 qf0 qf1 qf2 qlt
 obtain ⟨p0, p1, p2, pf0, pf1, pf2, plt⟩ := St.at_ (x0 := (.bool (ngB i))) (x1 := (.slice A n c)) (x2 := (.int .i64 (s : Int))) (g := w.heap.size) E (by simp)
 obtain ⟨q0, q1, q2, qf0, qf1, qf2, qlt⟩ := St.at_ (x0 := (.bool (ngB j))) (x1 := (.slice A' n' c')) (x2 := (.int .i64 (t : Int))) (g := (w.heap.size + 1)) E (by simp)
 obtain ⟨r0, r1, r2, rf0, rf1, rf2, rlt⟩ := St.at_ (x0 := .bool false) (x1 := .slice none 0 0) (x2 := .int .i64 0) (g := (w.heap.size + 1 + 1)) E (by simp)
 go_wp2_with fail
 have hz4 : w.heap.size + 1 + 1 < w4.heap.size := rlt
 have E5 : Hid (St w ((w4.alloc (.cells #[(.bool (ngB x)), (.slice A1 n1 c1), (.int .i64 (M : Int))] 25)).alloc (.cells #[(.bool (ngB y)), (.slice A2 n2 c2), (.int .i64 (M : Int))] 25)) [(A1, n1, c1, (x).natAbs), (A2, n2, c2, (y).natAbs)] [((w4.heap.size + 1), (.bool (ngB y)), (.slice A2 n2 c2), (.int .i64 (M : Int))), (w4.heap.size, (.bool (ngB x)), (.slice A1 n1 c1), (.int .i64 (M : Int))), ((w.heap.size + 1 + 1), .bool false, .slice none 0 0, .int .i64 0)]) := by
   have e1 := St.lay (t := 25) (x0 := (.bool (ngB y))) (x1 := (.slice A2 n2 c2)) (x2 := (.int .i64 (M : Int))) (g := w4.heap.size + 1) (St.lay (t := 25) (x0 := (.bool (ngB x))) (x1 := (.slice A1 n1 c1)) (x2 := (.int .i64 (M : Int))) (g := w4.heap.size) E.out rfl) (by simp)
   exact ⟨e1.bel, e1.num, fun q hq => e1.box q (by simp at hq ⊢; rcases hq with h | h | h <;> simp [h])⟩
 clear p0 p1 p2 pf0 pf1 pf2 plt q0 q1 q2 qf0 qf1 qf2 qlt
 clear r0 r1 r2 rf0 rf1 rf2 rlt
 generalize hW2 : (World.alloc (World.alloc w4 _) _) = W1 at E5 ⊢
 clear hW2 E
 have E := Lib.hid (St.drew E5.out)
 clear E5
 go_region_held3 (fun v => v.cell? ⟨w4.heap.size, 0, none⟩ = some (.bool (ngB x)) ∧ v.cell? ⟨w4.heap.size, 1, none⟩ = some (.slice A1 n1 c1) ∧ v.cell? ⟨w4.heap.size, 2, none⟩ = some (.int .i64 (M : Int)) ∧ v.cell? ⟨w4.heap.size + 1, 0, none⟩ = some (.bool (ngB y)) ∧ v.cell? ⟨w4.heap.size + 1, 1, none⟩ = some (.slice A2 n2 c2) ∧ v.cell? ⟨w4.heap.size + 1, 2, none⟩ = some (.int .i64 (M : Int))) (first | (have X0 := St.at_ (x0 := (.bool (ngB x))) (x1 := (.slice A1 n1 c1)) (x2 := (.int .i64 (M : Int))) (g := w4.heap.size) E (by simp); have X1 := St.at_ (x0 := (.bool (ngB y))) (x1 := (.slice A2 n2 c2)) (x2 := (.int .i64 (M : Int))) (g := (w4.heap.size + 1)) E (by simp); with_reducible exact ⟨X0.c0, X0.c1, X0.c2, X1.c0, X1.c1, X1.c2⟩) | (with_reducible exact ⟨((St.at_ (x0 := (.bool (ngB x))) (x1 := (.slice A1 n1 c1)) (x2 := (.int .i64 (M : Int))) (g := w4.heap.size) E (by simp)).apart (g' := (w.heap.size + 1 + 1)) _ _ _ (by omega)).c0, ((St.at_ (x0 := (.bool (ngB x))) (x1 := (.slice A1 n1 c1)) (x2 := (.int .i64 (M : Int))) (g := w4.heap.size) E (by simp)).apart (g' := (w.heap.size + 1 + 1)) _ _ _ (by omega)).c1, ((St.at_ (x0 := (.bool (ngB x))) (x1 := (.slice A1 n1 c1)) (x2 := (.int .i64 (M : Int))) (g := w4.heap.size) E (by simp)).apart (g' := (w.heap.size + 1 + 1)) _ _ _ (by omega)).c2, ((St.at_ (x0 := (.bool (ngB y))) (x1 := (.slice A2 n2 c2)) (x2 := (.int .i64 (M : Int))) (g := (w4.heap.size + 1)) E (by simp)).apart (g' := (w.heap.size + 1 + 1)) _ _ _ (by omega)).c0, ((St.at_ (x0 := (.bool (ngB y))) (x1 := (.slice A2 n2 c2)) (x2 := (.int .i64 (M : Int))) (g := (w4.heap.size + 1)) E (by simp)).apart (g' := (w.heap.size + 1 + 1)) _ _ _ (by omega)).c1, ((St.at_ (x0 := (.bool (ngB y))) (x1 := (.slice A2 n2 c2)) (x2 := (.int .i64 (M : Int))) (g := (w4.heap.size + 1)) E (by simp)).apart (g' := (w.heap.size + 1 + 1)) _ _ _ (by omega)).c2⟩))
   (first | (go_at_call 67; refine (refAdd_any A1 A2 n1 c1 n2 c2 x.natAbs y.natAbs _ (St.got E (by simp)) (St.got E (by simp)) (by omega) (by omega)).mono ?_; rintro e w6 ⟨A3, n3, c3, rfl, h1, hb1⟩; rw [HXA.out] at h1; replace E := Lib.hid (St.push E.out hb1 h1); clear h1 hb1) | (go_at_call 66; refine (refDone_is (b := ngB x) (A := A3) (n := n3) (c := c3) (s := M) (St.got E (by simp)) (by omega) HX.out).mono ?_; rintro e w7 ⟨rfl, hb1⟩; replace E := Lib.hid (St.step E.out hb1); clear hb1; obtain ⟨r0, r1, r2, rf0, rf1, rf2, rlt⟩ := St.at_ (x0 := .bool false) (x1 := .slice none 0 0) (x2 := .int .i64 0) (g := (w.heap.size + 1 + 1)) E (by simp)))
 all_goals
   go_wp2_with fail
   have EF := Lib.hid (St.store E.out (g := (w.heap.size + 1 + 1)) (x0 := .bool false) (x1 := .slice none 0 0) (x2 := .int .i64 0) (by simp) (noLimb_bool _) (noLimb_slice _ _ _) (noLimb_int _) [] (fun q hq => by cases hq) (.bool (ngB (x + y))) (.slice A3 n3 c3) (.int .i64 (M : Int)))
   obtain ⟨e0, e1, e2, _, _, _, _⟩ := St.at_ (x0 := .bool (ngB (x + y))) (x1 := .slice A3 n3 c3) (x2 := .int .i64 (M : Int)) (g := (w.heap.size + 1 + 1)) EF (by simp)
   exact bodyPost_ret (v := .agg #[.bool (ngB (x + y)), .slice A3 n3 c3, .int .i64 (M : Int)]) (by simp [results, Tryz.results32, go_sem, e0, e1, e2]) rfl ⟨A3, n3, c3, rfl, St.got EF (by simp), EF.out.bel⟩
theorem refAdd5_ge (A A' : Option Addr) (n c n' c' s t : Nat) (i j : Int) (w : World) (h : Num w w.heap.size A n c i.natAbs) (h' : Num w w.heap.size A' n' c' j.natAbs) (hn : n ≤ 1000000) (hn' : n' ≤ 1000000) (hs : s ≤ 100000) (ht : t ≤ 100000) (M : Nat) (hm : max s t = M) (x y : Int) (hx : up i s M = x) (hy : up j t M = y) (hb : ngB x ≠ ngB y) (hl : y.natAbs ≤ x.natAbs) :
   Calls Tryz.prog 32 #[.agg #[.bool (ngB i), .slice A n c, .int .i64 (s : Int)], .agg #[.bool (ngB j), .slice A' n' c', .int .i64 (t : Int)]] w (RetDec w (x + y) M) := by
 have L1 : (dg x.natAbs).length ≤ n + (M - s) + 1 := by rw [← hx]; exact up_len h.len
 have L2 : (dg y.natAbs).length ≤ n' + (M - t) + 1 := by rw [← hy]; exact up_len h'.len
 have HA : Hid (∀ (w : World), Num w w.heap.size A n c i.natAbs → Num w w.heap.size A' n' c' j.natAbs → Calls Tryz.prog 65 #[.agg #[.bool (ngB i), .slice A n c, .int .i64 (s : Int)], .agg #[.bool (ngB j), .slice A' n' c', .int .i64 (t : Int)]] w (RetDec2 w x M y M)) := fun w h h' => by
   subst hx; subst hy; subst hm; exact refAlign_any A A' n c n' c' s t i j w h h' hn hn' hs ht
 have hM : M ≤ 100000 := by omega
 have HX0 : sgn (ngB x) (x.natAbs - y.natAbs) = x + y := sgn_sub hb hl
 have HXA : Hid (x.natAbs - y.natAbs = (x + y).natAbs) := (by show _ = _; rw [← HX0, abs_sgn])
 have HX : Hid (sgn (ngB x) (x + y).natAbs = x + y) := (by show _ = _; rw [← HXA.out]; exact HX0)
 clear HX0
 have hb2 := bool_ne hb
 have hz1 := (cmpN_size x.natAbs y.natAbs); have hz2 : 0 ≤ cmpN x.natAbs y.natAbs := (by rcases Int.lt_or_le (cmpN x.natAbs y.natAbs) 0 with h1 | h1; (rw [cmpN_neg] at h1; omega); exact h1); obtain ⟨z, hz⟩ : ∃ z, cmpN x.natAbs y.natAbs = z := ⟨_, rfl⟩; rw [hz] at hz1 hz2; have HZ := Lib.hid hz; obtain ⟨_, hz1⟩ := hz1; clear hz; have HLE := Lib.hid hl
 have HL1 : Hid ((dg x.natAbs).length ≤ 2000000) := (by show _ ≤ _; omega)
 have HL2 : Hid ((dg y.natAbs).length ≤ 2000000) := (by show _ ≤ _; omega)
 have H := Lib.hid h
 have H' := Lib.hid h'
 clear h h'
 clear L1 L2 hx hy hm hb hl
 go_enter Tryz.func32, Tryz.ntmps32
 go_wp2_with fail
 generalize hW : World.alloc (World.alloc (World.alloc w _) _) _ = W0
 have E0 : St w W0 [(A, n, c, (i).natAbs), (A', n', c', (j).natAbs)] [((w.heap.size + 1 + 1), .bool false, .slice none 0 0, .int .i64 0), ((w.heap.size + 1), (.bool (ngB j)), (.slice A' n' c'), (.int .i64 (t : Int))), (w.heap.size, (.bool (ngB i)), (.slice A n c), (.int .i64 (s : Int)))] := by rw [← hW]; exact (((start_two H.out H'.out).lay rfl).lay (by simp)).lay (by simp)
 have E := Lib.hid E0
 clear hW E0
 obtain ⟨p0, p1, p2, pf0, pf1, pf2, plt⟩ := St.at_ (x0 := (.bool (ngB i))) (x1 := (.slice A n c)) (x2 := (.int .i64 (s : Int))) (g := w.heap.size) E (by simp)
 obtain ⟨q0, q1, q2, qf0, qf1, qf2, qlt⟩ := St.at_ (x0 := (.bool (ngB j))) (x1 := (.slice A' n' c')) (x2 := (.int .i64 (t : Int))) (g := (w.heap.size + 1)) E (by simp)
 
 go_wp2_with fail
 refine (HA.out _ (St.got E (by simp)) (St.got E (by simp))).mono ?_
 rintro e w4 ⟨A1, n1, c1, A2, n2, c2, rfl, h1, h2, hb4⟩
 have hn1 : n1 ≤ 2000000 := by have := h1.len; have := HL1.out; omega
 have hn2 : n2 ≤ 2000000 := by have := h2.len; have := HL2.out; omega
 replace E : Hid (St w w4 [(A1, n1, c1, (x).natAbs), (A2, n2, c2, (y).natAbs)] [((w.heap.size + 1 + 1), .bool false, .slice none 0 0, .int .i64 0), ((w.heap.size + 1), (.bool (ngB j)), (.slice A' n' c'), (.int .i64 (t : Int))), (w.heap.size, (.bool (ngB i)), (.slice A n c), (.int .i64 (s : Int)))]) := ⟨(E.out.step hb4).bel, (St.start w4 (l := [(A1, n1, c1, (x).natAbs), (A2, n2, c2, (y).natAbs)]) (by simp; exact ⟨h1, h2⟩)).num, (E.out.step hb4).box⟩
 clear h1 h2 hb4 p0 p1 p2 pf0 pf1 pf2 plt q0 q1 q2 qf0 qf1 qf2 qlt
 obtain ⟨p0, p1, p2, pf0, pf1, pf2, plt⟩ := St.at_ (x0 := (.bool (ngB i))) (x1 := (.slice A n c)) (x2 := (.int .i64 (s : Int))) (g := w.heap.size) E (by simp)
 obtain ⟨q0, q1, q2, qf0, qf1, qf2, qlt⟩ := St.at_ (x0 := (.bool (ngB j))) (x1 := (.slice A' n' c')) (x2 := (.int .i64 (t : Int))) (g := (w.heap.size + 1)) E (by simp)
 obtain ⟨r0, r1, r2, rf0, rf1, rf2, rlt⟩ := St.at_ (x0 := .bool false) (x1 := .slice none 0 0) (x2 := .int .i64 0) (g := (w.heap.size + 1 + 1)) E (by simp)
 go_wp2_with fail
 have hz4 : w.heap.size + 1 + 1 < w4.heap.size := rlt
 have E5 : Hid (St w ((w4.alloc (.cells #[(.bool (ngB x)), (.slice A1 n1 c1), (.int .i64 (M : Int))] 25)).alloc (.cells #[(.bool (ngB y)), (.slice A2 n2 c2), (.int .i64 (M : Int))] 25)) [(A1, n1, c1, (x).natAbs), (A2, n2, c2, (y).natAbs)] [((w4.heap.size + 1), (.bool (ngB y)), (.slice A2 n2 c2), (.int .i64 (M : Int))), (w4.heap.size, (.bool (ngB x)), (.slice A1 n1 c1), (.int .i64 (M : Int))), ((w.heap.size + 1 + 1), .bool false, .slice none 0 0, .int .i64 0)]) := by
   have e1 := St.lay (t := 25) (x0 := (.bool (ngB y))) (x1 := (.slice A2 n2 c2)) (x2 := (.int .i64 (M : Int))) (g := w4.heap.size + 1) (St.lay (t := 25) (x0 := (.bool (ngB x))) (x1 := (.slice A1 n1 c1)) (x2 := (.int .i64 (M : Int))) (g := w4.heap.size) E.out rfl) (by simp)
   exact ⟨e1.bel, e1.num, fun q hq => e1.box q (by simp at hq ⊢; rcases hq with h | h | h <;> simp [h])⟩
 clear p0 p1 p2 pf0 pf1 pf2 plt q0 q1 q2 qf0 qf1 qf2 qlt
 clear r0 r1 r2 rf0 rf1 rf2 rlt
 generalize hW2 : (World.alloc (World.alloc w4 _) _) = W1 at E5 ⊢
 clear hW2 E
 have E := E5
 clear E5
 refine (refCmpN_is (St.got E (by simp)) (St.got E (by simp)) HZ.out).mono ?_; rintro e w5 ⟨rfl, hb1⟩; replace E := Lib.hid (St.step E.out hb1); clear hb1
 obtain ⟨p0, p1, p2, pf0, pf1, pf2, plt⟩ := St.at_ (x0 := (.bool (ngB x))) (x1 := (.slice A1 n1 c1)) (x2 := (.int .i64 (M : Int))) (g := w4.heap.size) E (by simp)
 obtain ⟨q0, q1, q2, qf0, qf1, qf2, qlt⟩ := St.at_ (x0 := (.bool (ngB y))) (x1 := (.slice A2 n2 c2)) (x2 := (.int .i64 (M : Int))) (g := (w4.heap.size + 1)) E (by simp)
 go_wp2_with fail
 clear p0 p1 p2 pf0 pf1 pf2 plt q0 q1 q2 qf0 qf1 qf2 qlt
 refine (refSub_ge A1 A2 n1 c1 n2 c2 (x).natAbs (y).natAbs _ (St.got E (by simp)) (St.got E (by simp)) (by omega) HLE.out).mono ?_; rintro e w6 ⟨A3, n3, c3, rfl, h1, hb1⟩; rw [HXA.out] at h1; replace E := Lib.hid (St.push E.out hb1 h1); clear h1 hb1
 obtain ⟨p0, p1, p2, pf0, pf1, pf2, plt⟩ := St.at_ (x0 := (.bool (ngB x))) (x1 := (.slice A1 n1 c1)) (x2 := (.int .i64 (M : Int))) (g := w4.heap.size) E (by simp)
 go_wp2_with fail
 refine (refDone_is (b := (ngB x)) (A := A3) (n := n3) (c := c3) (s := M) (St.got E (by simp)) (by omega) HX.out).mono ?_; rintro e w7 ⟨rfl, hb1⟩; replace E := Lib.hid (St.step E.out hb1); clear hb1
 clear p0 p1 p2 pf0 pf1 pf2 plt
 obtain ⟨r0, r1, r2, rf0, rf1, rf2, rlt⟩ := St.at_ (x0 := .bool false) (x1 := .slice none 0 0) (x2 := .int .i64 0) (g := (w.heap.size + 1 + 1)) E (by simp)
 go_wp2_with fail
 have EF := Lib.hid (St.store E.out (g := (w.heap.size + 1 + 1)) (x0 := .bool false) (x1 := .slice none 0 0) (x2 := .int .i64 0) (by simp) (noLimb_bool _) (noLimb_slice _ _ _) (noLimb_int _) [] (fun q hq => by cases hq) (.bool (ngB (x + y))) (.slice A3 n3 c3) (.int .i64 (M : Int)))
 obtain ⟨e0, e1, e2, _, _, _, _⟩ := St.at_ (x0 := .bool (ngB (x + y))) (x1 := .slice A3 n3 c3) (x2 := .int .i64 (M : Int)) (g := (w.heap.size + 1 + 1)) EF (by simp)
 exact bodyPost_ret (v := .agg #[.bool (ngB (x + y)), .slice A3 n3 c3, .int .i64 (M : Int)]) (by simp [results, Tryz.results32, go_sem, e0, e1, e2]) rfl ⟨A3, n3, c3, rfl, St.got EF (by simp), EF.out.bel⟩
theorem refAdd5_lt (A A' : Option Addr) (n c n' c' s t : Nat) (i j : Int) (w : World) (h : Num w w.heap.size A n c i.natAbs) (h' : Num w w.heap.size A' n' c' j.natAbs) (hn : n ≤ 1000000) (hn' : n' ≤ 1000000) (hs : s ≤ 100000) (ht : t ≤ 100000) (M : Nat) (hm : max s t = M) (x y : Int) (hx : up i s M = x) (hy : up j t M = y) (hb : ngB x ≠ ngB y) (hl : x.natAbs < y.natAbs) :
   Calls Tryz.prog 32 #[.agg #[.bool (ngB i), .slice A n c, .int .i64 (s : Int)], .agg #[.bool (ngB j), .slice A' n' c', .int .i64 (t : Int)]] w (RetDec w (x + y) M) := by
 have L1 : (dg x.natAbs).length ≤ n + (M - s) + 1 := by rw [← hx]; exact up_len h.len
 have L2 : (dg y.natAbs).length ≤ n' + (M - t) + 1 := by rw [← hy]; exact up_len h'.len
 have HA : Hid (∀ (w : World), Num w w.heap.size A n c i.natAbs → Num w w.heap.size A' n' c' j.natAbs → Calls Tryz.prog 65 #[.agg #[.bool (ngB i), .slice A n c, .int .i64 (s : Int)], .agg #[.bool (ngB j), .slice A' n' c', .int .i64 (t : Int)]] w (RetDec2 w x M y M)) := fun w h h' => by
   subst hx; subst hy; subst hm; exact refAlign_any A A' n c n' c' s t i j w h h' hn hn' hs ht
 have hM : M ≤ 100000 := by omega
 have HX0 : sgn (ngB y) (y.natAbs - x.natAbs) = x + y := sgn_bus hb (Nat.le_of_lt hl)
 have HXA : Hid (y.natAbs - x.natAbs = (x + y).natAbs) := (by show _ = _; rw [← HX0, abs_sgn])
 have HX : Hid (sgn (ngB y) (x + y).natAbs = x + y) := (by show _ = _; rw [← HXA.out]; exact HX0)
 clear HX0
 have hb2 := bool_ne hb
 have HZ := Lib.hid (cmpN_lt hl); have HLE := Lib.hid (Nat.le_of_lt hl)
 have HL1 : Hid ((dg x.natAbs).length ≤ 2000000) := (by show _ ≤ _; omega)
 have HL2 : Hid ((dg y.natAbs).length ≤ 2000000) := (by show _ ≤ _; omega)
 have H := Lib.hid h
 have H' := Lib.hid h'
 clear h h'
 clear L1 L2 hx hy hm hb hl
 go_enter Tryz.func32, Tryz.ntmps32
 go_wp2_with fail
 generalize hW : World.alloc (World.alloc (World.alloc w _) _) _ = W0
 have E0 : St w W0 [(A, n, c, (i).natAbs), (A', n', c', (j).natAbs)] [((w.heap.size + 1 + 1), .bool false, .slice none 0 0, .int .i64 0), ((w.heap.size + 1), (.bool (ngB j)), (.slice A' n' c'), (.int .i64 (t : Int))), (w.heap.size, (.bool (ngB i)), (.slice A n c), (.int .i64 (s : Int)))] := by rw [← hW]; exact (((start_two H.out H'.out).lay rfl).lay (by simp)).lay (by simp)
 have E := Lib.hid E0
 clear hW E0
 obtain ⟨p0, p1, p2, pf0, pf1, pf2, plt⟩ := St.at_ (x0 := (.bool (ngB i))) (x1 := (.slice A n c)) (x2 := (.int .i64 (s : Int))) (g := w.heap.size) E (by simp)
 obtain ⟨q0, q1, q2, qf0, qf1, qf2, qlt⟩ := St.at_ (x0 := (.bool (ngB j))) (x1 := (.slice A' n' c')) (x2 := (.int .i64 (t : Int))) (g := (w.heap.size + 1)) E (by simp)
 
 go_wp2_with fail
 refine (HA.out _ (St.got E (by simp)) (St.got E (by simp))).mono ?_
 rintro e w4 ⟨A1, n1, c1, A2, n2, c2, rfl, h1, h2, hb4⟩
 have hn1 : n1 ≤ 2000000 := by have := h1.len; have := HL1.out; omega
 have hn2 : n2 ≤ 2000000 := by have := h2.len; have := HL2.out; omega
 replace E : Hid (St w w4 [(A1, n1, c1, (x).natAbs), (A2, n2, c2, (y).natAbs)] [((w.heap.size + 1 + 1), .bool false, .slice none 0 0, .int .i64 0), ((w.heap.size + 1), (.bool (ngB j)), (.slice A' n' c'), (.int .i64 (t : Int))), (w.heap.size, (.bool (ngB i)), (.slice A n c), (.int .i64 (s : Int)))]) := ⟨(E.out.step hb4).bel, (St.start w4 (l := [(A1, n1, c1, (x).natAbs), (A2, n2, c2, (y).natAbs)]) (by simp; exact ⟨h1, h2⟩)).num, (E.out.step hb4).box⟩
 clear h1 h2 hb4 p0 p1 p2 pf0 pf1 pf2 plt q0 q1 q2 qf0 qf1 qf2 qlt
 obtain ⟨p0, p1, p2, pf0, pf1, pf2, plt⟩ := St.at_ (x0 := (.bool (ngB i))) (x1 := (.slice A n c)) (x2 := (.int .i64 (s : Int))) (g := w.heap.size) E (by simp)
 obtain ⟨q0, q1, q2, qf0, qf1, qf2, qlt⟩ := St.at_ (x0 := (.bool (ngB j))) (x1 := (.slice A' n' c')) (x2 := (.int .i64 (t : Int))) (g := (w.heap.size + 1)) E (by simp)
 obtain ⟨r0, r1, r2, rf0, rf1, rf2, rlt⟩ := St.at_ (x0 := .bool false) (x1 := .slice none 0 0) (x2 := .int .i64 0) (g := (w.heap.size + 1 + 1)) E (by simp)
 go_wp2_with fail
 have hz4 : w.heap.size + 1 + 1 < w4.heap.size := rlt
 have E5 : Hid (St w ((w4.alloc (.cells #[(.bool (ngB x)), (.slice A1 n1 c1), (.int .i64 (M : Int))] 25)).alloc (.cells #[(.bool (ngB y)), (.slice A2 n2 c2), (.int .i64 (M : Int))] 25)) [(A1, n1, c1, (x).natAbs), (A2, n2, c2, (y).natAbs)] [((w4.heap.size + 1), (.bool (ngB y)), (.slice A2 n2 c2), (.int .i64 (M : Int))), (w4.heap.size, (.bool (ngB x)), (.slice A1 n1 c1), (.int .i64 (M : Int))), ((w.heap.size + 1 + 1), .bool false, .slice none 0 0, .int .i64 0)]) := by
   have e1 := St.lay (t := 25) (x0 := (.bool (ngB y))) (x1 := (.slice A2 n2 c2)) (x2 := (.int .i64 (M : Int))) (g := w4.heap.size + 1) (St.lay (t := 25) (x0 := (.bool (ngB x))) (x1 := (.slice A1 n1 c1)) (x2 := (.int .i64 (M : Int))) (g := w4.heap.size) E.out rfl) (by simp)
   exact ⟨e1.bel, e1.num, fun q hq => e1.box q (by simp at hq ⊢; rcases hq with h | h | h <;> simp [h])⟩
 clear p0 p1 p2 pf0 pf1 pf2 plt q0 q1 q2 qf0 qf1 qf2 qlt
 clear r0 r1 r2 rf0 rf1 rf2 rlt
 generalize hW2 : (World.alloc (World.alloc w4 _) _) = W1 at E5 ⊢
 clear hW2 E
 have E := E5
 clear E5
 refine (refCmpN_is (St.got E (by simp)) (St.got E (by simp)) HZ.out).mono ?_; rintro e w5 ⟨rfl, hb1⟩; replace E := Lib.hid (St.step E.out hb1); clear hb1
 obtain ⟨p0, p1, p2, pf0, pf1, pf2, plt⟩ := St.at_ (x0 := (.bool (ngB x))) (x1 := (.slice A1 n1 c1)) (x2 := (.int .i64 (M : Int))) (g := w4.heap.size) E (by simp)
 obtain ⟨q0, q1, q2, qf0, qf1, qf2, qlt⟩ := St.at_ (x0 := (.bool (ngB y))) (x1 := (.slice A2 n2 c2)) (x2 := (.int .i64 (M : Int))) (g := (w4.heap.size + 1)) E (by simp)
 go_wp2_with fail
 have E6 := Lib.hid (St.store E.out (g := w4.heap.size) (x0 := (.bool (ngB x))) (x1 := (.slice A1 n1 c1)) (x2 := (.int .i64 (M : Int))) (by simp) (noLimb_bool _) (noLimb_slice _ _ _) (noLimb_int _) [((w.heap.size + 1 + 1), .bool false, .slice none 0 0, .int .i64 0), ((w4.heap.size + 1), (.bool (ngB y)), (.slice A2 n2 c2), (.int .i64 (M : Int)))] (by simp <;> omega) (.bool (ngB y)) (.slice A2 n2 c2) (.int .i64 (M : Int)))
 have E7 := Lib.hid (St.store E6.out (g := (w4.heap.size + 1)) (x0 := (.bool (ngB y))) (x1 := (.slice A2 n2 c2)) (x2 := (.int .i64 (M : Int))) (by simp) (noLimb_bool _) (noLimb_slice _ _ _) (noLimb_int _) [((w.heap.size + 1 + 1), .bool false, .slice none 0 0, .int .i64 0), (w4.heap.size, (.bool (ngB y)), (.slice A2 n2 c2), (.int .i64 (M : Int)))] (by simp <;> omega) (.bool (ngB x)) (.slice A1 n1 c1) (.int .i64 (M : Int)))
 clear p0 p1 p2 pf0 pf1 pf2 plt q0 q1 q2 qf0 qf1 qf2 qlt
 unfold put3 at E7
 generalize hW2 : (World.setCell (World.setCell (World.setCell (World.setCell (World.setCell (World.setCell w5 _ _) _ _) _ _) _ _) _ _) _ _) = W2 at E7 ⊢
 have E := E7
 clear hW2 E7 E6
 refine (refSub_ge A2 A1 n2 c2 n1 c1 (y).natAbs (x).natAbs _ (St.got E (by simp)) (St.got E (by simp)) (by omega) HLE.out).mono ?_; rintro e w6 ⟨A3, n3, c3, rfl, h1, hb1⟩; rw [HXA.out] at h1; replace E := Lib.hid (St.push E.out hb1 h1); clear h1 hb1
 obtain ⟨p0, p1, p2, pf0, pf1, pf2, plt⟩ := St.at_ (x0 := (.bool (ngB y))) (x1 := (.slice A2 n2 c2)) (x2 := (.int .i64 (M : Int))) (g := w4.heap.size) E (by simp)
 go_wp2_with fail
 refine (refDone_is (b := (ngB y)) (A := A3) (n := n3) (c := c3) (s := M) (St.got E (by simp)) (by omega) HX.out).mono ?_; rintro e w7 ⟨rfl, hb1⟩; replace E := Lib.hid (St.step E.out hb1); clear hb1
 clear p0 p1 p2 pf0 pf1 pf2 plt
 obtain ⟨r0, r1, r2, rf0, rf1, rf2, rlt⟩ := St.at_ (x0 := .bool false) (x1 := .slice none 0 0) (x2 := .int .i64 0) (g := (w.heap.size + 1 + 1)) E (by simp)
 go_wp2_with fail
 have EF := Lib.hid (St.store E.out (g := (w.heap.size + 1 + 1)) (x0 := .bool false) (x1 := .slice none 0 0) (x2 := .int .i64 0) (by simp) (noLimb_bool _) (noLimb_slice _ _ _) (noLimb_int _) [] (fun q hq => by cases hq) (.bool (ngB (x + y))) (.slice A3 n3 c3) (.int .i64 (M : Int)))
 obtain ⟨e0, e1, e2, _, _, _, _⟩ := St.at_ (x0 := .bool (ngB (x + y))) (x1 := .slice A3 n3 c3) (x2 := .int .i64 (M : Int)) (g := (w.heap.size + 1 + 1)) EF (by simp)
 exact bodyPost_ret (v := .agg #[.bool (ngB (x + y)), .slice A3 n3 c3, .int .i64 (M : Int)]) (by simp [results, Tryz.results32, go_sem, e0, e1, e2]) rfl ⟨A3, n3, c3, rfl, St.got EF (by simp), EF.out.bel⟩
theorem refAdd5_any (A A' : Option Addr) (n c n' c' s t : Nat) (i j : Int) (w : World) (h : Num w w.heap.size A n c i.natAbs) (h' : Num w w.heap.size A' n' c' j.natAbs) (hn : n ≤ 1000000) (hn' : n' ≤ 1000000) (hs : s ≤ 100000) (ht : t ≤ 100000) :
   Calls Tryz.prog 32 #[.agg #[.bool (ngB i), .slice A n c, .int .i64 (s : Int)], .agg #[.bool (ngB j), .slice A' n' c', .int .i64 (t : Int)]] w (RetDec w (addZ i s j t) (max s t)) := by
 unfold addZ
 by_cases hb : ngB (up i s (max s t)) = ngB (up j t (max s t))
 · exact refAdd5_same A A' n c n' c' s t i j w h h' hn hn' hs ht _ rfl _ _ rfl rfl hb
 · rcases Nat.lt_or_ge (up i s (max s t)).natAbs (up j t (max s t)).natAbs with hl | hl
   · exact refAdd5_lt A A' n c n' c' s t i j w h h' hn hn' hs ht _ rfl _ _ rfl rfl hb hl
   · exact refAdd5_ge A A' n c n' c' s t i j w h h' hn hn' hs ht _ rfl _ _ rfl rfl hb hl
end Go.Proofs.YthlhpgphmfnlgaaGreat
/-
 Contracts of layer 5, the eleventh part: Sub, Mul, Make and the document's.
-/
namespace Go.Proofs.YthlhpgphmfnlgaaGreat
open Go.RowKit
def subZ (i : Int) (s : Nat) (j : Int) (t : Nat) : Int := up i s (max s t) - up j t (max s t)
theorem up_neg_eq (i : Int) (s M : Nat) : up (-i) s M = -up i s M := Int.neg_mul _ _
theorem sub_add (i : Int) (s : Nat) (j : Int) (t : Nat) : addZ i s (-j) t = subZ i s j t := by
 unfold addZ subZ; rw [up_neg_eq]; omega
theorem mul_num (i j : Int) : i.natAbs * j.natAbs = (i * j).natAbs := (Int.natAbs_mul i j).symm
theorem sgn_mul_same {i j : Int} (h : ngB i = ngB j) : sgn false (i * j).natAbs = i * j := by
 unfold ngB at h
 have h2 : (i < 0) ↔ (j < 0) := by simpa using h
 rw [sgn_false]
 have : 0 ≤ i * j := by
   by_cases h0 : i < 0
   · exact Int.mul_nonneg_of_nonpos_of_nonpos (by omega) (by have := h2.1 h0; omega)
   · exact Int.mul_nonneg (by omega) (by omega)
 omega
theorem sgn_mul_apart {i j : Int} (h : ngB i ≠ ngB j) : sgn true (i * j).natAbs = i * j := by
 unfold ngB at h
 have h2 : ¬((i < 0) ↔ (j < 0)) := by simpa using h
 have e : ∀ a : Nat, sgn true a = -(a : Int) := fun a => rfl
 rw [e]
 have : i * j ≤ 0 := by
   by_cases h0 : i < 0
   · exact Int.mul_nonpos_of_nonpos_of_nonneg (by omega) (by omega)
   · exact Int.mul_nonpos_of_nonneg_of_nonpos (by omega) (by omega)
 omega
theorem bool_neq {a b : Bool} (h : a ≠ b) : (a != b) = true := by simpa using h
theorem bool_neq' {a b : Bool} (h : a = b) : (a != b) = false := by subst h; simp
theorem refSub5_any (A A' : Option Addr) (n c n' c' s t : Nat) (i j : Int) (w : World) (h : Num w w.heap.size A n c i.natAbs) (h' : Num w w.heap.size A' n' c' j.natAbs) (hn : n ≤ 1000000) (hn' : n' ≤ 1000000) (hs : s ≤ 100000) (ht : t ≤ 100000) :
   Calls Tryz.prog 73 #[.agg #[.bool (ngB i), .slice A n c, .int .i64 (s : Int)], .agg #[.bool (ngB j), .slice A' n' c', .int .i64 (t : Int)]] w (RetDec w (subZ i s j t) (max s t)) := by
 rw [← sub_add]
 have HLN : Hid ((dg (-j).natAbs).length ≤ 1000000) := by show _ ≤ _; rw [Int.natAbs_neg, h'.len]; exact hn'
 obtain ⟨M, hm⟩ : ∃ M, max s t = M := ⟨_, rfl⟩
 obtain ⟨x, hx⟩ : ∃ x, addZ i s (-j) t = x := ⟨_, rfl⟩
 have HA : Hid (∀ (A3 : Option Addr) (n3 c3 : Nat) (w : World), Num w w.heap.size A n c i.natAbs → Num w w.heap.size A3 n3 c3 (-j).natAbs → n3 ≤ 1000000 → Calls Tryz.prog 32 #[.agg #[.bool (ngB i), .slice A n c, .int .i64 (s : Int)], .agg #[.bool (ngB (-j)), .slice A3 n3 c3, .int .i64 (t : Int)]] w (RetDec w x M)) := fun A3 n3 c3 w h h' hn3 => by
   subst hx; subst hm; exact refAdd5_any A A3 n c n3 c3 s t i (-j) w h h' hn hn3 hs ht
 rw [hm, hx]
 clear hm hx
 have H := Lib.hid h
 have H' := Lib.hid h'
 clear h h'
 go_enter Tryz.func73, Tryz.ntmps73
 go_wp2_with fail
 generalize hW : World.alloc (World.alloc (World.alloc w _) _) _ = W0
 have E0 : St w W0 [(A, n, c, (i).natAbs), (A', n', c', (j).natAbs)] [((w.heap.size + 1 + 1), .bool false, .slice none 0 0, .int .i64 0), ((w.heap.size + 1), (.bool (ngB j)), (.slice A' n' c'), (.int .i64 (t : Int))), (w.heap.size, (.bool (ngB i)), (.slice A n c), (.int .i64 (s : Int)))] := by rw [← hW]; exact (((start_two H.out H'.out).lay rfl).lay (by simp)).lay (by simp)
 have E := Lib.hid E0
 clear hW E0
 obtain ⟨p0, p1, p2, pf0, pf1, pf2, plt⟩ := St.at_ (x0 := (.bool (ngB i))) (x1 := (.slice A n c)) (x2 := (.int .i64 (s : Int))) (g := w.heap.size) E (by simp)
 obtain ⟨q0, q1, q2, qf0, qf1, qf2, qlt⟩ := St.at_ (x0 := (.bool (ngB j))) (x1 := (.slice A' n' c')) (x2 := (.int .i64 (t : Int))) (g := (w.heap.size + 1)) E (by simp)
 
 clear p0 p1 p2 pf0 pf1 pf2 plt q0 q1 q2 qf0 qf1 qf2 qlt
 replace E := Lib.hid (St.drew E.out)
 go_region_held3 (fun v => v.cell? ⟨w.heap.size, 0, none⟩ = some (.bool (ngB i)) ∧ v.cell? ⟨w.heap.size, 1, none⟩ = some (.slice A n c) ∧ v.cell? ⟨w.heap.size, 2, none⟩ = some (.int .i64 (s : Int)) ∧ v.cell? ⟨w.heap.size + 1, 0, none⟩ = some (.bool (ngB j)) ∧ v.cell? ⟨w.heap.size + 1, 1, none⟩ = some (.slice A' n' c') ∧ v.cell? ⟨w.heap.size + 1, 2, none⟩ = some (.int .i64 (t : Int))) (first | (have X0 := St.at_ (x0 := (.bool (ngB i))) (x1 := (.slice A n c)) (x2 := (.int .i64 (s : Int))) (g := w.heap.size) E (by simp); have X1 := St.at_ (x0 := (.bool (ngB j))) (x1 := (.slice A' n' c')) (x2 := (.int .i64 (t : Int))) (g := (w.heap.size + 1)) E (by simp); with_reducible exact ⟨X0.c0, X0.c1, X0.c2, X1.c0, X1.c1, X1.c2⟩) | (with_reducible exact ⟨((St.at_ (x0 := (.bool (ngB i))) (x1 := (.slice A n c)) (x2 := (.int .i64 (s : Int))) (g := w.heap.size) E (by simp)).apart (g' := (w.heap.size + 1 + 1)) _ _ _ (by omega)).c0, ((St.at_ (x0 := (.bool (ngB i))) (x1 := (.slice A n c)) (x2 := (.int .i64 (s : Int))) (g := w.heap.size) E (by simp)).apart (g' := (w.heap.size + 1 + 1)) _ _ _ (by omega)).c1, ((St.at_ (x0 := (.bool (ngB i))) (x1 := (.slice A n c)) (x2 := (.int .i64 (s : Int))) (g := w.heap.size) E (by simp)).apart (g' := (w.heap.size + 1 + 1)) _ _ _ (by omega)).c2, ((St.at_ (x0 := (.bool (ngB j))) (x1 := (.slice A' n' c')) (x2 := (.int .i64 (t : Int))) (g := (w.heap.size + 1)) E (by simp)).apart (g' := (w.heap.size + 1 + 1)) _ _ _ (by omega)).c0, ((St.at_ (x0 := (.bool (ngB j))) (x1 := (.slice A' n' c')) (x2 := (.int .i64 (t : Int))) (g := (w.heap.size + 1)) E (by simp)).apart (g' := (w.heap.size + 1 + 1)) _ _ _ (by omega)).c1, ((St.at_ (x0 := (.bool (ngB j))) (x1 := (.slice A' n' c')) (x2 := (.int .i64 (t : Int))) (g := (w.heap.size + 1)) E (by simp)).apart (g' := (w.heap.size + 1 + 1)) _ _ _ (by omega)).c2⟩))
   (first | (go_at_call 39; refine (refNeg_any A' n' c' t j _ (St.got E (by simp)) (by omega)).mono ?_; rintro e w5 ⟨A3, n3, c3, rfl, h1, hb1⟩; have hn3 : n3 ≤ 1000000 := (by have e1 := h1.len; have e2 := HLN.out; omega); replace E := Lib.hid (St.push E.out hb1 h1); clear h1 hb1) | (go_at_call 32; refine (HA.out A3 n3 c3 _ (St.got E (by simp)) (St.got E (by simp)) hn3).mono ?_; rintro e w6 ⟨A4, n4, c4, rfl, h1, hb1⟩; replace E := Lib.hid (St.push E.out hb1 h1); clear h1 hb1; obtain ⟨r0, r1, r2, rf0, rf1, rf2, rlt⟩ := St.at_ (x0 := .bool false) (x1 := .slice none 0 0) (x2 := .int .i64 0) (g := (w.heap.size + 1 + 1)) E (by simp)))
 all_goals
   go_wp2_with fail
   have EF := Lib.hid (St.store E.out (g := (w.heap.size + 1 + 1)) (x0 := .bool false) (x1 := .slice none 0 0) (x2 := .int .i64 0) (by simp) (noLimb_bool _) (noLimb_slice _ _ _) (noLimb_int _) [] (fun q hq => by cases hq) (.bool (ngB (x))) (.slice A4 n4 c4) (.int .i64 (M : Int)))
   obtain ⟨e0, e1, e2, _, _, _, _⟩ := St.at_ (x0 := .bool (ngB (x))) (x1 := .slice A4 n4 c4) (x2 := .int .i64 (M : Int)) (g := (w.heap.size + 1 + 1)) EF (by simp)
   exact bodyPost_ret (v := .agg #[.bool (ngB (x)), .slice A4 n4 c4, .int .i64 (M : Int)]) (by simp [results, Tryz.results73, go_sem, e0, e1, e2]) rfl ⟨A4, n4, c4, rfl, St.got EF (by simp), EF.out.bel⟩
theorem mul5_same (A A' : Option Addr) (n c n' c' s t : Nat) (i j : Int) (w : World) (h : Num w w.heap.size A n c i.natAbs) (h' : Num w w.heap.size A' n' c' j.natAbs) (hn : n ≤ 1000000) (hn' : n' ≤ 1000000) (hs : s ≤ 100000) (ht : t ≤ 100000) (hb : ngB i = ngB j) :
   Calls Tryz.prog 41 #[.agg #[.bool (ngB i), .slice A n c, .int .i64 (s : Int)], .agg #[.bool (ngB j), .slice A' n' c', .int .i64 (t : Int)]] w (RetDec w (i * j) (s + t)) := by
 have HM := Lib.hid (mul_num i j)
 obtain ⟨x, hx⟩ : ∃ x, i * j = x := ⟨_, rfl⟩
 have HX := Lib.hid (sgn_mul_same hb)
 rw [hx] at HM HX
 rw [hx]
 have hb2 := bool_eq hb
 have hb3 := bool_neq' hb
 clear hb hx
 have H := Lib.hid h
 have H' := Lib.hid h'
 clear h h'
 have hw : IntKind.i64.wrap ((s : Int) + (t : Int)) = (s : Int) + (t : Int) := IntWalk.i64_in _ ⟨by omega, by omega⟩
 have hmx := max_zero (P := Tryz.prog) (s := s)
 have hmy := max_zero (P := Tryz.prog) (s := t)
 have hst : (s : Int) + (t : Int) = ((s + t : Nat) : Int) := by omega
 have hdc : decide ((s : Int) ≤ 9223372036854775807 - (t : Int)) = true := decide_eq_true (by omega)
 obtain ⟨r, hr⟩ : ∃ r, r = s + t := ⟨_, rfl⟩
 rw [← hr] at hst ⊢
 rw [hst] at hw
 have hrb : r ≤ 200000 := by omega
 clear hr
 go_enter Tryz.func41, Tryz.ntmps41
 go_wp2_with fail
 generalize hW : World.alloc (World.alloc (World.alloc w _) _) _ = W0
 have E0 : St w W0 [(A, n, c, (i).natAbs), (A', n', c', (j).natAbs)] [((w.heap.size + 1 + 1), .bool false, .slice none 0 0, .int .i64 0), ((w.heap.size + 1), (.bool (ngB j)), (.slice A' n' c'), (.int .i64 (t : Int))), (w.heap.size, (.bool (ngB i)), (.slice A n c), (.int .i64 (s : Int)))] := by rw [← hW]; exact (((start_two H.out H'.out).lay rfl).lay (by simp)).lay (by simp)
 have E := Lib.hid E0
 clear hW E0
 obtain ⟨p0, p1, p2, pf0, pf1, pf2, plt⟩ := St.at_ (x0 := (.bool (ngB i))) (x1 := (.slice A n c)) (x2 := (.int .i64 (s : Int))) (g := w.heap.size) E (by simp)
 obtain ⟨q0, q1, q2, qf0, qf1, qf2, qlt⟩ := St.at_ (x0 := (.bool (ngB j))) (x1 := (.slice A' n' c')) (x2 := (.int .i64 (t : Int))) (g := (w.heap.size + 1)) E (by simp)
 
 clear p0 p1 p2 pf0 pf1 pf2 plt q0 q1 q2 qf0 qf1 qf2 qlt
 replace E := Lib.hid (St.drew E.out)
 go_region_held3 (fun v => v.cell? ⟨w.heap.size, 0, none⟩ = some (.bool (ngB i)) ∧ v.cell? ⟨w.heap.size, 1, none⟩ = some (.slice A n c) ∧ v.cell? ⟨w.heap.size, 2, none⟩ = some (.int .i64 (s : Int)) ∧ v.cell? ⟨w.heap.size + 1, 0, none⟩ = some (.bool (ngB j)) ∧ v.cell? ⟨w.heap.size + 1, 1, none⟩ = some (.slice A' n' c') ∧ v.cell? ⟨w.heap.size + 1, 2, none⟩ = some (.int .i64 (t : Int))) (first | (have X0 := St.at_ (x0 := (.bool (ngB i))) (x1 := (.slice A n c)) (x2 := (.int .i64 (s : Int))) (g := w.heap.size) E (by simp); have X1 := St.at_ (x0 := (.bool (ngB j))) (x1 := (.slice A' n' c')) (x2 := (.int .i64 (t : Int))) (g := (w.heap.size + 1)) E (by simp); with_reducible exact ⟨X0.c0, X0.c1, X0.c2, X1.c0, X1.c1, X1.c2⟩))
   (fail)
 all_goals
   go_wp2_with fail
   clear hmx hmy hdc
   replace E := Lib.hid (St.drew E.out)
   go_region_held3 (fun v => v.cell? ⟨w.heap.size, 0, none⟩ = some (.bool (ngB i)) ∧ v.cell? ⟨w.heap.size, 1, none⟩ = some (.slice A n c) ∧ v.cell? ⟨w.heap.size, 2, none⟩ = some (.int .i64 (s : Int)) ∧ v.cell? ⟨w.heap.size + 1, 0, none⟩ = some (.bool (ngB j)) ∧ v.cell? ⟨w.heap.size + 1, 1, none⟩ = some (.slice A' n' c') ∧ v.cell? ⟨w.heap.size + 1, 2, none⟩ = some (.int .i64 (t : Int))) (first | (have X0 := St.at_ (x0 := (.bool (ngB i))) (x1 := (.slice A n c)) (x2 := (.int .i64 (s : Int))) (g := w.heap.size) E (by simp); have X1 := St.at_ (x0 := (.bool (ngB j))) (x1 := (.slice A' n' c')) (x2 := (.int .i64 (t : Int))) (g := (w.heap.size + 1)) E (by simp); with_reducible exact ⟨X0.c0, X0.c1, X0.c2, X1.c0, X1.c1, X1.c2⟩) | (with_reducible exact ⟨((St.at_ (x0 := (.bool (ngB i))) (x1 := (.slice A n c)) (x2 := (.int .i64 (s : Int))) (g := w.heap.size) E (by simp)).apart (g' := (w.heap.size + 1 + 1)) _ _ _ (by omega)).c0, ((St.at_ (x0 := (.bool (ngB i))) (x1 := (.slice A n c)) (x2 := (.int .i64 (s : Int))) (g := w.heap.size) E (by simp)).apart (g' := (w.heap.size + 1 + 1)) _ _ _ (by omega)).c1, ((St.at_ (x0 := (.bool (ngB i))) (x1 := (.slice A n c)) (x2 := (.int .i64 (s : Int))) (g := w.heap.size) E (by simp)).apart (g' := (w.heap.size + 1 + 1)) _ _ _ (by omega)).c2, ((St.at_ (x0 := (.bool (ngB j))) (x1 := (.slice A' n' c')) (x2 := (.int .i64 (t : Int))) (g := (w.heap.size + 1)) E (by simp)).apart (g' := (w.heap.size + 1 + 1)) _ _ _ (by omega)).c0, ((St.at_ (x0 := (.bool (ngB j))) (x1 := (.slice A' n' c')) (x2 := (.int .i64 (t : Int))) (g := (w.heap.size + 1)) E (by simp)).apart (g' := (w.heap.size + 1 + 1)) _ _ _ (by omega)).c1, ((St.at_ (x0 := (.bool (ngB j))) (x1 := (.slice A' n' c')) (x2 := (.int .i64 (t : Int))) (g := (w.heap.size + 1)) E (by simp)).apart (g' := (w.heap.size + 1 + 1)) _ _ _ (by omega)).c2⟩))
     (first | (go_at_call 56; refine (fast_is (a := i.natAbs) (b := j.natAbs) (St.got E (by simp)) (St.got E (by simp)) hn hn' HM.out).mono ?_; rintro e w5 ⟨A3, n3, c3, rfl, h1, _, hb1⟩; replace E := Lib.hid (St.push E.out hb1 h1); clear h1 hb1) | (go_at_call 48; refine (decimal_is (b := false) (A := A3) (n := n3) (c := c3) (s := r) (St.got E (by simp)) (by omega) HX.out).mono ?_; rintro e w6 ⟨rfl, hb1⟩; replace E := Lib.hid (St.step E.out hb1); clear hb1; obtain ⟨r0, r1, r2, rf0, rf1, rf2, rlt⟩ := St.at_ (x0 := .bool false) (x1 := .slice none 0 0) (x2 := .int .i64 0) (g := (w.heap.size + 1 + 1)) E (by simp)))
   all_goals
     go_wp2_with fail
     have EF := Lib.hid (St.store E.out (g := (w.heap.size + 1 + 1)) (x0 := .bool false) (x1 := .slice none 0 0) (x2 := .int .i64 0) (by simp) (noLimb_bool _) (noLimb_slice _ _ _) (noLimb_int _) [] (fun q hq => by cases hq) (.bool (ngB (x))) (.slice A3 n3 c3) (.int .i64 (r : Int)))
     obtain ⟨e0, e1, e2, _, _, _, _⟩ := St.at_ (x0 := .bool (ngB (x))) (x1 := .slice A3 n3 c3) (x2 := .int .i64 (r : Int)) (g := (w.heap.size + 1 + 1)) EF (by simp)
     exact bodyPost_ret (v := .agg #[.bool (ngB (x)), .slice A3 n3 c3, .int .i64 (r : Int)]) (by simp [results, Tryz.results41, go_sem, e0, e1, e2]) rfl ⟨A3, n3, c3, rfl, St.got EF (by simp), EF.out.bel⟩
theorem mul5_apart (A A' : Option Addr) (n c n' c' s t : Nat) (i j : Int) (w : World) (h : Num w w.heap.size A n c i.natAbs) (h' : Num w w.heap.size A' n' c' j.natAbs) (hn : n ≤ 1000000) (hn' : n' ≤ 1000000) (hs : s ≤ 100000) (ht : t ≤ 100000) (hb : ngB i ≠ ngB j) :
   Calls Tryz.prog 41 #[.agg #[.bool (ngB i), .slice A n c, .int .i64 (s : Int)], .agg #[.bool (ngB j), .slice A' n' c', .int .i64 (t : Int)]] w (RetDec w (i * j) (s + t)) := by
 have HM := Lib.hid (mul_num i j)
 obtain ⟨x, hx⟩ : ∃ x, i * j = x := ⟨_, rfl⟩
 have HX := Lib.hid (sgn_mul_apart hb)
 rw [hx] at HM HX
 rw [hx]
 have hb2 := bool_ne hb
 have hb3 := bool_neq hb
 clear hb hx
 have H := Lib.hid h
 have H' := Lib.hid h'
 clear h h'
 have hw : IntKind.i64.wrap ((s : Int) + (t : Int)) = (s : Int) + (t : Int) := IntWalk.i64_in _ ⟨by omega, by omega⟩
 have hmx := max_zero (P := Tryz.prog) (s := s)
 have hmy := max_zero (P := Tryz.prog) (s := t)
 have hst : (s : Int) + (t : Int) = ((s + t : Nat) : Int) := by omega
 have hdc : decide ((s : Int) ≤ 9223372036854775807 - (t : Int)) = true := decide_eq_true (by omega)
 obtain ⟨r, hr⟩ : ∃ r, r = s + t := ⟨_, rfl⟩
 rw [← hr] at hst ⊢
 rw [hst] at hw
 have hrb : r ≤ 200000 := by omega
 clear hr
 go_enter Tryz.func41, Tryz.ntmps41
 go_wp2_with fail
 generalize hW : World.alloc (World.alloc (World.alloc w _) _) _ = W0
 have E0 : St w W0 [(A, n, c, (i).natAbs), (A', n', c', (j).natAbs)] [((w.heap.size + 1 + 1), .bool false, .slice none 0 0, .int .i64 0), ((w.heap.size + 1), (.bool (ngB j)), (.slice A' n' c'), (.int .i64 (t : Int))), (w.heap.size, (.bool (ngB i)), (.slice A n c), (.int .i64 (s : Int)))] := by rw [← hW]; exact (((start_two H.out H'.out).lay rfl).lay (by simp)).lay (by simp)
 have E := Lib.hid E0
 clear hW E0
 obtain ⟨p0, p1, p2, pf0, pf1, pf2, plt⟩ := St.at_ (x0 := (.bool (ngB i))) (x1 := (.slice A n c)) (x2 := (.int .i64 (s : Int))) (g := w.heap.size) E (by simp)
 obtain ⟨q0, q1, q2, qf0, qf1, qf2, qlt⟩ := St.at_ (x0 := (.bool (ngB j))) (x1 := (.slice A' n' c')) (x2 := (.int .i64 (t : Int))) (g := (w.heap.size + 1)) E (by simp)
 
 clear p0 p1 p2 pf0 pf1 pf2 plt q0 q1 q2 qf0 qf1 qf2 qlt
 replace E := Lib.hid (St.drew E.out)
 go_region_held3 (fun v => v.cell? ⟨w.heap.size, 0, none⟩ = some (.bool (ngB i)) ∧ v.cell? ⟨w.heap.size, 1, none⟩ = some (.slice A n c) ∧ v.cell? ⟨w.heap.size, 2, none⟩ = some (.int .i64 (s : Int)) ∧ v.cell? ⟨w.heap.size + 1, 0, none⟩ = some (.bool (ngB j)) ∧ v.cell? ⟨w.heap.size + 1, 1, none⟩ = some (.slice A' n' c') ∧ v.cell? ⟨w.heap.size + 1, 2, none⟩ = some (.int .i64 (t : Int))) (first | (have X0 := St.at_ (x0 := (.bool (ngB i))) (x1 := (.slice A n c)) (x2 := (.int .i64 (s : Int))) (g := w.heap.size) E (by simp); have X1 := St.at_ (x0 := (.bool (ngB j))) (x1 := (.slice A' n' c')) (x2 := (.int .i64 (t : Int))) (g := (w.heap.size + 1)) E (by simp); with_reducible exact ⟨X0.c0, X0.c1, X0.c2, X1.c0, X1.c1, X1.c2⟩))
   (fail)
 all_goals
   go_wp2_with fail
   clear hmx hmy hdc
   replace E := Lib.hid (St.drew E.out)
   go_region_held3 (fun v => v.cell? ⟨w.heap.size, 0, none⟩ = some (.bool (ngB i)) ∧ v.cell? ⟨w.heap.size, 1, none⟩ = some (.slice A n c) ∧ v.cell? ⟨w.heap.size, 2, none⟩ = some (.int .i64 (s : Int)) ∧ v.cell? ⟨w.heap.size + 1, 0, none⟩ = some (.bool (ngB j)) ∧ v.cell? ⟨w.heap.size + 1, 1, none⟩ = some (.slice A' n' c') ∧ v.cell? ⟨w.heap.size + 1, 2, none⟩ = some (.int .i64 (t : Int))) (first | (have X0 := St.at_ (x0 := (.bool (ngB i))) (x1 := (.slice A n c)) (x2 := (.int .i64 (s : Int))) (g := w.heap.size) E (by simp); have X1 := St.at_ (x0 := (.bool (ngB j))) (x1 := (.slice A' n' c')) (x2 := (.int .i64 (t : Int))) (g := (w.heap.size + 1)) E (by simp); with_reducible exact ⟨X0.c0, X0.c1, X0.c2, X1.c0, X1.c1, X1.c2⟩) | (with_reducible exact ⟨((St.at_ (x0 := (.bool (ngB i))) (x1 := (.slice A n c)) (x2 := (.int .i64 (s : Int))) (g := w.heap.size) E (by simp)).apart (g' := (w.heap.size + 1 + 1)) _ _ _ (by omega)).c0, ((St.at_ (x0 := (.bool (ngB i))) (x1 := (.slice A n c)) (x2 := (.int .i64 (s : Int))) (g := w.heap.size) E (by simp)).apart (g' := (w.heap.size + 1 + 1)) _ _ _ (by omega)).c1, ((St.at_ (x0 := (.bool (ngB i))) (x1 := (.slice A n c)) (x2 := (.int .i64 (s : Int))) (g := w.heap.size) E (by simp)).apart (g' := (w.heap.size + 1 + 1)) _ _ _ (by omega)).c2, ((St.at_ (x0 := (.bool (ngB j))) (x1 := (.slice A' n' c')) (x2 := (.int .i64 (t : Int))) (g := (w.heap.size + 1)) E (by simp)).apart (g' := (w.heap.size + 1 + 1)) _ _ _ (by omega)).c0, ((St.at_ (x0 := (.bool (ngB j))) (x1 := (.slice A' n' c')) (x2 := (.int .i64 (t : Int))) (g := (w.heap.size + 1)) E (by simp)).apart (g' := (w.heap.size + 1 + 1)) _ _ _ (by omega)).c1, ((St.at_ (x0 := (.bool (ngB j))) (x1 := (.slice A' n' c')) (x2 := (.int .i64 (t : Int))) (g := (w.heap.size + 1)) E (by simp)).apart (g' := (w.heap.size + 1 + 1)) _ _ _ (by omega)).c2⟩))
     (first | (go_at_call 56; refine (fast_is (a := i.natAbs) (b := j.natAbs) (St.got E (by simp)) (St.got E (by simp)) hn hn' HM.out).mono ?_; rintro e w5 ⟨A3, n3, c3, rfl, h1, _, hb1⟩; replace E := Lib.hid (St.push E.out hb1 h1); clear h1 hb1) | (go_at_call 48; refine (decimal_is (b := true) (A := A3) (n := n3) (c := c3) (s := r) (St.got E (by simp)) (by omega) HX.out).mono ?_; rintro e w6 ⟨rfl, hb1⟩; replace E := Lib.hid (St.step E.out hb1); clear hb1; obtain ⟨r0, r1, r2, rf0, rf1, rf2, rlt⟩ := St.at_ (x0 := .bool false) (x1 := .slice none 0 0) (x2 := .int .i64 0) (g := (w.heap.size + 1 + 1)) E (by simp)))
   all_goals
     go_wp2_with fail
     have EF := Lib.hid (St.store E.out (g := (w.heap.size + 1 + 1)) (x0 := .bool false) (x1 := .slice none 0 0) (x2 := .int .i64 0) (by simp) (noLimb_bool _) (noLimb_slice _ _ _) (noLimb_int _) [] (fun q hq => by cases hq) (.bool (ngB (x))) (.slice A3 n3 c3) (.int .i64 (r : Int)))
     obtain ⟨e0, e1, e2, _, _, _, _⟩ := St.at_ (x0 := .bool (ngB (x))) (x1 := .slice A3 n3 c3) (x2 := .int .i64 (r : Int)) (g := (w.heap.size + 1 + 1)) EF (by simp)
     exact bodyPost_ret (v := .agg #[.bool (ngB (x)), .slice A3 n3 c3, .int .i64 (r : Int)]) (by simp [results, Tryz.results41, go_sem, e0, e1, e2]) rfl ⟨A3, n3, c3, rfl, St.got EF (by simp), EF.out.bel⟩
theorem mul5_any (A A' : Option Addr) (n c n' c' s t : Nat) (i j : Int) (w : World) (h : Num w w.heap.size A n c i.natAbs) (h' : Num w w.heap.size A' n' c' j.natAbs) (hn : n ≤ 1000000) (hn' : n' ≤ 1000000) (hs : s ≤ 100000) (ht : t ≤ 100000) :
   Calls Tryz.prog 41 #[.agg #[.bool (ngB i), .slice A n c, .int .i64 (s : Int)], .agg #[.bool (ngB j), .slice A' n' c', .int .i64 (t : Int)]] w (RetDec w (i * j) (s + t)) := by
 by_cases hb : ngB i = ngB j
 · exact mul5_same A A' n c n' c' s t i j w h h' hn hn' hs ht hb
 · exact mul5_apart A A' n c n' c' s t i j w h h' hn hn' hs ht hb
theorem refMul5_same (A A' : Option Addr) (n c n' c' s t : Nat) (i j : Int) (w : World) (h : Num w w.heap.size A n c i.natAbs) (h' : Num w w.heap.size A' n' c' j.natAbs) (hn : n ≤ 100000) (hn' : n' ≤ 100000) (hs : s ≤ 100000) (ht : t ≤ 100000) (hb : ngB i = ngB j) :
   Calls Tryz.prog 43 #[.agg #[.bool (ngB i), .slice A n c, .int .i64 (s : Int)], .agg #[.bool (ngB j), .slice A' n' c', .int .i64 (t : Int)]] w (RetDec w (i * j) (s + t)) := by
 have HM := Lib.hid (mul_num i j)
 obtain ⟨x, hx⟩ : ∃ x, i * j = x := ⟨_, rfl⟩
 have HX := Lib.hid (sgn_mul_same hb)
 rw [hx] at HM HX
 rw [hx]
 have hb2 := bool_eq hb
 have hb3 := bool_neq' hb
 clear hb hx
 have H := Lib.hid h
 have H' := Lib.hid h'
 clear h h'
 have hw : IntKind.i64.wrap ((s : Int) + (t : Int)) = (s : Int) + (t : Int) := IntWalk.i64_in _ ⟨by omega, by omega⟩
 have hmx := max_zero (P := Tryz.prog) (s := s)
 have hmy := max_zero (P := Tryz.prog) (s := t)
 have hst : (s : Int) + (t : Int) = ((s + t : Nat) : Int) := by omega
 have hdc : decide ((s : Int) ≤ 9223372036854775807 - (t : Int)) = true := decide_eq_true (by omega)
 obtain ⟨r, hr⟩ : ∃ r, r = s + t := ⟨_, rfl⟩
 rw [← hr] at hst ⊢
 rw [hst] at hw
 have hrb : r ≤ 200000 := by omega
 clear hr
 go_enter Tryz.func43, Tryz.ntmps43
 go_wp2_with fail
 generalize hW : World.alloc (World.alloc (World.alloc w _) _) _ = W0
 have E0 : St w W0 [(A, n, c, (i).natAbs), (A', n', c', (j).natAbs)] [((w.heap.size + 1 + 1), .bool false, .slice none 0 0, .int .i64 0), ((w.heap.size + 1), (.bool (ngB j)), (.slice A' n' c'), (.int .i64 (t : Int))), (w.heap.size, (.bool (ngB i)), (.slice A n c), (.int .i64 (s : Int)))] := by rw [← hW]; exact (((start_two H.out H'.out).lay rfl).lay (by simp)).lay (by simp)
 have E := Lib.hid E0
 clear hW E0
 obtain ⟨p0, p1, p2, pf0, pf1, pf2, plt⟩ := St.at_ (x0 := (.bool (ngB i))) (x1 := (.slice A n c)) (x2 := (.int .i64 (s : Int))) (g := w.heap.size) E (by simp)
 obtain ⟨q0, q1, q2, qf0, qf1, qf2, qlt⟩ := St.at_ (x0 := (.bool (ngB j))) (x1 := (.slice A' n' c')) (x2 := (.int .i64 (t : Int))) (g := (w.heap.size + 1)) E (by simp)
 
 clear p0 p1 p2 pf0 pf1 pf2 plt q0 q1 q2 qf0 qf1 qf2 qlt
 clear hmx hmy hdc
 replace E := Lib.hid (St.drew E.out)
 go_region_held3 (fun v => v.cell? ⟨w.heap.size, 0, none⟩ = some (.bool (ngB i)) ∧ v.cell? ⟨w.heap.size, 1, none⟩ = some (.slice A n c) ∧ v.cell? ⟨w.heap.size, 2, none⟩ = some (.int .i64 (s : Int)) ∧ v.cell? ⟨w.heap.size + 1, 0, none⟩ = some (.bool (ngB j)) ∧ v.cell? ⟨w.heap.size + 1, 1, none⟩ = some (.slice A' n' c') ∧ v.cell? ⟨w.heap.size + 1, 2, none⟩ = some (.int .i64 (t : Int))) (first | (have X0 := St.at_ (x0 := (.bool (ngB i))) (x1 := (.slice A n c)) (x2 := (.int .i64 (s : Int))) (g := w.heap.size) E (by simp); have X1 := St.at_ (x0 := (.bool (ngB j))) (x1 := (.slice A' n' c')) (x2 := (.int .i64 (t : Int))) (g := (w.heap.size + 1)) E (by simp); with_reducible exact ⟨X0.c0, X0.c1, X0.c2, X1.c0, X1.c1, X1.c2⟩) | (with_reducible exact ⟨((St.at_ (x0 := (.bool (ngB i))) (x1 := (.slice A n c)) (x2 := (.int .i64 (s : Int))) (g := w.heap.size) E (by simp)).apart (g' := (w.heap.size + 1 + 1)) _ _ _ (by omega)).c0, ((St.at_ (x0 := (.bool (ngB i))) (x1 := (.slice A n c)) (x2 := (.int .i64 (s : Int))) (g := w.heap.size) E (by simp)).apart (g' := (w.heap.size + 1 + 1)) _ _ _ (by omega)).c1, ((St.at_ (x0 := (.bool (ngB i))) (x1 := (.slice A n c)) (x2 := (.int .i64 (s : Int))) (g := w.heap.size) E (by simp)).apart (g' := (w.heap.size + 1 + 1)) _ _ _ (by omega)).c2, ((St.at_ (x0 := (.bool (ngB j))) (x1 := (.slice A' n' c')) (x2 := (.int .i64 (t : Int))) (g := (w.heap.size + 1)) E (by simp)).apart (g' := (w.heap.size + 1 + 1)) _ _ _ (by omega)).c0, ((St.at_ (x0 := (.bool (ngB j))) (x1 := (.slice A' n' c')) (x2 := (.int .i64 (t : Int))) (g := (w.heap.size + 1)) E (by simp)).apart (g' := (w.heap.size + 1 + 1)) _ _ _ (by omega)).c1, ((St.at_ (x0 := (.bool (ngB j))) (x1 := (.slice A' n' c')) (x2 := (.int .i64 (t : Int))) (g := (w.heap.size + 1)) E (by simp)).apart (g' := (w.heap.size + 1 + 1)) _ _ _ (by omega)).c2⟩))
   (first | (go_at_call 76; refine (refMul_is (a := i.natAbs) (b := j.natAbs) (St.got E (by simp)) (St.got E (by simp)) hn hn' HM.out).mono ?_; rintro e w5 ⟨A3, n3, c3, rfl, h1, hb1⟩; replace E := Lib.hid (St.push E.out hb1 h1); clear h1 hb1) | (go_at_call 66; refine (refDone_is (b := false) (A := A3) (n := n3) (c := c3) (s := r) (St.got E (by simp)) (by omega) HX.out).mono ?_; rintro e w6 ⟨rfl, hb1⟩; replace E := Lib.hid (St.step E.out hb1); clear hb1; obtain ⟨r0, r1, r2, rf0, rf1, rf2, rlt⟩ := St.at_ (x0 := .bool false) (x1 := .slice none 0 0) (x2 := .int .i64 0) (g := (w.heap.size + 1 + 1)) E (by simp)))
 all_goals
   go_wp2_with fail
   have EF := Lib.hid (St.store E.out (g := (w.heap.size + 1 + 1)) (x0 := .bool false) (x1 := .slice none 0 0) (x2 := .int .i64 0) (by simp) (noLimb_bool _) (noLimb_slice _ _ _) (noLimb_int _) [] (fun q hq => by cases hq) (.bool (ngB (x))) (.slice A3 n3 c3) (.int .i64 (r : Int)))
   obtain ⟨e0, e1, e2, _, _, _, _⟩ := St.at_ (x0 := .bool (ngB (x))) (x1 := .slice A3 n3 c3) (x2 := .int .i64 (r : Int)) (g := (w.heap.size + 1 + 1)) EF (by simp)
   exact bodyPost_ret (v := .agg #[.bool (ngB (x)), .slice A3 n3 c3, .int .i64 (r : Int)]) (by simp [results, Tryz.results43, go_sem, e0, e1, e2]) rfl ⟨A3, n3, c3, rfl, St.got EF (by simp), EF.out.bel⟩
theorem refMul5_apart (A A' : Option Addr) (n c n' c' s t : Nat) (i j : Int) (w : World) (h : Num w w.heap.size A n c i.natAbs) (h' : Num w w.heap.size A' n' c' j.natAbs) (hn : n ≤ 100000) (hn' : n' ≤ 100000) (hs : s ≤ 100000) (ht : t ≤ 100000) (hb : ngB i ≠ ngB j) :
   Calls Tryz.prog 43 #[.agg #[.bool (ngB i), .slice A n c, .int .i64 (s : Int)], .agg #[.bool (ngB j), .slice A' n' c', .int .i64 (t : Int)]] w (RetDec w (i * j) (s + t)) := by
 have HM := Lib.hid (mul_num i j)
 obtain ⟨x, hx⟩ : ∃ x, i * j = x := ⟨_, rfl⟩
 have HX := Lib.hid (sgn_mul_apart hb)
 rw [hx] at HM HX
 rw [hx]
 have hb2 := bool_ne hb
 have hb3 := bool_neq hb
 clear hb hx
 have H := Lib.hid h
 have H' := Lib.hid h'
 clear h h'
 have hw : IntKind.i64.wrap ((s : Int) + (t : Int)) = (s : Int) + (t : Int) := IntWalk.i64_in _ ⟨by omega, by omega⟩
 have hmx := max_zero (P := Tryz.prog) (s := s)
 have hmy := max_zero (P := Tryz.prog) (s := t)
 have hst : (s : Int) + (t : Int) = ((s + t : Nat) : Int) := by omega
 have hdc : decide ((s : Int) ≤ 9223372036854775807 - (t : Int)) = true := decide_eq_true (by omega)
 obtain ⟨r, hr⟩ : ∃ r, r = s + t := ⟨_, rfl⟩
 rw [← hr] at hst ⊢
 rw [hst] at hw
 have hrb : r ≤ 200000 := by omega
 clear hr
 go_enter Tryz.func43, Tryz.ntmps43
 go_wp2_with fail
 generalize hW : World.alloc (World.alloc (World.alloc w _) _) _ = W0
 have E0 : St w W0 [(A, n, c, (i).natAbs), (A', n', c', (j).natAbs)] [((w.heap.size + 1 + 1), .bool false, .slice none 0 0, .int .i64 0), ((w.heap.size + 1), (.bool (ngB j)), (.slice A' n' c'), (.int .i64 (t : Int))), (w.heap.size, (.bool (ngB i)), (.slice A n c), (.int .i64 (s : Int)))] := by rw [← hW]; exact (((start_two H.out H'.out).lay rfl).lay (by simp)).lay (by simp)
 have E := Lib.hid E0
 clear hW E0
 obtain ⟨p0, p1, p2, pf0, pf1, pf2, plt⟩ := St.at_ (x0 := (.bool (ngB i))) (x1 := (.slice A n c)) (x2 := (.int .i64 (s : Int))) (g := w.heap.size) E (by simp)
 obtain ⟨q0, q1, q2, qf0, qf1, qf2, qlt⟩ := St.at_ (x0 := (.bool (ngB j))) (x1 := (.slice A' n' c')) (x2 := (.int .i64 (t : Int))) (g := (w.heap.size + 1)) E (by simp)
 
 clear p0 p1 p2 pf0 pf1 pf2 plt q0 q1 q2 qf0 qf1 qf2 qlt
 clear hmx hmy hdc
 replace E := Lib.hid (St.drew E.out)
 go_region_held3 (fun v => v.cell? ⟨w.heap.size, 0, none⟩ = some (.bool (ngB i)) ∧ v.cell? ⟨w.heap.size, 1, none⟩ = some (.slice A n c) ∧ v.cell? ⟨w.heap.size, 2, none⟩ = some (.int .i64 (s : Int)) ∧ v.cell? ⟨w.heap.size + 1, 0, none⟩ = some (.bool (ngB j)) ∧ v.cell? ⟨w.heap.size + 1, 1, none⟩ = some (.slice A' n' c') ∧ v.cell? ⟨w.heap.size + 1, 2, none⟩ = some (.int .i64 (t : Int))) (first | (have X0 := St.at_ (x0 := (.bool (ngB i))) (x1 := (.slice A n c)) (x2 := (.int .i64 (s : Int))) (g := w.heap.size) E (by simp); have X1 := St.at_ (x0 := (.bool (ngB j))) (x1 := (.slice A' n' c')) (x2 := (.int .i64 (t : Int))) (g := (w.heap.size + 1)) E (by simp); with_reducible exact ⟨X0.c0, X0.c1, X0.c2, X1.c0, X1.c1, X1.c2⟩) | (with_reducible exact ⟨((St.at_ (x0 := (.bool (ngB i))) (x1 := (.slice A n c)) (x2 := (.int .i64 (s : Int))) (g := w.heap.size) E (by simp)).apart (g' := (w.heap.size + 1 + 1)) _ _ _ (by omega)).c0, ((St.at_ (x0 := (.bool (ngB i))) (x1 := (.slice A n c)) (x2 := (.int .i64 (s : Int))) (g := w.heap.size) E (by simp)).apart (g' := (w.heap.size + 1 + 1)) _ _ _ (by omega)).c1, ((St.at_ (x0 := (.bool (ngB i))) (x1 := (.slice A n c)) (x2 := (.int .i64 (s : Int))) (g := w.heap.size) E (by simp)).apart (g' := (w.heap.size + 1 + 1)) _ _ _ (by omega)).c2, ((St.at_ (x0 := (.bool (ngB j))) (x1 := (.slice A' n' c')) (x2 := (.int .i64 (t : Int))) (g := (w.heap.size + 1)) E (by simp)).apart (g' := (w.heap.size + 1 + 1)) _ _ _ (by omega)).c0, ((St.at_ (x0 := (.bool (ngB j))) (x1 := (.slice A' n' c')) (x2 := (.int .i64 (t : Int))) (g := (w.heap.size + 1)) E (by simp)).apart (g' := (w.heap.size + 1 + 1)) _ _ _ (by omega)).c1, ((St.at_ (x0 := (.bool (ngB j))) (x1 := (.slice A' n' c')) (x2 := (.int .i64 (t : Int))) (g := (w.heap.size + 1)) E (by simp)).apart (g' := (w.heap.size + 1 + 1)) _ _ _ (by omega)).c2⟩))
   (first | (go_at_call 76; refine (refMul_is (a := i.natAbs) (b := j.natAbs) (St.got E (by simp)) (St.got E (by simp)) hn hn' HM.out).mono ?_; rintro e w5 ⟨A3, n3, c3, rfl, h1, hb1⟩; replace E := Lib.hid (St.push E.out hb1 h1); clear h1 hb1) | (go_at_call 66; refine (refDone_is (b := true) (A := A3) (n := n3) (c := c3) (s := r) (St.got E (by simp)) (by omega) HX.out).mono ?_; rintro e w6 ⟨rfl, hb1⟩; replace E := Lib.hid (St.step E.out hb1); clear hb1; obtain ⟨r0, r1, r2, rf0, rf1, rf2, rlt⟩ := St.at_ (x0 := .bool false) (x1 := .slice none 0 0) (x2 := .int .i64 0) (g := (w.heap.size + 1 + 1)) E (by simp)))
 all_goals
   go_wp2_with fail
   have EF := Lib.hid (St.store E.out (g := (w.heap.size + 1 + 1)) (x0 := .bool false) (x1 := .slice none 0 0) (x2 := .int .i64 0) (by simp) (noLimb_bool _) (noLimb_slice _ _ _) (noLimb_int _) [] (fun q hq => by cases hq) (.bool (ngB (x))) (.slice A3 n3 c3) (.int .i64 (r : Int)))
   obtain ⟨e0, e1, e2, _, _, _, _⟩ := St.at_ (x0 := .bool (ngB (x))) (x1 := .slice A3 n3 c3) (x2 := .int .i64 (r : Int)) (g := (w.heap.size + 1 + 1)) EF (by simp)
   exact bodyPost_ret (v := .agg #[.bool (ngB (x)), .slice A3 n3 c3, .int .i64 (r : Int)]) (by simp [results, Tryz.results43, go_sem, e0, e1, e2]) rfl ⟨A3, n3, c3, rfl, St.got EF (by simp), EF.out.bel⟩
theorem refMul5_any (A A' : Option Addr) (n c n' c' s t : Nat) (i j : Int) (w : World) (h : Num w w.heap.size A n c i.natAbs) (h' : Num w w.heap.size A' n' c' j.natAbs) (hn : n ≤ 100000) (hn' : n' ≤ 100000) (hs : s ≤ 100000) (ht : t ≤ 100000) :
   Calls Tryz.prog 43 #[.agg #[.bool (ngB i), .slice A n c, .int .i64 (s : Int)], .agg #[.bool (ngB j), .slice A' n' c', .int .i64 (t : Int)]] w (RetDec w (i * j) (s + t)) := by
 by_cases hb : ngB i = ngB j
 · exact refMul5_same A A' n c n' c' s t i j w h h' hn hn' hs ht hb
 · exact refMul5_apart A A' n c n' c' s t i j w h h' hn hn' hs ht hb
end Go.Proofs.YthlhpgphmfnlgaaGreat
/-
 Contracts of layer 5, the twelfth part: Make, Between and the document's.
-/
namespace Go.Proofs.YthlhpgphmfnlgaaGreat
open Go.RowKit
theorem u64_any (n : Int) : IntKind.u64.wrap n = n % 18446744073709551616 := by simp [IntKind.wrap, IntKind.bits, IntKind.signed]
theorem cmp5_is {A A' : Option Addr} {n c n' c' s t : Nat} {i j z : Int} {w : World} (h : Num w w.heap.size A n c i.natAbs) (h' : Num w w.heap.size A' n' c' j.natAbs) (hn : n ≤ 1000000) (hn' : n' ≤ 1000000) (hs : s ≤ 100000) (ht : t ≤ 100000) (hz : cmpD i s j t = z) :
   Calls Tryz.prog 28 #[.agg #[.bool (ngB i), .slice A n c, .int .i64 (s : Int)], .agg #[.bool (ngB j), .slice A' n' c', .int .i64 (t : Int)]] w (RetVal w (.int .i64 z)) := by
 subst hz; exact cmp5_any A A' n c n' c' s t i j w h h' hn hn' hs ht
theorem refCmp5_is {A A' : Option Addr} {n c n' c' s t : Nat} {i j z : Int} {w : World} (h : Num w w.heap.size A n c i.natAbs) (h' : Num w w.heap.size A' n' c' j.natAbs) (hn : n ≤ 1000000) (hn' : n' ≤ 1000000) (hs : s ≤ 100000) (ht : t ≤ 100000) (hz : cmpD i s j t = z) :
   Calls Tryz.prog 35 #[.agg #[.bool (ngB i), .slice A n c, .int .i64 (s : Int)], .agg #[.bool (ngB j), .slice A' n' c', .int .i64 (t : Int)]] w (RetVal w (.int .i64 z)) := by
 subst hz; exact refCmp5_any A A' n c n' c' s t i j w h h' hn hn' hs ht
theorem max_zero' {P : Program} {s : Nat} (ts : Array TypeId) (ty : TypeId) (W : World) : (Builtin.max_ ts ty #[.int .i64 0, .int .i64 (s : Int)]).run P W = .ok (.int .i64 (s : Int)) W := by
 rw [run_max_int2]
 have e : (if (s : Int) > (0 : Int) then (s : Int) else (0 : Int)) = (s : Int) := by split <;> omega
 rw [e]
theorem mk5_pos (i : Int) (s : Nat) (w : World) (h1 : Hid (-9223372036854775808 ≤ i)) (h2 : Hid (i ≤ 9223372036854775807)) (h0 : 0 ≤ i) (hs : s ≤ 100000) :
   Calls Tryz.prog 15 #[.int .i64 i, .int .i64 (s : Int)] w (RetDec w i s) := by
 have HX : Hid (sgn false i.natAbs = i) := by
   have := sgn_ng i
   rwa [show ngB i = false from decide_eq_false (by omega)] at this
 have HN : Hid (i.natAbs < 18446744073709551616) := by have := h1.out; have := h2.out; show _ < _; omega
 obtain ⟨a, ha⟩ : ∃ a, i.natAbs = a := ⟨_, rfl⟩
 have hb : IntKind.u64.wrap i = (a : Int) := by
   have := HN.out
   rw [u64_any]
   omega
 rw [ha] at HX HN
 have HA := Lib.hid ha
 have hd : decide (i < (0 : Int)) = false := decide_eq_false (by omega)
 clear h1 h2 ha
 have hmx := max_zero (P := Tryz.prog) (s := s)
 go_enter Tryz.func15, Tryz.ntmps15
 go_wp2_with fail
 generalize hW : World.alloc w _ = W0
 have E0 : St w W0 [] [(w.heap.size, .bool false, .slice none 0 0, .int .i64 0)] := by rw [← hW]; exact (St.start w (l := []) (fun q hq => by cases hq)).lay rfl
 have E := Lib.hid E0
 clear hW E0 hb
 refine (mk_any a _ rfl HN.out _).mono ?_; rintro e w1 ⟨A1, n1, c1, rfl, h1, hb1⟩; replace E := Lib.hid (St.push E.out hb1 h1); clear h1 hb1
 go_wp2_with fail
 refine (decimal_is (b := false) (x := i) (a := a) (St.got E (by simp)) (by omega) HX.out).mono ?_; rintro e w2 ⟨rfl, hb1⟩; replace E := Lib.hid (St.step E.out hb1); clear hb1
 obtain ⟨r0, r1, r2, rf0, rf1, rf2, rlt⟩ := St.at_ (x0 := .bool false) (x1 := .slice none 0 0) (x2 := .int .i64 0) (g := w.heap.size) E (by simp)
 go_wp2_with fail
 have EF := Lib.hid (St.store E.out (g := w.heap.size) (x0 := .bool false) (x1 := .slice none 0 0) (x2 := .int .i64 0) (by simp) (noLimb_bool _) (noLimb_slice _ _ _) (noLimb_int _) [] (fun q hq => by cases hq) (.bool (ngB (i))) (.slice A1 n1 c1) (.int .i64 (s : Int)))
 obtain ⟨e0, e1, e2, _, _, _, _⟩ := St.at_ (x0 := .bool (ngB (i))) (x1 := .slice A1 n1 c1) (x2 := .int .i64 (s : Int)) (g := w.heap.size) EF (by simp)
 exact bodyPost_ret (v := .agg #[.bool (ngB (i)), .slice A1 n1 c1, .int .i64 (s : Int)]) (by simp [results, Tryz.results15, go_sem, e0, e1, e2]) rfl ⟨A1, n1, c1, rfl, by rw [HA.out]; exact St.got EF (by simp), EF.out.bel⟩
theorem mk5_neg (i : Int) (s : Nat) (w : World) (h1 : Hid (-9223372036854775808 ≤ i)) (h2 : Hid (i ≤ 9223372036854775807)) (h0 : i < 0) (hs : s ≤ 100000) :
   Calls Tryz.prog 15 #[.int .i64 i, .int .i64 (s : Int)] w (RetDec w i s) := by
 have HX : Hid (sgn true i.natAbs = i) := by
   have := sgn_ng i
   rwa [show ngB i = true from decide_eq_true h0] at this
 have HN : Hid (i.natAbs < 18446744073709551616) := by have := h1.out; have := h2.out; show _ < _; omega
 obtain ⟨a, ha⟩ : ∃ a, i.natAbs = a := ⟨_, rfl⟩
 obtain ⟨b, hb⟩ : ∃ b : Nat, IntKind.u64.wrap i = (b : Int) := ⟨(IntKind.u64.wrap i).toNat, by rw [u64_any]; omega⟩
 have hb2 : IntKind.u64.wrap (-(b : Int)) = (a : Int) := by
   have := HN.out
   have := h1.out
   rw [u64_any] at hb
   rw [u64_any]
   omega
 rw [ha] at HX HN
 have HA := Lib.hid ha
 have hd : decide (i < (0 : Int)) = true := decide_eq_true h0
 clear h1 h2 ha
 have hmx := max_zero (P := Tryz.prog) (s := s)
 go_enter Tryz.func15, Tryz.ntmps15
 go_wp2_with fail
 generalize hW : World.alloc w _ = W0
 have E0 : St w W0 [] [(w.heap.size, .bool false, .slice none 0 0, .int .i64 0)] := by rw [← hW]; exact (St.start w (l := []) (fun q hq => by cases hq)).lay rfl
 have E := Lib.hid E0
 clear hW E0 hb hb2
 refine (mk_any a _ rfl HN.out _).mono ?_; rintro e w1 ⟨A1, n1, c1, rfl, h1, hb1⟩; replace E := Lib.hid (St.push E.out hb1 h1); clear h1 hb1
 go_wp2_with fail
 refine (decimal_is (b := true) (x := i) (a := a) (St.got E (by simp)) (by omega) HX.out).mono ?_; rintro e w2 ⟨rfl, hb1⟩; replace E := Lib.hid (St.step E.out hb1); clear hb1
 obtain ⟨r0, r1, r2, rf0, rf1, rf2, rlt⟩ := St.at_ (x0 := .bool false) (x1 := .slice none 0 0) (x2 := .int .i64 0) (g := w.heap.size) E (by simp)
 go_wp2_with fail
 have EF := Lib.hid (St.store E.out (g := w.heap.size) (x0 := .bool false) (x1 := .slice none 0 0) (x2 := .int .i64 0) (by simp) (noLimb_bool _) (noLimb_slice _ _ _) (noLimb_int _) [] (fun q hq => by cases hq) (.bool (ngB (i))) (.slice A1 n1 c1) (.int .i64 (s : Int)))
 obtain ⟨e0, e1, e2, _, _, _, _⟩ := St.at_ (x0 := .bool (ngB (i))) (x1 := .slice A1 n1 c1) (x2 := .int .i64 (s : Int)) (g := w.heap.size) EF (by simp)
 exact bodyPost_ret (v := .agg #[.bool (ngB (i)), .slice A1 n1 c1, .int .i64 (s : Int)]) (by simp [results, Tryz.results15, go_sem, e0, e1, e2]) rfl ⟨A1, n1, c1, rfl, by rw [HA.out]; exact St.got EF (by simp), EF.out.bel⟩
theorem mk5_any (i : Int) (s : Nat) (w : World) (h1 : Hid (-9223372036854775808 ≤ i)) (h2 : Hid (i ≤ 9223372036854775807)) (hs : s ≤ 100000) :
   Calls Tryz.prog 15 #[.int .i64 i, .int .i64 (s : Int)] w (RetDec w i s) := by
 rcases Int.lt_or_le i 0 with h | h
 · exact mk5_neg i s w h1 h2 h hs
 · exact mk5_pos i s w h1 h2 h hs
theorem refMk5_pos (i : Int) (s : Nat) (w : World) (h1 : Hid (-9223372036854775808 ≤ i)) (h2 : Hid (i ≤ 9223372036854775807)) (h0 : 0 ≤ i) (hs : s ≤ 100000) :
   Calls Tryz.prog 38 #[.int .i64 i, .int .i64 (s : Int)] w (RetDec w i s) := by
 have HX : Hid (sgn false i.natAbs = i) := by
   have := sgn_ng i
   rwa [show ngB i = false from decide_eq_false (by omega)] at this
 have HN : Hid (i.natAbs < 18446744073709551616) := by have := h1.out; have := h2.out; show _ < _; omega
 obtain ⟨a, ha⟩ : ∃ a, i.natAbs = a := ⟨_, rfl⟩
 have hb : IntKind.u64.wrap i = (a : Int) := by
   have := HN.out
   rw [u64_any]
   omega
 rw [ha] at HX HN
 have HA := Lib.hid ha
 have hd : decide (i < (0 : Int)) = false := decide_eq_false (by omega)
 clear h1 h2 ha
 have hmx := max_zero' (P := Tryz.prog) (s := s)
 go_enter Tryz.func38, Tryz.ntmps38
 go_wp2_with fail
 generalize hW : World.alloc w _ = W0
 have E0 : St w W0 [] [(w.heap.size, .bool false, .slice none 0 0, .int .i64 0)] := by rw [← hW]; exact (St.start w (l := []) (fun q hq => by cases hq)).lay rfl
 have E := Lib.hid E0
 clear hW E0 hb
 refine (refMk_any a _ rfl HN.out _).mono ?_; rintro e w1 ⟨A1, n1, c1, rfl, h1, hb1⟩; replace E := Lib.hid (St.push E.out hb1 h1); clear h1 hb1
 go_wp2_with fail
 refine (refDone_is (b := false) (x := i) (a := a) (St.got E (by simp)) (by omega) HX.out).mono ?_; rintro e w2 ⟨rfl, hb1⟩; replace E := Lib.hid (St.step E.out hb1); clear hb1
 obtain ⟨r0, r1, r2, rf0, rf1, rf2, rlt⟩ := St.at_ (x0 := .bool false) (x1 := .slice none 0 0) (x2 := .int .i64 0) (g := w.heap.size) E (by simp)
 go_wp2_with fail
 have EF := Lib.hid (St.store E.out (g := w.heap.size) (x0 := .bool false) (x1 := .slice none 0 0) (x2 := .int .i64 0) (by simp) (noLimb_bool _) (noLimb_slice _ _ _) (noLimb_int _) [] (fun q hq => by cases hq) (.bool (ngB (i))) (.slice A1 n1 c1) (.int .i64 (s : Int)))
 obtain ⟨e0, e1, e2, _, _, _, _⟩ := St.at_ (x0 := .bool (ngB (i))) (x1 := .slice A1 n1 c1) (x2 := .int .i64 (s : Int)) (g := w.heap.size) EF (by simp)
 exact bodyPost_ret (v := .agg #[.bool (ngB (i)), .slice A1 n1 c1, .int .i64 (s : Int)]) (by simp [results, Tryz.results38, go_sem, e0, e1, e2]) rfl ⟨A1, n1, c1, rfl, by rw [HA.out]; exact St.got EF (by simp), EF.out.bel⟩
theorem refMk5_neg (i : Int) (s : Nat) (w : World) (h1 : Hid (-9223372036854775808 ≤ i)) (h2 : Hid (i ≤ 9223372036854775807)) (h0 : i < 0) (hs : s ≤ 100000) :
   Calls Tryz.prog 38 #[.int .i64 i, .int .i64 (s : Int)] w (RetDec w i s) := by
 have HX : Hid (sgn true i.natAbs = i) := by
   have := sgn_ng i
   rwa [show ngB i = true from decide_eq_true h0] at this
 have HN : Hid (i.natAbs < 18446744073709551616) := by have := h1.out; have := h2.out; show _ < _; omega
 obtain ⟨a, ha⟩ : ∃ a, i.natAbs = a := ⟨_, rfl⟩
 obtain ⟨b, hb⟩ : ∃ b : Nat, IntKind.u64.wrap i = (b : Int) := ⟨(IntKind.u64.wrap i).toNat, by rw [u64_any]; omega⟩
 have hb2 : IntKind.u64.wrap (-(b : Int)) = (a : Int) := by
   have := HN.out
   have := h1.out
   rw [u64_any] at hb
   rw [u64_any]
   omega
 rw [ha] at HX HN
 have HA := Lib.hid ha
 have hd : decide (i < (0 : Int)) = true := decide_eq_true h0
 clear h1 h2 ha
 have hmx := max_zero' (P := Tryz.prog) (s := s)
 go_enter Tryz.func38, Tryz.ntmps38
 go_wp2_with fail
 generalize hW : World.alloc w _ = W0
 have E0 : St w W0 [] [(w.heap.size, .bool false, .slice none 0 0, .int .i64 0)] := by rw [← hW]; exact (St.start w (l := []) (fun q hq => by cases hq)).lay rfl
 have E := Lib.hid E0
 clear hW E0 hb hb2
 refine (refMk_any a _ rfl HN.out _).mono ?_; rintro e w1 ⟨A1, n1, c1, rfl, h1, hb1⟩; replace E := Lib.hid (St.push E.out hb1 h1); clear h1 hb1
 go_wp2_with fail
 refine (refDone_is (b := true) (x := i) (a := a) (St.got E (by simp)) (by omega) HX.out).mono ?_; rintro e w2 ⟨rfl, hb1⟩; replace E := Lib.hid (St.step E.out hb1); clear hb1
 obtain ⟨r0, r1, r2, rf0, rf1, rf2, rlt⟩ := St.at_ (x0 := .bool false) (x1 := .slice none 0 0) (x2 := .int .i64 0) (g := w.heap.size) E (by simp)
 go_wp2_with fail
 have EF := Lib.hid (St.store E.out (g := w.heap.size) (x0 := .bool false) (x1 := .slice none 0 0) (x2 := .int .i64 0) (by simp) (noLimb_bool _) (noLimb_slice _ _ _) (noLimb_int _) [] (fun q hq => by cases hq) (.bool (ngB (i))) (.slice A1 n1 c1) (.int .i64 (s : Int)))
 obtain ⟨e0, e1, e2, _, _, _, _⟩ := St.at_ (x0 := .bool (ngB (i))) (x1 := .slice A1 n1 c1) (x2 := .int .i64 (s : Int)) (g := w.heap.size) EF (by simp)
 exact bodyPost_ret (v := .agg #[.bool (ngB (i)), .slice A1 n1 c1, .int .i64 (s : Int)]) (by simp [results, Tryz.results38, go_sem, e0, e1, e2]) rfl ⟨A1, n1, c1, rfl, by rw [HA.out]; exact St.got EF (by simp), EF.out.bel⟩
theorem refMk5_any (i : Int) (s : Nat) (w : World) (h1 : Hid (-9223372036854775808 ≤ i)) (h2 : Hid (i ≤ 9223372036854775807)) (hs : s ≤ 100000) :
   Calls Tryz.prog 38 #[.int .i64 i, .int .i64 (s : Int)] w (RetDec w i s) := by
 rcases Int.lt_or_le i 0 with h | h
 · exact refMk5_neg i s w h1 h2 h hs
 · exact refMk5_pos i s w h1 h2 h hs
theorem start_three {w : World} {A A' A'' : Option Addr} {n c a n' c' a' n'' c'' a'' : Nat} (h : Num w w.heap.size A n c a) (h' : Num w w.heap.size A' n' c' a') (h'' : Num w w.heap.size A'' n'' c'' a'') : St w w [(A, n, c, a), (A', n', c', a'), (A'', n'', c'', a'')] [] := St.start w (by simp; exact ⟨h, h', h''⟩)
end Go.Proofs.YthlhpgphmfnlgaaGreat
/-
 Contracts of layer 5, the thirteenth part: Strip and the document's.
-/
namespace Go.Proofs.YthlhpgphmfnlgaaGreat
open Go.RowKit
theorem max_gen {P : Program} {x y z : Int} (h : max x y = z) (ts : Array TypeId) (ty : TypeId) (W : World) : (Builtin.max_ ts ty #[.int .i64 x, .int .i64 y]).run P W = .ok (.int .i64 z) W := by
 rw [run_max_int2]
 have e : (if y > x then y else x) = z := by rw [← h]; split <;> omega
 rw [e]
theorem min_gen {P : Program} {x y z : Int} (h : min x y = z) (ts : Array TypeId) (ty : TypeId) (W : World) : (Builtin.min_ ts ty #[.int .i64 x, .int .i64 y]).run P W = .ok (.int .i64 z) W := by
 rw [run_min_int2]
 have e : (if y < x then y else x) = z := by rw [← h]; split <;> omega
 rw [e]
def stripK (i : Int) (s L : Nat) : Nat := if i = 0 then s - L else min (s - L) (tz i.natAbs)
def stripI (i : Int) (s L : Nat) : Int := sgn (ngB i) (i.natAbs / 10 ^ stripK i s L)
theorem stripK_le (i : Int) (s L : Nat) : stripK i s L ≤ s := by unfold stripK; split <;> omega
theorem strip_zero (A : Option Addr) (n c s L : Nat) (i v : Int) (w : World) (h : Num w w.heap.size A n c i.natAbs) (hn : n ≤ 1000) (hs : s ≤ 100000) (hv : max v 0 = (L : Int)) (hL : L ≤ 9223372036854775807) (h0 : i = 0) :
   Calls Tryz.prog 46 #[.agg #[.bool (ngB i), .slice A n c, .int .i64 (s : Int)], .int .i64 v] w (RetDec w (stripI i s L) (s - stripK i s L)) := by
 have hnz := num_pos_iff h
 obtain ⟨k, hk⟩ : ∃ k, stripK i s L = k := ⟨_, rfl⟩
 have hks := stripK_le i s L
 obtain ⟨x, hx⟩ : ∃ x, stripI i s L = x := ⟨_, rfl⟩
 have HX0 : sgn (ngB i) (i.natAbs / 10 ^ k) = x := by rw [← hx, ← hk]; rfl
 have HXA : Hid (i.natAbs / 10 ^ k = x.natAbs) := (by show _ = _; rw [← HX0, abs_sgn])
 have HX : Hid (sgn (ngB i) x.natAbs = x) := (by show _ = _; rw [← HXA.out]; exact HX0)
 rw [hx, hk]
 rw [hk] at hks
 unfold stripK at hk
 clear hx HX0
 rw [if_pos h0] at hk
 have hn0 : n = 0 := by rcases Nat.eq_zero_or_pos n with h1 | h1; exact h1; have := hnz.1 h1; omega
 subst hn0
 have hm1 := max_gen (P := Tryz.prog) hv
 have hm2 := max_gen (P := Tryz.prog) (x := (s : Int) - (L : Int)) (y := 0) (z := ((s - L : Nat) : Int)) (by omega)
 obtain ⟨d0, hd0⟩ : ∃ d0, s - L = d0 := ⟨_, rfl⟩
 rw [hd0] at hm2 hk
 subst hk
 have hsm := max_zero (P := Tryz.prog) (s := s)
 obtain ⟨r, hr⟩ : ∃ r, s - d0 = r := ⟨_, rfl⟩
 have hsk : (s : Int) - (d0 : Int) = (r : Int) := by omega
 rw [hr]
 have hrb : r ≤ 100000 := by omega
 have hkb : d0 ≤ 100000 := by omega
 have H := Lib.hid h
 have HZ : Hid (i = 0) := h0
 clear h hv hr hd0 hnz h0
 go_enter Tryz.func46, Tryz.ntmps46
 go_wp2_with fail
 generalize hW : World.alloc (World.alloc w _) _ = W0
 have E0 : St w W0 [(A, 0, c, (i).natAbs)] [((w.heap.size + 1), .bool false, .slice none 0 0, .int .i64 0), (w.heap.size, (.bool (ngB i)), (.slice A 0 c), (.int .i64 (s : Int)))] := by rw [← hW]; exact ((start_one H.out).lay rfl).lay (by simp)
 have E := Lib.hid E0
 clear hW E0
 obtain ⟨p0, p1, p2, pf0, pf1, pf2, plt⟩ := St.at_ (x0 := (.bool (ngB i))) (x1 := (.slice A 0 c)) (x2 := (.int .i64 (s : Int))) (g := w.heap.size) E (by simp)
 go_wp2_with fail
 clear hm1 hm2 hsm
 refine (drop_is (a := i.natAbs) (k := d0) (St.got E (by simp)) (by omega) (by omega) rfl HXA.out).mono ?_; rintro e w2 ⟨A1, n1, c1, rfl, h1, hb1⟩; replace E := Lib.hid (St.push E.out hb1 h1); clear h1 hb1
 clear p0 p1 p2 pf0 pf1 pf2 plt
 obtain ⟨p0, p1, p2, pf0, pf1, pf2, plt⟩ := St.at_ (x0 := (.bool (ngB i))) (x1 := (.slice A 0 c)) (x2 := (.int .i64 (s : Int))) (g := w.heap.size) E (by simp)
 go_wp2_with fail
 refine (decimal_is (b := ngB i) (A := A1) (n := n1) (c := c1) (s := r) (St.got E (by simp)) (by omega) HX.out).mono ?_; rintro e w3 ⟨rfl, hb1⟩; replace E := Lib.hid (St.step E.out hb1); clear hb1
 clear p0 p1 p2 pf0 pf1 pf2 plt
 obtain ⟨r0, r1, r2, rf0, rf1, rf2, rlt⟩ := St.at_ (x0 := .bool false) (x1 := .slice none 0 0) (x2 := .int .i64 0) (g := (w.heap.size + 1)) E (by simp)
 go_wp2_with fail
 have EF := Lib.hid (St.store E.out (g := (w.heap.size + 1)) (x0 := .bool false) (x1 := .slice none 0 0) (x2 := .int .i64 0) (by simp) (noLimb_bool _) (noLimb_slice _ _ _) (noLimb_int _) [] (fun q hq => by cases hq) (.bool (ngB (x))) (.slice A1 n1 c1) (.int .i64 (r : Int)))
 obtain ⟨e0, e1, e2, _, _, _, _⟩ := St.at_ (x0 := .bool (ngB (x))) (x1 := .slice A1 n1 c1) (x2 := .int .i64 (r : Int)) (g := (w.heap.size + 1)) EF (by simp)
 exact bodyPost_ret (v := .agg #[.bool (ngB (x)), .slice A1 n1 c1, .int .i64 (r : Int)]) (by simp [results, Tryz.results46, go_sem, e0, e1, e2]) rfl ⟨A1, n1, c1, rfl, St.got EF (by simp), EF.out.bel⟩
theorem strip_pos (A : Option Addr) (n c s L : Nat) (i v : Int) (w : World) (h : Num w w.heap.size A n c i.natAbs) (hn : n ≤ 1000) (hs : s ≤ 100000) (hv : max v 0 = (L : Int)) (hL : L ≤ 9223372036854775807) (h0 : i ≠ 0) :
   Calls Tryz.prog 46 #[.agg #[.bool (ngB i), .slice A n c, .int .i64 (s : Int)], .int .i64 v] w (RetDec w (stripI i s L) (s - stripK i s L)) := by
 have hnz := num_pos_iff h
 obtain ⟨k, hk⟩ : ∃ k, stripK i s L = k := ⟨_, rfl⟩
 have hks := stripK_le i s L
 obtain ⟨x, hx⟩ : ∃ x, stripI i s L = x := ⟨_, rfl⟩
 have HX0 : sgn (ngB i) (i.natAbs / 10 ^ k) = x := by rw [← hx, ← hk]; rfl
 have HXA : Hid (i.natAbs / 10 ^ k = x.natAbs) := (by show _ = _; rw [← HX0, abs_sgn])
 have HX : Hid (sgn (ngB i) x.natAbs = x) := (by show _ = _; rw [← HXA.out]; exact HX0)
 rw [hx, hk]
 rw [hk] at hks
 unfold stripK at hk
 clear hx HX0
 rw [if_neg h0] at hk
 have hn0 : 0 < n := hnz.2 (by omega)
 obtain ⟨T, hT⟩ : ∃ T, tz i.natAbs = T := ⟨_, rfl⟩
 rw [hT] at hk
 have HT := Lib.hid hT
 clear hT
 have hm1 := max_gen (P := Tryz.prog) hv
 have hm2 := max_gen (P := Tryz.prog) (x := (s : Int) - (L : Int)) (y := 0) (z := ((s - L : Nat) : Int)) (by omega)
 obtain ⟨d0, hd0⟩ : ∃ d0, s - L = d0 := ⟨_, rfl⟩
 rw [hd0] at hm2 hk
 have hm3 := min_gen (P := Tryz.prog) (x := (d0 : Int)) (y := (T : Int)) (z := (k : Int)) (by omega)
 have hsm := max_zero (P := Tryz.prog) (s := s)
 obtain ⟨r, hr⟩ : ∃ r, s - k = r := ⟨_, rfl⟩
 have hsk : (s : Int) - (k : Int) = (r : Int) := by omega
 rw [hr]
 have hrb : r ≤ 100000 := by omega
 have hkb : k ≤ 100000 := by omega
 have H := Lib.hid h
 have HZ : Hid (i ≠ 0) := h0
 clear h hv hr hd0 hnz h0 hk
 go_enter Tryz.func46, Tryz.ntmps46
 go_wp2_with fail
 generalize hW : World.alloc (World.alloc w _) _ = W0
 have E0 : St w W0 [(A, n, c, (i).natAbs)] [((w.heap.size + 1), .bool false, .slice none 0 0, .int .i64 0), (w.heap.size, (.bool (ngB i)), (.slice A n c), (.int .i64 (s : Int)))] := by rw [← hW]; exact ((start_one H.out).lay rfl).lay (by simp)
 have E := Lib.hid E0
 clear hW E0
 obtain ⟨p0, p1, p2, pf0, pf1, pf2, plt⟩ := St.at_ (x0 := (.bool (ngB i))) (x1 := (.slice A n c)) (x2 := (.int .i64 (s : Int))) (g := w.heap.size) E (by simp)
 go_wp2_with fail
 refine (noughts_is (B := W0.heap.size) (St.got E (by simp)) (by omega) HT.out).mono ?_; rintro e w1 ⟨rfl, rfl⟩
 go_wp2_with fail
 clear hm1 hm2 hm3 hsm
 refine (drop_is (a := i.natAbs) (k := k) (St.got E (by simp)) (by omega) (by omega) rfl HXA.out).mono ?_; rintro e w2 ⟨A1, n1, c1, rfl, h1, hb1⟩; replace E := Lib.hid (St.push E.out hb1 h1); clear h1 hb1
 clear p0 p1 p2 pf0 pf1 pf2 plt
 obtain ⟨p0, p1, p2, pf0, pf1, pf2, plt⟩ := St.at_ (x0 := (.bool (ngB i))) (x1 := (.slice A n c)) (x2 := (.int .i64 (s : Int))) (g := w.heap.size) E (by simp)
 go_wp2_with fail
 refine (decimal_is (b := ngB i) (A := A1) (n := n1) (c := c1) (s := r) (St.got E (by simp)) (by omega) HX.out).mono ?_; rintro e w3 ⟨rfl, hb1⟩; replace E := Lib.hid (St.step E.out hb1); clear hb1
 clear p0 p1 p2 pf0 pf1 pf2 plt
 obtain ⟨r0, r1, r2, rf0, rf1, rf2, rlt⟩ := St.at_ (x0 := .bool false) (x1 := .slice none 0 0) (x2 := .int .i64 0) (g := (w.heap.size + 1)) E (by simp)
 go_wp2_with fail
 have EF := Lib.hid (St.store E.out (g := (w.heap.size + 1)) (x0 := .bool false) (x1 := .slice none 0 0) (x2 := .int .i64 0) (by simp) (noLimb_bool _) (noLimb_slice _ _ _) (noLimb_int _) [] (fun q hq => by cases hq) (.bool (ngB (x))) (.slice A1 n1 c1) (.int .i64 (r : Int)))
 obtain ⟨e0, e1, e2, _, _, _, _⟩ := St.at_ (x0 := .bool (ngB (x))) (x1 := .slice A1 n1 c1) (x2 := .int .i64 (r : Int)) (g := (w.heap.size + 1)) EF (by simp)
 exact bodyPost_ret (v := .agg #[.bool (ngB (x)), .slice A1 n1 c1, .int .i64 (r : Int)]) (by simp [results, Tryz.results46, go_sem, e0, e1, e2]) rfl ⟨A1, n1, c1, rfl, St.got EF (by simp), EF.out.bel⟩
theorem strip_any (A : Option Addr) (n c s L : Nat) (i v : Int) (w : World) (h : Num w w.heap.size A n c i.natAbs) (hn : n ≤ 1000) (hs : s ≤ 100000) (hv : max v 0 = (L : Int)) (hL : L ≤ 9223372036854775807) :
   Calls Tryz.prog 46 #[.agg #[.bool (ngB i), .slice A n c, .int .i64 (s : Int)], .int .i64 v] w (RetDec w (stripI i s L) (s - stripK i s L)) := by
 by_cases h0 : i = 0
 · exact strip_zero A n c s L i v w h hn hs hv hL h0
 · exact strip_pos A n c s L i v w h hn hs hv hL h0
theorem refStrip_zero (A : Option Addr) (n c s L : Nat) (i v : Int) (w : World) (h : Num w w.heap.size A n c i.natAbs) (hn : n ≤ 1000) (hs : s ≤ 100000) (hv : max v 0 = (L : Int)) (hL : L ≤ 9223372036854775807) (h0 : i = 0) :
   Calls Tryz.prog 70 #[.agg #[.bool (ngB i), .slice A n c, .int .i64 (s : Int)], .int .i64 v] w (RetDec w (stripI i s L) (s - stripK i s L)) := by
 have hnz := num_pos_iff h
 obtain ⟨k, hk⟩ : ∃ k, stripK i s L = k := ⟨_, rfl⟩
 have hks := stripK_le i s L
 obtain ⟨x, hx⟩ : ∃ x, stripI i s L = x := ⟨_, rfl⟩
 have HX0 : sgn (ngB i) (i.natAbs / 10 ^ k) = x := by rw [← hx, ← hk]; rfl
 have HXA : Hid (i.natAbs / 10 ^ k = x.natAbs) := (by show _ = _; rw [← HX0, abs_sgn])
 have HX : Hid (sgn (ngB i) x.natAbs = x) := (by show _ = _; rw [← HXA.out]; exact HX0)
 rw [hx, hk]
 rw [hk] at hks
 unfold stripK at hk
 clear hx HX0
 rw [if_pos h0] at hk
 have hn0 : n = 0 := by rcases Nat.eq_zero_or_pos n with h1 | h1; exact h1; have := hnz.1 h1; omega
 subst hn0
 have hm1 := max_gen (P := Tryz.prog) (x := 0) (y := v) (z := (L : Int)) (by omega)
 have hm2 := min_gen (P := Tryz.prog) (x := (s : Int)) (y := (L : Int)) (z := ((s - k : Nat) : Int)) (by omega)
 obtain ⟨r, hr⟩ : ∃ r, s - k = r := ⟨_, rfl⟩
 rw [hr] at hm2 ⊢
 have hx0 : x = 0 := by
   have e1 := HXA.out
   subst h0
   rw [show (0 : Int).natAbs = 0 from rfl, Nat.zero_div] at e1
   omega
 subst hx0
 have H := Lib.hid h
 clear h hv hr hk hnz h0 HX HXA
 go_enter Tryz.func70, Tryz.ntmps70
 go_wp2
 exact bodyPost_ret (v := .agg #[.bool false, .slice none 0 0, .int .i64 (r : Int)]) (by simp [results, Tryz.results70, go_sem]) rfl ⟨none, 0, 0, rfl, by rw [show (0 : Int).natAbs = 0 from rfl, Num, dg_zero]; exact Lim.nil, ((Below.refl _ _).alloc (Nat.le_refl _) _).alloc (by simp) _⟩
theorem refStrip_pos (A : Option Addr) (n c s L : Nat) (i v : Int) (w : World) (h : Num w w.heap.size A n c i.natAbs) (hn : n ≤ 1000) (hs : s ≤ 100000) (hv : max v 0 = (L : Int)) (hL : L ≤ 9223372036854775807) (h0 : i ≠ 0) :
   Calls Tryz.prog 70 #[.agg #[.bool (ngB i), .slice A n c, .int .i64 (s : Int)], .int .i64 v] w (RetDec w (stripI i s L) (s - stripK i s L)) := by
 have hnz := num_pos_iff h
 obtain ⟨k, hk⟩ : ∃ k, stripK i s L = k := ⟨_, rfl⟩
 have hks := stripK_le i s L
 obtain ⟨x, hx⟩ : ∃ x, stripI i s L = x := ⟨_, rfl⟩
 have HX0 : sgn (ngB i) (i.natAbs / 10 ^ k) = x := by rw [← hx, ← hk]; rfl
 have HXA : Hid (i.natAbs / 10 ^ k = x.natAbs) := (by show _ = _; rw [← HX0, abs_sgn])
 have HX : Hid (sgn (ngB i) x.natAbs = x) := (by show _ = _; rw [← HXA.out]; exact HX0)
 rw [hx, hk]
 rw [hk] at hks
 unfold stripK at hk
 clear hx HX0
 rw [if_neg h0] at hk
 have hn0 : 0 < n := hnz.2 (by omega)
 obtain ⟨T, hT⟩ : ∃ T, tz i.natAbs = T := ⟨_, rfl⟩
 rw [hT] at hk
 have HT := Lib.hid hT
 clear hT
 have hm1 := max_gen (P := Tryz.prog) (x := 0) (y := v) (z := (L : Int)) (by omega)
 obtain ⟨m, hm⟩ : ∃ m, min (T : Int) ((s : Int) - (L : Int)) = m := ⟨_, rfl⟩
 have hm2 := min_gen (P := Tryz.prog) hm
 have hm3 := max_gen (P := Tryz.prog) (x := 0) (y := m) (z := (k : Int)) (by omega)
 obtain ⟨r, hr⟩ : ∃ r, s - k = r := ⟨_, rfl⟩
 have hsk : (s : Int) - (k : Int) = (r : Int) := by omega
 rw [hr]
 have hw : IntKind.i64.wrap ((s : Int) - (L : Int)) = (s : Int) - (L : Int) := IntWalk.i64_in _ ⟨by omega, by omega⟩
 have hrb : r ≤ 100000 := by omega
 have hkb : k ≤ 100000 := by omega
 have H := Lib.hid h
 clear h hv hr hnz h0 hk hm
 go_enter Tryz.func70, Tryz.ntmps70
 go_wp2_with fail
 generalize hW : World.alloc (World.alloc w _) _ = W0
 have E0 : St w W0 [(A, n, c, (i).natAbs)] [((w.heap.size + 1), .bool false, .slice none 0 0, .int .i64 0), (w.heap.size, (.bool (ngB i)), (.slice A n c), (.int .i64 (s : Int)))] := by rw [← hW]; exact ((start_one H.out).lay rfl).lay (by simp)
 have E := Lib.hid E0
 clear hW E0
 obtain ⟨p0, p1, p2, pf0, pf1, pf2, plt⟩ := St.at_ (x0 := (.bool (ngB i))) (x1 := (.slice A n c)) (x2 := (.int .i64 (s : Int))) (g := w.heap.size) E (by simp)
 go_wp2_with fail
 clear p0 p1 p2 pf0 pf1 pf2 plt
 replace E := Lib.hid (St.drew E.out)
 go_region_held3 (fun v => v.cell? ⟨w.heap.size, 0, none⟩ = some (.bool (ngB i)) ∧ v.cell? ⟨w.heap.size, 1, none⟩ = some (.slice A n c) ∧ v.cell? ⟨w.heap.size, 2, none⟩ = some (.int .i64 (s : Int))) (first | (have X0 := St.at_ (x0 := (.bool (ngB i))) (x1 := (.slice A n c)) (x2 := (.int .i64 (s : Int))) (g := w.heap.size) E (by simp); with_reducible exact ⟨X0.c0, X0.c1, X0.c2⟩))
   (first | (go_at_call 97; refine (rnoughts_is (St.got E (by simp)) (by omega) HT.out).mono ?_; rintro e w1 ⟨rfl, hb1⟩; replace E := Lib.hid (St.step E.out hb1); clear hb1))
 all_goals
   clear hw hm1 hm2 hm3
   obtain ⟨p0, p1, p2, pf0, pf1, pf2, plt⟩ := St.at_ (x0 := (.bool (ngB i))) (x1 := (.slice A n c)) (x2 := (.int .i64 (s : Int))) (g := w.heap.size) E (by simp)
   go_wp2_with fail
   refine (rdrop_is (a := i.natAbs) (k := k) (St.got E (by simp)) (by omega) (by omega) rfl HXA.out).mono ?_; rintro e w2 ⟨A1, n1, c1, rfl, h1, hb1⟩; replace E := Lib.hid (St.push E.out hb1 h1); clear h1 hb1
   clear p0 p1 p2 pf0 pf1 pf2 plt
   obtain ⟨p0, p1, p2, pf0, pf1, pf2, plt⟩ := St.at_ (x0 := (.bool (ngB i))) (x1 := (.slice A n c)) (x2 := (.int .i64 (s : Int))) (g := w.heap.size) E (by simp)
   go_wp2_with fail
   refine (refDone_is (b := ngB i) (A := A1) (n := n1) (c := c1) (s := r) (St.got E (by simp)) (by omega) HX.out).mono ?_; rintro e w3 ⟨rfl, hb1⟩; replace E := Lib.hid (St.step E.out hb1); clear hb1
   clear p0 p1 p2 pf0 pf1 pf2 plt
   obtain ⟨r0, r1, r2, rf0, rf1, rf2, rlt⟩ := St.at_ (x0 := .bool false) (x1 := .slice none 0 0) (x2 := .int .i64 0) (g := (w.heap.size + 1)) E (by simp)
   go_wp2_with fail
   have EF := Lib.hid (St.store E.out (g := (w.heap.size + 1)) (x0 := .bool false) (x1 := .slice none 0 0) (x2 := .int .i64 0) (by simp) (noLimb_bool _) (noLimb_slice _ _ _) (noLimb_int _) [] (fun q hq => by cases hq) (.bool (ngB (x))) (.slice A1 n1 c1) (.int .i64 (r : Int)))
   obtain ⟨e0, e1, e2, _, _, _, _⟩ := St.at_ (x0 := .bool (ngB (x))) (x1 := .slice A1 n1 c1) (x2 := .int .i64 (r : Int)) (g := (w.heap.size + 1)) EF (by simp)
   exact bodyPost_ret (v := .agg #[.bool (ngB (x)), .slice A1 n1 c1, .int .i64 (r : Int)]) (by simp [results, Tryz.results70, go_sem, e0, e1, e2]) rfl ⟨A1, n1, c1, rfl, St.got EF (by simp), EF.out.bel⟩
theorem refStrip_any (A : Option Addr) (n c s L : Nat) (i v : Int) (w : World) (h : Num w w.heap.size A n c i.natAbs) (hn : n ≤ 1000) (hs : s ≤ 100000) (hv : max v 0 = (L : Int)) (hL : L ≤ 9223372036854775807) :
   Calls Tryz.prog 70 #[.agg #[.bool (ngB i), .slice A n c, .int .i64 (s : Int)], .int .i64 v] w (RetDec w (stripI i s L) (s - stripK i s L)) := by
 by_cases h0 : i = 0
 · exact refStrip_zero A n c s L i v w h hn hs hv hL h0
 · exact refStrip_pos A n c s L i v w h hn hs hv hL h0
end Go.Proofs.YthlhpgphmfnlgaaGreat
/-
 Contracts of layer 5, the fourteenth part: Power and the document's.
-/
namespace Go.Proofs.YthlhpgphmfnlgaaGreat
open Go.RowKit
def RetDecE (W : World) (i : Int) (s : Nat) (e : Ending) (w' : World) : Prop :=
 ∃ A n c, e = .returned (.tuple #[.agg #[.bool (ngB i), .slice A n c, .int .i64 (s : Int)], .int .i64 0]) ∧ Num w' w'.heap.size A n c i.natAbs ∧ Below W.heap.size W w'
end Go.Proofs.YthlhpgphmfnlgaaGreat
/-
 Rows of decimals in memory; the contract of Sum.
-/
namespace Go.Proofs.YthlhpgphmfnlgaaGreat
open Go.RowKit
theorem St.sub {w0 w : World} {l l' : List (Option Addr × Nat × Nat × Nat)} {bs bs' : List (Nat × Value × Value × Value)} (h : St w0 w l bs) (hl : ∀ q ∈ l', q ∈ l) (hb : ∀ q ∈ bs', q ∈ bs) : St w0 w l' bs' :=
 ⟨h.bel, fun q hq => h.num q (hl q hq), fun q hq => h.box q (hb q hq)⟩
/-! Decimals at a common scale. -/
theorem up_up {i : Int} {s m M : Nat} (h1 : s ≤ m) (h2 : m ≤ M) : up (up i s m) m M = up i s M := by
 unfold up
 rw [Int.mul_assoc, ← Int.natCast_mul, ← Nat.pow_add]
 congr 4; omega
theorem up_add (i j : Int) (s M : Nat) : up (i + j) s M = up i s M + up j s M := Int.add_mul _ _ _
theorem up_addZ {i j : Int} {s t M : Nat} (h1 : s ≤ M) (h2 : t ≤ M) : up (addZ i s j t) (max s t) M = up i s M + up j t M := by
 unfold addZ
 rw [up_add, up_up (by omega) (by omega), up_up (by omega) (by omega)]
theorem up_subZ {i j : Int} {s t M : Nat} (h1 : s ≤ M) (h2 : t ≤ M) : up (subZ i s j t) (max s t) M = up i s M - up j t M := by
 rw [← sub_add, up_addZ h1 h2, up_neg_eq]; omega
theorem cmpZ_mul {x y : Int} {p : Int} (hp : 0 < p) : cmpZ (x * p) (y * p) = cmpZ x y := by
 rcases Int.lt_trichotomy x y with h | h | h
 · rw [cmpZ_lt h, cmpZ_lt (Int.mul_lt_mul_of_pos_right h hp)]
 · rw [cmpZ_eq h, cmpZ_eq (by rw [h])]
 · rw [cmpZ_gt h, cmpZ_gt (Int.mul_lt_mul_of_pos_right h hp)]
theorem cmpD_at {i j : Int} {s t M : Nat} (h1 : s ≤ M) (h2 : t ≤ M) : cmpD i s j t = cmpZ (up i s M) (up j t M) := by
 unfold cmpD
 rw [← up_up (i := i) (s := s) (m := max s t) (M := M) (by omega) (by omega), ← up_up (i := j) (s := t) (m := max s t) (M := M) (by omega) (by omega)]
 exact (cmpZ_mul (by have := ten_pos (M - max s t); omega)).symm
theorem abs_up_le (i : Int) (s M : Nat) : i.natAbs ≤ (up i s M).natAbs := by
 rw [abs_up]; exact Nat.le_mul_of_pos_right _ (ten_pos _)
theorem len_of_ten {a m : Nat} (h : a < 10 ^ m) : (dg a).length ≤ m :=
 dg_len_le (Nat.lt_of_lt_of_le h (Nat.pow_le_pow_left (by omega) _))
theorem ten_of_len {a n : Nat} (h : (dg a).length ≤ n) : a < 10 ^ (9 * n) := by
 rw [Nat.pow_mul]; exact pow_of_len rfl h
def sumS (d : Nat → Int × Nat) : Nat → Nat
 | 0 => 0
 | k + 1 => max (sumS d k) (d k).2
def sumI (d : Nat → Int × Nat) : Nat → Int
 | 0 => 0
 | k + 1 => addZ (sumI d k) (sumS d k) (d k).1 (d k).2
def tot (d : Nat → Int × Nat) (M : Nat) : Nat → Int
 | 0 => 0
 | k + 1 => tot d M k + up (d k).1 (d k).2 M
theorem sum_up {d : Nat → Int × Nat} {M : Nat} : ∀ {k : Nat}, (∀ j, j < k → (d j).2 ≤ M) → sumS d k ≤ M ∧ up (sumI d k) (sumS d k) M = tot d M k := by
 intro k
 induction k with
 | zero => intro _; exact ⟨Nat.zero_le _, up_zero _ _⟩
 | succ k ih =>
   intro h
   have h1 := ih (fun j hj => h j (by omega))
   have h2 := h k (by omega)
   refine ⟨by show max _ _ ≤ M; have := h1.1; omega, ?_⟩
   show up (addZ _ _ _ _) (max _ _) M = _
   rw [up_addZ h1.1 h2, h1.2]; rfl
theorem tot_abs {d : Nat → Int × Nat} {M P : Nat} : ∀ {k : Nat}, (∀ j, j < k → (up (d j).1 (d j).2 M).natAbs ≤ P) → (tot d M k).natAbs ≤ k * P := by
 intro k
 induction k with
 | zero => intro _; simp [tot]
 | succ k ih =>
   intro h
   have h1 := ih (fun j hj => h j (by omega))
   have h2 := h k (by omega)
   rw [tot, Nat.succ_mul]
   omega
def Short (d : Nat → Int × Nat) (n : Nat) : Prop := ∀ j, j < n → (dg (d j).1.natAbs).length ≤ 12 ∧ (d j).2 ≤ 60
theorem Short.up {d : Nat → Int × Nat} {n j : Nat} (h : Short d n) (hj : j < n) : (up (d j).1 (d j).2 60).natAbs ≤ 10 ^ 168 := by
 have h1 := h j hj
 rw [abs_up]
 have h2 := ten_of_len h1.1
 have h3 : 10 ^ (60 - (d j).2) ≤ 10 ^ 60 := Nat.pow_le_pow_right (by omega) (by omega)
 have h4 := Nat.mul_le_mul (Nat.le_of_lt h2) h3
 rw [← Nat.pow_add] at h4
 exact h4
theorem Short.sum {d : Nat → Int × Nat} {n k : Nat} (h : Short d n) (hk : k ≤ n) (hn : n ≤ 99) : sumS d k ≤ 60 ∧ (dg (sumI d k).natAbs).length ≤ 170 := by
 have h1 := sum_up (d := d) (M := 60) (k := k) (fun j hj => (h j (by omega)).2)
 refine ⟨h1.1, len_of_ten ?_⟩
 have h2 := tot_abs (d := d) (M := 60) (P := 10 ^ 168) (k := k) (fun j hj => h.up (by omega))
 have h3 := abs_up_le (sumI d k) (sumS d k) 60
 rw [h1.2] at h3
 have h4 : k * 10 ^ 168 ≤ 99 * 10 ^ 168 := Nat.mul_le_mul_right _ (by omega)
 have h5 : 99 * 10 ^ 168 < 10 ^ 170 := by decide
 exact Nat.lt_of_le_of_lt h3 (Nat.lt_of_le_of_lt h2 (Nat.lt_of_le_of_lt h4 h5))
structure Decs (w : World) (B : Nat) (A : Option Addr) (n c : Nat) (d : Nat → Int × Nat) (p : Nat → Option Addr × Nat × Nat) : Prop where
 cap : n ≤ c
 room : c ≤ maxLen
 row : n = 0 ∨ ∃ b o, A = some ⟨b, o, none⟩ ∧ b < B ∧ ∀ j, j < n → w.cell? ⟨b, o + j * 3, none⟩ = some (.bool (ngB (d j).1)) ∧ w.cell? ⟨b, o + j * 3 + 1, none⟩ = some (.slice (p j).1 (p j).2.1 (p j).2.2) ∧ w.cell? ⟨b, o + j * 3 + 2, none⟩ = some (.int .i64 ((d j).2 : Int))
 num : ∀ j, j < n → Num w B (p j).1 (p j).2.1 (p j).2.2 (d j).1.natAbs
 short : Short d n
 addr : A = none → c = 0
theorem Decs.below {w w' : World} {B n c : Nat} {A : Option Addr} {d : Nat → Int × Nat} {p : Nat → Option Addr × Nat × Nat} (h : Decs w B A n c d p) (hb : Below B w w') : Decs w' B A n c d p := by
 refine ⟨h.cap, h.room, ?_, fun j hj => (h.num j hj).below hb, h.short, h.addr⟩
 rcases h.row with h0 | ⟨b, o, rfl, hB, hc⟩
 · exact .inl h0
 · exact .inr ⟨b, o, rfl, hB, fun j hj => ⟨(hb.cell (p := ⟨b, o + j * 3, none⟩) hB).trans (hc j hj).1, (hb.cell (p := ⟨b, o + j * 3 + 1, none⟩) hB).trans (hc j hj).2.1, (hb.cell (p := ⟨b, o + j * 3 + 2, none⟩) hB).trans (hc j hj).2.2⟩⟩
theorem Decs.on {w w' : World} {n c : Nat} {A : Option Addr} {d : Nat → Int × Nat} {p : Nat → Option Addr × Nat × Nat} (h : Decs w w.heap.size A n c d p) (hb : Below w.heap.size w w') : Decs w' w'.heap.size A n c d p := by
 have h2 := h.below hb
 refine ⟨h2.cap, h2.room, ?_, fun j hj => (h2.num j hj).more hb.size, h2.short, h2.addr⟩
 rcases h2.row with h0 | ⟨b, o, hA, hB, hc⟩
 · exact .inl h0
 · exact .inr ⟨b, o, hA, Nat.lt_of_lt_of_le hB hb.size, hc⟩
theorem Decs.at_ {w : World} {B n c j : Nat} {A : Option Addr} {d : Nat → Int × Nat} {p : Nat → Option Addr × Nat × Nat} (h : Decs w B A n c d p) (hj : j < n) :
   ∃ b o, A = some ⟨b, o, none⟩ ∧ b < B ∧ w.cell? ⟨b, o + j * 3, none⟩ = some (.bool (ngB (d j).1)) ∧ w.cell? ⟨b, o + j * 3 + 1, none⟩ = some (.slice (p j).1 (p j).2.1 (p j).2.2) ∧ w.cell? ⟨b, o + j * 3 + 2, none⟩ = some (.int .i64 ((d j).2 : Int)) := by
 rcases h.row with h0 | ⟨b, o, rfl, hB, hc⟩
 · omega
 · exact ⟨b, o, rfl, hB, (hc j hj).1, (hc j hj).2.1, (hc j hj).2.2⟩
theorem sum5_any (A : Option Addr) (n c : Nat) (d : Nat → Int × Nat) (p : Nat → Option Addr × Nat × Nat) (w : World) (h : Decs w w.heap.size A n c d p) (hn : n ≤ 99) :
   Calls Tryz.prog 26 #[.slice A n c] w (RetDec w (sumI d n) (sumS d n)) := by
 have hc := h.cap
 have hm := h.room
 unfold maxLen at hm
 have H := Lib.hid h
 clear h
 go_enter Tryz.func26, Tryz.ntmps26
 go_wp2_with fail
 generalize hW : World.alloc (World.alloc w _) _ = W0
 have E0 : St w W0 [(none, 0, 0, (sumI d 0).natAbs)] [((w.heap.size + 1), .bool (ngB (sumI d 0)), .slice none 0 0, .int .i64 (sumS d 0 : Int)), (w.heap.size, .bool false, .slice none 0 0, .int .i64 0)] := by
   rw [← hW]
   exact ((St.start w (l := [(none, 0, 0, 0)]) (by simp; rw [Num, dg_zero]; exact Lim.nil)).lay rfl).lay (by simp)
 clear hW
 go_loopw [8] (fun iv wr => ∃ (k : Nat) (A1 : Option Addr) (n1 c1 : Nat), k ≤ n ∧ iv = .int .i64 k ∧ St w wr [(A1, n1, c1, ((sumI d k)).natAbs)] [((w.heap.size + 1), (.bool (ngB (sumI d k))), (.slice A1 n1 c1), (.int .i64 ((sumS d k) : Int))), (w.heap.size, .bool false, .slice none 0 0, .int .i64 0)]) (fun iv _ => n - (intOf iv).toNat)
 case atStart => exact ⟨0, none, 0, 0, Nat.zero_le _, rfl, E0⟩
 case round =>
   obtain ⟨k, A1, n1, c1, hk, rfl, hE⟩ := hrel
   have E := Lib.hid hE
   have hL := H.out.short.sum hk hn
   have hn1 : n1 ≤ 170 := by have := (St.got E (A := A1) (n := n1) (c := c1) (a := (sumI d k).natAbs) (by simp)).len; have := hL.2; omega
   have hS := hL.1
   clear hE hL E0
   rcases Nat.lt_or_ge k n with hlt | hge
   · have HD := Lib.hid (H.out.on E.out.bel)
     have hsh := H.out.short k hlt
     obtain ⟨b, o, rfl, hb, x0, x1, x2⟩ := HD.out.at_ hlt
     have hnum := HD.out.num k hlt
     have hpn : (p k).2.1 ≤ 12 := by have := hnum.len; have := hsh.1; omega
     have hds := hsh.2
     have HN := Lib.hid hnum
     clear hnum hsh HD
     obtain ⟨r0, r1, r2, rf0, rf1, rf2, rlt⟩ := St.at_ (x0 := (.bool (ngB (sumI d k)))) (x1 := (.slice A1 n1 c1)) (x2 := (.int .i64 ((sumS d k) : Int))) (g := (w.heap.size + 1)) E (by simp)
     go_wp2_with fail
     have Ea := Lib.hid (St.alloc E.out (.cells #[.bool (ngB (d k).1), .slice (p k).1 (p k).2.1 (p k).2.2, .int .i64 ((d k).2 : Int)] 25))
     refine (add5_any A1 (p k).1 n1 c1 (p k).2.1 (p k).2.2 (sumS d k) (d k).2 (sumI d k) (d k).1 _ (St.got Ea (by simp)) (HN.out.on ((Below.refl _ _).alloc (Nat.le_refl _) _)) (by omega) (by omega) (by omega) (by omega)).mono ?_
     rintro e w2 ⟨A2, n2, c2, rfl, h1, hb1⟩
     have E2 := Lib.hid (St.push Ea.out hb1 h1)
     clear h1 hb1 r0 r1 r2 rf0 rf1 rf2 rlt x0 x1 x2 Ea
     obtain ⟨r0, r1, r2, rf0, rf1, rf2, rlt⟩ := St.at_ (x0 := (.bool (ngB (sumI d k)))) (x1 := (.slice A1 n1 c1)) (x2 := (.int .i64 ((sumS d k) : Int))) (g := (w.heap.size + 1)) E2 (by simp)
     go_wp2_with fail
     go_roundw
     case rel =>
       have E3 := St.store E2.out (g := (w.heap.size + 1)) (x0 := (.bool (ngB (sumI d k)))) (x1 := (.slice A1 n1 c1)) (x2 := (.int .i64 ((sumS d k) : Int))) (by simp) (noLimb_bool _) (noLimb_slice _ _ _) (noLimb_int _) [(w.heap.size, .bool false, .slice none 0 0, .int .i64 0)] (by simp <;> omega) (.bool (ngB (addZ (sumI d k) (sumS d k) (d k).1 (d k).2))) (.slice A2 n2 c2) (.int .i64 ((max (sumS d k) (d k).2 : Nat) : Int))
       exact ⟨k + 1, A2, n2, c2, by omega, by go_num, E3.sub (by simp [sumI]) (by simp [sumI, sumS])⟩
     case measure => simp [intOf]; omega
   · obtain rfl : k = n := by omega
     obtain ⟨r0, r1, r2, rf0, rf1, rf2, rlt⟩ := St.at_ (x0 := (.bool (ngB (sumI d k)))) (x1 := (.slice A1 n1 c1)) (x2 := (.int .i64 ((sumS d k) : Int))) (g := (w.heap.size + 1)) E (by simp)
     obtain ⟨q0, q1, q2, qf0, qf1, qf2, qlt⟩ := St.at_ (x0 := .bool false) (x1 := .slice none 0 0) (x2 := .int .i64 0) (g := w.heap.size) E (by simp)
     go_wp2_with fail
     have EF := Lib.hid (St.store E.out (g := w.heap.size) (x0 := .bool false) (x1 := .slice none 0 0) (x2 := .int .i64 0) (by simp) (noLimb_bool _) (noLimb_slice _ _ _) (noLimb_int _) [] (fun q hq => by cases hq) (.bool (ngB (sumI d k))) (.slice A1 n1 c1) (.int .i64 (sumS d k : Int)))
     obtain ⟨e0, e1, e2, _, _, _, _⟩ := St.at_ (x0 := .bool (ngB (sumI d k))) (x1 := .slice A1 n1 c1) (x2 := .int .i64 (sumS d k : Int)) (g := w.heap.size) EF (by simp)
     exact bodyPost_ret (v := .agg #[.bool (ngB (sumI d k)), .slice A1 n1 c1, .int .i64 (sumS d k : Int)]) (by simp [results, Tryz.results26, go_sem, e0, e1, e2]) rfl ⟨A1, n1, c1, rfl, St.got EF (by simp), EF.out.bel⟩
end Go.Proofs.YthlhpgphmfnlgaaGreat
/-
 Contracts of layer 5, the last part: Least and the document's.
-/
namespace Go.Proofs.YthlhpgphmfnlgaaGreat
open Go.RowKit
def low (d : Nat → Int × Nat) : Nat → Nat
 | 0 => 0
 | k + 1 => if cmpD (d k).1 (d k).2 (d (low d k)).1 (d (low d k)).2 < 0 then k else low d k
def high (d : Nat → Int × Nat) : Nat → Nat
 | 0 => 0
 | k + 1 => if 0 < cmpD (d k).1 (d k).2 (d (high d k)).1 (d (high d k)).2 then k else high d k
structure Cel (v : World) (b o : Nat) (x0 x1 x2 : Value) : Prop where
 c0 : v.cell? ⟨b, o, none⟩ = some x0
 c1 : v.cell? ⟨b, o + 1, none⟩ = some x1
 c2 : v.cell? ⟨b, o + 2, none⟩ = some x2
 lt : b < v.heap.size
theorem Cel.on {v v' : World} {b o : Nat} {x0 x1 x2 : Value} (h : Cel v b o x0 x1 x2) (hb : Below v.heap.size v v') : Cel v' b o x0 x1 x2 :=
 ⟨(hb.cell (p := ⟨b, o, none⟩) h.lt).trans h.c0, (hb.cell (p := ⟨b, o + 1, none⟩) h.lt).trans h.c1, (hb.cell (p := ⟨b, o + 2, none⟩) h.lt).trans h.c2, Nat.lt_of_lt_of_le h.lt hb.size⟩
theorem Decs.cel {w : World} {n c j b o : Nat} {d : Nat → Int × Nat} {p : Nat → Option Addr × Nat × Nat} (h : Decs w w.heap.size (some ⟨b, o, none⟩) n c d p) (hj : j < n) :
   Cel w b (o + j * 3) (.bool (ngB (d j).1)) (.slice (p j).1 (p j).2.1 (p j).2.2) (.int .i64 ((d j).2 : Int)) := by
 obtain ⟨b', o', he, hB, h0, h1, h2⟩ := h.at_ hj
 injection he with he
 injection he with he1 he2
 subst he1; subst he2
 exact ⟨h0, h1, h2, hB⟩
end Go.Proofs.YthlhpgphmfnlgaaGreat
/-
 Layer 5: how great decimals are; the contracts with their values as equations.
-/
namespace Go.Proofs.YthlhpgphmfnlgaaGreat
open Go.RowKit
def Sz (x : Int) (s K : Nat) : Prop := x.natAbs < 10 ^ (K + s)
theorem Sz.mono {x : Int} {s K L : Nat} (h : Sz x s K) (hl : K ≤ L) : Sz x s L := Nat.lt_of_lt_of_le h (Nat.pow_le_pow_right (by omega) (by omega))
theorem Sz.len {x : Int} {s K : Nat} (h : Sz x s K) : (dg x.natAbs).length ≤ K + s := len_of_ten h
theorem Sz.up {x : Int} {s K M : Nat} (h : Sz x s K) (hM : s ≤ M) : Sz (up x s M) M K := by
 unfold Sz at h ⊢
 rw [abs_up]
 have e : K + M = (K + s) + (M - s) := by omega
 rw [e, Nat.pow_add]
 exact Nat.mul_lt_mul_of_pos_right h (ten_pos _)
theorem Sz.add_same {x y : Int} {s K : Nat} (h : Sz x s K) (h' : Sz y s K) : Sz (x + y) s (K + 1) := by
 unfold Sz at h h' ⊢
 have e : K + 1 + s = (K + s) + 1 := by omega
 rw [e, Nat.pow_succ]
 omega
theorem Sz.add {x y : Int} {s t K L : Nat} (h : Sz x s K) (h' : Sz y t L) : Sz (addZ x s y t) (max s t) (max K L + 1) := by
 unfold addZ
 exact Sz.add_same ((h.mono (by omega)).up (by omega)) ((h'.mono (by omega)).up (by omega))
theorem Sz.neg {x : Int} {s K : Nat} (h : Sz x s K) : Sz (-x) s K := by unfold Sz at h ⊢; rw [Int.natAbs_neg]; exact h
theorem Sz.abs {x : Int} {s K : Nat} (h : Sz x s K) : Sz (x.natAbs : Int) s K := by unfold Sz at h ⊢; rw [Int.natAbs_natCast]; exact h
theorem Sz.sub {x y : Int} {s t K L : Nat} (h : Sz x s K) (h' : Sz y t L) : Sz (subZ x s y t) (max s t) (max K L + 1) := by
 rw [← sub_add]; exact h.add h'.neg
theorem Sz.mul {x y : Int} {s t K L : Nat} (h : Sz x s K) (h' : Sz y t L) : Sz (x * y) (s + t) (K + L) := by
 unfold Sz at h h' ⊢
 rw [Int.natAbs_mul]
 have e : K + L + (s + t) = (K + s) + (L + t) := by omega
 rw [e, Nat.pow_add]
 exact Nat.mul_lt_mul'' h h'
theorem Sz.of_len {x : Int} {s n : Nat} (h : (dg x.natAbs).length ≤ n) : Sz x s (9 * n) := Nat.lt_of_lt_of_le (ten_of_len h) (Nat.pow_le_pow_right (by omega) (by omega))
theorem len_one {w : World} {B n c a : Nat} {A : Option Addr} (h : Num w B A n c a) (ha : a < 1000000000) : n ≤ 1 := by
 rw [← h.len]; exact dg_len_le (by omega)
theorem len_le {w : World} {B n c a m : Nat} {A : Option Addr} (h : Num w B A n c a) (ha : (dg a).length ≤ m) : n ≤ m := by rw [← h.len]; exact ha
section
variable {A A' : Option Addr} {n c n' c' s t M : Nat} {i j x y : Int} {w : World}
theorem mk_is5 {v1 v2 : Int} (w : World) (h1 : v1 = i) (h2 : v2 = (s : Int)) (hb : i.natAbs < 1000000000) (hs : s ≤ 100000) : Calls Tryz.prog 15 #[.int .i64 v1, .int .i64 v2] w (RetDec w i s) := by
 subst h1; subst h2; exact mk5_any _ s w (show _ ≤ _ by omega) (show _ ≤ _ by omega) hs
theorem align_is5 (h : Num w w.heap.size A n c i.natAbs) (h' : Num w w.heap.size A' n' c' j.natAbs) (hn : n ≤ 1000000) (hn' : n' ≤ 1000000) (hs : s ≤ 100000) (ht : t ≤ 100000) (hM : max s t = M) (hx : up i s M = x) (hy : up j t M = y) : Calls Tryz.prog 54 #[.agg #[.bool (ngB i), .slice A n c, .int .i64 (s : Int)], .agg #[.bool (ngB j), .slice A' n' c', .int .i64 (t : Int)]] w (RetDec2 w x M y M) := by
 subst hM; subst hx; subst hy; exact align_any A A' n c n' c' s t i j w h h' hn hn' hs ht
theorem add_is5 (h : Num w w.heap.size A n c i.natAbs) (h' : Num w w.heap.size A' n' c' j.natAbs) (hn : n ≤ 1000000) (hn' : n' ≤ 1000000) (hs : s ≤ 100000) (ht : t ≤ 100000) (hM : max s t = M) (hx : addZ i s j t = x) : Calls Tryz.prog 29 #[.agg #[.bool (ngB i), .slice A n c, .int .i64 (s : Int)], .agg #[.bool (ngB j), .slice A' n' c', .int .i64 (t : Int)]] w (RetDec w x M) := by
 subst hM; subst hx; exact add5_any A A' n c n' c' s t i j w h h' hn hn' hs ht
theorem mul_is5 (h : Num w w.heap.size A n c i.natAbs) (h' : Num w w.heap.size A' n' c' j.natAbs) (hn : n ≤ 1000000) (hn' : n' ≤ 1000000) (hs : s ≤ 100000) (ht : t ≤ 100000) (hM : s + t = M) (hx : i * j = x) : Calls Tryz.prog 41 #[.agg #[.bool (ngB i), .slice A n c, .int .i64 (s : Int)], .agg #[.bool (ngB j), .slice A' n' c', .int .i64 (t : Int)]] w (RetDec w x M) := by
 subst hM; subst hx; exact mul5_any A A' n c n' c' s t i j w h h' hn hn' hs ht
theorem refadd_is5 (h : Num w w.heap.size A n c i.natAbs) (h' : Num w w.heap.size A' n' c' j.natAbs) (hn : n ≤ 1000000) (hn' : n' ≤ 1000000) (hs : s ≤ 100000) (ht : t ≤ 100000) (hM : max s t = M) (hx : addZ i s j t = x) : Calls Tryz.prog 32 #[.agg #[.bool (ngB i), .slice A n c, .int .i64 (s : Int)], .agg #[.bool (ngB j), .slice A' n' c', .int .i64 (t : Int)]] w (RetDec w x M) := by
 subst hM; subst hx; exact refAdd5_any A A' n c n' c' s t i j w h h' hn hn' hs ht
theorem refsub_is5 (h : Num w w.heap.size A n c i.natAbs) (h' : Num w w.heap.size A' n' c' j.natAbs) (hn : n ≤ 1000000) (hn' : n' ≤ 1000000) (hs : s ≤ 100000) (ht : t ≤ 100000) (hM : max s t = M) (hx : subZ i s j t = x) : Calls Tryz.prog 73 #[.agg #[.bool (ngB i), .slice A n c, .int .i64 (s : Int)], .agg #[.bool (ngB j), .slice A' n' c', .int .i64 (t : Int)]] w (RetDec w x M) := by
 subst hM; subst hx; exact refSub5_any A A' n c n' c' s t i j w h h' hn hn' hs ht
theorem refmul_is5 (h : Num w w.heap.size A n c i.natAbs) (h' : Num w w.heap.size A' n' c' j.natAbs) (hn : n ≤ 100000) (hn' : n' ≤ 100000) (hs : s ≤ 100000) (ht : t ≤ 100000) (hM : s + t = M) (hx : i * j = x) : Calls Tryz.prog 43 #[.agg #[.bool (ngB i), .slice A n c, .int .i64 (s : Int)], .agg #[.bool (ngB j), .slice A' n' c', .int .i64 (t : Int)]] w (RetDec w x M) := by
 subst hM; subst hx; exact refMul5_any A A' n c n' c' s t i j w h h' hn hn' hs ht
theorem alike_is5 (h : Num w w.heap.size A n c i.natAbs) (h' : Num w w.heap.size A' n' c' j.natAbs) {b : Bool} (hb : alikeB i s j t = b) : Calls Tryz.prog 16 #[.agg #[.bool (ngB i), .slice A n c, .int .i64 (s : Int)], .agg #[.bool (ngB j), .slice A' n' c', .int .i64 (t : Int)]] w (RetVal w (.bool b)) := by
 subst hb; exact alike_any A A' n c n' c' s t i j w h h'
theorem refalike_is5 (h : Num w w.heap.size A n c i.natAbs) (h' : Num w w.heap.size A' n' c' j.natAbs) {b : Bool} (hb : alikeB i s j t = b) : Calls Tryz.prog 8 #[.agg #[.bool (ngB i), .slice A n c, .int .i64 (s : Int)], .agg #[.bool (ngB j), .slice A' n' c', .int .i64 (t : Int)]] w (RetVal w (.bool b)) := by
 subst hb; exact refAlike_any A A' n c n' c' s t i j w h h'
theorem neg_is5 (h : Num w w.heap.size A n c i.natAbs) (hn : n ≤ 1000000) (hs : s ≤ 100000) (hx : -i = x) : Calls Tryz.prog 31 #[.agg #[.bool (ngB i), .slice A n c, .int .i64 (s : Int)]] w (RetDec w x s) := by
 subst hx; exact neg_any A n c s i w h (by omega) (by omega)
theorem abs_is5 (h : Num w w.heap.size A n c i.natAbs) (hn : n ≤ 1000000) (hs : s ≤ 100000) (hx : (i.natAbs : Int) = x) : Calls Tryz.prog 24 #[.agg #[.bool (ngB i), .slice A n c, .int .i64 (s : Int)]] w (RetDec w x s) := by
 subst hx; exact abs_any A n c s i w h (by omega) (by omega)
theorem refneg_is5 (h : Num w w.heap.size A n c i.natAbs) (hn : n ≤ 1000000) (hs : s ≤ 100000) (hx : -i = x) : Calls Tryz.prog 39 #[.agg #[.bool (ngB i), .slice A n c, .int .i64 (s : Int)]] w (RetDec w x s) := by
 subst hx; exact refNeg_any A n c s i w h (by omega)
theorem refabs_is5 (h : Num w w.heap.size A n c i.natAbs) (hn : n ≤ 1000000) (hs : s ≤ 100000) (hx : (i.natAbs : Int) = x) : Calls Tryz.prog 36 #[.agg #[.bool (ngB i), .slice A n c, .int .i64 (s : Int)]] w (RetDec w x s) := by
 subst hx; exact refAbs_any A n c s i w h (by omega)
theorem strip_is5 {L : Nat} {v : Int} (h : Num w w.heap.size A n c i.natAbs) (hn : n ≤ 1000) (hs : s ≤ 100000) (hv : max v 0 = (L : Int)) (hL : L ≤ 9223372036854775807) (hM : s - stripK i s L = M) (hx : stripI i s L = x) : Calls Tryz.prog 46 #[.agg #[.bool (ngB i), .slice A n c, .int .i64 (s : Int)], .int .i64 v] w (RetDec w x M) := by
 subst hM; subst hx; exact strip_any A n c s L i v w h hn hs hv hL
theorem refstrip_is5 {L : Nat} {v : Int} (h : Num w w.heap.size A n c i.natAbs) (hn : n ≤ 1000) (hs : s ≤ 100000) (hv : max v 0 = (L : Int)) (hL : L ≤ 9223372036854775807) (hM : s - stripK i s L = M) (hx : stripI i s L = x) : Calls Tryz.prog 70 #[.agg #[.bool (ngB i), .slice A n c, .int .i64 (s : Int)], .int .i64 v] w (RetDec w x M) := by
 subst hM; subst hx; exact refStrip_any A n c s L i v w h hn hs hv hL
end
end Go.Proofs.YthlhpgphmfnlgaaGreat
/-
 Layer 5, plain: what the laws say of the values.
-/
namespace Go.Proofs.YthlhpgphmfnlgaaGreat
open Go.RowKit
theorem cmpZ_cases (x y : Int) : (x < y ∧ cmpZ x y = -1) ∨ (x = y ∧ cmpZ x y = 0) ∨ (y < x ∧ cmpZ x y = 1) := by
 rcases Int.lt_trichotomy x y with h | h | h
 · exact .inl ⟨h, cmpZ_lt h⟩
 · exact .inr (.inl ⟨h, cmpZ_eq h⟩)
 · exact .inr (.inr ⟨h, cmpZ_gt h⟩)
theorem long_is {b : Bool} {A : Option Addr} {n c : Nat} {xs : List Nat} {k : Int} {w : World} {v : Bool} (h : Lim w w.heap.size A n c xs) (hv : longB b n xs k = v) :
   Calls Tryz.prog 4 #[.agg #[.bool b, .slice A n c, .int .i64 k]] w (RetVal w (.bool v)) := by
 subst hv; exact long5_any b A n c xs k w h
theorem not_long {w : World} {B n c s : Nat} {A : Option Addr} {i : Int} (h : Num w B A n c i.natAbs) (hn : n ≤ 12) (hs : s ≤ 60) : longB (ngB i) n (dg i.natAbs) (s : Int) = false := by
 unfold longB
 rw [rightD_dec h, decide_eq_false (by omega), decide_eq_false (by omega)]; rfl
end Go.Proofs.YthlhpgphmfnlgaaGreat
