/-
 Contracts of layer 6, the sixth part: the document's Div.
-/
import Derived.Test.YthlhpgphmfnlgaaGreatAllRouMathA
set_option maxRecDepth 100000
set_option maxHeartbeats 32000000
set_option linter.unusedVariables false
set_option linter.unusedSimpArgs false
namespace Go.Proofs.YthlhpgphmfnlgaaGreat
open Go.RowKit
theorem refdivZero_any (A A' : Option Addr) (n c n' c' s t S : Nat) (i j v : Int) (w : World) (h : Num w w.heap.size A n c i.natAbs) (h' : Num w w.heap.size A' n' c' j.natAbs) (hn : n ≤ 1000) (hn' : n' ≤ 1000) (hs : s ≤ 1000) (ht : t ≤ 1000) (hv : max v 0 = (S : Int)) (hS : S ≤ 1000) (h0 : j = 0) :
   Calls Tryz.prog 42 #[.agg #[.bool (ngB i), .slice A n c, .int .i64 (s : Int)], .agg #[.bool (ngB j), .slice A' n' c', .int .i64 (t : Int)], .int .i64 v] w (RetVal w (.tuple #[.agg #[.bool false, .slice none 0 0, .int .i64 0], .int .i64 4])) := by
 subst h0
 obtain rfl := nought_len h'
 clear h h'
 go_enter Tryz.func42, Tryz.ntmps42
 go_wp2
 exact bodyPost_ret (v := .tuple #[.agg #[.bool false, .slice none 0 0, .int .i64 0], .int .i64 4]) (by simp [results, Tryz.results42, go_sem]) rfl ⟨rfl, (((Below.refl _ _).alloc (Nat.le_refl _) _).alloc (by simp) _).alloc (by simp <;> omega) _⟩
theorem refdiv_same (A A' : Option Addr) (n c n' c' s t S : Nat) (i j v : Int) (w : World) (h : Num w w.heap.size A n c i.natAbs) (h' : Num w w.heap.size A' n' c' j.natAbs) (hn : n ≤ 1000) (hn' : n' ≤ 1000) (hs : s ≤ 1000) (ht : t ≤ 1000) (hv : max v 0 = (S : Int)) (hS : S ≤ 1000) (h0 : j ≠ 0) (hb : ngB i = ngB j) :
   Calls Tryz.prog 42 #[.agg #[.bool (ngB i), .slice A n c, .int .i64 (s : Int)], .agg #[.bool (ngB j), .slice A' n' c', .int .i64 (t : Int)], .int .i64 v] w (RetDecE w (divZ i s j t S) S) := by
 have hnz' := (num_pos_iff h').2 (show 0 < j.natAbs by omega)
 have hl0 : ((n' : Int) == 0) = false := by simp; omega
 have HL1 : Hid ((dg (i.natAbs * 10 ^ (S + t))).length ≤ 10000) := by
   show _ ≤ _
   have := up_len (i := i) (s := 0) (M := S + t) h.len
   rw [abs_up, Nat.sub_zero] at this
   omega
 have HL2 : Hid ((dg (j.natAbs * 10 ^ s)).length ≤ 10000) := by
   show _ ≤ _
   have := up_len (i := j) (s := 0) (M := s) h'.len
   rw [abs_up, Nat.sub_zero] at this
   omega
 have HB : Hid (0 < j.natAbs * 10 ^ s) := Nat.mul_pos (by omega) (ten_pos s)
 have HD : Hid (sgn false (nearN (i.natAbs * 10 ^ (S + t)) (j.natAbs * 10 ^ s)) = divZ i s j t S) := by show _ = _; unfold divZ; rw [bool_neq' hb]
 obtain ⟨x, hx⟩ : ∃ x, nearN (i.natAbs * 10 ^ (S + t)) (j.natAbs * 10 ^ s) = x := ⟨_, rfl⟩
 have HX := Lib.hid hx
 obtain ⟨z, hz⟩ : ∃ z, divZ i s j t S = z := ⟨_, rfl⟩
 rw [hx] at HD
 rw [hz] at HD ⊢
 have hb3 := bool_neq' hb
 have hb5 : (ngB i == ngB j) = true := by simpa using hb
 have hb4 : (!(ngB i == ngB j)) = false := by rw [hb5]; rfl
 have H := Lib.hid h
 have H' := Lib.hid h'
 have hm := max_gen (P := Tryz.prog) (max_gen0 hv)
 clear h h' hv h0 hb hx hz
 go_enter Tryz.func42, Tryz.ntmps42
 go_wp2_with fail
 generalize hW : World.alloc (World.alloc (World.alloc w _) _) _ = W0
 have E0 : St w W0 [(A, n, c, (i).natAbs), (A', n', c', (j).natAbs)] [((w.heap.size + 1 + 1), .bool false, .slice none 0 0, .int .i64 0), ((w.heap.size + 1), (.bool (ngB j)), (.slice A' n' c'), (.int .i64 (t : Int))), (w.heap.size, (.bool (ngB i)), (.slice A n c), (.int .i64 (s : Int)))] := by rw [← hW]; exact (((start_two H.out H'.out).lay rfl).lay (by simp)).lay (by simp)
 have E := Lib.hid E0
 clear hW E0
 refine (refShift_is (a := i.natAbs) (k := S + t) (St.got E (A := A) (n := n) (c := c) (a := i.natAbs) (by simp)) (by omega) (by omega) (by omega) rfl).mono ?_; rintro e w1 ⟨A1, n1, c1, rfl, h1, hb1⟩
 have hn1 : n1 ≤ 10000 := by rw [← h1.len]; exact HL1.out
 replace E := Lib.hid (St.push E.out hb1 h1); clear h1 hb1
 obtain ⟨p0, p1, p2, pf0, pf1, pf2, plt⟩ := St.at_ (x0 := (.bool (ngB i))) (x1 := (.slice A n c)) (x2 := (.int .i64 (s : Int))) (g := w.heap.size) E (by simp)
 obtain ⟨q0, q1, q2, qf0, qf1, qf2, qlt⟩ := St.at_ (x0 := (.bool (ngB j))) (x1 := (.slice A' n' c')) (x2 := (.int .i64 (t : Int))) (g := (w.heap.size + 1)) E (by simp)
 go_wp2_with fail
 clear p0 p1 p2 pf0 pf1 pf2 plt q0 q1 q2 qf0 qf1 qf2 qlt
 refine (refShift_is (a := j.natAbs) (k := s) (St.got E (A := A') (n := n') (c := c') (a := j.natAbs) (by simp)) (by omega) (by omega) rfl rfl).mono ?_; rintro e w2 ⟨A2, n2, c2, rfl, h1, hb1⟩
 have hn2 : n2 ≤ 10000 := by rw [← h1.len]; exact HL2.out
 replace E := Lib.hid (St.push E.out hb1 h1); clear h1 hb1
 go_wp2_with fail
 refine (rnear_is (St.got E (A := A1) (n := n1) (c := c1) (a := i.natAbs * 10 ^ (S + t)) (by simp)) (St.got E (A := A2) (n := n2) (c := c2) (a := j.natAbs * 10 ^ s) (by simp)) hn1 hn2 HB.out HX.out).mono ?_; rintro e w3 ⟨A3, n3, c3, rfl, h1, hb1⟩
 have hnz := num_pos h1
 have HNZ := Lib.hid hnz
 replace E := Lib.hid (St.push E.out hb1 h1); clear h1 hb1 hnz
 obtain ⟨p0, p1, p2, pf0, pf1, pf2, plt⟩ := St.at_ (x0 := (.bool (ngB i))) (x1 := (.slice A n c)) (x2 := (.int .i64 (s : Int))) (g := w.heap.size) E (by simp)
 obtain ⟨q0, q1, q2, qf0, qf1, qf2, qlt⟩ := St.at_ (x0 := (.bool (ngB j))) (x1 := (.slice A' n' c')) (x2 := (.int .i64 (t : Int))) (g := (w.heap.size + 1)) E (by simp)
 obtain ⟨r0, r1, r2, rf0, rf1, rf2, rlt⟩ := St.at_ (x0 := .bool false) (x1 := .slice none 0 0) (x2 := .int .i64 0) (g := (w.heap.size + 1 + 1)) E (by simp)
 go_wp2_with fail
 have EF := Lib.hid (St.store E.out (g := (w.heap.size + 1 + 1)) (x0 := .bool false) (x1 := .slice none 0 0) (x2 := .int .i64 0) (by simp) (noLimb_bool _) (noLimb_slice _ _ _) (noLimb_int _) [] (fun q hq => by cases hq) (.bool false) (.slice A3 n3 c3) (.int .i64 (S : Int)))
 obtain ⟨e0, e1, e2, _, _, _, _⟩ := St.at_ (x0 := .bool false) (x1 := .slice A3 n3 c3) (x2 := .int .i64 (S : Int)) (g := (w.heap.size + 1 + 1)) EF (by simp)
 exact bodyPost_ret (v := .tuple #[.agg #[.bool false, .slice A3 n3 c3, .int .i64 (S : Int)], .int .i64 0]) (by simp [results, Tryz.results42, go_sem, e0, e1, e2]) rfl ⟨A3, n3, c3, by rw [← HD.out, ng_sgn]; simp [HNZ.out], by rw [← HD.out, abs_sgn]; exact St.got EF (by simp), EF.out.bel⟩
theorem refdiv_apart (A A' : Option Addr) (n c n' c' s t S : Nat) (i j v : Int) (w : World) (h : Num w w.heap.size A n c i.natAbs) (h' : Num w w.heap.size A' n' c' j.natAbs) (hn : n ≤ 1000) (hn' : n' ≤ 1000) (hs : s ≤ 1000) (ht : t ≤ 1000) (hv : max v 0 = (S : Int)) (hS : S ≤ 1000) (h0 : j ≠ 0) (hb : ngB i ≠ ngB j) :
   Calls Tryz.prog 42 #[.agg #[.bool (ngB i), .slice A n c, .int .i64 (s : Int)], .agg #[.bool (ngB j), .slice A' n' c', .int .i64 (t : Int)], .int .i64 v] w (RetDecE w (divZ i s j t S) S) := by
 have hnz' := (num_pos_iff h').2 (show 0 < j.natAbs by omega)
 have hl0 : ((n' : Int) == 0) = false := by simp; omega
 have HL1 : Hid ((dg (i.natAbs * 10 ^ (S + t))).length ≤ 10000) := by
   show _ ≤ _
   have := up_len (i := i) (s := 0) (M := S + t) h.len
   rw [abs_up, Nat.sub_zero] at this
   omega
 have HL2 : Hid ((dg (j.natAbs * 10 ^ s)).length ≤ 10000) := by
   show _ ≤ _
   have := up_len (i := j) (s := 0) (M := s) h'.len
   rw [abs_up, Nat.sub_zero] at this
   omega
 have HB : Hid (0 < j.natAbs * 10 ^ s) := Nat.mul_pos (by omega) (ten_pos s)
 have HD : Hid (sgn true (nearN (i.natAbs * 10 ^ (S + t)) (j.natAbs * 10 ^ s)) = divZ i s j t S) := by show _ = _; unfold divZ; rw [bool_neq hb]
 obtain ⟨x, hx⟩ : ∃ x, nearN (i.natAbs * 10 ^ (S + t)) (j.natAbs * 10 ^ s) = x := ⟨_, rfl⟩
 have HX := Lib.hid hx
 obtain ⟨z, hz⟩ : ∃ z, divZ i s j t S = z := ⟨_, rfl⟩
 rw [hx] at HD
 rw [hz] at HD ⊢
 have hb3 := bool_neq hb
 have hb5 : (ngB i == ngB j) = false := by simpa using hb
 have hb4 : (!(ngB i == ngB j)) = true := by rw [hb5]; rfl
 have H := Lib.hid h
 have H' := Lib.hid h'
 have hm := max_gen (P := Tryz.prog) (max_gen0 hv)
 clear h h' hv h0 hb hx hz
 go_enter Tryz.func42, Tryz.ntmps42
 go_wp2_with fail
 generalize hW : World.alloc (World.alloc (World.alloc w _) _) _ = W0
 have E0 : St w W0 [(A, n, c, (i).natAbs), (A', n', c', (j).natAbs)] [((w.heap.size + 1 + 1), .bool false, .slice none 0 0, .int .i64 0), ((w.heap.size + 1), (.bool (ngB j)), (.slice A' n' c'), (.int .i64 (t : Int))), (w.heap.size, (.bool (ngB i)), (.slice A n c), (.int .i64 (s : Int)))] := by rw [← hW]; exact (((start_two H.out H'.out).lay rfl).lay (by simp)).lay (by simp)
 have E := Lib.hid E0
 clear hW E0
 refine (refShift_is (a := i.natAbs) (k := S + t) (St.got E (A := A) (n := n) (c := c) (a := i.natAbs) (by simp)) (by omega) (by omega) (by omega) rfl).mono ?_; rintro e w1 ⟨A1, n1, c1, rfl, h1, hb1⟩
 have hn1 : n1 ≤ 10000 := by rw [← h1.len]; exact HL1.out
 replace E := Lib.hid (St.push E.out hb1 h1); clear h1 hb1
 obtain ⟨p0, p1, p2, pf0, pf1, pf2, plt⟩ := St.at_ (x0 := (.bool (ngB i))) (x1 := (.slice A n c)) (x2 := (.int .i64 (s : Int))) (g := w.heap.size) E (by simp)
 obtain ⟨q0, q1, q2, qf0, qf1, qf2, qlt⟩ := St.at_ (x0 := (.bool (ngB j))) (x1 := (.slice A' n' c')) (x2 := (.int .i64 (t : Int))) (g := (w.heap.size + 1)) E (by simp)
 go_wp2_with fail
 clear p0 p1 p2 pf0 pf1 pf2 plt q0 q1 q2 qf0 qf1 qf2 qlt
 refine (refShift_is (a := j.natAbs) (k := s) (St.got E (A := A') (n := n') (c := c') (a := j.natAbs) (by simp)) (by omega) (by omega) rfl rfl).mono ?_; rintro e w2 ⟨A2, n2, c2, rfl, h1, hb1⟩
 have hn2 : n2 ≤ 10000 := by rw [← h1.len]; exact HL2.out
 replace E := Lib.hid (St.push E.out hb1 h1); clear h1 hb1
 go_wp2_with fail
 refine (rnear_is (St.got E (A := A1) (n := n1) (c := c1) (a := i.natAbs * 10 ^ (S + t)) (by simp)) (St.got E (A := A2) (n := n2) (c := c2) (a := j.natAbs * 10 ^ s) (by simp)) hn1 hn2 HB.out HX.out).mono ?_; rintro e w3 ⟨A3, n3, c3, rfl, h1, hb1⟩
 have hnz := num_pos h1
 have HNZ := Lib.hid hnz
 replace E := Lib.hid (St.push E.out hb1 h1); clear h1 hb1 hnz
 obtain ⟨p0, p1, p2, pf0, pf1, pf2, plt⟩ := St.at_ (x0 := (.bool (ngB i))) (x1 := (.slice A n c)) (x2 := (.int .i64 (s : Int))) (g := w.heap.size) E (by simp)
 obtain ⟨q0, q1, q2, qf0, qf1, qf2, qlt⟩ := St.at_ (x0 := (.bool (ngB j))) (x1 := (.slice A' n' c')) (x2 := (.int .i64 (t : Int))) (g := (w.heap.size + 1)) E (by simp)
 obtain ⟨r0, r1, r2, rf0, rf1, rf2, rlt⟩ := St.at_ (x0 := .bool false) (x1 := .slice none 0 0) (x2 := .int .i64 0) (g := (w.heap.size + 1 + 1)) E (by simp)
 go_wp2_with fail
 have EF := Lib.hid (St.store E.out (g := (w.heap.size + 1 + 1)) (x0 := .bool false) (x1 := .slice none 0 0) (x2 := .int .i64 0) (by simp) (noLimb_bool _) (noLimb_slice _ _ _) (noLimb_int _) [] (fun q hq => by cases hq) (.bool (decide (0 < n3))) (.slice A3 n3 c3) (.int .i64 (S : Int)))
 obtain ⟨e0, e1, e2, _, _, _, _⟩ := St.at_ (x0 := .bool (decide (0 < n3))) (x1 := .slice A3 n3 c3) (x2 := .int .i64 (S : Int)) (g := (w.heap.size + 1 + 1)) EF (by simp)
 exact bodyPost_ret (v := .tuple #[.agg #[.bool (decide (0 < n3)), .slice A3 n3 c3, .int .i64 (S : Int)], .int .i64 0]) (by simp [results, Tryz.results42, go_sem, e0, e1, e2]) rfl ⟨A3, n3, c3, by rw [← HD.out, ng_sgn]; simp [HNZ.out], by rw [← HD.out, abs_sgn]; exact St.got EF (by simp), EF.out.bel⟩
theorem refdiv_is {A A' : Option Addr} {n c n' c' s t S : Nat} {i j v : Int} {w : World} (h : Num w w.heap.size A n c i.natAbs) (h' : Num w w.heap.size A' n' c' j.natAbs) (hn : n ≤ 1000) (hn' : n' ≤ 1000) (hs : s ≤ 1000) (ht : t ≤ 1000) (hv : max v 0 = (S : Int)) (hS : S ≤ 1000) (h0 : j ≠ 0) {z : Int} (hz : divZ i s j t S = z) :
   Calls Tryz.prog 42 #[.agg #[.bool (ngB i), .slice A n c, .int .i64 (s : Int)], .agg #[.bool (ngB j), .slice A' n' c', .int .i64 (t : Int)], .int .i64 v] w (RetDecE w z S) := by
 subst hz
 by_cases hb : ngB i = ngB j
 · exact refdiv_same A A' n c n' c' s t S i j v w h h' hn hn' hs ht hv hS h0 hb
 · exact refdiv_apart A A' n c n' c' s t S i j v w h h' hn hn' hs ht hv hS h0 hb
theorem refdiv_zero {A A' : Option Addr} {n c n' c' s t S : Nat} {i j v : Int} {w : World} (h : Num w w.heap.size A n c i.natAbs) (h' : Num w w.heap.size A' n' c' j.natAbs) (hn : n ≤ 1000) (hn' : n' ≤ 1000) (hs : s ≤ 1000) (ht : t ≤ 1000) (hv : max v 0 = (S : Int)) (hS : S ≤ 1000) (h0 : j = 0) :
   Calls Tryz.prog 42 #[.agg #[.bool (ngB i), .slice A n c, .int .i64 (s : Int)], .agg #[.bool (ngB j), .slice A' n' c', .int .i64 (t : Int)], .int .i64 v] w (RetVal w (.tuple #[.agg #[.bool false, .slice none 0 0, .int .i64 0], .int .i64 4])) :=
 refdivZero_any A A' n c n' c' s t S i j v w h h' hn hn' hs ht hv hS h0
end Go.Proofs.YthlhpgphmfnlgaaGreat
