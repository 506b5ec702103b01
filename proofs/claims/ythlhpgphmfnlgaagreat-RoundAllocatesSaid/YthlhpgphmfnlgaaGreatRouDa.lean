/-
 The contract of the document's down.
-/
import Derived.Test.YthlhpgphmfnlgaaGreatRouDb
import Derived.Test.YthlhpgphmfnlgaaGreatRouF
set_option maxRecDepth 100000
set_option maxHeartbeats 32000000
set_option linter.unusedVariables false
set_option linter.unusedSimpArgs false
namespace Go.Proofs.YthlhpgphmfnlgaaGreat
open Go.RowKit
def downR (i j k : Int) (s t u S : Nat) : Int := subZ ((i * j).natAbs : Int) (s + t) (((downN i j k s t u S : Nat) : Int) * k) (S + u)
def RetDown (W : World) (q S : Nat) (r : Int) (M : Nat) (e : Ending) (w' : World) : Prop :=
 ∃ A n c A' n' c', e = .returned (.tuple #[.agg #[.bool false, .slice A n c, .int .i64 (S : Int)], .agg #[.bool (ngB r), .slice A' n' c', .int .i64 (M : Int)]]) ∧ Num w' w'.heap.size A n c q ∧ Num w' w'.heap.size A' n' c' r.natAbs ∧ Below W.heap.size W w'
theorem down_any (A A' A'' : Option Addr) (n c n' c' n'' c'' s t u S : Nat) (i j k v : Int) (w : World) (h : Num w w.heap.size A n c i.natAbs) (h' : Num w w.heap.size A' n' c' j.natAbs) (h'' : Num w w.heap.size A'' n'' c'' k.natAbs) (hn : n ≤ 12) (hn' : n' ≤ 12) (hn'' : n'' ≤ 170) (hs : s ≤ 60) (ht : t ≤ 60) (hu : u ≤ 60) (hv : max v 0 = (S : Int)) (hS : S ≤ 60) (h0 : 0 < k) :
   Calls Tryz.prog 34 #[.agg #[.bool (ngB i), .slice A n c, .int .i64 (s : Int)], .agg #[.bool (ngB j), .slice A' n' c', .int .i64 (t : Int)], .agg #[.bool (ngB k), .slice A'' n'' c'', .int .i64 (u : Int)], .int .i64 v] w (RetDown w (downN i j k s t u S) S (downR i j k s t u S) (max (s + t) (S + u))) := by
 have zi : Sz i s 108 := Sz.of_len (by have := h.len; omega : (dg i.natAbs).length ≤ 12)
 have zj : Sz j t 108 := Sz.of_len (by have := h'.len; omega : (dg j.natAbs).length ≤ 12)
 obtain ⟨y, hy⟩ : ∃ y, i * j = y := ⟨_, rfl⟩
 obtain ⟨e1, he1⟩ : ∃ e1, s + t = e1 := ⟨_, rfl⟩
 obtain ⟨a, ha⟩ : ∃ a : Int, (y.natAbs : Int) = a := ⟨_, rfl⟩
 have haa : a.natAbs = y.natAbs := by rw [← ha, Int.natAbs_natCast]
 have hyl : (dg y.natAbs).length ≤ 400 := by
   have z := (zi.mul zj).len
   rw [hy] at z; omega
 have HYL : Hid ((dg y.natAbs).length ≤ 400) := hyl
 have HAL : Hid ((dg a.natAbs).length ≤ 400) := by show _ ≤ _; rw [haa]; exact hyl
 have he120 : e1 ≤ 120 := by omega
 obtain ⟨X, hX⟩ : ∃ X, a.natAbs * 10 ^ (S + u) = X := ⟨_, rfl⟩
 obtain ⟨Y, hY⟩ : ∃ Y, k.natAbs * 10 ^ e1 = Y := ⟨_, rfl⟩
 have HXL : Hid ((dg X).length ≤ 2000) := by
   show _ ≤ _
   have h2 := up_len (i := a) (s := 0) (M := S + u) rfl
   rw [abs_up, Nat.sub_zero, hX] at h2
   have h3 := HAL.out
   omega
 have HYY : Hid ((dg Y).length ≤ 2000) := by
   show _ ≤ _
   have := up_len (i := k) (s := 0) (M := e1) h''.len
   rw [abs_up, Nat.sub_zero, hY] at this
   omega
 have HB : Hid (0 < Y) := by show _ < _; rw [← hY]; exact Nat.mul_pos (by omega) (ten_pos _)
 obtain ⟨q, hq⟩ : ∃ q, X / Y = q := ⟨_, rfl⟩
 have hqX : q ≤ X := by rw [← hq]; exact Nat.div_le_self _ _
 obtain ⟨m, hm⟩ : ∃ m, (q : Int) * k = m := ⟨_, rfl⟩
 obtain ⟨e2, he2⟩ : ∃ e2, S + u = e2 := ⟨_, rfl⟩
 have he2' : e2 ≤ 120 := by omega
 obtain ⟨r, hr⟩ : ∃ r, subZ a e1 m e2 = r := ⟨_, rfl⟩
 obtain ⟨M, hM⟩ : ∃ M, max e1 e2 = M := ⟨_, rfl⟩
 have HQL : Hid ((dg q).length ≤ 2000) := Nat.le_trans (dg_len_mono hqX) HXL.out
 have HML : Hid ((dg m.natAbs).length ≤ 50000) := by
   show _ ≤ _
   have z1 : Sz (q : Int) S 18000 := Sz.of_len (n := 2000) (by rw [Int.natAbs_natCast]; exact HQL.out)
   have z2 : Sz k u 1530 := Sz.of_len (n := 170) (by have := h''.len; omega)
   have z := (z1.mul z2).len
   rw [hm] at z; omega
 have eQ : downN i j k s t u S = q := by
   unfold downN
   rw [hy, he1, hY, ← haa, hX, hq]
 have eR : downR i j k s t u S = r := by
   unfold downR
   rw [eQ, hy, he1, ha, hm, he2, hr]
 rw [eQ, eR, he1, he2, hM]
 have H := Lib.hid h
 have H' := Lib.hid h'
 have H'' := Lib.hid h''
 have HY := Lib.hid hy
 have HE1 := Lib.hid he1
 have HA := Lib.hid ha
 have HX := Lib.hid hX
 have HYE := Lib.hid hY
 have HQ := Lib.hid hq
 have HM := Lib.hid hm
 have HE2 := Lib.hid he2
 have HR := Lib.hid hr
 have HMM := Lib.hid hM
 have hmx := max_gen (P := Tryz.prog) (max_gen0 hv)
 clear h h' h'' hv hy he1 ha hX hY hq hm he2 hr hM haa hyl zi zj hqX eQ eR
 go_enter Tryz.func34, Tryz.ntmps34
 go_wp2_with fail
 generalize hW : World.alloc (World.alloc (World.alloc (World.alloc (World.alloc w _) _) _) _) _ = W0
 have E0 : St w W0 [(A, n, c, i.natAbs), (A', n', c', j.natAbs), (A'', n'', c'', k.natAbs)] [((w.heap.size + 1 + 1 + 1 + 1), .bool false, .slice none 0 0, .int .i64 0), ((w.heap.size + 1 + 1 + 1), .bool false, .slice none 0 0, .int .i64 0), ((w.heap.size + 1 + 1), .bool (ngB k), .slice A'' n'' c'', .int .i64 (u : Int)), ((w.heap.size + 1), .bool (ngB j), .slice A' n' c', .int .i64 (t : Int)), (w.heap.size, .bool (ngB i), .slice A n c, .int .i64 (s : Int))] := by rw [← hW]; exact (((((start_three H.out H'.out H''.out).lay rfl).lay (by simp)).lay (by simp)).lay (by simp)).lay (by simp)
 have E := Lib.hid E0
 clear hW E0
 refine (refmul_is5 (i := i) (s := s) (j := j) (t := t) (St.got E (A := A) (n := n) (c := c) (a := i.natAbs) (by simp)) (St.got E (A := A') (n := n') (c := c') (a := j.natAbs) (by simp)) (by omega) (by omega) (by omega) (by omega) HE1.out HY.out).mono ?_; rintro e w1 ⟨A1, n1, c1, rfl, h1, hb⟩
 have b1 : n1 ≤ 400 := len_le h1 HYL.out
 replace E := Lib.hid (St.push E.out hb h1); clear h1 hb
 go_wp2_with fail
 refine (refabs_is5 (i := y) (s := e1) (St.got E (A := A1) (n := n1) (c := c1) (a := y.natAbs) (by simp)) (by omega) (by omega) HA.out).mono ?_; rintro e w2 ⟨A2, n2, c2, rfl, h2, hb⟩
 have b2 : n2 ≤ 400 := len_le h2 HAL.out
 replace E := Lib.hid (St.push E.out hb h2); clear h2 hb
 have LG0 : Hid (w.heap.size + 1 + 1 + 1 + 1 < w2.heap.size) := (St.at_ (x0 := .bool false) (x1 := .slice none 0 0) (x2 := .int .i64 0) (g := (w.heap.size + 1 + 1 + 1 + 1)) E (by simp)).lt
 obtain ⟨q0, q1, q2, qf0, qf1, qf2, qlt⟩ := St.at_ (x0 := .bool (ngB k)) (x1 := .slice A'' n'' c'') (x2 := .int .i64 (u : Int)) (g := (w.heap.size + 1 + 1)) E (by simp)
 go_wp2_with fail
 replace E := Lib.hid (St.lay (t := 25) (x0 := (.bool (ngB a))) (x1 := (.slice A2 n2 c2)) (x2 := (.int .i64 (e1 : Int))) (g := w2.heap.size) E.out rfl)
 clear q0 q1 q2 qf0 qf1 qf2 qlt
 refine (refShift_is (a := a.natAbs) (k := S + u) (St.got E (A := A2) (n := n2) (c := c2) (a := a.natAbs) (by simp)) (by omega) (by omega) (by omega) HX.out).mono ?_; rintro e w3 ⟨A3, n3, c3, rfl, h3, hb⟩
 have b3 : n3 ≤ 2000 := by rw [← h3.len]; exact HXL.out
 replace E := Lib.hid (St.push E.out hb h3); clear h3 hb
 obtain ⟨p0, p1, p2, pf0, pf1, pf2, plt⟩ := St.at_ (x0 := (.bool (ngB a))) (x1 := (.slice A2 n2 c2)) (x2 := (.int .i64 (e1 : Int))) (g := w2.heap.size) E (by simp)
 obtain ⟨q0, q1, q2, qf0, qf1, qf2, qlt⟩ := St.at_ (x0 := (.bool (ngB k))) (x1 := (.slice A'' n'' c'')) (x2 := (.int .i64 (u : Int))) (g := (w.heap.size + 1 + 1)) E (by simp)
 go_wp2_with fail
 clear p0 p1 p2 pf0 pf1 pf2 plt q0 q1 q2 qf0 qf1 qf2 qlt
 refine (refShift_is (a := k.natAbs) (k := e1) (St.got E (A := A'') (n := n'') (c := c'') (a := k.natAbs) (by simp)) (by omega) (by omega) rfl HYE.out).mono ?_; rintro e w4 ⟨A4, n4, c4, rfl, h4, hb⟩
 have b4 : n4 ≤ 2000 := by rw [← h4.len]; exact HYY.out
 replace E := Lib.hid (St.push E.out hb h4); clear h4 hb
 go_wp2_with fail
 refine (refDiv_is (a := X) (b := Y) (St.got E (A := A3) (n := n3) (c := c3) (a := X) (by simp)) (St.got E (A := A4) (n := n4) (c := c4) (a := Y) (by simp)) (by omega) (by omega) HB.out HQ.out rfl).mono ?_; rintro e w5 ⟨A5, n5, c5, A6, n6, c6, rfl, h5, _, hb⟩
 have b5 : n5 ≤ 2000 := by rw [← h5.len]; exact HQL.out
 have h5' : Num w5 w5.heap.size A5 n5 c5 (q : Int).natAbs := by rw [Int.natAbs_natCast]; exact h5
 replace E := Lib.hid (St.push E.out hb h5'); clear h5 h5' hb
 have LG : Hid (w.heap.size + 1 + 1 + 1 + 1 < w2.heap.size ∧ w2.heap.size < w5.heap.size) := by
   refine ⟨?_, (St.at_ (x0 := (.bool (ngB a))) (x1 := (.slice A2 n2 c2)) (x2 := (.int .i64 (e1 : Int))) (g := w2.heap.size) E (by simp)).lt⟩
   exact LG0.out
 go_wp2_with fail
 replace E := Lib.hid (St.lay (t := 25) (x0 := .bool false) (x1 := .slice A5 n5 c5) (x2 := .int .i64 (S : Int)) (g := w5.heap.size) E.out rfl)
 replace E := Lib.hid (St.drew E.out)
 clear hmx
 go_region_held3 (fun v => v.cell? ⟨w5.heap.size, 0, none⟩ = some (.bool false) ∧ v.cell? ⟨w5.heap.size, 1, none⟩ = some (.slice A5 n5 c5) ∧ v.cell? ⟨w5.heap.size, 2, none⟩ = some (.int .i64 (S : Int)) ∧ v.cell? ⟨w2.heap.size, 0, none⟩ = some (.bool (ngB a)) ∧ v.cell? ⟨w2.heap.size, 1, none⟩ = some (.slice A2 n2 c2) ∧ v.cell? ⟨w2.heap.size, 2, none⟩ = some (.int .i64 (e1 : Int)) ∧ v.cell? ⟨w.heap.size + 1 + 1, 0, none⟩ = some (.bool (ngB k)) ∧ v.cell? ⟨w.heap.size + 1 + 1, 1, none⟩ = some (.slice A'' n'' c'') ∧ v.cell? ⟨w.heap.size + 1 + 1, 2, none⟩ = some (.int .i64 (u : Int))) (first | (have X0 := St.at_ (x0 := (.bool false)) (x1 := (.slice A5 n5 c5)) (x2 := (.int .i64 (S : Int))) (g := w5.heap.size) E (by simp); have X1 := St.at_ (x0 := (.bool (ngB a))) (x1 := (.slice A2 n2 c2)) (x2 := (.int .i64 (e1 : Int))) (g := w2.heap.size) E (by simp); have X2 := St.at_ (x0 := (.bool (ngB k))) (x1 := (.slice A'' n'' c'')) (x2 := (.int .i64 (u : Int))) (g := (w.heap.size + 1 + 1)) E (by simp); with_reducible exact ⟨X0.c0, X0.c1, X0.c2, X1.c0, X1.c1, X1.c2, X2.c0, X2.c1, X2.c2⟩) | (with_reducible exact ⟨((St.at_ (x0 := (.bool false)) (x1 := (.slice A5 n5 c5)) (x2 := (.int .i64 (S : Int))) (g := w5.heap.size) E (by simp)).apart (g' := (w.heap.size + 1 + 1 + 1)) _ _ _ (by have := LG.out; omega)).c0, ((St.at_ (x0 := (.bool false)) (x1 := (.slice A5 n5 c5)) (x2 := (.int .i64 (S : Int))) (g := w5.heap.size) E (by simp)).apart (g' := (w.heap.size + 1 + 1 + 1)) _ _ _ (by have := LG.out; omega)).c1, ((St.at_ (x0 := (.bool false)) (x1 := (.slice A5 n5 c5)) (x2 := (.int .i64 (S : Int))) (g := w5.heap.size) E (by simp)).apart (g' := (w.heap.size + 1 + 1 + 1)) _ _ _ (by have := LG.out; omega)).c2, ((St.at_ (x0 := (.bool (ngB a))) (x1 := (.slice A2 n2 c2)) (x2 := (.int .i64 (e1 : Int))) (g := w2.heap.size) E (by simp)).apart (g' := (w.heap.size + 1 + 1 + 1)) _ _ _ (by have := LG.out; omega)).c0, ((St.at_ (x0 := (.bool (ngB a))) (x1 := (.slice A2 n2 c2)) (x2 := (.int .i64 (e1 : Int))) (g := w2.heap.size) E (by simp)).apart (g' := (w.heap.size + 1 + 1 + 1)) _ _ _ (by have := LG.out; omega)).c1, ((St.at_ (x0 := (.bool (ngB a))) (x1 := (.slice A2 n2 c2)) (x2 := (.int .i64 (e1 : Int))) (g := w2.heap.size) E (by simp)).apart (g' := (w.heap.size + 1 + 1 + 1)) _ _ _ (by have := LG.out; omega)).c2, ((St.at_ (x0 := (.bool (ngB k))) (x1 := (.slice A'' n'' c'')) (x2 := (.int .i64 (u : Int))) (g := (w.heap.size + 1 + 1)) E (by simp)).apart (g' := (w.heap.size + 1 + 1 + 1)) _ _ _ (by have := LG.out; omega)).c0, ((St.at_ (x0 := (.bool (ngB k))) (x1 := (.slice A'' n'' c'')) (x2 := (.int .i64 (u : Int))) (g := (w.heap.size + 1 + 1)) E (by simp)).apart (g' := (w.heap.size + 1 + 1 + 1)) _ _ _ (by have := LG.out; omega)).c1, ((St.at_ (x0 := (.bool (ngB k))) (x1 := (.slice A'' n'' c'')) (x2 := (.int .i64 (u : Int))) (g := (w.heap.size + 1 + 1)) E (by simp)).apart (g' := (w.heap.size + 1 + 1 + 1)) _ _ _ (by have := LG.out; omega)).c2⟩) | (with_reducible exact ⟨(((St.at_ (x0 := (.bool false)) (x1 := (.slice A5 n5 c5)) (x2 := (.int .i64 (S : Int))) (g := w5.heap.size) E (by simp)).apart (g' := (w.heap.size + 1 + 1 + 1)) _ _ _ (by have := LG.out; omega)).apart (g' := (w.heap.size + 1 + 1 + 1 + 1)) _ _ _ (by have := LG.out; omega)).c0, (((St.at_ (x0 := (.bool false)) (x1 := (.slice A5 n5 c5)) (x2 := (.int .i64 (S : Int))) (g := w5.heap.size) E (by simp)).apart (g' := (w.heap.size + 1 + 1 + 1)) _ _ _ (by have := LG.out; omega)).apart (g' := (w.heap.size + 1 + 1 + 1 + 1)) _ _ _ (by have := LG.out; omega)).c1, (((St.at_ (x0 := (.bool false)) (x1 := (.slice A5 n5 c5)) (x2 := (.int .i64 (S : Int))) (g := w5.heap.size) E (by simp)).apart (g' := (w.heap.size + 1 + 1 + 1)) _ _ _ (by have := LG.out; omega)).apart (g' := (w.heap.size + 1 + 1 + 1 + 1)) _ _ _ (by have := LG.out; omega)).c2, (((St.at_ (x0 := (.bool (ngB a))) (x1 := (.slice A2 n2 c2)) (x2 := (.int .i64 (e1 : Int))) (g := w2.heap.size) E (by simp)).apart (g' := (w.heap.size + 1 + 1 + 1)) _ _ _ (by have := LG.out; omega)).apart (g' := (w.heap.size + 1 + 1 + 1 + 1)) _ _ _ (by have := LG.out; omega)).c0, (((St.at_ (x0 := (.bool (ngB a))) (x1 := (.slice A2 n2 c2)) (x2 := (.int .i64 (e1 : Int))) (g := w2.heap.size) E (by simp)).apart (g' := (w.heap.size + 1 + 1 + 1)) _ _ _ (by have := LG.out; omega)).apart (g' := (w.heap.size + 1 + 1 + 1 + 1)) _ _ _ (by have := LG.out; omega)).c1, (((St.at_ (x0 := (.bool (ngB a))) (x1 := (.slice A2 n2 c2)) (x2 := (.int .i64 (e1 : Int))) (g := w2.heap.size) E (by simp)).apart (g' := (w.heap.size + 1 + 1 + 1)) _ _ _ (by have := LG.out; omega)).apart (g' := (w.heap.size + 1 + 1 + 1 + 1)) _ _ _ (by have := LG.out; omega)).c2, (((St.at_ (x0 := (.bool (ngB k))) (x1 := (.slice A'' n'' c'')) (x2 := (.int .i64 (u : Int))) (g := (w.heap.size + 1 + 1)) E (by simp)).apart (g' := (w.heap.size + 1 + 1 + 1)) _ _ _ (by have := LG.out; omega)).apart (g' := (w.heap.size + 1 + 1 + 1 + 1)) _ _ _ (by have := LG.out; omega)).c0, (((St.at_ (x0 := (.bool (ngB k))) (x1 := (.slice A'' n'' c'')) (x2 := (.int .i64 (u : Int))) (g := (w.heap.size + 1 + 1)) E (by simp)).apart (g' := (w.heap.size + 1 + 1 + 1)) _ _ _ (by have := LG.out; omega)).apart (g' := (w.heap.size + 1 + 1 + 1 + 1)) _ _ _ (by have := LG.out; omega)).c1, (((St.at_ (x0 := (.bool (ngB k))) (x1 := (.slice A'' n'' c'')) (x2 := (.int .i64 (u : Int))) (g := (w.heap.size + 1 + 1)) E (by simp)).apart (g' := (w.heap.size + 1 + 1 + 1)) _ _ _ (by have := LG.out; omega)).apart (g' := (w.heap.size + 1 + 1 + 1 + 1)) _ _ _ (by have := LG.out; omega)).c2⟩))
   (first | (go_at_call 43; (have AD := refmul_is5 (i := (q : Int)) (s := S) (j := k) (t := u) (St.got E (A := A5) (n := n5) (c := c5) (a := (q : Int).natAbs) (by simp)) (St.got E (A := A'') (n := n'') (c := c'') (a := k.natAbs) (by simp)) (by omega) (by omega) (by omega) (by omega) HE2.out HM.out); rw [ng_nat] at AD; (with_reducible refine AD.mono ?_); clear AD; rintro e w6 ⟨A7, n7, c7, rfl, h7, hb7⟩; have b7 : n7 ≤ 50000 := len_le h7 HML.out; replace E := Lib.hid (St.push E.out hb7 h7); clear h7 hb7) | (go_at_call 73; (with_reducible refine (refsub_is5 (i := a) (s := e1) (j := m) (t := e2) (St.got E (A := A2) (n := n2) (c := c2) (a := a.natAbs) (by simp)) (St.got E (A := A7) (n := n7) (c := c7) (a := m.natAbs) (by simp)) (by omega) (by omega) (by omega) (by omega) HMM.out HR.out).mono ?_); rintro e w7 ⟨A8, n8, c8, rfl, h8, hb8⟩; replace E := Lib.hid (St.push E.out hb8 h8); clear h8 hb8; obtain ⟨r0, r1, r2, rf0, rf1, rf2, rlt⟩ := St.at_ (x0 := .bool false) (x1 := .slice none 0 0) (x2 := .int .i64 0) (g := (w.heap.size + 1 + 1 + 1)) E (by simp); obtain ⟨z0, z1, z2, zf0, zf1, zf2, zlt⟩ := St.at_ (x0 := .bool false) (x1 := .slice none 0 0) (x2 := .int .i64 0) (g := (w.heap.size + 1 + 1 + 1 + 1)) E (by simp)))
 go_wp2_with fail
 have F := Lib.hid (St.store E.out (g := (w.heap.size + 1 + 1 + 1)) (x0 := .bool false) (x1 := .slice none 0 0) (x2 := .int .i64 0) (by simp) (noLimb_bool _) (noLimb_slice _ _ _) (noLimb_int _) [((w.heap.size + 1 + 1 + 1 + 1), .bool false, .slice none 0 0, .int .i64 0)] (by simp <;> omega) (.bool false) (.slice A5 n5 c5) (.int .i64 (S : Int)))
 have G := Lib.hid (St.store F.out (g := (w.heap.size + 1 + 1 + 1 + 1)) (x0 := .bool false) (x1 := .slice none 0 0) (x2 := .int .i64 0) (by simp) (noLimb_bool _) (noLimb_slice _ _ _) (noLimb_int _) [((w.heap.size + 1 + 1 + 1), .bool false, .slice A5 n5 c5, .int .i64 (S : Int))] (by simp <;> omega) (.bool (ngB r)) (.slice A8 n8 c8) (.int .i64 (M : Int)))
 obtain ⟨u0, u1, u2, _, _, _, _⟩ := St.at_ (x0 := .bool false) (x1 := .slice A5 n5 c5) (x2 := .int .i64 (S : Int)) (g := (w.heap.size + 1 + 1 + 1)) G (by simp)
 obtain ⟨v0, v1, v2, _, _, _, _⟩ := St.at_ (x0 := .bool (ngB r)) (x1 := .slice A8 n8 c8) (x2 := .int .i64 (M : Int)) (g := (w.heap.size + 1 + 1 + 1 + 1)) G (by simp)
 exact bodyPost_ret (v := .tuple #[.agg #[.bool false, .slice A5 n5 c5, .int .i64 (S : Int)], .agg #[.bool (ngB r), .slice A8 n8 c8, .int .i64 (M : Int)]]) (by simp [results, Tryz.results34, go_sem, u0, u1, u2, v0, v1, v2]) rfl ⟨A5, n5, c5, A8, n8, c8, rfl, by have e := St.got G (A := A5) (n := n5) (c := c5) (a := (q : Int).natAbs) (by simp); rw [Int.natAbs_natCast] at e; exact e, St.got G (by simp), G.out.bel⟩
end Go.Proofs.YthlhpgphmfnlgaaGreat
