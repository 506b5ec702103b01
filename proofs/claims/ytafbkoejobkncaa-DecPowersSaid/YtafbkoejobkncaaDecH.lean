/-
  Contracts of layer 5, the eighth part: the document's Cmp, Same.
-/
import Derived.Test.YtafbkoejobkncaaDecG
namespace Go.Proofs.Ytafbkoejobkncaa
open Go.RowKit

theorem refCmpN_is {s : Int} {A A' : Option Addr} {n c n' c' a b : Nat} {w : World} (h : Num w w.heap.size A n c a) (h' : Num w w.heap.size A' n' c' b) (hs : cmpN a b = s) :
    Calls Try.prog 56 #[.slice A n c, .slice A' n' c'] w (RetVal w (.int .i64 s)) := by
  subst hs; exact refCmp_any A A' n c n' c' a b w h h'

set_option maxHeartbeats 4000000 in
theorem refCmp_zn (A A' : Option Addr) (n c n' c' s t : Nat) (i j : Int) (w : World) (h : Num w w.heap.size A n c i.natAbs) (h' : Num w w.heap.size A' n' c' j.natAbs) (hn : n ≤ 1000000) (hn' : n' ≤ 1000000) (hs : s ≤ 100000) (ht : t ≤ 100000) (hsi : i.sign = 0) (hsj : j.sign = -1) :
    Calls Try.prog 24 #[.agg #[.bool (ngB i), .slice A n c, .int .i64 (s : Int)], .agg #[.bool (ngB j), .slice A' n' c', .int .i64 (t : Int)]] w (RetVal w (.int .i64 (cmpD i s j t))) := by
  have H := Lib.hid h
  have H' := Lib.hid h'
  clear h h'
  have HSI := Lib.hid hsi
  have HSJ := Lib.hid hsj
  have HE : Hid (cmpZ (0) (-1) = cmpD i s j t) := by
    have := cmpD_sign (i := i) (j := j) s t (by left; rw [hsi, hsj]; decide)
    rwa [hsi, hsj] at this
  clear hsi hsj
  go_enter Try.func24, Try.ntmps24
  go_wp2_with fail
  generalize hW : World.alloc (World.alloc w _) _ = W0
  have E0 : St w W0 [(A, n, c, (i).natAbs), (A', n', c', (j).natAbs)] [((w.heap.size + 1), (.bool (ngB j)), (.slice A' n' c'), (.int .i64 (t : Int))), (w.heap.size, (.bool (ngB i)), (.slice A n c), (.int .i64 (s : Int)))] := by rw [← hW]; exact ((start_two H.out H'.out).lay rfl).lay (by simp)
  have E := Lib.hid E0
  clear hW E0
  obtain ⟨p0, p1, p2, pf0, pf1, pf2, plt⟩ := St.at_ (x0 := (.bool (ngB i))) (x1 := (.slice A n c)) (x2 := (.int .i64 (s : Int))) (g := w.heap.size) E (by simp)
  obtain ⟨q0, q1, q2, qf0, qf1, qf2, qlt⟩ := St.at_ (x0 := (.bool (ngB j))) (x1 := (.slice A' n' c')) (x2 := (.int .i64 (t : Int))) (g := (w.heap.size + 1)) E (by simp)
  
  clear p0 p1 p2 pf0 pf1 pf2 plt q0 q1 q2 qf0 qf1 qf2 qlt
  replace E := Lib.hid (St.drew E.out)
  go_region_held3 (fun v => v.cell? ⟨w.heap.size, 0, none⟩ = some (.bool (ngB i)) ∧ v.cell? ⟨w.heap.size, 1, none⟩ = some (.slice A n c) ∧ v.cell? ⟨w.heap.size, 2, none⟩ = some (.int .i64 (s : Int)) ∧ v.cell? ⟨w.heap.size + 1, 0, none⟩ = some (.bool (ngB j)) ∧ v.cell? ⟨w.heap.size + 1, 1, none⟩ = some (.slice A' n' c') ∧ v.cell? ⟨w.heap.size + 1, 2, none⟩ = some (.int .i64 (t : Int))) (first | (have X0 := St.at_ (x0 := (.bool (ngB i))) (x1 := (.slice A n c)) (x2 := (.int .i64 (s : Int))) (g := w.heap.size) E (by simp); have X1 := St.at_ (x0 := (.bool (ngB j))) (x1 := (.slice A' n' c')) (x2 := (.int .i64 (t : Int))) (g := (w.heap.size + 1)) E (by simp); with_reducible exact ⟨X0.c0, X0.c1, X0.c2, X1.c0, X1.c1, X1.c2⟩))
    (first | (go_at_call 22; first | ((with_reducible refine (refSign_is (A := A) (n := n) (c := c) (s := s) (St.got E (by simp)) HSI.out).mono ?_); rintro e w1 ⟨rfl, hb1⟩; replace E := Lib.hid (St.step E.out hb1); clear hb1) | ((with_reducible refine (refSign_is (A := A') (n := n') (c := c') (s := t) (St.got E (by simp)) HSJ.out).mono ?_); rintro e w2 ⟨rfl, hb2⟩; replace E := Lib.hid (St.step E.out hb2); clear hb2)))
  all_goals
    go_wp2_with fail
    go_ret
    exact ⟨ret_i64 HE.out, E.out.bel⟩

set_option maxHeartbeats 4000000 in
theorem refCmp_zz (A A' : Option Addr) (n c n' c' s t : Nat) (i j : Int) (w : World) (h : Num w w.heap.size A n c i.natAbs) (h' : Num w w.heap.size A' n' c' j.natAbs) (hn : n ≤ 1000000) (hn' : n' ≤ 1000000) (hs : s ≤ 100000) (ht : t ≤ 100000) (hsi : i.sign = 0) (hsj : j.sign = 0) :
    Calls Try.prog 24 #[.agg #[.bool (ngB i), .slice A n c, .int .i64 (s : Int)], .agg #[.bool (ngB j), .slice A' n' c', .int .i64 (t : Int)]] w (RetVal w (.int .i64 (cmpD i s j t))) := by
  have H := Lib.hid h
  have H' := Lib.hid h'
  clear h h'
  have HSI := Lib.hid hsi
  have HSJ := Lib.hid hsj
  obtain ⟨M, hm⟩ : ∃ M, max s t = M := ⟨_, rfl⟩
  obtain ⟨z, hz⟩ : ∃ z, cmpN (up i s M).natAbs (up j t M).natAbs = z := ⟨_, rfl⟩
  have hzb := cmpN_size (up i s M).natAbs (up j t M).natAbs
  rw [hz] at hzb
  obtain ⟨hz1, hz2⟩ := hzb
  have HNG : Hid (ngB i = false) := decide_eq_false (by have := Int.sign_eq_zero_iff_zero.1 hsi; omega)
  have HE : Hid (z = cmpD i s j t) := by
    show _ = _
    unfold cmpD
    rw [hm, ← hz]
    exact cmpZ_pos (by rw [Int.sign_eq_zero_iff_zero.1 hsi, up_zero]; omega) (by rw [Int.sign_eq_zero_iff_zero.1 hsj, up_zero]; omega)
  have HZ := Lib.hid hz
  have HA := Lib.hid (fun (w : World) h h' => refAlign_any A A' n c n' c' s t i j w h h' hn hn' hs ht)
  rw [hm] at HA
  clear hsi hsj hz hm
  go_enter Try.func24, Try.ntmps24
  go_wp2_with fail
  generalize hW : World.alloc (World.alloc w _) _ = W0
  have E0 : St w W0 [(A, n, c, (i).natAbs), (A', n', c', (j).natAbs)] [((w.heap.size + 1), (.bool (ngB j)), (.slice A' n' c'), (.int .i64 (t : Int))), (w.heap.size, (.bool (ngB i)), (.slice A n c), (.int .i64 (s : Int)))] := by rw [← hW]; exact ((start_two H.out H'.out).lay rfl).lay (by simp)
  have E := Lib.hid E0
  clear hW E0
  obtain ⟨p0, p1, p2, pf0, pf1, pf2, plt⟩ := St.at_ (x0 := (.bool (ngB i))) (x1 := (.slice A n c)) (x2 := (.int .i64 (s : Int))) (g := w.heap.size) E (by simp)
  obtain ⟨q0, q1, q2, qf0, qf1, qf2, qlt⟩ := St.at_ (x0 := (.bool (ngB j))) (x1 := (.slice A' n' c')) (x2 := (.int .i64 (t : Int))) (g := (w.heap.size + 1)) E (by simp)
  
  clear p0 p1 p2 pf0 pf1 pf2 plt q0 q1 q2 qf0 qf1 qf2 qlt
  replace E := Lib.hid (St.drew E.out)
  go_region_held3 (fun v => v.cell? ⟨w.heap.size, 0, none⟩ = some (.bool (ngB i)) ∧ v.cell? ⟨w.heap.size, 1, none⟩ = some (.slice A n c) ∧ v.cell? ⟨w.heap.size, 2, none⟩ = some (.int .i64 (s : Int)) ∧ v.cell? ⟨w.heap.size + 1, 0, none⟩ = some (.bool (ngB j)) ∧ v.cell? ⟨w.heap.size + 1, 1, none⟩ = some (.slice A' n' c') ∧ v.cell? ⟨w.heap.size + 1, 2, none⟩ = some (.int .i64 (t : Int))) (first | (have X0 := St.at_ (x0 := (.bool (ngB i))) (x1 := (.slice A n c)) (x2 := (.int .i64 (s : Int))) (g := w.heap.size) E (by simp); have X1 := St.at_ (x0 := (.bool (ngB j))) (x1 := (.slice A' n' c')) (x2 := (.int .i64 (t : Int))) (g := (w.heap.size + 1)) E (by simp); with_reducible exact ⟨X0.c0, X0.c1, X0.c2, X1.c0, X1.c1, X1.c2⟩))
    (first | (go_at_call 22; first | ((with_reducible refine (refSign_is (A := A) (n := n) (c := c) (s := s) (St.got E (by simp)) HSI.out).mono ?_); rintro e w1 ⟨rfl, hb1⟩; replace E := Lib.hid (St.step E.out hb1); clear hb1) | ((with_reducible refine (refSign_is (A := A') (n := n') (c := c') (s := t) (St.got E (by simp)) HSJ.out).mono ?_); rintro e w2 ⟨rfl, hb2⟩; replace E := Lib.hid (St.step E.out hb2); clear hb2)))
  all_goals
    obtain ⟨p0, p1, p2, pf0, pf1, pf2, plt⟩ := St.at_ (x0 := (.bool (ngB i))) (x1 := (.slice A n c)) (x2 := (.int .i64 (s : Int))) (g := w.heap.size) E (by simp)
    obtain ⟨q0, q1, q2, qf0, qf1, qf2, qlt⟩ := St.at_ (x0 := (.bool (ngB j))) (x1 := (.slice A' n' c')) (x2 := (.int .i64 (t : Int))) (g := (w.heap.size + 1)) E (by simp)
    go_wp2_with fail
    refine (HA.out _ (St.got E (by simp)) (St.got E (by simp))).mono ?_
    rintro e w4 ⟨A1, n1, c1, A2, n2, c2, rfl, h1, h2, hb4⟩
    replace E : Hid (St w w4 [(A1, n1, c1, (up i s M).natAbs), (A2, n2, c2, (up j t M).natAbs)] [((w.heap.size + 1), (.bool (ngB j)), (.slice A' n' c'), (.int .i64 (t : Int))), (w.heap.size, (.bool (ngB i)), (.slice A n c), (.int .i64 (s : Int)))]) := ⟨(E.out.step hb4).bel, (St.start w4 (l := [(A1, n1, c1, (up i s M).natAbs), (A2, n2, c2, (up j t M).natAbs)]) (by simp; exact ⟨h1, h2⟩)).num, (E.out.step hb4).box⟩
    clear h1 h2 hb4 p0 p1 p2 pf0 pf1 pf2 plt q0 q1 q2 qf0 qf1 qf2 qlt
    obtain ⟨p0, p1, p2, pf0, pf1, pf2, plt⟩ := St.at_ (x0 := (.bool (ngB i))) (x1 := (.slice A n c)) (x2 := (.int .i64 (s : Int))) (g := w.heap.size) E (by simp)
    obtain ⟨q0, q1, q2, qf0, qf1, qf2, qlt⟩ := St.at_ (x0 := (.bool (ngB j))) (x1 := (.slice A' n' c')) (x2 := (.int .i64 (t : Int))) (g := (w.heap.size + 1)) E (by simp)
    go_wp2_with fail
    clear p0 p1 p2 pf0 pf1 pf2 plt q0 q1 q2 qf0 qf1 qf2 qlt
    have E5 := Lib.hid (St.lay (t := 25) (x0 := .bool (ngB (up j t M))) (x1 := .slice A2 n2 c2) (x2 := .int .i64 (M : Int)) (g := w4.heap.size + 1) (St.lay (t := 25) (x0 := .bool (ngB (up i s M))) (x1 := .slice A1 n1 c1) (x2 := .int .i64 (M : Int)) (g := w4.heap.size) E.out rfl) (by simp))
    refine (refCmpN_is (St.got E5 (by simp)) (St.got E5 (by simp)) HZ.out).mono ?_; rintro e w5 ⟨rfl, hb5⟩; replace E := Lib.hid (St.step E5.out hb5); clear hb5 E5
    obtain ⟨p0, p1, p2, pf0, pf1, pf2, plt⟩ := St.at_ (x0 := (.bool (ngB i))) (x1 := (.slice A n c)) (x2 := (.int .i64 (s : Int))) (g := w.heap.size) E (by simp)
    have hng := HNG.out
    go_wp2_with fail
    go_ret
    exact ⟨ret_i64 HE.out, E.out.bel⟩

set_option maxHeartbeats 4000000 in
theorem refCmp_zp (A A' : Option Addr) (n c n' c' s t : Nat) (i j : Int) (w : World) (h : Num w w.heap.size A n c i.natAbs) (h' : Num w w.heap.size A' n' c' j.natAbs) (hn : n ≤ 1000000) (hn' : n' ≤ 1000000) (hs : s ≤ 100000) (ht : t ≤ 100000) (hsi : i.sign = 0) (hsj : j.sign = 1) :
    Calls Try.prog 24 #[.agg #[.bool (ngB i), .slice A n c, .int .i64 (s : Int)], .agg #[.bool (ngB j), .slice A' n' c', .int .i64 (t : Int)]] w (RetVal w (.int .i64 (cmpD i s j t))) := by
  have H := Lib.hid h
  have H' := Lib.hid h'
  clear h h'
  have HSI := Lib.hid hsi
  have HSJ := Lib.hid hsj
  have HE : Hid (cmpZ (0) (1) = cmpD i s j t) := by
    have := cmpD_sign (i := i) (j := j) s t (by left; rw [hsi, hsj]; decide)
    rwa [hsi, hsj] at this
  clear hsi hsj
  go_enter Try.func24, Try.ntmps24
  go_wp2_with fail
  generalize hW : World.alloc (World.alloc w _) _ = W0
  have E0 : St w W0 [(A, n, c, (i).natAbs), (A', n', c', (j).natAbs)] [((w.heap.size + 1), (.bool (ngB j)), (.slice A' n' c'), (.int .i64 (t : Int))), (w.heap.size, (.bool (ngB i)), (.slice A n c), (.int .i64 (s : Int)))] := by rw [← hW]; exact ((start_two H.out H'.out).lay rfl).lay (by simp)
  have E := Lib.hid E0
  clear hW E0
  obtain ⟨p0, p1, p2, pf0, pf1, pf2, plt⟩ := St.at_ (x0 := (.bool (ngB i))) (x1 := (.slice A n c)) (x2 := (.int .i64 (s : Int))) (g := w.heap.size) E (by simp)
  obtain ⟨q0, q1, q2, qf0, qf1, qf2, qlt⟩ := St.at_ (x0 := (.bool (ngB j))) (x1 := (.slice A' n' c')) (x2 := (.int .i64 (t : Int))) (g := (w.heap.size + 1)) E (by simp)
  
  clear p0 p1 p2 pf0 pf1 pf2 plt q0 q1 q2 qf0 qf1 qf2 qlt
  replace E := Lib.hid (St.drew E.out)
  go_region_held3 (fun v => v.cell? ⟨w.heap.size, 0, none⟩ = some (.bool (ngB i)) ∧ v.cell? ⟨w.heap.size, 1, none⟩ = some (.slice A n c) ∧ v.cell? ⟨w.heap.size, 2, none⟩ = some (.int .i64 (s : Int)) ∧ v.cell? ⟨w.heap.size + 1, 0, none⟩ = some (.bool (ngB j)) ∧ v.cell? ⟨w.heap.size + 1, 1, none⟩ = some (.slice A' n' c') ∧ v.cell? ⟨w.heap.size + 1, 2, none⟩ = some (.int .i64 (t : Int))) (first | (have X0 := St.at_ (x0 := (.bool (ngB i))) (x1 := (.slice A n c)) (x2 := (.int .i64 (s : Int))) (g := w.heap.size) E (by simp); have X1 := St.at_ (x0 := (.bool (ngB j))) (x1 := (.slice A' n' c')) (x2 := (.int .i64 (t : Int))) (g := (w.heap.size + 1)) E (by simp); with_reducible exact ⟨X0.c0, X0.c1, X0.c2, X1.c0, X1.c1, X1.c2⟩))
    (first | (go_at_call 22; first | ((with_reducible refine (refSign_is (A := A) (n := n) (c := c) (s := s) (St.got E (by simp)) HSI.out).mono ?_); rintro e w1 ⟨rfl, hb1⟩; replace E := Lib.hid (St.step E.out hb1); clear hb1) | ((with_reducible refine (refSign_is (A := A') (n := n') (c := c') (s := t) (St.got E (by simp)) HSJ.out).mono ?_); rintro e w2 ⟨rfl, hb2⟩; replace E := Lib.hid (St.step E.out hb2); clear hb2)))
  all_goals
    go_wp2_with fail
    go_ret
    exact ⟨ret_i64 HE.out, E.out.bel⟩

set_option maxHeartbeats 4000000 in
theorem refCmp_nz (A A' : Option Addr) (n c n' c' s t : Nat) (i j : Int) (w : World) (h : Num w w.heap.size A n c i.natAbs) (h' : Num w w.heap.size A' n' c' j.natAbs) (hn : n ≤ 1000000) (hn' : n' ≤ 1000000) (hs : s ≤ 100000) (ht : t ≤ 100000) (hsi : i.sign = -1) (hsj : j.sign = 0) :
    Calls Try.prog 24 #[.agg #[.bool (ngB i), .slice A n c, .int .i64 (s : Int)], .agg #[.bool (ngB j), .slice A' n' c', .int .i64 (t : Int)]] w (RetVal w (.int .i64 (cmpD i s j t))) := by
  have H := Lib.hid h
  have H' := Lib.hid h'
  clear h h'
  have HSI := Lib.hid hsi
  have HSJ := Lib.hid hsj
  have HE : Hid (cmpZ (-1) (0) = cmpD i s j t) := by
    have := cmpD_sign (i := i) (j := j) s t (by left; rw [hsi, hsj]; decide)
    rwa [hsi, hsj] at this
  clear hsi hsj
  go_enter Try.func24, Try.ntmps24
  go_wp2_with fail
  generalize hW : World.alloc (World.alloc w _) _ = W0
  have E0 : St w W0 [(A, n, c, (i).natAbs), (A', n', c', (j).natAbs)] [((w.heap.size + 1), (.bool (ngB j)), (.slice A' n' c'), (.int .i64 (t : Int))), (w.heap.size, (.bool (ngB i)), (.slice A n c), (.int .i64 (s : Int)))] := by rw [← hW]; exact ((start_two H.out H'.out).lay rfl).lay (by simp)
  have E := Lib.hid E0
  clear hW E0
  obtain ⟨p0, p1, p2, pf0, pf1, pf2, plt⟩ := St.at_ (x0 := (.bool (ngB i))) (x1 := (.slice A n c)) (x2 := (.int .i64 (s : Int))) (g := w.heap.size) E (by simp)
  obtain ⟨q0, q1, q2, qf0, qf1, qf2, qlt⟩ := St.at_ (x0 := (.bool (ngB j))) (x1 := (.slice A' n' c')) (x2 := (.int .i64 (t : Int))) (g := (w.heap.size + 1)) E (by simp)
  
  clear p0 p1 p2 pf0 pf1 pf2 plt q0 q1 q2 qf0 qf1 qf2 qlt
  replace E := Lib.hid (St.drew E.out)
  go_region_held3 (fun v => v.cell? ⟨w.heap.size, 0, none⟩ = some (.bool (ngB i)) ∧ v.cell? ⟨w.heap.size, 1, none⟩ = some (.slice A n c) ∧ v.cell? ⟨w.heap.size, 2, none⟩ = some (.int .i64 (s : Int)) ∧ v.cell? ⟨w.heap.size + 1, 0, none⟩ = some (.bool (ngB j)) ∧ v.cell? ⟨w.heap.size + 1, 1, none⟩ = some (.slice A' n' c') ∧ v.cell? ⟨w.heap.size + 1, 2, none⟩ = some (.int .i64 (t : Int))) (first | (have X0 := St.at_ (x0 := (.bool (ngB i))) (x1 := (.slice A n c)) (x2 := (.int .i64 (s : Int))) (g := w.heap.size) E (by simp); have X1 := St.at_ (x0 := (.bool (ngB j))) (x1 := (.slice A' n' c')) (x2 := (.int .i64 (t : Int))) (g := (w.heap.size + 1)) E (by simp); with_reducible exact ⟨X0.c0, X0.c1, X0.c2, X1.c0, X1.c1, X1.c2⟩))
    (first | (go_at_call 22; first | ((with_reducible refine (refSign_is (A := A) (n := n) (c := c) (s := s) (St.got E (by simp)) HSI.out).mono ?_); rintro e w1 ⟨rfl, hb1⟩; replace E := Lib.hid (St.step E.out hb1); clear hb1) | ((with_reducible refine (refSign_is (A := A') (n := n') (c := c') (s := t) (St.got E (by simp)) HSJ.out).mono ?_); rintro e w2 ⟨rfl, hb2⟩; replace E := Lib.hid (St.step E.out hb2); clear hb2)))
  all_goals
    go_wp2_with fail
    go_ret
    exact ⟨ret_i64 HE.out, E.out.bel⟩

set_option maxHeartbeats 4000000 in
theorem refCmp_np (A A' : Option Addr) (n c n' c' s t : Nat) (i j : Int) (w : World) (h : Num w w.heap.size A n c i.natAbs) (h' : Num w w.heap.size A' n' c' j.natAbs) (hn : n ≤ 1000000) (hn' : n' ≤ 1000000) (hs : s ≤ 100000) (ht : t ≤ 100000) (hsi : i.sign = -1) (hsj : j.sign = 1) :
    Calls Try.prog 24 #[.agg #[.bool (ngB i), .slice A n c, .int .i64 (s : Int)], .agg #[.bool (ngB j), .slice A' n' c', .int .i64 (t : Int)]] w (RetVal w (.int .i64 (cmpD i s j t))) := by
  have H := Lib.hid h
  have H' := Lib.hid h'
  clear h h'
  have HSI := Lib.hid hsi
  have HSJ := Lib.hid hsj
  have HE : Hid (cmpZ (-1) (1) = cmpD i s j t) := by
    have := cmpD_sign (i := i) (j := j) s t (by left; rw [hsi, hsj]; decide)
    rwa [hsi, hsj] at this
  clear hsi hsj
  go_enter Try.func24, Try.ntmps24
  go_wp2_with fail
  generalize hW : World.alloc (World.alloc w _) _ = W0
  have E0 : St w W0 [(A, n, c, (i).natAbs), (A', n', c', (j).natAbs)] [((w.heap.size + 1), (.bool (ngB j)), (.slice A' n' c'), (.int .i64 (t : Int))), (w.heap.size, (.bool (ngB i)), (.slice A n c), (.int .i64 (s : Int)))] := by rw [← hW]; exact ((start_two H.out H'.out).lay rfl).lay (by simp)
  have E := Lib.hid E0
  clear hW E0
  obtain ⟨p0, p1, p2, pf0, pf1, pf2, plt⟩ := St.at_ (x0 := (.bool (ngB i))) (x1 := (.slice A n c)) (x2 := (.int .i64 (s : Int))) (g := w.heap.size) E (by simp)
  obtain ⟨q0, q1, q2, qf0, qf1, qf2, qlt⟩ := St.at_ (x0 := (.bool (ngB j))) (x1 := (.slice A' n' c')) (x2 := (.int .i64 (t : Int))) (g := (w.heap.size + 1)) E (by simp)
  
  clear p0 p1 p2 pf0 pf1 pf2 plt q0 q1 q2 qf0 qf1 qf2 qlt
  replace E := Lib.hid (St.drew E.out)
  go_region_held3 (fun v => v.cell? ⟨w.heap.size, 0, none⟩ = some (.bool (ngB i)) ∧ v.cell? ⟨w.heap.size, 1, none⟩ = some (.slice A n c) ∧ v.cell? ⟨w.heap.size, 2, none⟩ = some (.int .i64 (s : Int)) ∧ v.cell? ⟨w.heap.size + 1, 0, none⟩ = some (.bool (ngB j)) ∧ v.cell? ⟨w.heap.size + 1, 1, none⟩ = some (.slice A' n' c') ∧ v.cell? ⟨w.heap.size + 1, 2, none⟩ = some (.int .i64 (t : Int))) (first | (have X0 := St.at_ (x0 := (.bool (ngB i))) (x1 := (.slice A n c)) (x2 := (.int .i64 (s : Int))) (g := w.heap.size) E (by simp); have X1 := St.at_ (x0 := (.bool (ngB j))) (x1 := (.slice A' n' c')) (x2 := (.int .i64 (t : Int))) (g := (w.heap.size + 1)) E (by simp); with_reducible exact ⟨X0.c0, X0.c1, X0.c2, X1.c0, X1.c1, X1.c2⟩))
    (first | (go_at_call 22; first | ((with_reducible refine (refSign_is (A := A) (n := n) (c := c) (s := s) (St.got E (by simp)) HSI.out).mono ?_); rintro e w1 ⟨rfl, hb1⟩; replace E := Lib.hid (St.step E.out hb1); clear hb1) | ((with_reducible refine (refSign_is (A := A') (n := n') (c := c') (s := t) (St.got E (by simp)) HSJ.out).mono ?_); rintro e w2 ⟨rfl, hb2⟩; replace E := Lib.hid (St.step E.out hb2); clear hb2)))
  all_goals
    go_wp2_with fail
    go_ret
    exact ⟨ret_i64 HE.out, E.out.bel⟩

set_option maxHeartbeats 4000000 in
theorem refCmp_pz (A A' : Option Addr) (n c n' c' s t : Nat) (i j : Int) (w : World) (h : Num w w.heap.size A n c i.natAbs) (h' : Num w w.heap.size A' n' c' j.natAbs) (hn : n ≤ 1000000) (hn' : n' ≤ 1000000) (hs : s ≤ 100000) (ht : t ≤ 100000) (hsi : i.sign = 1) (hsj : j.sign = 0) :
    Calls Try.prog 24 #[.agg #[.bool (ngB i), .slice A n c, .int .i64 (s : Int)], .agg #[.bool (ngB j), .slice A' n' c', .int .i64 (t : Int)]] w (RetVal w (.int .i64 (cmpD i s j t))) := by
  have H := Lib.hid h
  have H' := Lib.hid h'
  clear h h'
  have HSI := Lib.hid hsi
  have HSJ := Lib.hid hsj
  have HE : Hid (cmpZ (1) (0) = cmpD i s j t) := by
    have := cmpD_sign (i := i) (j := j) s t (by left; rw [hsi, hsj]; decide)
    rwa [hsi, hsj] at this
  clear hsi hsj
  go_enter Try.func24, Try.ntmps24
  go_wp2_with fail
  generalize hW : World.alloc (World.alloc w _) _ = W0
  have E0 : St w W0 [(A, n, c, (i).natAbs), (A', n', c', (j).natAbs)] [((w.heap.size + 1), (.bool (ngB j)), (.slice A' n' c'), (.int .i64 (t : Int))), (w.heap.size, (.bool (ngB i)), (.slice A n c), (.int .i64 (s : Int)))] := by rw [← hW]; exact ((start_two H.out H'.out).lay rfl).lay (by simp)
  have E := Lib.hid E0
  clear hW E0
  obtain ⟨p0, p1, p2, pf0, pf1, pf2, plt⟩ := St.at_ (x0 := (.bool (ngB i))) (x1 := (.slice A n c)) (x2 := (.int .i64 (s : Int))) (g := w.heap.size) E (by simp)
  obtain ⟨q0, q1, q2, qf0, qf1, qf2, qlt⟩ := St.at_ (x0 := (.bool (ngB j))) (x1 := (.slice A' n' c')) (x2 := (.int .i64 (t : Int))) (g := (w.heap.size + 1)) E (by simp)
  
  clear p0 p1 p2 pf0 pf1 pf2 plt q0 q1 q2 qf0 qf1 qf2 qlt
  replace E := Lib.hid (St.drew E.out)
  go_region_held3 (fun v => v.cell? ⟨w.heap.size, 0, none⟩ = some (.bool (ngB i)) ∧ v.cell? ⟨w.heap.size, 1, none⟩ = some (.slice A n c) ∧ v.cell? ⟨w.heap.size, 2, none⟩ = some (.int .i64 (s : Int)) ∧ v.cell? ⟨w.heap.size + 1, 0, none⟩ = some (.bool (ngB j)) ∧ v.cell? ⟨w.heap.size + 1, 1, none⟩ = some (.slice A' n' c') ∧ v.cell? ⟨w.heap.size + 1, 2, none⟩ = some (.int .i64 (t : Int))) (first | (have X0 := St.at_ (x0 := (.bool (ngB i))) (x1 := (.slice A n c)) (x2 := (.int .i64 (s : Int))) (g := w.heap.size) E (by simp); have X1 := St.at_ (x0 := (.bool (ngB j))) (x1 := (.slice A' n' c')) (x2 := (.int .i64 (t : Int))) (g := (w.heap.size + 1)) E (by simp); with_reducible exact ⟨X0.c0, X0.c1, X0.c2, X1.c0, X1.c1, X1.c2⟩))
    (first | (go_at_call 22; first | ((with_reducible refine (refSign_is (A := A) (n := n) (c := c) (s := s) (St.got E (by simp)) HSI.out).mono ?_); rintro e w1 ⟨rfl, hb1⟩; replace E := Lib.hid (St.step E.out hb1); clear hb1) | ((with_reducible refine (refSign_is (A := A') (n := n') (c := c') (s := t) (St.got E (by simp)) HSJ.out).mono ?_); rintro e w2 ⟨rfl, hb2⟩; replace E := Lib.hid (St.step E.out hb2); clear hb2)))
  all_goals
    go_wp2_with fail
    go_ret
    exact ⟨ret_i64 HE.out, E.out.bel⟩

set_option maxHeartbeats 4000000 in
theorem refCmp_pn (A A' : Option Addr) (n c n' c' s t : Nat) (i j : Int) (w : World) (h : Num w w.heap.size A n c i.natAbs) (h' : Num w w.heap.size A' n' c' j.natAbs) (hn : n ≤ 1000000) (hn' : n' ≤ 1000000) (hs : s ≤ 100000) (ht : t ≤ 100000) (hsi : i.sign = 1) (hsj : j.sign = -1) :
    Calls Try.prog 24 #[.agg #[.bool (ngB i), .slice A n c, .int .i64 (s : Int)], .agg #[.bool (ngB j), .slice A' n' c', .int .i64 (t : Int)]] w (RetVal w (.int .i64 (cmpD i s j t))) := by
  have H := Lib.hid h
  have H' := Lib.hid h'
  clear h h'
  have HSI := Lib.hid hsi
  have HSJ := Lib.hid hsj
  have HE : Hid (cmpZ (1) (-1) = cmpD i s j t) := by
    have := cmpD_sign (i := i) (j := j) s t (by left; rw [hsi, hsj]; decide)
    rwa [hsi, hsj] at this
  clear hsi hsj
  go_enter Try.func24, Try.ntmps24
  go_wp2_with fail
  generalize hW : World.alloc (World.alloc w _) _ = W0
  have E0 : St w W0 [(A, n, c, (i).natAbs), (A', n', c', (j).natAbs)] [((w.heap.size + 1), (.bool (ngB j)), (.slice A' n' c'), (.int .i64 (t : Int))), (w.heap.size, (.bool (ngB i)), (.slice A n c), (.int .i64 (s : Int)))] := by rw [← hW]; exact ((start_two H.out H'.out).lay rfl).lay (by simp)
  have E := Lib.hid E0
  clear hW E0
  obtain ⟨p0, p1, p2, pf0, pf1, pf2, plt⟩ := St.at_ (x0 := (.bool (ngB i))) (x1 := (.slice A n c)) (x2 := (.int .i64 (s : Int))) (g := w.heap.size) E (by simp)
  obtain ⟨q0, q1, q2, qf0, qf1, qf2, qlt⟩ := St.at_ (x0 := (.bool (ngB j))) (x1 := (.slice A' n' c')) (x2 := (.int .i64 (t : Int))) (g := (w.heap.size + 1)) E (by simp)
  
  clear p0 p1 p2 pf0 pf1 pf2 plt q0 q1 q2 qf0 qf1 qf2 qlt
  replace E := Lib.hid (St.drew E.out)
  go_region_held3 (fun v => v.cell? ⟨w.heap.size, 0, none⟩ = some (.bool (ngB i)) ∧ v.cell? ⟨w.heap.size, 1, none⟩ = some (.slice A n c) ∧ v.cell? ⟨w.heap.size, 2, none⟩ = some (.int .i64 (s : Int)) ∧ v.cell? ⟨w.heap.size + 1, 0, none⟩ = some (.bool (ngB j)) ∧ v.cell? ⟨w.heap.size + 1, 1, none⟩ = some (.slice A' n' c') ∧ v.cell? ⟨w.heap.size + 1, 2, none⟩ = some (.int .i64 (t : Int))) (first | (have X0 := St.at_ (x0 := (.bool (ngB i))) (x1 := (.slice A n c)) (x2 := (.int .i64 (s : Int))) (g := w.heap.size) E (by simp); have X1 := St.at_ (x0 := (.bool (ngB j))) (x1 := (.slice A' n' c')) (x2 := (.int .i64 (t : Int))) (g := (w.heap.size + 1)) E (by simp); with_reducible exact ⟨X0.c0, X0.c1, X0.c2, X1.c0, X1.c1, X1.c2⟩))
    (first | (go_at_call 22; first | ((with_reducible refine (refSign_is (A := A) (n := n) (c := c) (s := s) (St.got E (by simp)) HSI.out).mono ?_); rintro e w1 ⟨rfl, hb1⟩; replace E := Lib.hid (St.step E.out hb1); clear hb1) | ((with_reducible refine (refSign_is (A := A') (n := n') (c := c') (s := t) (St.got E (by simp)) HSJ.out).mono ?_); rintro e w2 ⟨rfl, hb2⟩; replace E := Lib.hid (St.step E.out hb2); clear hb2)))
  all_goals
    go_wp2_with fail
    go_ret
    exact ⟨ret_i64 HE.out, E.out.bel⟩

set_option maxHeartbeats 4000000 in
theorem refCmp_nn (A A' : Option Addr) (n c n' c' s t : Nat) (i j : Int) (w : World) (h : Num w w.heap.size A n c i.natAbs) (h' : Num w w.heap.size A' n' c' j.natAbs) (hn : n ≤ 1000000) (hn' : n' ≤ 1000000) (hs : s ≤ 100000) (ht : t ≤ 100000) (hsi : i.sign = -1) (hsj : j.sign = -1) :
    Calls Try.prog 24 #[.agg #[.bool (ngB i), .slice A n c, .int .i64 (s : Int)], .agg #[.bool (ngB j), .slice A' n' c', .int .i64 (t : Int)]] w (RetVal w (.int .i64 (cmpD i s j t))) := by
  have H := Lib.hid h
  have H' := Lib.hid h'
  clear h h'
  have HSI := Lib.hid hsi
  have HSJ := Lib.hid hsj
  obtain ⟨M, hm⟩ : ∃ M, max s t = M := ⟨_, rfl⟩
  obtain ⟨z, hz⟩ : ∃ z, cmpN (up i s M).natAbs (up j t M).natAbs = z := ⟨_, rfl⟩
  have hzb := cmpN_size (up i s M).natAbs (up j t M).natAbs
  rw [hz] at hzb
  obtain ⟨hz1, hz2⟩ := hzb
  have HNG : Hid (ngB i = true) := decide_eq_true (Int.sign_eq_neg_one_iff_neg.1 hsi)
  have HE : Hid (-z = cmpD i s j t) := by
    show _ = _
    unfold cmpD
    rw [hm, ← hz]
    exact cmpZ_neg (Int.le_of_lt (up_neg _ _ (Int.sign_eq_neg_one_iff_neg.1 hsi))) (Int.le_of_lt (up_neg _ _ (Int.sign_eq_neg_one_iff_neg.1 hsj)))
  have HZ := Lib.hid hz
  have HA := Lib.hid (fun (w : World) h h' => refAlign_any A A' n c n' c' s t i j w h h' hn hn' hs ht)
  rw [hm] at HA
  clear hsi hsj hz hm
  go_enter Try.func24, Try.ntmps24
  go_wp2_with fail
  generalize hW : World.alloc (World.alloc w _) _ = W0
  have E0 : St w W0 [(A, n, c, (i).natAbs), (A', n', c', (j).natAbs)] [((w.heap.size + 1), (.bool (ngB j)), (.slice A' n' c'), (.int .i64 (t : Int))), (w.heap.size, (.bool (ngB i)), (.slice A n c), (.int .i64 (s : Int)))] := by rw [← hW]; exact ((start_two H.out H'.out).lay rfl).lay (by simp)
  have E := Lib.hid E0
  clear hW E0
  obtain ⟨p0, p1, p2, pf0, pf1, pf2, plt⟩ := St.at_ (x0 := (.bool (ngB i))) (x1 := (.slice A n c)) (x2 := (.int .i64 (s : Int))) (g := w.heap.size) E (by simp)
  obtain ⟨q0, q1, q2, qf0, qf1, qf2, qlt⟩ := St.at_ (x0 := (.bool (ngB j))) (x1 := (.slice A' n' c')) (x2 := (.int .i64 (t : Int))) (g := (w.heap.size + 1)) E (by simp)
  
  clear p0 p1 p2 pf0 pf1 pf2 plt q0 q1 q2 qf0 qf1 qf2 qlt
  replace E := Lib.hid (St.drew E.out)
  go_region_held3 (fun v => v.cell? ⟨w.heap.size, 0, none⟩ = some (.bool (ngB i)) ∧ v.cell? ⟨w.heap.size, 1, none⟩ = some (.slice A n c) ∧ v.cell? ⟨w.heap.size, 2, none⟩ = some (.int .i64 (s : Int)) ∧ v.cell? ⟨w.heap.size + 1, 0, none⟩ = some (.bool (ngB j)) ∧ v.cell? ⟨w.heap.size + 1, 1, none⟩ = some (.slice A' n' c') ∧ v.cell? ⟨w.heap.size + 1, 2, none⟩ = some (.int .i64 (t : Int))) (first | (have X0 := St.at_ (x0 := (.bool (ngB i))) (x1 := (.slice A n c)) (x2 := (.int .i64 (s : Int))) (g := w.heap.size) E (by simp); have X1 := St.at_ (x0 := (.bool (ngB j))) (x1 := (.slice A' n' c')) (x2 := (.int .i64 (t : Int))) (g := (w.heap.size + 1)) E (by simp); with_reducible exact ⟨X0.c0, X0.c1, X0.c2, X1.c0, X1.c1, X1.c2⟩))
    (first | (go_at_call 22; first | ((with_reducible refine (refSign_is (A := A) (n := n) (c := c) (s := s) (St.got E (by simp)) HSI.out).mono ?_); rintro e w1 ⟨rfl, hb1⟩; replace E := Lib.hid (St.step E.out hb1); clear hb1) | ((with_reducible refine (refSign_is (A := A') (n := n') (c := c') (s := t) (St.got E (by simp)) HSJ.out).mono ?_); rintro e w2 ⟨rfl, hb2⟩; replace E := Lib.hid (St.step E.out hb2); clear hb2)))
  all_goals
    obtain ⟨p0, p1, p2, pf0, pf1, pf2, plt⟩ := St.at_ (x0 := (.bool (ngB i))) (x1 := (.slice A n c)) (x2 := (.int .i64 (s : Int))) (g := w.heap.size) E (by simp)
    obtain ⟨q0, q1, q2, qf0, qf1, qf2, qlt⟩ := St.at_ (x0 := (.bool (ngB j))) (x1 := (.slice A' n' c')) (x2 := (.int .i64 (t : Int))) (g := (w.heap.size + 1)) E (by simp)
    go_wp2_with fail
    refine (HA.out _ (St.got E (by simp)) (St.got E (by simp))).mono ?_
    rintro e w4 ⟨A1, n1, c1, A2, n2, c2, rfl, h1, h2, hb4⟩
    replace E : Hid (St w w4 [(A1, n1, c1, (up i s M).natAbs), (A2, n2, c2, (up j t M).natAbs)] [((w.heap.size + 1), (.bool (ngB j)), (.slice A' n' c'), (.int .i64 (t : Int))), (w.heap.size, (.bool (ngB i)), (.slice A n c), (.int .i64 (s : Int)))]) := ⟨(E.out.step hb4).bel, (St.start w4 (l := [(A1, n1, c1, (up i s M).natAbs), (A2, n2, c2, (up j t M).natAbs)]) (by simp; exact ⟨h1, h2⟩)).num, (E.out.step hb4).box⟩
    clear h1 h2 hb4 p0 p1 p2 pf0 pf1 pf2 plt q0 q1 q2 qf0 qf1 qf2 qlt
    obtain ⟨p0, p1, p2, pf0, pf1, pf2, plt⟩ := St.at_ (x0 := (.bool (ngB i))) (x1 := (.slice A n c)) (x2 := (.int .i64 (s : Int))) (g := w.heap.size) E (by simp)
    obtain ⟨q0, q1, q2, qf0, qf1, qf2, qlt⟩ := St.at_ (x0 := (.bool (ngB j))) (x1 := (.slice A' n' c')) (x2 := (.int .i64 (t : Int))) (g := (w.heap.size + 1)) E (by simp)
    go_wp2_with fail
    clear p0 p1 p2 pf0 pf1 pf2 plt q0 q1 q2 qf0 qf1 qf2 qlt
    have E5 := Lib.hid (St.lay (t := 25) (x0 := .bool (ngB (up j t M))) (x1 := .slice A2 n2 c2) (x2 := .int .i64 (M : Int)) (g := w4.heap.size + 1) (St.lay (t := 25) (x0 := .bool (ngB (up i s M))) (x1 := .slice A1 n1 c1) (x2 := .int .i64 (M : Int)) (g := w4.heap.size) E.out rfl) (by simp))
    refine (refCmpN_is (St.got E5 (by simp)) (St.got E5 (by simp)) HZ.out).mono ?_; rintro e w5 ⟨rfl, hb5⟩; replace E := Lib.hid (St.step E5.out hb5); clear hb5 E5
    obtain ⟨p0, p1, p2, pf0, pf1, pf2, plt⟩ := St.at_ (x0 := (.bool (ngB i))) (x1 := (.slice A n c)) (x2 := (.int .i64 (s : Int))) (g := w.heap.size) E (by simp)
    have hng := HNG.out
    go_wp2_with fail
    go_ret
    exact ⟨ret_i64 HE.out, E.out.bel⟩

set_option maxHeartbeats 4000000 in
theorem refCmp_pp (A A' : Option Addr) (n c n' c' s t : Nat) (i j : Int) (w : World) (h : Num w w.heap.size A n c i.natAbs) (h' : Num w w.heap.size A' n' c' j.natAbs) (hn : n ≤ 1000000) (hn' : n' ≤ 1000000) (hs : s ≤ 100000) (ht : t ≤ 100000) (hsi : i.sign = 1) (hsj : j.sign = 1) :
    Calls Try.prog 24 #[.agg #[.bool (ngB i), .slice A n c, .int .i64 (s : Int)], .agg #[.bool (ngB j), .slice A' n' c', .int .i64 (t : Int)]] w (RetVal w (.int .i64 (cmpD i s j t))) := by
  have H := Lib.hid h
  have H' := Lib.hid h'
  clear h h'
  have HSI := Lib.hid hsi
  have HSJ := Lib.hid hsj
  obtain ⟨M, hm⟩ : ∃ M, max s t = M := ⟨_, rfl⟩
  obtain ⟨z, hz⟩ : ∃ z, cmpN (up i s M).natAbs (up j t M).natAbs = z := ⟨_, rfl⟩
  have hzb := cmpN_size (up i s M).natAbs (up j t M).natAbs
  rw [hz] at hzb
  obtain ⟨hz1, hz2⟩ := hzb
  have HNG : Hid (ngB i = false) := decide_eq_false (by have := Int.sign_eq_one_iff_pos.1 hsi; omega)
  have HE : Hid (z = cmpD i s j t) := by
    show _ = _
    unfold cmpD
    rw [hm, ← hz]
    exact cmpZ_pos (Int.le_of_lt (up_pos _ _ (Int.sign_eq_one_iff_pos.1 hsi))) (Int.le_of_lt (up_pos _ _ (Int.sign_eq_one_iff_pos.1 hsj)))
  have HZ := Lib.hid hz
  have HA := Lib.hid (fun (w : World) h h' => refAlign_any A A' n c n' c' s t i j w h h' hn hn' hs ht)
  rw [hm] at HA
  clear hsi hsj hz hm
  go_enter Try.func24, Try.ntmps24
  go_wp2_with fail
  generalize hW : World.alloc (World.alloc w _) _ = W0
  have E0 : St w W0 [(A, n, c, (i).natAbs), (A', n', c', (j).natAbs)] [((w.heap.size + 1), (.bool (ngB j)), (.slice A' n' c'), (.int .i64 (t : Int))), (w.heap.size, (.bool (ngB i)), (.slice A n c), (.int .i64 (s : Int)))] := by rw [← hW]; exact ((start_two H.out H'.out).lay rfl).lay (by simp)
  have E := Lib.hid E0
  clear hW E0
  obtain ⟨p0, p1, p2, pf0, pf1, pf2, plt⟩ := St.at_ (x0 := (.bool (ngB i))) (x1 := (.slice A n c)) (x2 := (.int .i64 (s : Int))) (g := w.heap.size) E (by simp)
  obtain ⟨q0, q1, q2, qf0, qf1, qf2, qlt⟩ := St.at_ (x0 := (.bool (ngB j))) (x1 := (.slice A' n' c')) (x2 := (.int .i64 (t : Int))) (g := (w.heap.size + 1)) E (by simp)
  
  clear p0 p1 p2 pf0 pf1 pf2 plt q0 q1 q2 qf0 qf1 qf2 qlt
  replace E := Lib.hid (St.drew E.out)
  go_region_held3 (fun v => v.cell? ⟨w.heap.size, 0, none⟩ = some (.bool (ngB i)) ∧ v.cell? ⟨w.heap.size, 1, none⟩ = some (.slice A n c) ∧ v.cell? ⟨w.heap.size, 2, none⟩ = some (.int .i64 (s : Int)) ∧ v.cell? ⟨w.heap.size + 1, 0, none⟩ = some (.bool (ngB j)) ∧ v.cell? ⟨w.heap.size + 1, 1, none⟩ = some (.slice A' n' c') ∧ v.cell? ⟨w.heap.size + 1, 2, none⟩ = some (.int .i64 (t : Int))) (first | (have X0 := St.at_ (x0 := (.bool (ngB i))) (x1 := (.slice A n c)) (x2 := (.int .i64 (s : Int))) (g := w.heap.size) E (by simp); have X1 := St.at_ (x0 := (.bool (ngB j))) (x1 := (.slice A' n' c')) (x2 := (.int .i64 (t : Int))) (g := (w.heap.size + 1)) E (by simp); with_reducible exact ⟨X0.c0, X0.c1, X0.c2, X1.c0, X1.c1, X1.c2⟩))
    (first | (go_at_call 22; first | ((with_reducible refine (refSign_is (A := A) (n := n) (c := c) (s := s) (St.got E (by simp)) HSI.out).mono ?_); rintro e w1 ⟨rfl, hb1⟩; replace E := Lib.hid (St.step E.out hb1); clear hb1) | ((with_reducible refine (refSign_is (A := A') (n := n') (c := c') (s := t) (St.got E (by simp)) HSJ.out).mono ?_); rintro e w2 ⟨rfl, hb2⟩; replace E := Lib.hid (St.step E.out hb2); clear hb2)))
  all_goals
    obtain ⟨p0, p1, p2, pf0, pf1, pf2, plt⟩ := St.at_ (x0 := (.bool (ngB i))) (x1 := (.slice A n c)) (x2 := (.int .i64 (s : Int))) (g := w.heap.size) E (by simp)
    obtain ⟨q0, q1, q2, qf0, qf1, qf2, qlt⟩ := St.at_ (x0 := (.bool (ngB j))) (x1 := (.slice A' n' c')) (x2 := (.int .i64 (t : Int))) (g := (w.heap.size + 1)) E (by simp)
    go_wp2_with fail
    refine (HA.out _ (St.got E (by simp)) (St.got E (by simp))).mono ?_
    rintro e w4 ⟨A1, n1, c1, A2, n2, c2, rfl, h1, h2, hb4⟩
    replace E : Hid (St w w4 [(A1, n1, c1, (up i s M).natAbs), (A2, n2, c2, (up j t M).natAbs)] [((w.heap.size + 1), (.bool (ngB j)), (.slice A' n' c'), (.int .i64 (t : Int))), (w.heap.size, (.bool (ngB i)), (.slice A n c), (.int .i64 (s : Int)))]) := ⟨(E.out.step hb4).bel, (St.start w4 (l := [(A1, n1, c1, (up i s M).natAbs), (A2, n2, c2, (up j t M).natAbs)]) (by simp; exact ⟨h1, h2⟩)).num, (E.out.step hb4).box⟩
    clear h1 h2 hb4 p0 p1 p2 pf0 pf1 pf2 plt q0 q1 q2 qf0 qf1 qf2 qlt
    obtain ⟨p0, p1, p2, pf0, pf1, pf2, plt⟩ := St.at_ (x0 := (.bool (ngB i))) (x1 := (.slice A n c)) (x2 := (.int .i64 (s : Int))) (g := w.heap.size) E (by simp)
    obtain ⟨q0, q1, q2, qf0, qf1, qf2, qlt⟩ := St.at_ (x0 := (.bool (ngB j))) (x1 := (.slice A' n' c')) (x2 := (.int .i64 (t : Int))) (g := (w.heap.size + 1)) E (by simp)
    go_wp2_with fail
    clear p0 p1 p2 pf0 pf1 pf2 plt q0 q1 q2 qf0 qf1 qf2 qlt
    have E5 := Lib.hid (St.lay (t := 25) (x0 := .bool (ngB (up j t M))) (x1 := .slice A2 n2 c2) (x2 := .int .i64 (M : Int)) (g := w4.heap.size + 1) (St.lay (t := 25) (x0 := .bool (ngB (up i s M))) (x1 := .slice A1 n1 c1) (x2 := .int .i64 (M : Int)) (g := w4.heap.size) E.out rfl) (by simp))
    refine (refCmpN_is (St.got E5 (by simp)) (St.got E5 (by simp)) HZ.out).mono ?_; rintro e w5 ⟨rfl, hb5⟩; replace E := Lib.hid (St.step E5.out hb5); clear hb5 E5
    obtain ⟨p0, p1, p2, pf0, pf1, pf2, plt⟩ := St.at_ (x0 := (.bool (ngB i))) (x1 := (.slice A n c)) (x2 := (.int .i64 (s : Int))) (g := w.heap.size) E (by simp)
    have hng := HNG.out
    go_wp2_with fail
    go_ret
    exact ⟨ret_i64 HE.out, E.out.bel⟩

theorem refCmp5_any (A A' : Option Addr) (n c n' c' s t : Nat) (i j : Int) (w : World) (h : Num w w.heap.size A n c i.natAbs) (h' : Num w w.heap.size A' n' c' j.natAbs) (hn : n ≤ 1000000) (hn' : n' ≤ 1000000) (hs : s ≤ 100000) (ht : t ≤ 100000) :
    Calls Try.prog 24 #[.agg #[.bool (ngB i), .slice A n c, .int .i64 (s : Int)], .agg #[.bool (ngB j), .slice A' n' c', .int .i64 (t : Int)]] w (RetVal w (.int .i64 (cmpD i s j t))) := by
  rcases Int.lt_trichotomy i 0 with hi | hi | hi <;> rcases Int.lt_trichotomy j 0 with hj | hj | hj
  · exact refCmp_nn A A' n c n' c' s t i j w h h' hn hn' hs ht (Int.sign_eq_neg_one_iff_neg.2 hi) (Int.sign_eq_neg_one_iff_neg.2 hj)
  · exact refCmp_nz A A' n c n' c' s t i j w h h' hn hn' hs ht (Int.sign_eq_neg_one_iff_neg.2 hi) (Int.sign_eq_zero_iff_zero.2 hj)
  · exact refCmp_np A A' n c n' c' s t i j w h h' hn hn' hs ht (Int.sign_eq_neg_one_iff_neg.2 hi) (Int.sign_eq_one_iff_pos.2 hj)
  · exact refCmp_zn A A' n c n' c' s t i j w h h' hn hn' hs ht (Int.sign_eq_zero_iff_zero.2 hi) (Int.sign_eq_neg_one_iff_neg.2 hj)
  · exact refCmp_zz A A' n c n' c' s t i j w h h' hn hn' hs ht (Int.sign_eq_zero_iff_zero.2 hi) (Int.sign_eq_zero_iff_zero.2 hj)
  · exact refCmp_zp A A' n c n' c' s t i j w h h' hn hn' hs ht (Int.sign_eq_zero_iff_zero.2 hi) (Int.sign_eq_one_iff_pos.2 hj)
  · exact refCmp_pn A A' n c n' c' s t i j w h h' hn hn' hs ht (Int.sign_eq_one_iff_pos.2 hi) (Int.sign_eq_neg_one_iff_neg.2 hj)
  · exact refCmp_pz A A' n c n' c' s t i j w h h' hn hn' hs ht (Int.sign_eq_one_iff_pos.2 hi) (Int.sign_eq_zero_iff_zero.2 hj)
  · exact refCmp_pp A A' n c n' c' s t i j w h h' hn hn' hs ht (Int.sign_eq_one_iff_pos.2 hi) (Int.sign_eq_one_iff_pos.2 hj)

set_option maxHeartbeats 4000000 in
theorem refSame5_any (A A' : Option Addr) (n c n' c' s t : Nat) (i j : Int) (w : World) (h : Num w w.heap.size A n c i.natAbs) (h' : Num w w.heap.size A' n' c' j.natAbs) (hn : n ≤ 1000000) (hn' : n' ≤ 1000000) (hs : s ≤ 100000) (ht : t ≤ 100000) :
    Calls Try.prog 26 #[.agg #[.bool (ngB i), .slice A n c, .int .i64 (s : Int)], .agg #[.bool (ngB j), .slice A' n' c', .int .i64 (t : Int)]] w (RetVal w (.bool (cmpD i s j t == 0))) := by
  have H := Lib.hid h
  have H' := Lib.hid h'
  clear h h'
  go_enter Try.func26, Try.ntmps26
  go_wp2_with fail
  generalize hW : World.alloc (World.alloc w _) _ = W0
  have E0 : St w W0 [(A, n, c, (i).natAbs), (A', n', c', (j).natAbs)] [((w.heap.size + 1), (.bool (ngB j)), (.slice A' n' c'), (.int .i64 (t : Int))), (w.heap.size, (.bool (ngB i)), (.slice A n c), (.int .i64 (s : Int)))] := by rw [← hW]; exact ((start_two H.out H'.out).lay rfl).lay (by simp)
  have E := Lib.hid E0
  clear hW E0
  obtain ⟨p0, p1, p2, pf0, pf1, pf2, plt⟩ := St.at_ (x0 := (.bool (ngB i))) (x1 := (.slice A n c)) (x2 := (.int .i64 (s : Int))) (g := w.heap.size) E (by simp)
  obtain ⟨q0, q1, q2, qf0, qf1, qf2, qlt⟩ := St.at_ (x0 := (.bool (ngB j))) (x1 := (.slice A' n' c')) (x2 := (.int .i64 (t : Int))) (g := (w.heap.size + 1)) E (by simp)
  
  go_wp2_with fail
  refine (refCmp5_any A A' n c n' c' s t i j _ (St.got E (by simp)) (St.got E (by simp)) hn hn' hs ht).mono ?_; rintro e w3 ⟨rfl, hb1⟩; replace E := Lib.hid (St.step E.out hb1); clear hb1
  clear p0 p1 p2 pf0 pf1 pf2 plt q0 q1 q2 qf0 qf1 qf2 qlt
  go_wp2_with fail
  go_ret
  exact ⟨rfl, E.out.bel⟩

end Go.Proofs.Ytafbkoejobkncaa
