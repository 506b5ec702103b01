/-
  Contracts of layer 5, the second part: copied, Neg, Abs, Sign, and the document's done, Neg, Abs, Sign.
-/
import Derived.Test.YtafbkoejobkncaaDecA
namespace Go.Proofs.Ytafbkoejobkncaa
open Go.RowKit

theorem refDone_any (b : Bool) (A : Option Addr) (n c a s : Nat) (w : World) (h : Num w w.heap.size A n c a) (hs : s ≤ 1000000000000) :
    Calls Try.prog 49 #[.bool b, .slice A n c, .int .i64 (s : Int)] w fun e w' => e = .returned (.agg #[.bool (ngB (sgn b a)), .slice A n c, .int .i64 (s : Int)]) ∧ Below w.heap.size w w' := by
  go_enter Try.func49, Try.ntmps49
  go_wp2
  · exact bodyPost_ret (v := .agg #[.bool (decide (0 < n)), .slice A n c, .int .i64 (s : Int)]) (by simp [results, Try.results49, go_sem]) rfl ⟨by rw [ng_sgn, num_pos h]; simp_all, (Below.refl _ _).alloc (Nat.le_refl _) _⟩
  · exact bodyPost_ret (v := .agg #[.bool false, .slice A n c, .int .i64 (s : Int)]) (by simp [results, Try.results49, go_sem]) rfl ⟨by rw [ng_sgn]; simp_all, (Below.refl _ _).alloc (Nat.le_refl _) _⟩

set_option maxHeartbeats 1000000 in
theorem copied_any (A : Option Addr) (n c s : Nat) (i : Int) (w : World) (h : Num w w.heap.size A n c i.natAbs) (hn : n ≤ 1000000000) (hs : s ≤ 1000000000000) :
    Calls Try.prog 70 #[.agg #[.bool (ngB i), .slice A n c, .int .i64 (s : Int)]] w (RetDec w (i) s) := by
  have H := Lib.hid h
  have HI : Hid (sgn (ngB i) i.natAbs = i) := sgn_ng i
  obtain ⟨b, hb⟩ : ∃ b, b = ngB i := ⟨_, rfl⟩
  rw [← hb] at HI
  rw [← hb]
  clear h hb
  go_enter Try.func70, Try.ntmps70
  go_wp2_with fail
  generalize hW : World.alloc (World.alloc w _) _ = W0
  have E0 : St w W0 [(A, n, c, (i).natAbs)] [((w.heap.size + 1), .bool false, .slice none 0 0, .int .i64 0), (w.heap.size, (.bool b), (.slice A n c), (.int .i64 (s : Int)))] := by rw [← hW]; exact ((start_one H.out).lay rfl).lay (by simp)
  have E := Lib.hid E0.drew
  clear hW E0
  go_region_held3 (fun v => v.cell? ⟨w.heap.size, 0, none⟩ = some (.bool b) ∧ v.cell? ⟨w.heap.size, 1, none⟩ = some (.slice A n c) ∧ v.cell? ⟨w.heap.size, 2, none⟩ = some (.int .i64 (s : Int))) (first | (have X0 := St.at_ (x0 := (.bool b)) (x1 := (.slice A n c)) (x2 := (.int .i64 (s : Int))) (g := w.heap.size) E (by simp); with_reducible exact ⟨X0.c0, X0.c1, X0.c2⟩) | (with_reducible exact ⟨((St.at_ (x0 := (.bool b)) (x1 := (.slice A n c)) (x2 := (.int .i64 (s : Int))) (g := w.heap.size) E (by simp)).apart (g' := (w.heap.size + 1)) _ _ _ (by omega)).c0, ((St.at_ (x0 := (.bool b)) (x1 := (.slice A n c)) (x2 := (.int .i64 (s : Int))) (g := w.heap.size) E (by simp)).apart (g' := (w.heap.size + 1)) _ _ _ (by omega)).c1, ((St.at_ (x0 := (.bool b)) (x1 := (.slice A n c)) (x2 := (.int .i64 (s : Int))) (g := w.heap.size) E (by simp)).apart (g' := (w.heap.size + 1)) _ _ _ (by omega)).c2⟩))
    (first | (go_at_call 53; refine (trim_is (m := i.natAbs) (St.got E (by simp)) (limbs_dg _) hn (val_dg _)).mono ?_; rintro e w1 ⟨A1, n1, c1, rfl, h1, hb1⟩; replace E := Lib.hid (St.push E.out hb1 h1); clear h1 hb1) | (go_at_call 47; refine (decimal_any (b) A1 n1 c1 i.natAbs s _ (St.got E (by simp)) hs).mono ?_; rintro e w2 ⟨rfl, hb2⟩; replace E := Lib.hid (St.step E.out hb2); clear hb2; obtain ⟨r0, r1, r2, rf0, rf1, rf2, rlt⟩ := St.at_ (x0 := .bool false) (x1 := .slice none 0 0) (x2 := .int .i64 0) (g := (w.heap.size + 1)) E (by simp)))
  go_wp2_with fail
  have EF := Lib.hid (St.store E.out (g := w.heap.size + 1) (x0 := .bool false) (x1 := .slice none 0 0) (x2 := .int .i64 0) (by simp) (noLimb_bool _) (noLimb_slice _ _ _) (noLimb_int _) [] (fun q hq => by cases hq) (.bool (ngB (sgn (b) i.natAbs))) (.slice A1 n1 c1) (.int .i64 (s : Int)))
  obtain ⟨e0, e1, e2, _, _, _, _⟩ := St.at_ (x0 := .bool (ngB (sgn (b) i.natAbs))) (x1 := .slice A1 n1 c1) (x2 := .int .i64 (s : Int)) (g := w.heap.size + 1) EF (by simp)
  exact bodyPost_ret (v := .agg #[.bool (ngB (sgn (b) i.natAbs)), .slice A1 n1 c1, .int .i64 (s : Int)]) (by simp [results, Try.results70, go_sem, e0, e1, e2]) rfl ⟨A1, n1, c1, by rw [HI.out], by rw [← HI.out, abs_sgn]; exact St.got EF (by simp), EF.out.bel⟩

set_option maxHeartbeats 1000000 in
theorem neg_any (A : Option Addr) (n c s : Nat) (i : Int) (w : World) (h : Num w w.heap.size A n c i.natAbs) (hn : n ≤ 1000000000) (hs : s ≤ 1000000000000) :
    Calls Try.prog 17 #[.agg #[.bool (ngB i), .slice A n c, .int .i64 (s : Int)]] w (RetDec w (-i) s) := by
  have H := Lib.hid h
  have HI : Hid (sgn (!ngB i) i.natAbs = -i) := sgn_not i
  obtain ⟨b, hb⟩ : ∃ b, b = ngB i := ⟨_, rfl⟩
  rw [← hb] at HI
  rw [← hb]
  clear h hb
  go_enter Try.func17, Try.ntmps17
  go_wp2_with fail
  generalize hW : World.alloc (World.alloc w _) _ = W0
  have E0 : St w W0 [(A, n, c, (i).natAbs)] [((w.heap.size + 1), .bool false, .slice none 0 0, .int .i64 0), (w.heap.size, (.bool b), (.slice A n c), (.int .i64 (s : Int)))] := by rw [← hW]; exact ((start_one H.out).lay rfl).lay (by simp)
  have E := Lib.hid E0.drew
  clear hW E0
  go_region_held3 (fun v => v.cell? ⟨w.heap.size, 0, none⟩ = some (.bool b) ∧ v.cell? ⟨w.heap.size, 1, none⟩ = some (.slice A n c) ∧ v.cell? ⟨w.heap.size, 2, none⟩ = some (.int .i64 (s : Int))) (first | (have X0 := St.at_ (x0 := (.bool b)) (x1 := (.slice A n c)) (x2 := (.int .i64 (s : Int))) (g := w.heap.size) E (by simp); with_reducible exact ⟨X0.c0, X0.c1, X0.c2⟩) | (with_reducible exact ⟨((St.at_ (x0 := (.bool b)) (x1 := (.slice A n c)) (x2 := (.int .i64 (s : Int))) (g := w.heap.size) E (by simp)).apart (g' := (w.heap.size + 1)) _ _ _ (by omega)).c0, ((St.at_ (x0 := (.bool b)) (x1 := (.slice A n c)) (x2 := (.int .i64 (s : Int))) (g := w.heap.size) E (by simp)).apart (g' := (w.heap.size + 1)) _ _ _ (by omega)).c1, ((St.at_ (x0 := (.bool b)) (x1 := (.slice A n c)) (x2 := (.int .i64 (s : Int))) (g := w.heap.size) E (by simp)).apart (g' := (w.heap.size + 1)) _ _ _ (by omega)).c2⟩))
    (first | (go_at_call 53; refine (trim_is (m := i.natAbs) (St.got E (by simp)) (limbs_dg _) hn (val_dg _)).mono ?_; rintro e w1 ⟨A1, n1, c1, rfl, h1, hb1⟩; replace E := Lib.hid (St.push E.out hb1 h1); clear h1 hb1) | (go_at_call 47; refine (decimal_any (!b) A1 n1 c1 i.natAbs s _ (St.got E (by simp)) hs).mono ?_; rintro e w2 ⟨rfl, hb2⟩; replace E := Lib.hid (St.step E.out hb2); clear hb2; obtain ⟨r0, r1, r2, rf0, rf1, rf2, rlt⟩ := St.at_ (x0 := .bool false) (x1 := .slice none 0 0) (x2 := .int .i64 0) (g := (w.heap.size + 1)) E (by simp)))
  go_wp2_with fail
  have EF := Lib.hid (St.store E.out (g := w.heap.size + 1) (x0 := .bool false) (x1 := .slice none 0 0) (x2 := .int .i64 0) (by simp) (noLimb_bool _) (noLimb_slice _ _ _) (noLimb_int _) [] (fun q hq => by cases hq) (.bool (ngB (sgn (!b) i.natAbs))) (.slice A1 n1 c1) (.int .i64 (s : Int)))
  obtain ⟨e0, e1, e2, _, _, _, _⟩ := St.at_ (x0 := .bool (ngB (sgn (!b) i.natAbs))) (x1 := .slice A1 n1 c1) (x2 := .int .i64 (s : Int)) (g := w.heap.size + 1) EF (by simp)
  exact bodyPost_ret (v := .agg #[.bool (ngB (sgn (!b) i.natAbs)), .slice A1 n1 c1, .int .i64 (s : Int)]) (by simp [results, Try.results17, go_sem, e0, e1, e2]) rfl ⟨A1, n1, c1, by rw [HI.out], by rw [← HI.out, abs_sgn]; exact St.got EF (by simp), EF.out.bel⟩

set_option maxHeartbeats 1000000 in
theorem abs_any (A : Option Addr) (n c s : Nat) (i : Int) (w : World) (h : Num w w.heap.size A n c i.natAbs) (hn : n ≤ 1000000000) (hs : s ≤ 1000000000000) :
    Calls Try.prog 19 #[.agg #[.bool (ngB i), .slice A n c, .int .i64 (s : Int)]] w (RetDec w ((i.natAbs : Int)) s) := by
  have H := Lib.hid h
  have HI : Hid (sgn (false) i.natAbs = (i.natAbs : Int)) := rfl
  obtain ⟨b, hb⟩ : ∃ b, b = ngB i := ⟨_, rfl⟩
  rw [← hb]
  clear h hb
  go_enter Try.func19, Try.ntmps19
  go_wp2_with fail
  generalize hW : World.alloc (World.alloc w _) _ = W0
  have E0 : St w W0 [(A, n, c, (i).natAbs)] [((w.heap.size + 1), .bool false, .slice none 0 0, .int .i64 0), (w.heap.size, (.bool b), (.slice A n c), (.int .i64 (s : Int)))] := by rw [← hW]; exact ((start_one H.out).lay rfl).lay (by simp)
  have E := Lib.hid E0.drew
  clear hW E0
  go_region_held3 (fun v => v.cell? ⟨w.heap.size, 0, none⟩ = some (.bool b) ∧ v.cell? ⟨w.heap.size, 1, none⟩ = some (.slice A n c) ∧ v.cell? ⟨w.heap.size, 2, none⟩ = some (.int .i64 (s : Int))) (first | (have X0 := St.at_ (x0 := (.bool b)) (x1 := (.slice A n c)) (x2 := (.int .i64 (s : Int))) (g := w.heap.size) E (by simp); with_reducible exact ⟨X0.c0, X0.c1, X0.c2⟩) | (with_reducible exact ⟨((St.at_ (x0 := (.bool b)) (x1 := (.slice A n c)) (x2 := (.int .i64 (s : Int))) (g := w.heap.size) E (by simp)).apart (g' := (w.heap.size + 1)) _ _ _ (by omega)).c0, ((St.at_ (x0 := (.bool b)) (x1 := (.slice A n c)) (x2 := (.int .i64 (s : Int))) (g := w.heap.size) E (by simp)).apart (g' := (w.heap.size + 1)) _ _ _ (by omega)).c1, ((St.at_ (x0 := (.bool b)) (x1 := (.slice A n c)) (x2 := (.int .i64 (s : Int))) (g := w.heap.size) E (by simp)).apart (g' := (w.heap.size + 1)) _ _ _ (by omega)).c2⟩))
    (first | (go_at_call 53; refine (trim_is (m := i.natAbs) (St.got E (by simp)) (limbs_dg _) hn (val_dg _)).mono ?_; rintro e w1 ⟨A1, n1, c1, rfl, h1, hb1⟩; replace E := Lib.hid (St.push E.out hb1 h1); clear h1 hb1) | (go_at_call 47; refine (decimal_any (false) A1 n1 c1 i.natAbs s _ (St.got E (by simp)) hs).mono ?_; rintro e w2 ⟨rfl, hb2⟩; replace E := Lib.hid (St.step E.out hb2); clear hb2; obtain ⟨r0, r1, r2, rf0, rf1, rf2, rlt⟩ := St.at_ (x0 := .bool false) (x1 := .slice none 0 0) (x2 := .int .i64 0) (g := (w.heap.size + 1)) E (by simp)))
  go_wp2_with fail
  have EF := Lib.hid (St.store E.out (g := w.heap.size + 1) (x0 := .bool false) (x1 := .slice none 0 0) (x2 := .int .i64 0) (by simp) (noLimb_bool _) (noLimb_slice _ _ _) (noLimb_int _) [] (fun q hq => by cases hq) (.bool (ngB (sgn (false) i.natAbs))) (.slice A1 n1 c1) (.int .i64 (s : Int)))
  obtain ⟨e0, e1, e2, _, _, _, _⟩ := St.at_ (x0 := .bool (ngB (sgn (false) i.natAbs))) (x1 := .slice A1 n1 c1) (x2 := .int .i64 (s : Int)) (g := w.heap.size + 1) EF (by simp)
  exact bodyPost_ret (v := .agg #[.bool (ngB (sgn (false) i.natAbs)), .slice A1 n1 c1, .int .i64 (s : Int)]) (by simp [results, Try.results19, go_sem, e0, e1, e2]) rfl ⟨A1, n1, c1, by rw [HI.out], by rw [← HI.out, abs_sgn]; exact St.got EF (by simp), EF.out.bel⟩

set_option maxHeartbeats 1000000 in
theorem refNeg_any (A : Option Addr) (n c s : Nat) (i : Int) (w : World) (h : Num w w.heap.size A n c i.natAbs) (hs : s ≤ 1000000000000) :
    Calls Try.prog 18 #[.agg #[.bool (ngB i), .slice A n c, .int .i64 (s : Int)]] w (RetDec w (-i) s) := by
  have H := Lib.hid h
  have HI : Hid (sgn (!ngB i) i.natAbs = -i) := sgn_not i
  obtain ⟨b, hb⟩ : ∃ b, b = ngB i := ⟨_, rfl⟩
  rw [← hb] at HI
  rw [← hb]
  clear h hb
  go_enter Try.func18, Try.ntmps18
  go_wp2_with fail
  generalize hW : World.alloc (World.alloc w _) _ = W0
  have E0 : St w W0 [(A, n, c, (i).natAbs)] [((w.heap.size + 1), .bool false, .slice none 0 0, .int .i64 0), (w.heap.size, (.bool b), (.slice A n c), (.int .i64 (s : Int)))] := by rw [← hW]; exact ((start_one H.out).lay rfl).lay (by simp)
  have E := Lib.hid E0
  clear hW E0
  obtain ⟨p0, p1, p2, pf0, pf1, pf2, plt⟩ := St.at_ (x0 := (.bool b)) (x1 := (.slice A n c)) (x2 := (.int .i64 (s : Int))) (g := w.heap.size) E (by simp)
  go_wp2_with fail
  refine (refDone_any (!b) A n c i.natAbs s _ (St.got E (by simp)) hs).mono ?_; rintro e w2 ⟨rfl, hb2⟩; replace E := Lib.hid (St.step E.out hb2); clear hb2 p0 p1 p2 pf0 pf1 pf2 plt
  obtain ⟨r0, r1, r2, rf0, rf1, rf2, rlt⟩ := St.at_ (x0 := .bool false) (x1 := .slice none 0 0) (x2 := .int .i64 0) (g := (w.heap.size + 1)) E (by simp)
  go_wp2_with fail
  have EF := Lib.hid (St.store E.out (g := w.heap.size + 1) (x0 := .bool false) (x1 := .slice none 0 0) (x2 := .int .i64 0) (by simp) (noLimb_bool _) (noLimb_slice _ _ _) (noLimb_int _) [] (fun q hq => by cases hq) (.bool (ngB (sgn (!b) i.natAbs))) (.slice A n c) (.int .i64 (s : Int)))
  obtain ⟨e0, e1, e2, _, _, _, _⟩ := St.at_ (x0 := .bool (ngB (sgn (!b) i.natAbs))) (x1 := .slice A n c) (x2 := .int .i64 (s : Int)) (g := w.heap.size + 1) EF (by simp)
  exact bodyPost_ret (v := .agg #[.bool (ngB (sgn (!b) i.natAbs)), .slice A n c, .int .i64 (s : Int)]) (by simp [results, Try.results18, go_sem, e0, e1, e2]) rfl ⟨A, n, c, by rw [HI.out], by rw [← HI.out, abs_sgn]; exact St.got EF (by simp), EF.out.bel⟩

set_option maxHeartbeats 1000000 in
theorem refAbs_any (A : Option Addr) (n c s : Nat) (i : Int) (w : World) (h : Num w w.heap.size A n c i.natAbs) (hs : s ≤ 1000000000000) :
    Calls Try.prog 20 #[.agg #[.bool (ngB i), .slice A n c, .int .i64 (s : Int)]] w (RetDec w ((i.natAbs : Int)) s) := by
  have H := Lib.hid h
  have HI : Hid (sgn (false) i.natAbs = (i.natAbs : Int)) := rfl
  obtain ⟨b, hb⟩ : ∃ b, b = ngB i := ⟨_, rfl⟩
  rw [← hb]
  clear h hb
  go_enter Try.func20, Try.ntmps20
  go_wp2_with fail
  generalize hW : World.alloc (World.alloc w _) _ = W0
  have E0 : St w W0 [(A, n, c, (i).natAbs)] [((w.heap.size + 1), .bool false, .slice none 0 0, .int .i64 0), (w.heap.size, (.bool b), (.slice A n c), (.int .i64 (s : Int)))] := by rw [← hW]; exact ((start_one H.out).lay rfl).lay (by simp)
  have E := Lib.hid E0
  clear hW E0
  obtain ⟨p0, p1, p2, pf0, pf1, pf2, plt⟩ := St.at_ (x0 := (.bool b)) (x1 := (.slice A n c)) (x2 := (.int .i64 (s : Int))) (g := w.heap.size) E (by simp)
  go_wp2_with fail
  refine (refDone_any (false) A n c i.natAbs s _ (St.got E (by simp)) hs).mono ?_; rintro e w2 ⟨rfl, hb2⟩; replace E := Lib.hid (St.step E.out hb2); clear hb2 p0 p1 p2 pf0 pf1 pf2 plt
  obtain ⟨r0, r1, r2, rf0, rf1, rf2, rlt⟩ := St.at_ (x0 := .bool false) (x1 := .slice none 0 0) (x2 := .int .i64 0) (g := (w.heap.size + 1)) E (by simp)
  go_wp2_with fail
  have EF := Lib.hid (St.store E.out (g := w.heap.size + 1) (x0 := .bool false) (x1 := .slice none 0 0) (x2 := .int .i64 0) (by simp) (noLimb_bool _) (noLimb_slice _ _ _) (noLimb_int _) [] (fun q hq => by cases hq) (.bool (ngB (sgn (false) i.natAbs))) (.slice A n c) (.int .i64 (s : Int)))
  obtain ⟨e0, e1, e2, _, _, _, _⟩ := St.at_ (x0 := .bool (ngB (sgn (false) i.natAbs))) (x1 := .slice A n c) (x2 := .int .i64 (s : Int)) (g := w.heap.size + 1) EF (by simp)
  exact bodyPost_ret (v := .agg #[.bool (ngB (sgn (false) i.natAbs)), .slice A n c, .int .i64 (s : Int)]) (by simp [results, Try.results20, go_sem, e0, e1, e2]) rfl ⟨A, n, c, by rw [HI.out], by rw [← HI.out, abs_sgn]; exact St.got EF (by simp), EF.out.bel⟩

theorem sign_any (A : Option Addr) (n c s : Nat) (i : Int) (w : World) (h : Num w w.heap.size A n c i.natAbs) :
    Calls Try.prog 21 #[.agg #[.bool (ngB i), .slice A n c, .int .i64 (s : Int)]] w (RetVal w (.int .i64 i.sign)) := by
  have hp := num_pos_iff h
  have HS := Lib.hid (rfl : i.sign = i.sign)
  rcases Int.lt_trichotomy i 0 with h0 | h0 | h0
  · have hb : ngB i = true := decide_eq_true h0
    have hn : 0 < n := hp.2 (by omega)
    have hs : i.sign = -1 := Int.sign_eq_neg_one_iff_neg.2 h0
    rw [hb, hs]
    clear h hp hb hs h0
    go_enter Try.func21, Try.ntmps21
    go_wp2
    all_goals first | (exfalso; omega) | (go_ret; exact ⟨rfl, (Below.refl _ _).alloc (Nat.le_refl _) _⟩)
  · subst h0
    have hn : n = 0 := by simp at hp; omega
    subst hn
    have hb : ngB 0 = false := rfl
    rw [hb]
    clear h hp hb
    go_enter Try.func21, Try.ntmps21
    go_wp2
    go_ret
    exact ⟨rfl, (Below.refl _ _).alloc (Nat.le_refl _) _⟩
  · have hb : ngB i = false := decide_eq_false (by omega)
    have hn : 0 < n := hp.2 (by omega)
    have hs : i.sign = 1 := Int.sign_eq_one_iff_pos.2 h0
    rw [hb, hs]
    clear h hp hb hs h0
    go_enter Try.func21, Try.ntmps21
    go_wp2
    all_goals first | (exfalso; omega) | (go_ret; exact ⟨rfl, (Below.refl _ _).alloc (Nat.le_refl _) _⟩)

theorem refSign_any (A : Option Addr) (n c s : Nat) (i : Int) (w : World) (h : Num w w.heap.size A n c i.natAbs) :
    Calls Try.prog 22 #[.agg #[.bool (ngB i), .slice A n c, .int .i64 (s : Int)]] w (RetVal w (.int .i64 i.sign)) := by
  have hp := num_pos_iff h
  have HS := Lib.hid (rfl : i.sign = i.sign)
  rcases Int.lt_trichotomy i 0 with h0 | h0 | h0
  · have hb : ngB i = true := decide_eq_true h0
    have hn : 0 < n := hp.2 (by omega)
    have hs : i.sign = -1 := Int.sign_eq_neg_one_iff_neg.2 h0
    rw [hb, hs]
    clear h hp hb hs h0
    go_enter Try.func22, Try.ntmps22
    go_wp2
    all_goals first | (exfalso; omega) | (go_ret; exact ⟨rfl, (Below.refl _ _).alloc (Nat.le_refl _) _⟩)
  · subst h0
    have hn : n = 0 := by simp at hp; omega
    subst hn
    have hb : ngB 0 = false := rfl
    rw [hb]
    clear h hp hb
    go_enter Try.func22, Try.ntmps22
    go_wp2
    go_ret
    exact ⟨rfl, (Below.refl _ _).alloc (Nat.le_refl _) _⟩
  · have hb : ngB i = false := decide_eq_false (by omega)
    have hn : 0 < n := hp.2 (by omega)
    have hs : i.sign = 1 := Int.sign_eq_one_iff_pos.2 h0
    rw [hb, hs]
    clear h hp hb hs h0
    go_enter Try.func22, Try.ntmps22
    go_wp2
    all_goals first | (exfalso; omega) | (go_ret; exact ⟨rfl, (Below.refl _ _).alloc (Nat.le_refl _) _⟩)

end Go.Proofs.Ytafbkoejobkncaa
