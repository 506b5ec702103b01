/-
  Contracts of layer 6, the fifth part: Quantize.
-/
import Derived.Test.YtllcjahekckbfaaRouD
set_option linter.unusedVariables false
set_option linter.unusedSimpArgs false
namespace Go.Proofs.Ytllcjahekckbfaa
open Go.RowKit

theorem heap_drew (w : World) : w.drew.heap = w.heap := rfl
theorem drew_alloc (w : World) (o : Obj) : (w.alloc o).drew = w.drew.alloc o := rfl

set_option maxRecDepth 100000 in
set_option maxHeartbeats 4000000 in
theorem quant_is {A : Option Addr} {n c s S : Nat} {i v z : Int} {w : World} (h : Num w w.heap.size A n c i.natAbs) (hn : n ≤ 1000) (hs : s ≤ 1000) (hv : max v 0 = (S : Int)) (hS : S ≤ 1000) (hz : quantZ i s S = z) :
    Calls Try.prog 7 #[.agg #[.bool (ngB i), .slice A n c, .int .i64 (s : Int)], .int .i64 v] w (RetDec w z S) := by
  have H := Lib.hid h
  obtain ⟨t0, ht0⟩ : ∃ t0 : Nat, t0 = 0 := ⟨_, rfl⟩
  have HZ : Hid (divZ i s 1 t0 S = z) := by show _ = _; rw [ht0]; exact (div_one i s S).trans hz
  have HT0 : Hid (max (0 : Int) 0 = (t0 : Int)) := by show _ = _; omega
  have ht1 : t0 ≤ 1 := by omega
  have HV := Lib.hid hv
  clear h hz hv ht0
  go_enter Try.func7, Try.ntmps7
  go_wp2_with fail
  generalize hW : World.alloc (World.alloc w _) _ = W0
  have E0 : St w W0 [(A, n, c, i.natAbs)] [((w.heap.size + 1), .bool false, .slice none 0 0, .int .i64 0), (w.heap.size, (.bool (ngB i)), (.slice A n c), (.int .i64 (s : Int)))] := by rw [← hW]; exact ((start_one H.out).lay rfl).lay (by simp)
  have E := Lib.hid (St.drew E0)
  clear hW E0
  go_region_held3 (fun v => v.cell? ⟨w.heap.size, 0, none⟩ = some (.bool (ngB i)) ∧ v.cell? ⟨w.heap.size, 1, none⟩ = some (.slice A n c) ∧ v.cell? ⟨w.heap.size, 2, none⟩ = some (.int .i64 (s : Int))) ((have X0 := St.at_ (x0 := (.bool (ngB i))) (x1 := (.slice A n c)) (x2 := (.int .i64 (s : Int))) (g := w.heap.size) E (by simp); have T0 := X0.lt; first | (with_reducible exact ⟨X0.c0, X0.c1, X0.c2⟩) | (with_reducible exact ⟨(X0.alloc _).c0, (X0.alloc _).c1, (X0.alloc _).c2⟩) | (rw [drew_alloc]; with_reducible exact ⟨(X0.alloc _).c0, (X0.alloc _).c1, (X0.alloc _).c2⟩) | (with_reducible exact ⟨(X0.apart _ _ _ (by simp <;> omega)).c0, (X0.apart _ _ _ (by simp <;> omega)).c1, (X0.apart _ _ _ (by simp <;> omega)).c2⟩) | (with_reducible exact ⟨((X0.alloc _).apart _ _ _ (by simp <;> omega)).c0, ((X0.alloc _).apart _ _ _ (by simp <;> omega)).c1, ((X0.alloc _).apart _ _ _ (by simp <;> omega)).c2⟩)))
    (first | (go_at_call 16; first | ((with_reducible refine (unit_is (S := t0) _ HT0.out (by omega)).mono ?_); rintro e w1 ⟨A1, n1, c1, rfl, h1, hb1⟩; have b1 : n1 ≤ 1 := len_one h1 (by decide); replace E := Lib.hid (St.push E.out hb1 h1); clear h1 hb1; obtain ⟨k0, k1, k2, kf0, kf1, kf2, klt⟩ := St.at_ E List.mem_cons_self) | (have L5 := (St.at_ (x0 := .bool false) (x1 := .slice none 0 0) (x2 := .int .i64 0) (g := w.heap.size + 1) E (by simp)).lt; replace E := Lib.hid (St.lay (t := 25) (x0 := .bool false) (x1 := .slice none 0 0) (x2 := .int .i64 0) E.out rfl); (try simp only [heap_drew] at E L5); ((with_reducible refine (unit_is (S := t0) _ HT0.out (by omega)).mono ?_); rintro e w1 ⟨A1, n1, c1, rfl, h1, hb1⟩; have b1 : n1 ≤ 1 := len_one h1 (by decide); replace E := Lib.hid (St.push E.out hb1 h1); clear h1 hb1; obtain ⟨k0, k1, k2, kf0, kf1, kf2, klt⟩ := St.at_ E List.mem_cons_self)) | (rw [drew_alloc]; have L5 := (St.at_ (x0 := .bool false) (x1 := .slice none 0 0) (x2 := .int .i64 0) (g := w.heap.size + 1) E (by simp)).lt; replace E := Lib.hid (St.lay (t := 25) (x0 := .bool false) (x1 := .slice none 0 0) (x2 := .int .i64 0) E.out rfl); (try simp only [heap_drew] at E L5); ((with_reducible refine (unit_is (S := t0) _ HT0.out (by omega)).mono ?_); rintro e w1 ⟨A1, n1, c1, rfl, h1, hb1⟩; have b1 : n1 ≤ 1 := len_one h1 (by decide); replace E := Lib.hid (St.push E.out hb1 h1); clear h1 hb1; obtain ⟨k0, k1, k2, kf0, kf1, kf2, klt⟩ := St.at_ E List.mem_cons_self))) | (go_at_call 18; first | ((with_reducible refine (rdiv_is (i := i) (j := 1) (s := s) (t := t0) (S := S) (St.got E (A := A) (n := n) (c := c) (a := i.natAbs) (by simp)) (St.got E (A := A1) (n := n1) (c := c1) (a := (1 : Int).natAbs) (by simp)) hn (by omega) hs (by omega) HV.out hS (by decide) HZ.out).mono ?_); rintro e w2 ⟨A2, n2, c2, rfl, h1, hb1⟩; replace E := Lib.hid (St.push E.out hb1 h1); clear h1 hb1; obtain ⟨k0, k1, k2, kf0, kf1, kf2, klt⟩ := St.at_ E List.mem_cons_self) | (have L5 := (St.at_ (x0 := .bool false) (x1 := .slice none 0 0) (x2 := .int .i64 0) (g := w.heap.size + 1) E (by simp)).lt; replace E := Lib.hid (St.lay (t := 25) (x0 := .bool false) (x1 := .slice none 0 0) (x2 := .int .i64 0) E.out rfl); (try simp only [heap_drew] at E L5); ((with_reducible refine (rdiv_is (i := i) (j := 1) (s := s) (t := t0) (S := S) (St.got E (A := A) (n := n) (c := c) (a := i.natAbs) (by simp)) (St.got E (A := A1) (n := n1) (c := c1) (a := (1 : Int).natAbs) (by simp)) hn (by omega) hs (by omega) HV.out hS (by decide) HZ.out).mono ?_); rintro e w2 ⟨A2, n2, c2, rfl, h1, hb1⟩; replace E := Lib.hid (St.push E.out hb1 h1); clear h1 hb1; obtain ⟨k0, k1, k2, kf0, kf1, kf2, klt⟩ := St.at_ E List.mem_cons_self)) | (rw [drew_alloc]; have L5 := (St.at_ (x0 := .bool false) (x1 := .slice none 0 0) (x2 := .int .i64 0) (g := w.heap.size + 1) E (by simp)).lt; replace E := Lib.hid (St.lay (t := 25) (x0 := .bool false) (x1 := .slice none 0 0) (x2 := .int .i64 0) E.out rfl); (try simp only [heap_drew] at E L5); ((with_reducible refine (rdiv_is (i := i) (j := 1) (s := s) (t := t0) (S := S) (St.got E (A := A) (n := n) (c := c) (a := i.natAbs) (by simp)) (St.got E (A := A1) (n := n1) (c := c1) (a := (1 : Int).natAbs) (by simp)) hn (by omega) hs (by omega) HV.out hS (by decide) HZ.out).mono ?_); rintro e w2 ⟨A2, n2, c2, rfl, h1, hb1⟩; replace E := Lib.hid (St.push E.out hb1 h1); clear h1 hb1; obtain ⟨k0, k1, k2, kf0, kf1, kf2, klt⟩ := St.at_ E List.mem_cons_self))))
  all_goals
    try clear k0 k1 k2 kf0 kf1 kf2 klt
    first
      | (replace E := Lib.hid (St.store E.out List.mem_cons_self (noLimb_bool _) (noLimb_slice _ _ _) (noLimb_int _) [((w.heap.size + 1), .bool false, .slice none 0 0, .int .i64 0), (w.heap.size, (.bool (ngB i)), (.slice A n c), (.int .i64 (s : Int)))] (by simp <;> omega) (.bool (ngB z)) (.slice A2 n2 c2) (.int .i64 (S : Int))); generalize hW5 : put3 w2 _ _ _ _ = W5 at E; unfold put3 at hW5; rw [hW5])
      | (replace E := Lib.hid (St.lay (t := 25) (x0 := .bool (ngB z)) (x1 := .slice A2 n2 c2) (x2 := .int .i64 (S : Int)) E.out rfl); generalize hW5 : World.alloc w2 _ = W5 at E ⊢)
    clear hW5
    obtain ⟨k0, k1, k2, kf0, kf1, kf2, klt⟩ := St.at_ E List.mem_cons_self
    obtain ⟨r0, r1, r2, rf0, rf1, rf2, rlt⟩ := St.at_ (x0 := .bool false) (x1 := .slice none 0 0) (x2 := .int .i64 0) (g := (w.heap.size + 1)) E (by simp)
    simp only [Exit.then]
    go_wp2_with fail
    have EF := Lib.hid (St.store E.out (g := (w.heap.size + 1)) (x0 := .bool false) (x1 := .slice none 0 0) (x2 := .int .i64 0) (by simp) (noLimb_bool _) (noLimb_slice _ _ _) (noLimb_int _) [] (fun q hq => by cases hq) (.bool (ngB (z))) (.slice A2 n2 c2) (.int .i64 (S : Int)))
    obtain ⟨e0, e1, e2, _, _, _, _⟩ := St.at_ (x0 := .bool (ngB (z))) (x1 := .slice A2 n2 c2) (x2 := .int .i64 (S : Int)) (g := (w.heap.size + 1)) EF (by simp)
    exact bodyPost_ret (v := .agg #[.bool (ngB (z)), .slice A2 n2 c2, .int .i64 (S : Int)]) (by simp [results, Try.results7, go_sem, e0, e1, e2]) rfl ⟨A2, n2, c2, rfl, St.got EF (by simp), EF.out.bel⟩

end Go.Proofs.Ytllcjahekckbfaa
