/-
  Contracts of layer 5, the eleventh part: Sub, Mul, Make and the document's.
-/
import Derived.Test.YtafbkoejobkncaaDecJ
namespace Go.Proofs.Ytafbkoejobkncaa
open Go.RowKit

/-- The difference of two decimals, at the greater scale. -/
def subZ (i : Int) (s : Nat) (j : Int) (t : Nat) : Int := up i s (max s t) - up j t (max s t)
theorem up_neg_eq (i : Int) (s M : Nat) : up (-i) s M = -up i s M := Int.neg_mul _ _
theorem sub_add (i : Int) (s : Nat) (j : Int) (t : Nat) : addZ i s (-j) t = subZ i s j t := by
  unfold addZ subZ; rw [up_neg_eq]; omega
theorem mul_num (i j : Int) : i.natAbs * j.natAbs = (i * j).natAbs := (Int.natAbs_mul i j).symm
theorem sgn_mul_same {i j : Int} (h : ngB i = ngB j) : sgn false (i * j).natAbs = i * j := by
  unfold ngB at h
  have h2 : (i < 0) ↔ (j < 0) := by simpa using h
  rw [sgn_false]
  have : 0 ≤ i * j := by
    by_cases h0 : i < 0
    · exact Int.mul_nonneg_of_nonpos_of_nonpos (by omega) (by have := h2.1 h0; omega)
    · exact Int.mul_nonneg (by omega) (by omega)
  omega
theorem sgn_mul_apart {i j : Int} (h : ngB i ≠ ngB j) : sgn true (i * j).natAbs = i * j := by
  unfold ngB at h
  have h2 : ¬((i < 0) ↔ (j < 0)) := by simpa using h
  have e : ∀ a : Nat, sgn true a = -(a : Int) := fun a => rfl
  rw [e]
  have : i * j ≤ 0 := by
    by_cases h0 : i < 0
    · exact Int.mul_nonpos_of_nonpos_of_nonneg (by omega) (by omega)
    · exact Int.mul_nonpos_of_nonneg_of_nonpos (by omega) (by omega)
  omega
theorem bool_neq {a b : Bool} (h : a ≠ b) : (a != b) = true := by simpa using h
theorem bool_neq' {a b : Bool} (h : a = b) : (a != b) = false := by subst h; simp

set_option maxHeartbeats 4000000 in
theorem sub5_any (A A' : Option Addr) (n c n' c' s t : Nat) (i j : Int) (w : World) (h : Num w w.heap.size A n c i.natAbs) (h' : Num w w.heap.size A' n' c' j.natAbs) (hn : n ≤ 1000000) (hn' : n' ≤ 1000000) (hs : s ≤ 100000) (ht : t ≤ 100000) :
    Calls Try.prog 30 #[.agg #[.bool (ngB i), .slice A n c, .int .i64 (s : Int)], .agg #[.bool (ngB j), .slice A' n' c', .int .i64 (t : Int)]] w (RetDec w (subZ i s j t) (max s t)) := by
  rw [← sub_add]
  have HLN : Hid ((dg (-j).natAbs).length ≤ 1000000) := by show _ ≤ _; rw [Int.natAbs_neg, h'.len]; exact hn'
  obtain ⟨M, hm⟩ : ∃ M, max s t = M := ⟨_, rfl⟩
  obtain ⟨x, hx⟩ : ∃ x, addZ i s (-j) t = x := ⟨_, rfl⟩
  have HA : Hid (∀ (A3 : Option Addr) (n3 c3 : Nat) (w : World), Num w w.heap.size A n c i.natAbs → Num w w.heap.size A3 n3 c3 (-j).natAbs → n3 ≤ 1000000 → Calls Try.prog 28 #[.agg #[.bool (ngB i), .slice A n c, .int .i64 (s : Int)], .agg #[.bool (ngB (-j)), .slice A3 n3 c3, .int .i64 (t : Int)]] w (RetDec w x M)) := fun A3 n3 c3 w h h' hn3 => by
    subst hx; subst hm; exact add5_any A A3 n c n3 c3 s t i (-j) w h h' hn hn3 hs ht
  rw [hm, hx]
  clear hm hx
  have H := Lib.hid h
  have H' := Lib.hid h'
  clear h h'
  go_enter Try.func30, Try.ntmps30
  go_wp2_with fail
  generalize hW : World.alloc (World.alloc (World.alloc w _) _) _ = W0
  have E0 : St w W0 [(A, n, c, (i).natAbs), (A', n', c', (j).natAbs)] [((w.heap.size + 1 + 1), .bool false, .slice none 0 0, .int .i64 0), ((w.heap.size + 1), (.bool (ngB j)), (.slice A' n' c'), (.int .i64 (t : Int))), (w.heap.size, (.bool (ngB i)), (.slice A n c), (.int .i64 (s : Int)))] := by rw [← hW]; exact (((start_two H.out H'.out).lay rfl).lay (by simp)).lay (by simp)
  have E := Lib.hid E0
  clear hW E0
  obtain ⟨p0, p1, p2, pf0, pf1, pf2, plt⟩ := St.at_ (x0 := (.bool (ngB i))) (x1 := (.slice A n c)) (x2 := (.int .i64 (s : Int))) (g := w.heap.size) E (by simp)
  obtain ⟨q0, q1, q2, qf0, qf1, qf2, qlt⟩ := St.at_ (x0 := (.bool (ngB j))) (x1 := (.slice A' n' c')) (x2 := (.int .i64 (t : Int))) (g := (w.heap.size + 1)) E (by simp)
  
  clear p0 p1 p2 pf0 pf1 pf2 plt q0 q1 q2 qf0 qf1 qf2 qlt
  replace E := Lib.hid (St.drew E.out)
  go_region_held3 (fun v => v.cell? ⟨w.heap.size, 0, none⟩ = some (.bool (ngB i)) ∧ v.cell? ⟨w.heap.size, 1, none⟩ = some (.slice A n c) ∧ v.cell? ⟨w.heap.size, 2, none⟩ = some (.int .i64 (s : Int)) ∧ v.cell? ⟨w.heap.size + 1, 0, none⟩ = some (.bool (ngB j)) ∧ v.cell? ⟨w.heap.size + 1, 1, none⟩ = some (.slice A' n' c') ∧ v.cell? ⟨w.heap.size + 1, 2, none⟩ = some (.int .i64 (t : Int))) (first | (have X0 := St.at_ (x0 := (.bool (ngB i))) (x1 := (.slice A n c)) (x2 := (.int .i64 (s : Int))) (g := w.heap.size) E (by simp); have X1 := St.at_ (x0 := (.bool (ngB j))) (x1 := (.slice A' n' c')) (x2 := (.int .i64 (t : Int))) (g := (w.heap.size + 1)) E (by simp); with_reducible exact ⟨X0.c0, X0.c1, X0.c2, X1.c0, X1.c1, X1.c2⟩) | (with_reducible exact ⟨((St.at_ (x0 := (.bool (ngB i))) (x1 := (.slice A n c)) (x2 := (.int .i64 (s : Int))) (g := w.heap.size) E (by simp)).apart (g' := (w.heap.size + 1 + 1)) _ _ _ (by omega)).c0, ((St.at_ (x0 := (.bool (ngB i))) (x1 := (.slice A n c)) (x2 := (.int .i64 (s : Int))) (g := w.heap.size) E (by simp)).apart (g' := (w.heap.size + 1 + 1)) _ _ _ (by omega)).c1, ((St.at_ (x0 := (.bool (ngB i))) (x1 := (.slice A n c)) (x2 := (.int .i64 (s : Int))) (g := w.heap.size) E (by simp)).apart (g' := (w.heap.size + 1 + 1)) _ _ _ (by omega)).c2, ((St.at_ (x0 := (.bool (ngB j))) (x1 := (.slice A' n' c')) (x2 := (.int .i64 (t : Int))) (g := (w.heap.size + 1)) E (by simp)).apart (g' := (w.heap.size + 1 + 1)) _ _ _ (by omega)).c0, ((St.at_ (x0 := (.bool (ngB j))) (x1 := (.slice A' n' c')) (x2 := (.int .i64 (t : Int))) (g := (w.heap.size + 1)) E (by simp)).apart (g' := (w.heap.size + 1 + 1)) _ _ _ (by omega)).c1, ((St.at_ (x0 := (.bool (ngB j))) (x1 := (.slice A' n' c')) (x2 := (.int .i64 (t : Int))) (g := (w.heap.size + 1)) E (by simp)).apart (g' := (w.heap.size + 1 + 1)) _ _ _ (by omega)).c2⟩))
    (first | (go_at_call 17; refine (neg_any A' n' c' t j _ (St.got E (by simp)) (by omega) (by omega)).mono ?_; rintro e w5 ⟨A3, n3, c3, rfl, h1, hb1⟩; have hn3 : n3 ≤ 1000000 := (by have e1 := h1.len; have e2 := HLN.out; omega); replace E := Lib.hid (St.push E.out hb1 h1); clear h1 hb1) | (go_at_call 28; refine (HA.out A3 n3 c3 _ (St.got E (by simp)) (St.got E (by simp)) hn3).mono ?_; rintro e w6 ⟨A4, n4, c4, rfl, h1, hb1⟩; replace E := Lib.hid (St.push E.out hb1 h1); clear h1 hb1; obtain ⟨r0, r1, r2, rf0, rf1, rf2, rlt⟩ := St.at_ (x0 := .bool false) (x1 := .slice none 0 0) (x2 := .int .i64 0) (g := (w.heap.size + 1 + 1)) E (by simp)))
  all_goals
    go_wp2_with fail
    have EF := Lib.hid (St.store E.out (g := (w.heap.size + 1 + 1)) (x0 := .bool false) (x1 := .slice none 0 0) (x2 := .int .i64 0) (by simp) (noLimb_bool _) (noLimb_slice _ _ _) (noLimb_int _) [] (fun q hq => by cases hq) (.bool (ngB (x))) (.slice A4 n4 c4) (.int .i64 (M : Int)))
    obtain ⟨e0, e1, e2, _, _, _, _⟩ := St.at_ (x0 := .bool (ngB (x))) (x1 := .slice A4 n4 c4) (x2 := .int .i64 (M : Int)) (g := (w.heap.size + 1 + 1)) EF (by simp)
    exact bodyPost_ret (v := .agg #[.bool (ngB (x)), .slice A4 n4 c4, .int .i64 (M : Int)]) (by simp [results, Try.results30, go_sem, e0, e1, e2]) rfl ⟨A4, n4, c4, rfl, St.got EF (by simp), EF.out.bel⟩

set_option maxHeartbeats 4000000 in
theorem refSub5_any (A A' : Option Addr) (n c n' c' s t : Nat) (i j : Int) (w : World) (h : Num w w.heap.size A n c i.natAbs) (h' : Num w w.heap.size A' n' c' j.natAbs) (hn : n ≤ 1000000) (hn' : n' ≤ 1000000) (hs : s ≤ 100000) (ht : t ≤ 100000) :
    Calls Try.prog 31 #[.agg #[.bool (ngB i), .slice A n c, .int .i64 (s : Int)], .agg #[.bool (ngB j), .slice A' n' c', .int .i64 (t : Int)]] w (RetDec w (subZ i s j t) (max s t)) := by
  rw [← sub_add]
  have HLN : Hid ((dg (-j).natAbs).length ≤ 1000000) := by show _ ≤ _; rw [Int.natAbs_neg, h'.len]; exact hn'
  obtain ⟨M, hm⟩ : ∃ M, max s t = M := ⟨_, rfl⟩
  obtain ⟨x, hx⟩ : ∃ x, addZ i s (-j) t = x := ⟨_, rfl⟩
  have HA : Hid (∀ (A3 : Option Addr) (n3 c3 : Nat) (w : World), Num w w.heap.size A n c i.natAbs → Num w w.heap.size A3 n3 c3 (-j).natAbs → n3 ≤ 1000000 → Calls Try.prog 29 #[.agg #[.bool (ngB i), .slice A n c, .int .i64 (s : Int)], .agg #[.bool (ngB (-j)), .slice A3 n3 c3, .int .i64 (t : Int)]] w (RetDec w x M)) := fun A3 n3 c3 w h h' hn3 => by
    subst hx; subst hm; exact refAdd5_any A A3 n c n3 c3 s t i (-j) w h h' hn hn3 hs ht
  rw [hm, hx]
  clear hm hx
  have H := Lib.hid h
  have H' := Lib.hid h'
  clear h h'
  go_enter Try.func31, Try.ntmps31
  go_wp2_with fail
  generalize hW : World.alloc (World.alloc (World.alloc w _) _) _ = W0
  have E0 : St w W0 [(A, n, c, (i).natAbs), (A', n', c', (j).natAbs)] [((w.heap.size + 1 + 1), .bool false, .slice none 0 0, .int .i64 0), ((w.heap.size + 1), (.bool (ngB j)), (.slice A' n' c'), (.int .i64 (t : Int))), (w.heap.size, (.bool (ngB i)), (.slice A n c), (.int .i64 (s : Int)))] := by rw [← hW]; exact (((start_two H.out H'.out).lay rfl).lay (by simp)).lay (by simp)
  have E := Lib.hid E0
  clear hW E0
  obtain ⟨p0, p1, p2, pf0, pf1, pf2, plt⟩ := St.at_ (x0 := (.bool (ngB i))) (x1 := (.slice A n c)) (x2 := (.int .i64 (s : Int))) (g := w.heap.size) E (by simp)
  obtain ⟨q0, q1, q2, qf0, qf1, qf2, qlt⟩ := St.at_ (x0 := (.bool (ngB j))) (x1 := (.slice A' n' c')) (x2 := (.int .i64 (t : Int))) (g := (w.heap.size + 1)) E (by simp)
  
  clear p0 p1 p2 pf0 pf1 pf2 plt q0 q1 q2 qf0 qf1 qf2 qlt
  replace E := Lib.hid (St.drew E.out)
  go_region_held3 (fun v => v.cell? ⟨w.heap.size, 0, none⟩ = some (.bool (ngB i)) ∧ v.cell? ⟨w.heap.size, 1, none⟩ = some (.slice A n c) ∧ v.cell? ⟨w.heap.size, 2, none⟩ = some (.int .i64 (s : Int)) ∧ v.cell? ⟨w.heap.size + 1, 0, none⟩ = some (.bool (ngB j)) ∧ v.cell? ⟨w.heap.size + 1, 1, none⟩ = some (.slice A' n' c') ∧ v.cell? ⟨w.heap.size + 1, 2, none⟩ = some (.int .i64 (t : Int))) (first | (have X0 := St.at_ (x0 := (.bool (ngB i))) (x1 := (.slice A n c)) (x2 := (.int .i64 (s : Int))) (g := w.heap.size) E (by simp); have X1 := St.at_ (x0 := (.bool (ngB j))) (x1 := (.slice A' n' c')) (x2 := (.int .i64 (t : Int))) (g := (w.heap.size + 1)) E (by simp); with_reducible exact ⟨X0.c0, X0.c1, X0.c2, X1.c0, X1.c1, X1.c2⟩) | (with_reducible exact ⟨((St.at_ (x0 := (.bool (ngB i))) (x1 := (.slice A n c)) (x2 := (.int .i64 (s : Int))) (g := w.heap.size) E (by simp)).apart (g' := (w.heap.size + 1 + 1)) _ _ _ (by omega)).c0, ((St.at_ (x0 := (.bool (ngB i))) (x1 := (.slice A n c)) (x2 := (.int .i64 (s : Int))) (g := w.heap.size) E (by simp)).apart (g' := (w.heap.size + 1 + 1)) _ _ _ (by omega)).c1, ((St.at_ (x0 := (.bool (ngB i))) (x1 := (.slice A n c)) (x2 := (.int .i64 (s : Int))) (g := w.heap.size) E (by simp)).apart (g' := (w.heap.size + 1 + 1)) _ _ _ (by omega)).c2, ((St.at_ (x0 := (.bool (ngB j))) (x1 := (.slice A' n' c')) (x2 := (.int .i64 (t : Int))) (g := (w.heap.size + 1)) E (by simp)).apart (g' := (w.heap.size + 1 + 1)) _ _ _ (by omega)).c0, ((St.at_ (x0 := (.bool (ngB j))) (x1 := (.slice A' n' c')) (x2 := (.int .i64 (t : Int))) (g := (w.heap.size + 1)) E (by simp)).apart (g' := (w.heap.size + 1 + 1)) _ _ _ (by omega)).c1, ((St.at_ (x0 := (.bool (ngB j))) (x1 := (.slice A' n' c')) (x2 := (.int .i64 (t : Int))) (g := (w.heap.size + 1)) E (by simp)).apart (g' := (w.heap.size + 1 + 1)) _ _ _ (by omega)).c2⟩))
    (first | (go_at_call 18; refine (refNeg_any A' n' c' t j _ (St.got E (by simp)) (by omega)).mono ?_; rintro e w5 ⟨A3, n3, c3, rfl, h1, hb1⟩; have hn3 : n3 ≤ 1000000 := (by have e1 := h1.len; have e2 := HLN.out; omega); replace E := Lib.hid (St.push E.out hb1 h1); clear h1 hb1) | (go_at_call 29; refine (HA.out A3 n3 c3 _ (St.got E (by simp)) (St.got E (by simp)) hn3).mono ?_; rintro e w6 ⟨A4, n4, c4, rfl, h1, hb1⟩; replace E := Lib.hid (St.push E.out hb1 h1); clear h1 hb1; obtain ⟨r0, r1, r2, rf0, rf1, rf2, rlt⟩ := St.at_ (x0 := .bool false) (x1 := .slice none 0 0) (x2 := .int .i64 0) (g := (w.heap.size + 1 + 1)) E (by simp)))
  all_goals
    go_wp2_with fail
    have EF := Lib.hid (St.store E.out (g := (w.heap.size + 1 + 1)) (x0 := .bool false) (x1 := .slice none 0 0) (x2 := .int .i64 0) (by simp) (noLimb_bool _) (noLimb_slice _ _ _) (noLimb_int _) [] (fun q hq => by cases hq) (.bool (ngB (x))) (.slice A4 n4 c4) (.int .i64 (M : Int)))
    obtain ⟨e0, e1, e2, _, _, _, _⟩ := St.at_ (x0 := .bool (ngB (x))) (x1 := .slice A4 n4 c4) (x2 := .int .i64 (M : Int)) (g := (w.heap.size + 1 + 1)) EF (by simp)
    exact bodyPost_ret (v := .agg #[.bool (ngB (x)), .slice A4 n4 c4, .int .i64 (M : Int)]) (by simp [results, Try.results31, go_sem, e0, e1, e2]) rfl ⟨A4, n4, c4, rfl, St.got EF (by simp), EF.out.bel⟩

set_option maxHeartbeats 4000000 in
theorem mul5_same (A A' : Option Addr) (n c n' c' s t : Nat) (i j : Int) (w : World) (h : Num w w.heap.size A n c i.natAbs) (h' : Num w w.heap.size A' n' c' j.natAbs) (hn : n ≤ 1000000) (hn' : n' ≤ 1000000) (hs : s ≤ 100000) (ht : t ≤ 100000) (hb : ngB i = ngB j) :
    Calls Try.prog 32 #[.agg #[.bool (ngB i), .slice A n c, .int .i64 (s : Int)], .agg #[.bool (ngB j), .slice A' n' c', .int .i64 (t : Int)]] w (RetDec w (i * j) (s + t)) := by
  have HM := Lib.hid (mul_num i j)
  obtain ⟨x, hx⟩ : ∃ x, i * j = x := ⟨_, rfl⟩
  have HX := Lib.hid (sgn_mul_same hb)
  rw [hx] at HM HX
  rw [hx]
  have hb2 := bool_eq hb
  have hb3 := bool_neq' hb
  clear hb hx
  have H := Lib.hid h
  have H' := Lib.hid h'
  clear h h'
  have hw : IntKind.i64.wrap ((s : Int) + (t : Int)) = (s : Int) + (t : Int) := IntWalk.i64_in _ ⟨by omega, by omega⟩
  have hmx := max_zero (P := Try.prog) (s := s)
  have hmy := max_zero (P := Try.prog) (s := t)
  have hst : (s : Int) + (t : Int) = ((s + t : Nat) : Int) := by omega
  have hdc : decide ((s : Int) ≤ 9223372036854775807 - (t : Int)) = true := decide_eq_true (by omega)
  obtain ⟨r, hr⟩ : ∃ r, r = s + t := ⟨_, rfl⟩
  rw [← hr] at hst ⊢
  rw [hst] at hw
  have hrb : r ≤ 200000 := by omega
  clear hr
  go_enter Try.func32, Try.ntmps32
  go_wp2_with fail
  generalize hW : World.alloc (World.alloc (World.alloc w _) _) _ = W0
  have E0 : St w W0 [(A, n, c, (i).natAbs), (A', n', c', (j).natAbs)] [((w.heap.size + 1 + 1), .bool false, .slice none 0 0, .int .i64 0), ((w.heap.size + 1), (.bool (ngB j)), (.slice A' n' c'), (.int .i64 (t : Int))), (w.heap.size, (.bool (ngB i)), (.slice A n c), (.int .i64 (s : Int)))] := by rw [← hW]; exact (((start_two H.out H'.out).lay rfl).lay (by simp)).lay (by simp)
  have E := Lib.hid E0
  clear hW E0
  obtain ⟨p0, p1, p2, pf0, pf1, pf2, plt⟩ := St.at_ (x0 := (.bool (ngB i))) (x1 := (.slice A n c)) (x2 := (.int .i64 (s : Int))) (g := w.heap.size) E (by simp)
  obtain ⟨q0, q1, q2, qf0, qf1, qf2, qlt⟩ := St.at_ (x0 := (.bool (ngB j))) (x1 := (.slice A' n' c')) (x2 := (.int .i64 (t : Int))) (g := (w.heap.size + 1)) E (by simp)
  
  clear p0 p1 p2 pf0 pf1 pf2 plt q0 q1 q2 qf0 qf1 qf2 qlt
  replace E := Lib.hid (St.drew E.out)
  go_region_held3 (fun v => v.cell? ⟨w.heap.size, 0, none⟩ = some (.bool (ngB i)) ∧ v.cell? ⟨w.heap.size, 1, none⟩ = some (.slice A n c) ∧ v.cell? ⟨w.heap.size, 2, none⟩ = some (.int .i64 (s : Int)) ∧ v.cell? ⟨w.heap.size + 1, 0, none⟩ = some (.bool (ngB j)) ∧ v.cell? ⟨w.heap.size + 1, 1, none⟩ = some (.slice A' n' c') ∧ v.cell? ⟨w.heap.size + 1, 2, none⟩ = some (.int .i64 (t : Int))) (first | (have X0 := St.at_ (x0 := (.bool (ngB i))) (x1 := (.slice A n c)) (x2 := (.int .i64 (s : Int))) (g := w.heap.size) E (by simp); have X1 := St.at_ (x0 := (.bool (ngB j))) (x1 := (.slice A' n' c')) (x2 := (.int .i64 (t : Int))) (g := (w.heap.size + 1)) E (by simp); with_reducible exact ⟨X0.c0, X0.c1, X0.c2, X1.c0, X1.c1, X1.c2⟩))
    (fail)
  all_goals
    go_wp2_with fail
    clear hmx hmy hdc
    replace E := Lib.hid (St.drew E.out)
    go_region_held3 (fun v => v.cell? ⟨w.heap.size, 0, none⟩ = some (.bool (ngB i)) ∧ v.cell? ⟨w.heap.size, 1, none⟩ = some (.slice A n c) ∧ v.cell? ⟨w.heap.size, 2, none⟩ = some (.int .i64 (s : Int)) ∧ v.cell? ⟨w.heap.size + 1, 0, none⟩ = some (.bool (ngB j)) ∧ v.cell? ⟨w.heap.size + 1, 1, none⟩ = some (.slice A' n' c') ∧ v.cell? ⟨w.heap.size + 1, 2, none⟩ = some (.int .i64 (t : Int))) (first | (have X0 := St.at_ (x0 := (.bool (ngB i))) (x1 := (.slice A n c)) (x2 := (.int .i64 (s : Int))) (g := w.heap.size) E (by simp); have X1 := St.at_ (x0 := (.bool (ngB j))) (x1 := (.slice A' n' c')) (x2 := (.int .i64 (t : Int))) (g := (w.heap.size + 1)) E (by simp); with_reducible exact ⟨X0.c0, X0.c1, X0.c2, X1.c0, X1.c1, X1.c2⟩) | (with_reducible exact ⟨((St.at_ (x0 := (.bool (ngB i))) (x1 := (.slice A n c)) (x2 := (.int .i64 (s : Int))) (g := w.heap.size) E (by simp)).apart (g' := (w.heap.size + 1 + 1)) _ _ _ (by omega)).c0, ((St.at_ (x0 := (.bool (ngB i))) (x1 := (.slice A n c)) (x2 := (.int .i64 (s : Int))) (g := w.heap.size) E (by simp)).apart (g' := (w.heap.size + 1 + 1)) _ _ _ (by omega)).c1, ((St.at_ (x0 := (.bool (ngB i))) (x1 := (.slice A n c)) (x2 := (.int .i64 (s : Int))) (g := w.heap.size) E (by simp)).apart (g' := (w.heap.size + 1 + 1)) _ _ _ (by omega)).c2, ((St.at_ (x0 := (.bool (ngB j))) (x1 := (.slice A' n' c')) (x2 := (.int .i64 (t : Int))) (g := (w.heap.size + 1)) E (by simp)).apart (g' := (w.heap.size + 1 + 1)) _ _ _ (by omega)).c0, ((St.at_ (x0 := (.bool (ngB j))) (x1 := (.slice A' n' c')) (x2 := (.int .i64 (t : Int))) (g := (w.heap.size + 1)) E (by simp)).apart (g' := (w.heap.size + 1 + 1)) _ _ _ (by omega)).c1, ((St.at_ (x0 := (.bool (ngB j))) (x1 := (.slice A' n' c')) (x2 := (.int .i64 (t : Int))) (g := (w.heap.size + 1)) E (by simp)).apart (g' := (w.heap.size + 1 + 1)) _ _ _ (by omega)).c2⟩))
      (first | (go_at_call 63; refine (fast_is (a := i.natAbs) (b := j.natAbs) (St.got E (by simp)) (St.got E (by simp)) hn hn' HM.out).mono ?_; rintro e w5 ⟨A3, n3, c3, rfl, h1, _, hb1⟩; replace E := Lib.hid (St.push E.out hb1 h1); clear h1 hb1) | (go_at_call 47; refine (decimal_is (b := false) (A := A3) (n := n3) (c := c3) (s := r) (St.got E (by simp)) (by omega) HX.out).mono ?_; rintro e w6 ⟨rfl, hb1⟩; replace E := Lib.hid (St.step E.out hb1); clear hb1; obtain ⟨r0, r1, r2, rf0, rf1, rf2, rlt⟩ := St.at_ (x0 := .bool false) (x1 := .slice none 0 0) (x2 := .int .i64 0) (g := (w.heap.size + 1 + 1)) E (by simp)))
    all_goals
      go_wp2_with fail
      have EF := Lib.hid (St.store E.out (g := (w.heap.size + 1 + 1)) (x0 := .bool false) (x1 := .slice none 0 0) (x2 := .int .i64 0) (by simp) (noLimb_bool _) (noLimb_slice _ _ _) (noLimb_int _) [] (fun q hq => by cases hq) (.bool (ngB (x))) (.slice A3 n3 c3) (.int .i64 (r : Int)))
      obtain ⟨e0, e1, e2, _, _, _, _⟩ := St.at_ (x0 := .bool (ngB (x))) (x1 := .slice A3 n3 c3) (x2 := .int .i64 (r : Int)) (g := (w.heap.size + 1 + 1)) EF (by simp)
      exact bodyPost_ret (v := .agg #[.bool (ngB (x)), .slice A3 n3 c3, .int .i64 (r : Int)]) (by simp [results, Try.results32, go_sem, e0, e1, e2]) rfl ⟨A3, n3, c3, rfl, St.got EF (by simp), EF.out.bel⟩

set_option maxHeartbeats 4000000 in
theorem mul5_apart (A A' : Option Addr) (n c n' c' s t : Nat) (i j : Int) (w : World) (h : Num w w.heap.size A n c i.natAbs) (h' : Num w w.heap.size A' n' c' j.natAbs) (hn : n ≤ 1000000) (hn' : n' ≤ 1000000) (hs : s ≤ 100000) (ht : t ≤ 100000) (hb : ngB i ≠ ngB j) :
    Calls Try.prog 32 #[.agg #[.bool (ngB i), .slice A n c, .int .i64 (s : Int)], .agg #[.bool (ngB j), .slice A' n' c', .int .i64 (t : Int)]] w (RetDec w (i * j) (s + t)) := by
  have HM := Lib.hid (mul_num i j)
  obtain ⟨x, hx⟩ : ∃ x, i * j = x := ⟨_, rfl⟩
  have HX := Lib.hid (sgn_mul_apart hb)
  rw [hx] at HM HX
  rw [hx]
  have hb2 := bool_ne hb
  have hb3 := bool_neq hb
  clear hb hx
  have H := Lib.hid h
  have H' := Lib.hid h'
  clear h h'
  have hw : IntKind.i64.wrap ((s : Int) + (t : Int)) = (s : Int) + (t : Int) := IntWalk.i64_in _ ⟨by omega, by omega⟩
  have hmx := max_zero (P := Try.prog) (s := s)
  have hmy := max_zero (P := Try.prog) (s := t)
  have hst : (s : Int) + (t : Int) = ((s + t : Nat) : Int) := by omega
  have hdc : decide ((s : Int) ≤ 9223372036854775807 - (t : Int)) = true := decide_eq_true (by omega)
  obtain ⟨r, hr⟩ : ∃ r, r = s + t := ⟨_, rfl⟩
  rw [← hr] at hst ⊢
  rw [hst] at hw
  have hrb : r ≤ 200000 := by omega
  clear hr
  go_enter Try.func32, Try.ntmps32
  go_wp2_with fail
  generalize hW : World.alloc (World.alloc (World.alloc w _) _) _ = W0
  have E0 : St w W0 [(A, n, c, (i).natAbs), (A', n', c', (j).natAbs)] [((w.heap.size + 1 + 1), .bool false, .slice none 0 0, .int .i64 0), ((w.heap.size + 1), (.bool (ngB j)), (.slice A' n' c'), (.int .i64 (t : Int))), (w.heap.size, (.bool (ngB i)), (.slice A n c), (.int .i64 (s : Int)))] := by rw [← hW]; exact (((start_two H.out H'.out).lay rfl).lay (by simp)).lay (by simp)
  have E := Lib.hid E0
  clear hW E0
  obtain ⟨p0, p1, p2, pf0, pf1, pf2, plt⟩ := St.at_ (x0 := (.bool (ngB i))) (x1 := (.slice A n c)) (x2 := (.int .i64 (s : Int))) (g := w.heap.size) E (by simp)
  obtain ⟨q0, q1, q2, qf0, qf1, qf2, qlt⟩ := St.at_ (x0 := (.bool (ngB j))) (x1 := (.slice A' n' c')) (x2 := (.int .i64 (t : Int))) (g := (w.heap.size + 1)) E (by simp)
  
  clear p0 p1 p2 pf0 pf1 pf2 plt q0 q1 q2 qf0 qf1 qf2 qlt
  replace E := Lib.hid (St.drew E.out)
  go_region_held3 (fun v => v.cell? ⟨w.heap.size, 0, none⟩ = some (.bool (ngB i)) ∧ v.cell? ⟨w.heap.size, 1, none⟩ = some (.slice A n c) ∧ v.cell? ⟨w.heap.size, 2, none⟩ = some (.int .i64 (s : Int)) ∧ v.cell? ⟨w.heap.size + 1, 0, none⟩ = some (.bool (ngB j)) ∧ v.cell? ⟨w.heap.size + 1, 1, none⟩ = some (.slice A' n' c') ∧ v.cell? ⟨w.heap.size + 1, 2, none⟩ = some (.int .i64 (t : Int))) (first | (have X0 := St.at_ (x0 := (.bool (ngB i))) (x1 := (.slice A n c)) (x2 := (.int .i64 (s : Int))) (g := w.heap.size) E (by simp); have X1 := St.at_ (x0 := (.bool (ngB j))) (x1 := (.slice A' n' c')) (x2 := (.int .i64 (t : Int))) (g := (w.heap.size + 1)) E (by simp); with_reducible exact ⟨X0.c0, X0.c1, X0.c2, X1.c0, X1.c1, X1.c2⟩))
    (fail)
  all_goals
    go_wp2_with fail
    clear hmx hmy hdc
    replace E := Lib.hid (St.drew E.out)
    go_region_held3 (fun v => v.cell? ⟨w.heap.size, 0, none⟩ = some (.bool (ngB i)) ∧ v.cell? ⟨w.heap.size, 1, none⟩ = some (.slice A n c) ∧ v.cell? ⟨w.heap.size, 2, none⟩ = some (.int .i64 (s : Int)) ∧ v.cell? ⟨w.heap.size + 1, 0, none⟩ = some (.bool (ngB j)) ∧ v.cell? ⟨w.heap.size + 1, 1, none⟩ = some (.slice A' n' c') ∧ v.cell? ⟨w.heap.size + 1, 2, none⟩ = some (.int .i64 (t : Int))) (first | (have X0 := St.at_ (x0 := (.bool (ngB i))) (x1 := (.slice A n c)) (x2 := (.int .i64 (s : Int))) (g := w.heap.size) E (by simp); have X1 := St.at_ (x0 := (.bool (ngB j))) (x1 := (.slice A' n' c')) (x2 := (.int .i64 (t : Int))) (g := (w.heap.size + 1)) E (by simp); with_reducible exact ⟨X0.c0, X0.c1, X0.c2, X1.c0, X1.c1, X1.c2⟩) | (with_reducible exact ⟨((St.at_ (x0 := (.bool (ngB i))) (x1 := (.slice A n c)) (x2 := (.int .i64 (s : Int))) (g := w.heap.size) E (by simp)).apart (g' := (w.heap.size + 1 + 1)) _ _ _ (by omega)).c0, ((St.at_ (x0 := (.bool (ngB i))) (x1 := (.slice A n c)) (x2 := (.int .i64 (s : Int))) (g := w.heap.size) E (by simp)).apart (g' := (w.heap.size + 1 + 1)) _ _ _ (by omega)).c1, ((St.at_ (x0 := (.bool (ngB i))) (x1 := (.slice A n c)) (x2 := (.int .i64 (s : Int))) (g := w.heap.size) E (by simp)).apart (g' := (w.heap.size + 1 + 1)) _ _ _ (by omega)).c2, ((St.at_ (x0 := (.bool (ngB j))) (x1 := (.slice A' n' c')) (x2 := (.int .i64 (t : Int))) (g := (w.heap.size + 1)) E (by simp)).apart (g' := (w.heap.size + 1 + 1)) _ _ _ (by omega)).c0, ((St.at_ (x0 := (.bool (ngB j))) (x1 := (.slice A' n' c')) (x2 := (.int .i64 (t : Int))) (g := (w.heap.size + 1)) E (by simp)).apart (g' := (w.heap.size + 1 + 1)) _ _ _ (by omega)).c1, ((St.at_ (x0 := (.bool (ngB j))) (x1 := (.slice A' n' c')) (x2 := (.int .i64 (t : Int))) (g := (w.heap.size + 1)) E (by simp)).apart (g' := (w.heap.size + 1 + 1)) _ _ _ (by omega)).c2⟩))
      (first | (go_at_call 63; refine (fast_is (a := i.natAbs) (b := j.natAbs) (St.got E (by simp)) (St.got E (by simp)) hn hn' HM.out).mono ?_; rintro e w5 ⟨A3, n3, c3, rfl, h1, _, hb1⟩; replace E := Lib.hid (St.push E.out hb1 h1); clear h1 hb1) | (go_at_call 47; refine (decimal_is (b := true) (A := A3) (n := n3) (c := c3) (s := r) (St.got E (by simp)) (by omega) HX.out).mono ?_; rintro e w6 ⟨rfl, hb1⟩; replace E := Lib.hid (St.step E.out hb1); clear hb1; obtain ⟨r0, r1, r2, rf0, rf1, rf2, rlt⟩ := St.at_ (x0 := .bool false) (x1 := .slice none 0 0) (x2 := .int .i64 0) (g := (w.heap.size + 1 + 1)) E (by simp)))
    all_goals
      go_wp2_with fail
      have EF := Lib.hid (St.store E.out (g := (w.heap.size + 1 + 1)) (x0 := .bool false) (x1 := .slice none 0 0) (x2 := .int .i64 0) (by simp) (noLimb_bool _) (noLimb_slice _ _ _) (noLimb_int _) [] (fun q hq => by cases hq) (.bool (ngB (x))) (.slice A3 n3 c3) (.int .i64 (r : Int)))
      obtain ⟨e0, e1, e2, _, _, _, _⟩ := St.at_ (x0 := .bool (ngB (x))) (x1 := .slice A3 n3 c3) (x2 := .int .i64 (r : Int)) (g := (w.heap.size + 1 + 1)) EF (by simp)
      exact bodyPost_ret (v := .agg #[.bool (ngB (x)), .slice A3 n3 c3, .int .i64 (r : Int)]) (by simp [results, Try.results32, go_sem, e0, e1, e2]) rfl ⟨A3, n3, c3, rfl, St.got EF (by simp), EF.out.bel⟩

theorem mul5_any (A A' : Option Addr) (n c n' c' s t : Nat) (i j : Int) (w : World) (h : Num w w.heap.size A n c i.natAbs) (h' : Num w w.heap.size A' n' c' j.natAbs) (hn : n ≤ 1000000) (hn' : n' ≤ 1000000) (hs : s ≤ 100000) (ht : t ≤ 100000) :
    Calls Try.prog 32 #[.agg #[.bool (ngB i), .slice A n c, .int .i64 (s : Int)], .agg #[.bool (ngB j), .slice A' n' c', .int .i64 (t : Int)]] w (RetDec w (i * j) (s + t)) := by
  by_cases hb : ngB i = ngB j
  · exact mul5_same A A' n c n' c' s t i j w h h' hn hn' hs ht hb
  · exact mul5_apart A A' n c n' c' s t i j w h h' hn hn' hs ht hb

set_option maxHeartbeats 4000000 in
theorem refMul5_same (A A' : Option Addr) (n c n' c' s t : Nat) (i j : Int) (w : World) (h : Num w w.heap.size A n c i.natAbs) (h' : Num w w.heap.size A' n' c' j.natAbs) (hn : n ≤ 100000) (hn' : n' ≤ 100000) (hs : s ≤ 100000) (ht : t ≤ 100000) (hb : ngB i = ngB j) :
    Calls Try.prog 33 #[.agg #[.bool (ngB i), .slice A n c, .int .i64 (s : Int)], .agg #[.bool (ngB j), .slice A' n' c', .int .i64 (t : Int)]] w (RetDec w (i * j) (s + t)) := by
  have HM := Lib.hid (mul_num i j)
  obtain ⟨x, hx⟩ : ∃ x, i * j = x := ⟨_, rfl⟩
  have HX := Lib.hid (sgn_mul_same hb)
  rw [hx] at HM HX
  rw [hx]
  have hb2 := bool_eq hb
  have hb3 := bool_neq' hb
  clear hb hx
  have H := Lib.hid h
  have H' := Lib.hid h'
  clear h h'
  have hw : IntKind.i64.wrap ((s : Int) + (t : Int)) = (s : Int) + (t : Int) := IntWalk.i64_in _ ⟨by omega, by omega⟩
  have hmx := max_zero (P := Try.prog) (s := s)
  have hmy := max_zero (P := Try.prog) (s := t)
  have hst : (s : Int) + (t : Int) = ((s + t : Nat) : Int) := by omega
  have hdc : decide ((s : Int) ≤ 9223372036854775807 - (t : Int)) = true := decide_eq_true (by omega)
  obtain ⟨r, hr⟩ : ∃ r, r = s + t := ⟨_, rfl⟩
  rw [← hr] at hst ⊢
  rw [hst] at hw
  have hrb : r ≤ 200000 := by omega
  clear hr
  go_enter Try.func33, Try.ntmps33
  go_wp2_with fail
  generalize hW : World.alloc (World.alloc (World.alloc w _) _) _ = W0
  have E0 : St w W0 [(A, n, c, (i).natAbs), (A', n', c', (j).natAbs)] [((w.heap.size + 1 + 1), .bool false, .slice none 0 0, .int .i64 0), ((w.heap.size + 1), (.bool (ngB j)), (.slice A' n' c'), (.int .i64 (t : Int))), (w.heap.size, (.bool (ngB i)), (.slice A n c), (.int .i64 (s : Int)))] := by rw [← hW]; exact (((start_two H.out H'.out).lay rfl).lay (by simp)).lay (by simp)
  have E := Lib.hid E0
  clear hW E0
  obtain ⟨p0, p1, p2, pf0, pf1, pf2, plt⟩ := St.at_ (x0 := (.bool (ngB i))) (x1 := (.slice A n c)) (x2 := (.int .i64 (s : Int))) (g := w.heap.size) E (by simp)
  obtain ⟨q0, q1, q2, qf0, qf1, qf2, qlt⟩ := St.at_ (x0 := (.bool (ngB j))) (x1 := (.slice A' n' c')) (x2 := (.int .i64 (t : Int))) (g := (w.heap.size + 1)) E (by simp)
  
  clear p0 p1 p2 pf0 pf1 pf2 plt q0 q1 q2 qf0 qf1 qf2 qlt
  clear hmx hmy hdc
  replace E := Lib.hid (St.drew E.out)
  go_region_held3 (fun v => v.cell? ⟨w.heap.size, 0, none⟩ = some (.bool (ngB i)) ∧ v.cell? ⟨w.heap.size, 1, none⟩ = some (.slice A n c) ∧ v.cell? ⟨w.heap.size, 2, none⟩ = some (.int .i64 (s : Int)) ∧ v.cell? ⟨w.heap.size + 1, 0, none⟩ = some (.bool (ngB j)) ∧ v.cell? ⟨w.heap.size + 1, 1, none⟩ = some (.slice A' n' c') ∧ v.cell? ⟨w.heap.size + 1, 2, none⟩ = some (.int .i64 (t : Int))) (first | (have X0 := St.at_ (x0 := (.bool (ngB i))) (x1 := (.slice A n c)) (x2 := (.int .i64 (s : Int))) (g := w.heap.size) E (by simp); have X1 := St.at_ (x0 := (.bool (ngB j))) (x1 := (.slice A' n' c')) (x2 := (.int .i64 (t : Int))) (g := (w.heap.size + 1)) E (by simp); with_reducible exact ⟨X0.c0, X0.c1, X0.c2, X1.c0, X1.c1, X1.c2⟩) | (with_reducible exact ⟨((St.at_ (x0 := (.bool (ngB i))) (x1 := (.slice A n c)) (x2 := (.int .i64 (s : Int))) (g := w.heap.size) E (by simp)).apart (g' := (w.heap.size + 1 + 1)) _ _ _ (by omega)).c0, ((St.at_ (x0 := (.bool (ngB i))) (x1 := (.slice A n c)) (x2 := (.int .i64 (s : Int))) (g := w.heap.size) E (by simp)).apart (g' := (w.heap.size + 1 + 1)) _ _ _ (by omega)).c1, ((St.at_ (x0 := (.bool (ngB i))) (x1 := (.slice A n c)) (x2 := (.int .i64 (s : Int))) (g := w.heap.size) E (by simp)).apart (g' := (w.heap.size + 1 + 1)) _ _ _ (by omega)).c2, ((St.at_ (x0 := (.bool (ngB j))) (x1 := (.slice A' n' c')) (x2 := (.int .i64 (t : Int))) (g := (w.heap.size + 1)) E (by simp)).apart (g' := (w.heap.size + 1 + 1)) _ _ _ (by omega)).c0, ((St.at_ (x0 := (.bool (ngB j))) (x1 := (.slice A' n' c')) (x2 := (.int .i64 (t : Int))) (g := (w.heap.size + 1)) E (by simp)).apart (g' := (w.heap.size + 1 + 1)) _ _ _ (by omega)).c1, ((St.at_ (x0 := (.bool (ngB j))) (x1 := (.slice A' n' c')) (x2 := (.int .i64 (t : Int))) (g := (w.heap.size + 1)) E (by simp)).apart (g' := (w.heap.size + 1 + 1)) _ _ _ (by omega)).c2⟩))
    (first | (go_at_call 64; refine (refMul_is (a := i.natAbs) (b := j.natAbs) (St.got E (by simp)) (St.got E (by simp)) hn hn' HM.out).mono ?_; rintro e w5 ⟨A3, n3, c3, rfl, h1, hb1⟩; replace E := Lib.hid (St.push E.out hb1 h1); clear h1 hb1) | (go_at_call 49; refine (refDone_is (b := false) (A := A3) (n := n3) (c := c3) (s := r) (St.got E (by simp)) (by omega) HX.out).mono ?_; rintro e w6 ⟨rfl, hb1⟩; replace E := Lib.hid (St.step E.out hb1); clear hb1; obtain ⟨r0, r1, r2, rf0, rf1, rf2, rlt⟩ := St.at_ (x0 := .bool false) (x1 := .slice none 0 0) (x2 := .int .i64 0) (g := (w.heap.size + 1 + 1)) E (by simp)))
  all_goals
    go_wp2_with fail
    have EF := Lib.hid (St.store E.out (g := (w.heap.size + 1 + 1)) (x0 := .bool false) (x1 := .slice none 0 0) (x2 := .int .i64 0) (by simp) (noLimb_bool _) (noLimb_slice _ _ _) (noLimb_int _) [] (fun q hq => by cases hq) (.bool (ngB (x))) (.slice A3 n3 c3) (.int .i64 (r : Int)))
    obtain ⟨e0, e1, e2, _, _, _, _⟩ := St.at_ (x0 := .bool (ngB (x))) (x1 := .slice A3 n3 c3) (x2 := .int .i64 (r : Int)) (g := (w.heap.size + 1 + 1)) EF (by simp)
    exact bodyPost_ret (v := .agg #[.bool (ngB (x)), .slice A3 n3 c3, .int .i64 (r : Int)]) (by simp [results, Try.results33, go_sem, e0, e1, e2]) rfl ⟨A3, n3, c3, rfl, St.got EF (by simp), EF.out.bel⟩

set_option maxHeartbeats 4000000 in
theorem refMul5_apart (A A' : Option Addr) (n c n' c' s t : Nat) (i j : Int) (w : World) (h : Num w w.heap.size A n c i.natAbs) (h' : Num w w.heap.size A' n' c' j.natAbs) (hn : n ≤ 100000) (hn' : n' ≤ 100000) (hs : s ≤ 100000) (ht : t ≤ 100000) (hb : ngB i ≠ ngB j) :
    Calls Try.prog 33 #[.agg #[.bool (ngB i), .slice A n c, .int .i64 (s : Int)], .agg #[.bool (ngB j), .slice A' n' c', .int .i64 (t : Int)]] w (RetDec w (i * j) (s + t)) := by
  have HM := Lib.hid (mul_num i j)
  obtain ⟨x, hx⟩ : ∃ x, i * j = x := ⟨_, rfl⟩
  have HX := Lib.hid (sgn_mul_apart hb)
  rw [hx] at HM HX
  rw [hx]
  have hb2 := bool_ne hb
  have hb3 := bool_neq hb
  clear hb hx
  have H := Lib.hid h
  have H' := Lib.hid h'
  clear h h'
  have hw : IntKind.i64.wrap ((s : Int) + (t : Int)) = (s : Int) + (t : Int) := IntWalk.i64_in _ ⟨by omega, by omega⟩
  have hmx := max_zero (P := Try.prog) (s := s)
  have hmy := max_zero (P := Try.prog) (s := t)
  have hst : (s : Int) + (t : Int) = ((s + t : Nat) : Int) := by omega
  have hdc : decide ((s : Int) ≤ 9223372036854775807 - (t : Int)) = true := decide_eq_true (by omega)
  obtain ⟨r, hr⟩ : ∃ r, r = s + t := ⟨_, rfl⟩
  rw [← hr] at hst ⊢
  rw [hst] at hw
  have hrb : r ≤ 200000 := by omega
  clear hr
  go_enter Try.func33, Try.ntmps33
  go_wp2_with fail
  generalize hW : World.alloc (World.alloc (World.alloc w _) _) _ = W0
  have E0 : St w W0 [(A, n, c, (i).natAbs), (A', n', c', (j).natAbs)] [((w.heap.size + 1 + 1), .bool false, .slice none 0 0, .int .i64 0), ((w.heap.size + 1), (.bool (ngB j)), (.slice A' n' c'), (.int .i64 (t : Int))), (w.heap.size, (.bool (ngB i)), (.slice A n c), (.int .i64 (s : Int)))] := by rw [← hW]; exact (((start_two H.out H'.out).lay rfl).lay (by simp)).lay (by simp)
  have E := Lib.hid E0
  clear hW E0
  obtain ⟨p0, p1, p2, pf0, pf1, pf2, plt⟩ := St.at_ (x0 := (.bool (ngB i))) (x1 := (.slice A n c)) (x2 := (.int .i64 (s : Int))) (g := w.heap.size) E (by simp)
  obtain ⟨q0, q1, q2, qf0, qf1, qf2, qlt⟩ := St.at_ (x0 := (.bool (ngB j))) (x1 := (.slice A' n' c')) (x2 := (.int .i64 (t : Int))) (g := (w.heap.size + 1)) E (by simp)
  
  clear p0 p1 p2 pf0 pf1 pf2 plt q0 q1 q2 qf0 qf1 qf2 qlt
  clear hmx hmy hdc
  replace E := Lib.hid (St.drew E.out)
  go_region_held3 (fun v => v.cell? ⟨w.heap.size, 0, none⟩ = some (.bool (ngB i)) ∧ v.cell? ⟨w.heap.size, 1, none⟩ = some (.slice A n c) ∧ v.cell? ⟨w.heap.size, 2, none⟩ = some (.int .i64 (s : Int)) ∧ v.cell? ⟨w.heap.size + 1, 0, none⟩ = some (.bool (ngB j)) ∧ v.cell? ⟨w.heap.size + 1, 1, none⟩ = some (.slice A' n' c') ∧ v.cell? ⟨w.heap.size + 1, 2, none⟩ = some (.int .i64 (t : Int))) (first | (have X0 := St.at_ (x0 := (.bool (ngB i))) (x1 := (.slice A n c)) (x2 := (.int .i64 (s : Int))) (g := w.heap.size) E (by simp); have X1 := St.at_ (x0 := (.bool (ngB j))) (x1 := (.slice A' n' c')) (x2 := (.int .i64 (t : Int))) (g := (w.heap.size + 1)) E (by simp); with_reducible exact ⟨X0.c0, X0.c1, X0.c2, X1.c0, X1.c1, X1.c2⟩) | (with_reducible exact ⟨((St.at_ (x0 := (.bool (ngB i))) (x1 := (.slice A n c)) (x2 := (.int .i64 (s : Int))) (g := w.heap.size) E (by simp)).apart (g' := (w.heap.size + 1 + 1)) _ _ _ (by omega)).c0, ((St.at_ (x0 := (.bool (ngB i))) (x1 := (.slice A n c)) (x2 := (.int .i64 (s : Int))) (g := w.heap.size) E (by simp)).apart (g' := (w.heap.size + 1 + 1)) _ _ _ (by omega)).c1, ((St.at_ (x0 := (.bool (ngB i))) (x1 := (.slice A n c)) (x2 := (.int .i64 (s : Int))) (g := w.heap.size) E (by simp)).apart (g' := (w.heap.size + 1 + 1)) _ _ _ (by omega)).c2, ((St.at_ (x0 := (.bool (ngB j))) (x1 := (.slice A' n' c')) (x2 := (.int .i64 (t : Int))) (g := (w.heap.size + 1)) E (by simp)).apart (g' := (w.heap.size + 1 + 1)) _ _ _ (by omega)).c0, ((St.at_ (x0 := (.bool (ngB j))) (x1 := (.slice A' n' c')) (x2 := (.int .i64 (t : Int))) (g := (w.heap.size + 1)) E (by simp)).apart (g' := (w.heap.size + 1 + 1)) _ _ _ (by omega)).c1, ((St.at_ (x0 := (.bool (ngB j))) (x1 := (.slice A' n' c')) (x2 := (.int .i64 (t : Int))) (g := (w.heap.size + 1)) E (by simp)).apart (g' := (w.heap.size + 1 + 1)) _ _ _ (by omega)).c2⟩))
    (first | (go_at_call 64; refine (refMul_is (a := i.natAbs) (b := j.natAbs) (St.got E (by simp)) (St.got E (by simp)) hn hn' HM.out).mono ?_; rintro e w5 ⟨A3, n3, c3, rfl, h1, hb1⟩; replace E := Lib.hid (St.push E.out hb1 h1); clear h1 hb1) | (go_at_call 49; refine (refDone_is (b := true) (A := A3) (n := n3) (c := c3) (s := r) (St.got E (by simp)) (by omega) HX.out).mono ?_; rintro e w6 ⟨rfl, hb1⟩; replace E := Lib.hid (St.step E.out hb1); clear hb1; obtain ⟨r0, r1, r2, rf0, rf1, rf2, rlt⟩ := St.at_ (x0 := .bool false) (x1 := .slice none 0 0) (x2 := .int .i64 0) (g := (w.heap.size + 1 + 1)) E (by simp)))
  all_goals
    go_wp2_with fail
    have EF := Lib.hid (St.store E.out (g := (w.heap.size + 1 + 1)) (x0 := .bool false) (x1 := .slice none 0 0) (x2 := .int .i64 0) (by simp) (noLimb_bool _) (noLimb_slice _ _ _) (noLimb_int _) [] (fun q hq => by cases hq) (.bool (ngB (x))) (.slice A3 n3 c3) (.int .i64 (r : Int)))
    obtain ⟨e0, e1, e2, _, _, _, _⟩ := St.at_ (x0 := .bool (ngB (x))) (x1 := .slice A3 n3 c3) (x2 := .int .i64 (r : Int)) (g := (w.heap.size + 1 + 1)) EF (by simp)
    exact bodyPost_ret (v := .agg #[.bool (ngB (x)), .slice A3 n3 c3, .int .i64 (r : Int)]) (by simp [results, Try.results33, go_sem, e0, e1, e2]) rfl ⟨A3, n3, c3, rfl, St.got EF (by simp), EF.out.bel⟩

theorem refMul5_any (A A' : Option Addr) (n c n' c' s t : Nat) (i j : Int) (w : World) (h : Num w w.heap.size A n c i.natAbs) (h' : Num w w.heap.size A' n' c' j.natAbs) (hn : n ≤ 100000) (hn' : n' ≤ 100000) (hs : s ≤ 100000) (ht : t ≤ 100000) :
    Calls Try.prog 33 #[.agg #[.bool (ngB i), .slice A n c, .int .i64 (s : Int)], .agg #[.bool (ngB j), .slice A' n' c', .int .i64 (t : Int)]] w (RetDec w (i * j) (s + t)) := by
  by_cases hb : ngB i = ngB j
  · exact refMul5_same A A' n c n' c' s t i j w h h' hn hn' hs ht hb
  · exact refMul5_apart A A' n c n' c' s t i j w h h' hn hn' hs ht hb

end Go.Proofs.Ytafbkoejobkncaa
