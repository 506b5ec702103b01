/-
  Contracts of layer 5, the sixth part: cmpSizes, Cmp, Same.
-/
import Derived.Test.YtafbkoejobkncaaDecE
namespace Go.Proofs.Ytafbkoejobkncaa
open Go.RowKit

theorem lt_of_nd {x y : Nat} (h : nd x < nd y) : x < y := by
  rcases Nat.lt_or_ge x y with h1 | h1
  · exact h1
  · obtain ⟨k, hk⟩ : ∃ k, nd x = k + 1 := ⟨nd x - 1, by have := nd_pos x; omega⟩
    have h2 := lt_pow_nd x
    rw [hk] at h2
    have := nd_le_of_lt k (Nat.lt_of_le_of_lt h1 h2)
    omega
theorem ahead_lt {a b s t M : Nat} (ha : 0 < a) (hb : 0 < b) (hs : s ≤ M) (ht : t ≤ M) (h : (nd a : Int) - (s : Int) < (nd b : Int) - (t : Int)) : a * 10 ^ (M - s) < b * 10 ^ (M - t) := by
  refine lt_of_nd ?_
  rw [nd_mul ha, nd_mul hb]
  omega
theorem up_pos {i : Int} (s M : Nat) (h : 0 < i) : 0 < up i s M := Int.mul_pos h (by have := ten_pos (M - s); omega)
theorem up_neg {i : Int} (s M : Nat) (h : i < 0) : up i s M < 0 := Int.mul_neg_of_neg_of_pos h (by have := ten_pos (M - s); omega)
theorem up_zero (s M : Nat) : up 0 s M = 0 := Int.zero_mul _
theorem cmpZ_pos {x y : Int} (hx : 0 ≤ x) (hy : 0 ≤ y) : cmpN x.natAbs y.natAbs = cmpZ x y := by
  unfold cmpN cmpZ
  split <;> split <;> (try split) <;> (try split) <;> omega
theorem cmpZ_neg {x y : Int} (hx : x ≤ 0) (hy : y ≤ 0) : -cmpN x.natAbs y.natAbs = cmpZ x y := by
  unfold cmpN cmpZ
  split <;> split <;> (try split) <;> (try split) <;> omega
/-- Two decimals by value. -/
def cmpD (i : Int) (s : Nat) (j : Int) (t : Nat) : Int := cmpZ (up i s (max s t)) (up j t (max s t))
theorem cmpD_sign {i j : Int} (s t : Nat) (h : i.sign ≠ j.sign ∨ i = 0) : cmpZ i.sign j.sign = cmpD i s j t := by
  unfold cmpD
  generalize max s t = M
  rcases Int.lt_trichotomy i 0 with hi | hi | hi <;> rcases Int.lt_trichotomy j 0 with hj | hj | hj
  · rw [Int.sign_eq_neg_one_iff_neg.2 hi, Int.sign_eq_neg_one_iff_neg.2 hj] at h; exfalso; rcases h with h | h; exact h rfl; omega
  · subst hj; rw [Int.sign_eq_neg_one_iff_neg.2 hi, up_zero, cmpZ_lt (up_neg s M hi)]; rfl
  · rw [Int.sign_eq_neg_one_iff_neg.2 hi, Int.sign_eq_one_iff_pos.2 hj, cmpZ_lt (Int.lt_trans (up_neg s M hi) (up_pos t M hj))]; rfl
  · subst hi; rw [Int.sign_eq_neg_one_iff_neg.2 hj, up_zero, cmpZ_gt (up_neg t M hj)]; rfl
  · subst hi; subst hj; rw [up_zero, up_zero]; rfl
  · subst hi; rw [Int.sign_eq_one_iff_pos.2 hj, up_zero, cmpZ_lt (up_pos t M hj)]; rfl
  · rw [Int.sign_eq_neg_one_iff_neg.2 hj, Int.sign_eq_one_iff_pos.2 hi, cmpZ_gt (Int.lt_trans (up_neg t M hj) (up_pos s M hi))]; rfl
  · subst hj; rw [Int.sign_eq_one_iff_pos.2 hi, up_zero, cmpZ_gt (up_pos s M hi)]; rfl
  · rw [Int.sign_eq_one_iff_pos.2 hi, Int.sign_eq_one_iff_pos.2 hj] at h; exfalso; rcases h with h | h; exact h rfl; omega
theorem compare_is {x y z : Int} {w : World} (h : cmpZ x y = z) : Calls Try.prog 54 #[.int .i64 x, .int .i64 y] w fun e w' => e = .returned (.int .i64 z) ∧ w = w' := by
  subst h; exact compare_any x y w
theorem sign_is {A : Option Addr} {n c s : Nat} {i z : Int} {w : World} (h : Num w w.heap.size A n c i.natAbs) (hz : i.sign = z) :
    Calls Try.prog 21 #[.agg #[.bool (ngB i), .slice A n c, .int .i64 (s : Int)]] w (RetVal w (.int .i64 z)) := by
  subst hz; exact sign_any A n c s i w h
theorem refSign_is {A : Option Addr} {n c s : Nat} {i z : Int} {w : World} (h : Num w w.heap.size A n c i.natAbs) (hz : i.sign = z) :
    Calls Try.prog 22 #[.agg #[.bool (ngB i), .slice A n c, .int .i64 (s : Int)]] w (RetVal w (.int .i64 z)) := by
  subst hz; exact refSign_any A n c s i w h
theorem cmpN_size (a b : Nat) : -1 ≤ cmpN a b ∧ cmpN a b ≤ 1 := by
  unfold cmpN; split
  · omega
  · split <;> omega

set_option maxHeartbeats 4000000 in
theorem cmpSizes_same (A A' : Option Addr) (n c n' c' s : Nat) (i j : Int) (w : World) (h : Num w w.heap.size A n c i.natAbs) (h' : Num w w.heap.size A' n' c' j.natAbs) :
    Calls Try.prog 55 #[.agg #[.bool (ngB i), .slice A n c, .int .i64 (s : Int)], .agg #[.bool (ngB j), .slice A' n' c', .int .i64 (s : Int)]] w (RetVal w (.int .i64 (cmpN i.natAbs j.natAbs))) := by
  have H := Lib.hid h
  have H' := Lib.hid h'
  clear h h'
  go_enter Try.func55, Try.ntmps55
  go_wp2_with fail
  generalize hW : World.alloc (World.alloc w _) _ = W0
  have E0 : St w W0 [(A, n, c, (i).natAbs), (A', n', c', (j).natAbs)] [((w.heap.size + 1), (.bool (ngB j)), (.slice A' n' c'), (.int .i64 (s : Int))), (w.heap.size, (.bool (ngB i)), (.slice A n c), (.int .i64 (s : Int)))] := by rw [← hW]; exact ((start_two H.out H'.out).lay rfl).lay (by simp)
  have E := Lib.hid E0
  clear hW E0
  obtain ⟨p0, p1, p2, pf0, pf1, pf2, plt⟩ := St.at_ (x0 := (.bool (ngB i))) (x1 := (.slice A n c)) (x2 := (.int .i64 (s : Int))) (g := w.heap.size) E (by simp)
  obtain ⟨q0, q1, q2, qf0, qf1, qf2, qlt⟩ := St.at_ (x0 := (.bool (ngB j))) (x1 := (.slice A' n' c')) (x2 := (.int .i64 (s : Int))) (g := (w.heap.size + 1)) E (by simp)
  go_wp2_with fail
  refine (cmp_any A A' n c n' c' i.natAbs j.natAbs _ (St.got E (by simp)) (St.got E (by simp))).mono ?_; rintro e w1 ⟨rfl, hb1⟩; replace E := Lib.hid (St.step E.out hb1); clear hb1
  go_wp2_with fail
  go_ret
  exact ⟨rfl, E.out.bel⟩

set_option maxHeartbeats 4000000 in
theorem cmpSizes_lt (A A' : Option Addr) (n c n' c' s t : Nat) (i j : Int) (w : World) (h : Num w w.heap.size A n c i.natAbs) (h' : Num w w.heap.size A' n' c' j.natAbs) (hn : n ≤ 1000000) (hn' : n' ≤ 1000000) (hs : s ≤ 100000) (ht : t ≤ 100000) (hst : s ≠ t) (hz : (nd i.natAbs : Int) - (s : Int) < (nd j.natAbs : Int) - (t : Int)) :
    Calls Try.prog 55 #[.agg #[.bool (ngB i), .slice A n c, .int .i64 (s : Int)], .agg #[.bool (ngB j), .slice A' n' c', .int .i64 (t : Int)]] w (RetVal w (.int .i64 (-1))) := by
  have H := Lib.hid h
  have H' := Lib.hid h'
  have HZ := Lib.hid (cmpZ_lt hz)
  have hst2 : ((s : Int) == (t : Int)) = false := by simp; omega
  clear h h' hz hst
  go_enter Try.func55, Try.ntmps55
  go_wp2_with fail
  generalize hW : World.alloc (World.alloc w _) _ = W0
  have E0 : St w W0 [(A, n, c, (i).natAbs), (A', n', c', (j).natAbs)] [((w.heap.size + 1), (.bool (ngB j)), (.slice A' n' c'), (.int .i64 (t : Int))), (w.heap.size, (.bool (ngB i)), (.slice A n c), (.int .i64 (s : Int)))] := by rw [← hW]; exact ((start_two H.out H'.out).lay rfl).lay (by simp)
  have E := Lib.hid E0
  clear hW E0
  obtain ⟨p0, p1, p2, pf0, pf1, pf2, plt⟩ := St.at_ (x0 := (.bool (ngB i))) (x1 := (.slice A n c)) (x2 := (.int .i64 (s : Int))) (g := w.heap.size) E (by simp)
  obtain ⟨q0, q1, q2, qf0, qf1, qf2, qlt⟩ := St.at_ (x0 := (.bool (ngB j))) (x1 := (.slice A' n' c')) (x2 := (.int .i64 (t : Int))) (g := (w.heap.size + 1)) E (by simp)
  go_wp2_with fail
  clear hst2
  replace E := Lib.hid (St.drew E.out)
  clear p0 p1 p2 pf0 pf1 pf2 plt q0 q1 q2 qf0 qf1 qf2 qlt
  go_region_held3 (fun v => v.cell? ⟨w.heap.size, 0, none⟩ = some (.bool (ngB i)) ∧ v.cell? ⟨w.heap.size, 1, none⟩ = some (.slice A n c) ∧ v.cell? ⟨w.heap.size, 2, none⟩ = some (.int .i64 (s : Int)) ∧ v.cell? ⟨w.heap.size + 1, 0, none⟩ = some (.bool (ngB j)) ∧ v.cell? ⟨w.heap.size + 1, 1, none⟩ = some (.slice A' n' c') ∧ v.cell? ⟨w.heap.size + 1, 2, none⟩ = some (.int .i64 (t : Int))) (first | (have X0 := St.at_ (x0 := (.bool (ngB i))) (x1 := (.slice A n c)) (x2 := (.int .i64 (s : Int))) (g := w.heap.size) E (by simp); have X1 := St.at_ (x0 := (.bool (ngB j))) (x1 := (.slice A' n' c')) (x2 := (.int .i64 (t : Int))) (g := (w.heap.size + 1)) E (by simp); with_reducible exact ⟨X0.c0, X0.c1, X0.c2, X1.c0, X1.c1, X1.c2⟩))
    (first | (go_at_call 76; first | ((with_reducible refine (ahead_any A n c s i _ (St.got E (by simp)) hn hs).mono ?_); rintro e w1 ⟨rfl, hb1⟩; replace E := Lib.hid (St.step E.out hb1); clear hb1) | ((with_reducible refine (ahead_any A' n' c' t j _ (St.got E (by simp)) hn' ht).mono ?_); rintro e w2 ⟨rfl, hb2⟩; replace E := Lib.hid (St.step E.out hb2); clear hb2)) | (go_at_call 54; refine (compare_is HZ.out).mono ?_; rintro e w3 ⟨rfl, rfl⟩))
  all_goals
    go_wp2_with fail
    go_ret
    exact ⟨rfl, E.out.bel⟩

set_option maxHeartbeats 4000000 in
theorem cmpSizes_gt (A A' : Option Addr) (n c n' c' s t : Nat) (i j : Int) (w : World) (h : Num w w.heap.size A n c i.natAbs) (h' : Num w w.heap.size A' n' c' j.natAbs) (hn : n ≤ 1000000) (hn' : n' ≤ 1000000) (hs : s ≤ 100000) (ht : t ≤ 100000) (hst : s ≠ t) (hz : (nd j.natAbs : Int) - (t : Int) < (nd i.natAbs : Int) - (s : Int)) :
    Calls Try.prog 55 #[.agg #[.bool (ngB i), .slice A n c, .int .i64 (s : Int)], .agg #[.bool (ngB j), .slice A' n' c', .int .i64 (t : Int)]] w (RetVal w (.int .i64 1)) := by
  have H := Lib.hid h
  have H' := Lib.hid h'
  have HZ := Lib.hid (cmpZ_gt hz)
  have hst2 : ((s : Int) == (t : Int)) = false := by simp; omega
  clear h h' hz hst
  go_enter Try.func55, Try.ntmps55
  go_wp2_with fail
  generalize hW : World.alloc (World.alloc w _) _ = W0
  have E0 : St w W0 [(A, n, c, (i).natAbs), (A', n', c', (j).natAbs)] [((w.heap.size + 1), (.bool (ngB j)), (.slice A' n' c'), (.int .i64 (t : Int))), (w.heap.size, (.bool (ngB i)), (.slice A n c), (.int .i64 (s : Int)))] := by rw [← hW]; exact ((start_two H.out H'.out).lay rfl).lay (by simp)
  have E := Lib.hid E0
  clear hW E0
  obtain ⟨p0, p1, p2, pf0, pf1, pf2, plt⟩ := St.at_ (x0 := (.bool (ngB i))) (x1 := (.slice A n c)) (x2 := (.int .i64 (s : Int))) (g := w.heap.size) E (by simp)
  obtain ⟨q0, q1, q2, qf0, qf1, qf2, qlt⟩ := St.at_ (x0 := (.bool (ngB j))) (x1 := (.slice A' n' c')) (x2 := (.int .i64 (t : Int))) (g := (w.heap.size + 1)) E (by simp)
  go_wp2_with fail
  clear hst2
  replace E := Lib.hid (St.drew E.out)
  clear p0 p1 p2 pf0 pf1 pf2 plt q0 q1 q2 qf0 qf1 qf2 qlt
  go_region_held3 (fun v => v.cell? ⟨w.heap.size, 0, none⟩ = some (.bool (ngB i)) ∧ v.cell? ⟨w.heap.size, 1, none⟩ = some (.slice A n c) ∧ v.cell? ⟨w.heap.size, 2, none⟩ = some (.int .i64 (s : Int)) ∧ v.cell? ⟨w.heap.size + 1, 0, none⟩ = some (.bool (ngB j)) ∧ v.cell? ⟨w.heap.size + 1, 1, none⟩ = some (.slice A' n' c') ∧ v.cell? ⟨w.heap.size + 1, 2, none⟩ = some (.int .i64 (t : Int))) (first | (have X0 := St.at_ (x0 := (.bool (ngB i))) (x1 := (.slice A n c)) (x2 := (.int .i64 (s : Int))) (g := w.heap.size) E (by simp); have X1 := St.at_ (x0 := (.bool (ngB j))) (x1 := (.slice A' n' c')) (x2 := (.int .i64 (t : Int))) (g := (w.heap.size + 1)) E (by simp); with_reducible exact ⟨X0.c0, X0.c1, X0.c2, X1.c0, X1.c1, X1.c2⟩))
    (first | (go_at_call 76; first | ((with_reducible refine (ahead_any A n c s i _ (St.got E (by simp)) hn hs).mono ?_); rintro e w1 ⟨rfl, hb1⟩; replace E := Lib.hid (St.step E.out hb1); clear hb1) | ((with_reducible refine (ahead_any A' n' c' t j _ (St.got E (by simp)) hn' ht).mono ?_); rintro e w2 ⟨rfl, hb2⟩; replace E := Lib.hid (St.step E.out hb2); clear hb2)) | (go_at_call 54; refine (compare_is HZ.out).mono ?_; rintro e w3 ⟨rfl, rfl⟩))
  all_goals
    go_wp2_with fail
    go_ret
    exact ⟨rfl, E.out.bel⟩

set_option maxHeartbeats 4000000 in
theorem cmpSizes_eq (A A' : Option Addr) (n c n' c' s t : Nat) (i j : Int) (w : World) (h : Num w w.heap.size A n c i.natAbs) (h' : Num w w.heap.size A' n' c' j.natAbs) (hn : n ≤ 1000000) (hn' : n' ≤ 1000000) (hs : s ≤ 100000) (ht : t ≤ 100000) (hst : s ≠ t) (hz : (nd i.natAbs : Int) - (s : Int) = (nd j.natAbs : Int) - (t : Int)) :
    Calls Try.prog 55 #[.agg #[.bool (ngB i), .slice A n c, .int .i64 (s : Int)], .agg #[.bool (ngB j), .slice A' n' c', .int .i64 (t : Int)]] w (RetVal w (.int .i64 (cmpN (up i s (max s t)).natAbs (up j t (max s t)).natAbs))) := by
  have H := Lib.hid h
  have H' := Lib.hid h'
  have HZ := Lib.hid (cmpZ_eq hz)
  have hst2 : ((s : Int) == (t : Int)) = false := by simp; omega
  clear h h' hz hst
  obtain ⟨M, hm⟩ : ∃ M, max s t = M := ⟨_, rfl⟩
  have HA := Lib.hid (fun (A A' : Option Addr) (n c n' c' : Nat) (w : World) h h' hn hn' => align_any A A' n c n' c' s t i j w h h' hn hn' hs ht)
  rw [hm] at HA
  rw [hm]
  clear hm
  go_enter Try.func55, Try.ntmps55
  go_wp2_with fail
  generalize hW : World.alloc (World.alloc w _) _ = W0
  have E0 : St w W0 [(A, n, c, (i).natAbs), (A', n', c', (j).natAbs)] [((w.heap.size + 1), (.bool (ngB j)), (.slice A' n' c'), (.int .i64 (t : Int))), (w.heap.size, (.bool (ngB i)), (.slice A n c), (.int .i64 (s : Int)))] := by rw [← hW]; exact ((start_two H.out H'.out).lay rfl).lay (by simp)
  have E := Lib.hid E0
  clear hW E0
  obtain ⟨p0, p1, p2, pf0, pf1, pf2, plt⟩ := St.at_ (x0 := (.bool (ngB i))) (x1 := (.slice A n c)) (x2 := (.int .i64 (s : Int))) (g := w.heap.size) E (by simp)
  obtain ⟨q0, q1, q2, qf0, qf1, qf2, qlt⟩ := St.at_ (x0 := (.bool (ngB j))) (x1 := (.slice A' n' c')) (x2 := (.int .i64 (t : Int))) (g := (w.heap.size + 1)) E (by simp)
  go_wp2_with fail
  clear hst2
  replace E := Lib.hid (St.drew E.out)
  clear p0 p1 p2 pf0 pf1 pf2 plt q0 q1 q2 qf0 qf1 qf2 qlt
  go_region_held3 (fun v => v.cell? ⟨w.heap.size, 0, none⟩ = some (.bool (ngB i)) ∧ v.cell? ⟨w.heap.size, 1, none⟩ = some (.slice A n c) ∧ v.cell? ⟨w.heap.size, 2, none⟩ = some (.int .i64 (s : Int)) ∧ v.cell? ⟨w.heap.size + 1, 0, none⟩ = some (.bool (ngB j)) ∧ v.cell? ⟨w.heap.size + 1, 1, none⟩ = some (.slice A' n' c') ∧ v.cell? ⟨w.heap.size + 1, 2, none⟩ = some (.int .i64 (t : Int))) (first | (have X0 := St.at_ (x0 := (.bool (ngB i))) (x1 := (.slice A n c)) (x2 := (.int .i64 (s : Int))) (g := w.heap.size) E (by simp); have X1 := St.at_ (x0 := (.bool (ngB j))) (x1 := (.slice A' n' c')) (x2 := (.int .i64 (t : Int))) (g := (w.heap.size + 1)) E (by simp); with_reducible exact ⟨X0.c0, X0.c1, X0.c2, X1.c0, X1.c1, X1.c2⟩))
    (first | (go_at_call 76; first | ((with_reducible refine (ahead_any A n c s i _ (St.got E (by simp)) hn hs).mono ?_); rintro e w1 ⟨rfl, hb1⟩; replace E := Lib.hid (St.step E.out hb1); clear hb1) | ((with_reducible refine (ahead_any A' n' c' t j _ (St.got E (by simp)) hn' ht).mono ?_); rintro e w2 ⟨rfl, hb2⟩; replace E := Lib.hid (St.step E.out hb2); clear hb2)) | (go_at_call 54; refine (compare_is HZ.out).mono ?_; rintro e w3 ⟨rfl, rfl⟩))
  all_goals
    obtain ⟨p0, p1, p2, pf0, pf1, pf2, plt⟩ := St.at_ (x0 := (.bool (ngB i))) (x1 := (.slice A n c)) (x2 := (.int .i64 (s : Int))) (g := w.heap.size) E (by simp)
    obtain ⟨q0, q1, q2, qf0, qf1, qf2, qlt⟩ := St.at_ (x0 := (.bool (ngB j))) (x1 := (.slice A' n' c')) (x2 := (.int .i64 (t : Int))) (g := (w.heap.size + 1)) E (by simp)
    go_wp2_with fail
    refine (HA.out A A' n c n' c' _ (St.got E (by simp)) (St.got E (by simp)) hn hn').mono ?_
    rintro e w4 ⟨A1, n1, c1, A2, n2, c2, rfl, h1, h2, hb4⟩
    replace E : Hid (St w w4 [(A1, n1, c1, (up i s M).natAbs), (A2, n2, c2, (up j t M).natAbs)] [((w.heap.size + 1), (.bool (ngB j)), (.slice A' n' c'), (.int .i64 (t : Int))), (w.heap.size, (.bool (ngB i)), (.slice A n c), (.int .i64 (s : Int)))]) := ⟨(E.out.step hb4).bel, (St.start w4 (l := [(A1, n1, c1, (up i s M).natAbs), (A2, n2, c2, (up j t M).natAbs)]) (by simp; exact ⟨h1, h2⟩)).num, (E.out.step hb4).box⟩
    clear h1 h2 hb4 p0 p1 p2 pf0 pf1 pf2 plt q0 q1 q2 qf0 qf1 qf2 qlt
    obtain ⟨p0, p1, p2, pf0, pf1, pf2, plt⟩ := St.at_ (x0 := (.bool (ngB i))) (x1 := (.slice A n c)) (x2 := (.int .i64 (s : Int))) (g := w.heap.size) E (by simp)
    obtain ⟨q0, q1, q2, qf0, qf1, qf2, qlt⟩ := St.at_ (x0 := (.bool (ngB j))) (x1 := (.slice A' n' c')) (x2 := (.int .i64 (t : Int))) (g := (w.heap.size + 1)) E (by simp)
    go_wp2_with fail
    have E1 := Lib.hid (St.store E.out (g := w.heap.size) (x0 := (.bool (ngB i))) (x1 := (.slice A n c)) (x2 := (.int .i64 (s : Int))) (by simp) (noLimb_bool _) (noLimb_slice _ _ _) (noLimb_int _) [((w.heap.size + 1), (.bool (ngB j)), (.slice A' n' c'), (.int .i64 (t : Int)))] (by simp <;> omega) (.bool (ngB (up i s M))) (.slice A1 n1 c1) (.int .i64 (M : Int)))
    have E2 := Lib.hid (St.store E1.out (g := (w.heap.size + 1)) (x0 := (.bool (ngB j))) (x1 := (.slice A' n' c')) (x2 := (.int .i64 (t : Int))) (by simp) (noLimb_bool _) (noLimb_slice _ _ _) (noLimb_int _) [(w.heap.size, .bool (ngB (up i s M)), .slice A1 n1 c1, .int .i64 (M : Int))] (by simp <;> omega) (.bool (ngB (up j t M))) (.slice A2 n2 c2) (.int .i64 (M : Int)))
    clear p0 p1 p2 pf0 pf1 pf2 plt q0 q1 q2 qf0 qf1 qf2 qlt
    refine (cmp_any A1 A2 n1 c1 n2 c2 (up i s M).natAbs (up j t M).natAbs _ (St.got E2 (by simp)) (St.got E2 (by simp))).mono ?_; rintro e w5 ⟨rfl, hb5⟩; have E3 := Lib.hid (St.step E2.out hb5); clear hb5
    go_wp2_with fail
    go_ret
    exact ⟨rfl, E3.out.bel⟩

theorem cmpSizes_any (A A' : Option Addr) (n c n' c' s t : Nat) (i j : Int) (w : World) (h : Num w w.heap.size A n c i.natAbs) (h' : Num w w.heap.size A' n' c' j.natAbs) (hn : n ≤ 1000000) (hn' : n' ≤ 1000000) (hs : s ≤ 100000) (ht : t ≤ 100000) (hi : i ≠ 0) (hj : j ≠ 0) :
    Calls Try.prog 55 #[.agg #[.bool (ngB i), .slice A n c, .int .i64 (s : Int)], .agg #[.bool (ngB j), .slice A' n' c', .int .i64 (t : Int)]] w (RetVal w (.int .i64 (cmpN (up i s (max s t)).natAbs (up j t (max s t)).natAbs))) := by
  have a1 : 0 < i.natAbs := by omega
  have a2 : 0 < j.natAbs := by omega
  by_cases hst : s = t
  · subst hst
    have := cmpSizes_same A A' n c n' c' s i j w h h'
    rwa [Nat.max_self, up_same, up_same]
  · rcases Int.lt_trichotomy ((nd i.natAbs : Int) - (s : Int)) ((nd j.natAbs : Int) - (t : Int)) with hz | hz | hz
    · rw [abs_up, abs_up, cmpN_lt (ahead_lt a1 a2 (by omega) (by omega) hz)]
      exact cmpSizes_lt A A' n c n' c' s t i j w h h' hn hn' hs ht hst hz
    · exact cmpSizes_eq A A' n c n' c' s t i j w h h' hn hn' hs ht hst hz
    · rw [abs_up, abs_up, cmpN_gt (ahead_lt a2 a1 (by omega) (by omega) hz)]
      exact cmpSizes_gt A A' n c n' c' s t i j w h h' hn hn' hs ht hst hz

end Go.Proofs.Ytafbkoejobkncaa
