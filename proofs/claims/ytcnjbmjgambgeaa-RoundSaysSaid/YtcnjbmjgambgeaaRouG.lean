/-
  Contracts of layer 6, the seventh part: the document's Quantize.
-/
import Derived.Test.YtcnjbmjgambgeaaRouGa
set_option linter.unusedVariables false
set_option linter.unusedSimpArgs false
namespace Go.Proofs.Ytcnjbmjgambgeaa
open Go.RowKit

set_option maxRecDepth 100000 in
set_option maxHeartbeats 8000000 in
theorem refquant_any (A : Option Addr) (n c s S : Nat) (i v : Int) (w : World) (h : Num w w.heap.size A n c i.natAbs) (hn : n ≤ 1000) (hs : s ≤ 1000) (hv : max v 0 = (S : Int)) (hS : S ≤ 1000) :
    Calls Try.prog 13 #[.agg #[.bool (ngB i), .slice A n c, .int .i64 (s : Int)], .int .i64 v] w (RetDec w (quantZ i s S) S) := by
  have HPICK := Lib.hid (fun zc => refq_pick i s S zc)
  obtain ⟨y1, hy1⟩ : ∃ y1, sgn (ngB i) (refC i s S) = y1 := ⟨_, rfl⟩
  obtain ⟨y2, hy2⟩ : ∃ y2, sgn (ngB i) (refC i s S + 1) = y2 := ⟨_, rfl⟩
  have hya : y1.natAbs = refC i s S := by rw [← hy1, abs_sgn]
  have hyb : y2.natAbs = refC i s S + 1 := by rw [← hy2, abs_sgn]
  have HB2 : Hid (ngB y2 = ngB i) := by show _ = _; rw [← hy2, ng_sgn, decide_eq_true (by omega), Bool.and_true]
  have HB1 : Hid (ngB y1 = (ngB i && decide (0 < y1.natAbs))) := by show _ = _; rw [hya, ← hy1]; exact ng_sgn _ _
  have HY : Hid (y1.natAbs + 1 = y2.natAbs) := by show _ = _; omega
  have HUP : Hid (s ≤ S → i.natAbs * 10 ^ (S - s) = y1.natAbs) := fun h => by rw [hya]; unfold refC; rw [if_pos h]
  have HDN : Hid (S < s → i.natAbs / 10 ^ (s - S) = y1.natAbs) := fun h => by rw [hya]; unfold refC; rw [if_neg (by omega)]
  have hL1 : (dg y1.natAbs).length ≤ 2001 := by
    rcases Nat.lt_or_ge S s with hh | hh
    · rw [← HDN.out hh]; have := dg_len_mono (Nat.div_le_self i.natAbs (10 ^ (s - S))); rw [h.len] at this; omega
    · rw [← HUP.out hh]; have := up_len (i := i) (s := s) (M := S) h.len; rw [abs_up] at this; omega
  have hL2 : (dg y2.natAbs).length ≤ 2003 := by
    rw [← HY.out]
    have := dg_len_add y1.natAbs 1
    have : (dg 1).length ≤ 1 := dg_len_le (by decide)
    omega
  have LY1 := Lib.hid hL1
  have LY2 := Lib.hid hL2
  obtain ⟨M, hM⟩ : ∃ M, max s S = M := ⟨_, rfl⟩
  have HM1 := Lib.hid hM
  have HM2 : Hid (max S s = M) := by show _ = _; rw [Nat.max_comm]; exact hM
  have hMb : M ≤ 1000 := by omega
  obtain ⟨p0, hp0⟩ : ∃ p0, subZ i s y1 S = p0 := ⟨_, rfl⟩
  obtain ⟨q0, hq0⟩ : ∃ q0, subZ y2 S i s = q0 := ⟨_, rfl⟩
  obtain ⟨p, hp⟩ : ∃ p, (p0.natAbs : Int) = p := ⟨_, rfl⟩
  obtain ⟨q, hq⟩ : ∃ q, (q0.natAbs : Int) = q := ⟨_, rfl⟩
  have HP0 := Lib.hid hp0
  have HQ0 := Lib.hid hq0
  have HP := Lib.hid hp
  have HQ := Lib.hid hq
  have LP0 : Hid ((dg p0.natAbs).length ≤ 4500) := by
    show _ ≤ _
    rw [← hp0]
    have := sub_len5 (i := i) (s := s) (j := y1) (t := S) (K := 2001) (by rw [h.len]; omega) hL1
    omega
  have LQ0 : Hid ((dg q0.natAbs).length ≤ 4500) := by
    show _ ≤ _
    rw [← hq0]
    have := sub_len5 (i := y2) (s := S) (j := i) (t := s) (K := 2003) hL2 (by rw [h.len]; omega)
    omega
  have LP : Hid ((dg p.natAbs).length ≤ 4500) := by show _ ≤ _; rw [← hp, Int.natAbs_natCast]; exact LP0.out
  have LQ : Hid ((dg q.natAbs).length ≤ 4500) := by show _ ≤ _; rw [← hq, Int.natAbs_natCast]; exact LQ0.out
  obtain ⟨zc, hzc⟩ : ∃ zc, cmpD p M q M = zc := ⟨_, rfl⟩
  have HZC := Lib.hid hzc
  have hzb := cmpZ_bounds (up p M (max M M)) (up q M (max M M))
  have HZB : Hid (-1 ≤ zc ∧ zc ≤ 1) := by show _ ∧ _; rw [← hzc]; exact hzb
  have HE : Hid ((0 < zc ∨ zc = 0 ∧ y2.natAbs % 2 = 0 → quantZ i s S = y2) ∧ (zc < 0 ∨ zc = 0 ∧ y2.natAbs % 2 ≠ 0 → quantZ i s S = y1)) := by
    have := HPICK.out zc
    rw [hy1, hy2, hp0, hq0, hp, hq, hM, HM2.out] at this
    rw [hyb]
    exact this hzc
  have hm := max_gen (P := Try.prog) (max_gen0 hv)
  have H := Lib.hid h
  clear HPICK hy1 hy2 hya hyb hL1 hL2 hM hp0 hq0 hp hq hzc hzb h hv
  go_enter Try.func13, Try.ntmps13
  go_upto_if 19 with (fail)
  generalize hW : World.alloc (World.alloc w _) _ = W0
  have E0 : St w W0 [(A, n, c, i.natAbs)] [((w.heap.size + 1), .bool false, .slice none 0 0, .int .i64 0), (w.heap.size, (.bool (ngB i)), (.slice A n c), (.int .i64 (s : Int)))] := by rw [← hW]; exact ((start_one H.out).lay rfl).lay (by simp)
  have E := Lib.hid E0
  clear hW E0 hm
  rename_i K hK
  refine wp_cut (fun a' w' => ∃ A5 n5 c5, Fr 79 a' [(1, .int .i64 (S : Int)), (2, .pointer (some ⟨w.heap.size, 0, none⟩)), (4, .pointer (some ⟨w.heap.size + 1, 0, none⟩)), (5, .slice A5 n5 c5)] ∧ n5 ≤ 3000 ∧ Hid (St w w' [(A5, n5, c5, y1.natAbs), (A, n, c, i.natAbs)] [((w.heap.size + 1), .bool false, .slice none 0 0, .int .i64 0), (w.heap.size, (.bool (ngB i)), (.slice A n c), (.int .i64 (s : Int)))])) ?_ ?_
  · obtain ⟨p0, p1, p2, pf0, pf1, pf2, plt⟩ := St.at_ (x0 := (.bool (ngB i))) (x1 := (.slice A n c)) (x2 := (.int .i64 (s : Int))) (g := w.heap.size) E (by simp)
    rcases Nat.lt_or_ge S s with hh | hh
    · have HA := Lib.hid (HDN.out hh)
      have q1 : (s : Int) - (S : Int) = ((s - S : Nat) : Int) := by omega
      obtain ⟨k, hk⟩ : ∃ k, s - S = k := ⟨_, rfl⟩
      rw [hk] at HA q1
      have hkb : k ≤ 1000 := by omega
      clear hk
      go_wp2_with fail
      refine (rdrop_is (a := i.natAbs) (k := k) (St.got E (by simp)) (by omega) (by omega) rfl HA.out).mono ?_; rintro e w1 ⟨A1, n1, c1, rfl, h1, hb1⟩
      have hn1 : n1 ≤ 3000 := by have := h1.len; have := LY1.out; omega
      replace E := Lib.hid (St.push E.out hb1 h1); clear h1 hb1
      go_wp2_with fail
      exact ⟨A1, n1, c1, ⟨rfl, rfl, by intro q hq; simp at hq; rcases hq with rfl | rfl | rfl | rfl <;> rfl⟩, hn1, Lib.hid (E.out.sub (by simp) (by simp))⟩
    · have HA := Lib.hid (HUP.out hh)
      have q1 : (S : Int) - (s : Int) = ((S - s : Nat) : Int) := by omega
      obtain ⟨k, hk⟩ : ∃ k, S - s = k := ⟨_, rfl⟩
      rw [hk] at HA q1
      have hkb : k ≤ 1000 := by omega
      clear hk
      go_wp2_with fail
      refine (refShift_is (a := i.natAbs) (k := k) (St.got E (by simp)) (by omega) (by omega) rfl HA.out).mono ?_; rintro e w1 ⟨A1, n1, c1, rfl, h1, hb1⟩
      have hn1 : n1 ≤ 3000 := by have := h1.len; have := LY1.out; omega
      replace E := Lib.hid (St.push E.out hb1 h1); clear h1 hb1
      go_wp2_with fail
      exact ⟨A1, n1, c1, ⟨rfl, rfl, by intro q hq; simp at hq; rcases hq with rfl | rfl | rfl | rfl <;> rfl⟩, hn1, Lib.hid (E.out.sub (by simp) (by simp))⟩
  clear E
  rintro a wA ⟨A5, n5, c5, ha, hn5, E⟩
  simp only [Exit.then]
  refine hK _ _ ?_
  clear hK K
  obtain ⟨us, rfl, hu⟩ := ha.list
  have eu1 : us 1 = .int .i64 (S : Int) := hu (1, .int .i64 (S : Int)) (by simp)
  have eu2 : us 2 = .pointer (some ⟨w.heap.size, 0, none⟩) := hu (2, .pointer (some ⟨w.heap.size, 0, none⟩)) (by simp)
  have eu4 : us 4 = .pointer (some ⟨w.heap.size + 1, 0, none⟩) := hu (4, .pointer (some ⟨w.heap.size + 1, 0, none⟩)) (by simp)
  have eu5 : us 5 = .slice A5 n5 c5 := hu (5, .slice A5 n5 c5) (by simp)
  rw [show (List.range 79).map us = [us 0, us 1, us 2, us 3, us 4, us 5, us 6, us 7, us 8, us 9, us 10, us 11, us 12, us 13, us 14, us 15, us 16, us 17, us 18, us 19, us 20, us 21, us 22, us 23, us 24, us 25, us 26, us 27, us 28, us 29, us 30, us 31, us 32, us 33, us 34, us 35, us 36, us 37, us 38, us 39, us 40, us 41, us 42, us 43, us 44, us 45, us 46, us 47, us 48, us 49, us 50, us 51, us 52, us 53, us 54, us 55, us 56, us 57, us 58, us 59, us 60, us 61, us 62, us 63, us 64, us 65, us 66, us 67, us 68, us 69, us 70, us 71, us 72, us 73, us 74, us 75, us 76, us 77, us 78] from rfl, eu1, eu2, eu4, eu5]
  clear hu eu1 eu2 eu4 eu5
  go_wp2_with fail
  refine (refMk_any 1 1 rfl (by decide) _).mono ?_; rintro e w1 ⟨A1, n1, c1, rfl, h1, hb1⟩
  have hn1 : n1 ≤ 1 := by rw [← h1.len]; exact dg_len_le (by decide)
  replace E := Lib.hid (St.push E.out hb1 h1); clear h1 hb1
  go_wp2_with fail
  refine (refAdd_is (a := y1.natAbs) (b := 1) (St.got E (A := A5) (n := n5) (c := c5) (by simp)) (St.got E (A := A1) (n := n1) (c := c1) (by simp)) (by omega) (by omega) HY.out).mono ?_; rintro e w2 ⟨A6, n6, c6, rfl, h1, hb1⟩
  have hn6 : n6 ≤ 3000 := by have := h1.len; have := LY2.out; omega
  replace E := Lib.hid (St.push E.out hb1 h1); clear h1 hb1
  replace E : Hid (St w w2 [(A6, n6, c6, (y2).natAbs), (A5, n5, c5, (y1).natAbs), (A, n, c, i.natAbs)] [((w.heap.size + 1), .bool false, .slice none 0 0, .int .i64 0), (w.heap.size, (.bool (ngB i)), (.slice A n c), (.int .i64 (s : Int)))]) := Lib.hid (E.out.sub (by simp) (by simp))
  go_wp2_with fail
  rename_i K hK
  replace E := Lib.hid (St.drew E.out)
  have HN0 := num_pos (St.got E (A := A5) (n := n5) (c := c5) (a := y1.natAbs) (by simp))
  have HNN := Lib.hid HN0
  clear HN0
  refine wp_cut (fun a' w' => ∃ (g7 g8 : Nat), Fr 79 a' [(1, .int .i64 (S : Int)), (2, .pointer (some ⟨w.heap.size, 0, none⟩)), (4, .pointer (some ⟨w.heap.size + 1, 0, none⟩)), (7, .pointer (some ⟨g7, 0, none⟩)), (8, .pointer (some ⟨g8, 0, none⟩)), (6, .slice A6 n6 c6)] ∧ g7 ≠ w.heap.size ∧ g8 ≠ w.heap.size ∧ g7 ≠ w.heap.size + 1 ∧ g8 ≠ w.heap.size + 1 ∧ Hid (St w w' [(A6, n6, c6, (y2).natAbs), (A5, n5, c5, (y1).natAbs), (A, n, c, i.natAbs)] [(g7, (.bool (ngB y1)), (.slice A5 n5 c5), (.int .i64 (S : Int))), (g8, (.bool (ngB i)), (.slice A6 n6 c6), (.int .i64 (S : Int))), ((w.heap.size + 1), .bool false, .slice none 0 0, .int .i64 0), (w.heap.size, (.bool (ngB i)), (.slice A n c), (.int .i64 (s : Int)))])) ?_ ?_
  · generalize hA : Act.mk _ _ = a
    have ha : Fr 79 a [(1, .int .i64 (S : Int)), (2, .pointer (some ⟨w.heap.size, 0, none⟩)), (4, .pointer (some ⟨w.heap.size + 1, 0, none⟩)), (5, .slice A5 n5 c5), (6, .slice A6 n6 c6)] := by rw [← hA]; exact ⟨rfl, rfl, by intro q hq; simp at hq; rcases hq with rfl | rfl | rfl | rfl | rfl <;> rfl⟩
    clear hA
    rcases (show ngB i = true ∨ ngB i = false by cases ngB i <;> simp) with hb | hb
    ·
      have HB := Lib.hid hb
      have HN : Hid (decide ((0 : Int) < (n5 : Int)) = ngB y1) := by show _ = _; rw [HB1.out, hb, Bool.true_and, ← HNN.out]; simp
      clear hb
      refine line_start (ops := opsAt Try.prog 13 7) (S := SB [((w.heap.size + 1), .bool false, .slice none 0 0, .int .i64 0), (w.heap.size, (.bool (ngB i)), (.slice A n c), (.int .i64 (s : Int)))]) (by kernel_rfl) (by kernel_rfl) (St.sbOf E (by simp)) ?_
      generalize w2.drew = v0 at E ⊢
      have hSw := St.sbOf (bs' := [((w.heap.size + 1), .bool false, .slice none 0 0, .int .i64 0), (w.heap.size, (.bool (ngB i)), (.slice A n c), (.int .i64 (s : Int)))]) E (by simp)
      refine line_ahead rq7nR 0 0 [] 0 41 (.pointer (some ⟨w.heap.size, 0, none⟩)) [(1, .int .i64 (S : Int)), (2, .pointer (some ⟨w.heap.size, 0, none⟩)), (4, .pointer (some ⟨w.heap.size + 1, 0, none⟩)), (5, .slice A5 n5 c5), (6, .slice A6 n6 c6)] rfl (by decide) (by decide) (by decide) ha (fun o ho hg => y_of (wanted_none hg) (fun wx hS => e_field 0 (by simp) ho (ha.ev (i := 2) (v := .pointer (some ⟨w.heap.size, 0, none⟩)) (by simp)))) (by simp) hSw ?_; intro a ha
      refine line_ahead rq7nR 1 0 [0] 1 42 (.bool true) [(1, .int .i64 (S : Int)), (2, .pointer (some ⟨w.heap.size, 0, none⟩)), (4, .pointer (some ⟨w.heap.size + 1, 0, none⟩)), (5, .slice A5 n5 c5), (6, .slice A6 n6 c6)] rfl (by decide) (by decide) (by decide) ha (fun o ho hg => y_of (wanted_none hg) (fun wx hS => (e_cell (by simp) ho (ha.ev (i := 41) (v := .pointer (some ⟨w.heap.size, 0, none⟩)) (by simp)) (hS.at_ (g := w.heap.size) (x0 := (.bool (ngB i))) (x1 := (.slice A n c)) (x2 := (.int .i64 (s : Int))) (by simp)).c0).trans (by rw [HB.out]))) (by simp) hSw ?_; intro a ha
      refine line_ahead rq7nR 2 0 [1, 0] 2 43 (.bool true) [(1, .int .i64 (S : Int)), (2, .pointer (some ⟨w.heap.size, 0, none⟩)), (4, .pointer (some ⟨w.heap.size + 1, 0, none⟩)), (5, .slice A5 n5 c5), (6, .slice A6 n6 c6)] rfl (by decide) (by decide) (by decide) ha (fun o ho hg => y_of (wanted_none hg) (fun wx hS => e_move (.inl ho) (ha.ev (i := 42) (v := .bool true) (by simp)))) (by simp) hSw ?_; intro a ha
      refine line_ahead rq7nR 3 0 [2, 1, 0] 3 44 (.slice A5 n5 c5) [(43, .bool true), (1, .int .i64 (S : Int)), (2, .pointer (some ⟨w.heap.size, 0, none⟩)), (4, .pointer (some ⟨w.heap.size + 1, 0, none⟩)), (5, .slice A5 n5 c5), (6, .slice A6 n6 c6)] rfl (by decide) (by decide) (by decide) ha (fun o ho hg => y_of (rq7nR.wanted hg rfl ha (d := 43) (by simp)) (fun wx hS => e_move (.inl ho) (ha.ev (i := 5) (v := .slice A5 n5 c5) (by simp)))) (by simp) hSw ?_; intro a ha
      refine line_ahead rq7nR 4 0 [3, 2, 1, 0] 4 45 (.int .i64 (n5 : Int)) [(43, .bool true), (1, .int .i64 (S : Int)), (2, .pointer (some ⟨w.heap.size, 0, none⟩)), (4, .pointer (some ⟨w.heap.size + 1, 0, none⟩)), (5, .slice A5 n5 c5), (6, .slice A6 n6 c6)] rfl (by decide) (by decide) (by decide) ha (fun o ho hg => y_of (rq7nR.wanted hg rfl ha (d := 43) (by simp)) (fun wx hS => e_len ho (ha.ev (i := 44) (v := .slice A5 n5 c5) (by simp)))) (by simp) hSw ?_; intro a ha
      refine line_ahead rq7nR 5 0 [4, 3, 2, 1, 0] 5 46 (.bool (ngB y1)) [(43, .bool true), (1, .int .i64 (S : Int)), (2, .pointer (some ⟨w.heap.size, 0, none⟩)), (4, .pointer (some ⟨w.heap.size + 1, 0, none⟩)), (5, .slice A5 n5 c5), (6, .slice A6 n6 c6)] rfl (by decide) (by decide) (by decide) ha (fun o ho hg => y_of (rq7nR.wanted hg rfl ha (d := 43) (by simp)) (fun wx hS => (e_gtr ho (ha.ev (i := 45) (v := .int .i64 (n5 : Int)) (by simp)) rfl).trans (by rw [HN.out]))) (by simp) hSw ?_; intro a ha
      refine line_ahead rq7nR 6 0 [5, 4, 3, 2, 1, 0] 6 47 (.bool (ngB y1)) [(1, .int .i64 (S : Int)), (2, .pointer (some ⟨w.heap.size, 0, none⟩)), (4, .pointer (some ⟨w.heap.size + 1, 0, none⟩)), (5, .slice A5 n5 c5), (6, .slice A6 n6 c6)] rfl (by decide) (by decide) (by decide) ha (fun o ho hg => y_of (wanted_none hg) (fun wx hS => e_pick ho (ha.ev (i := 43) (v := .bool true) (by simp)) (ha.ev (i := 46) (v := .bool (ngB y1)) (by simp)) rfl)) (by simp) hSw ?_; intro a ha
      refine line_ahead rq7nR 7 0 [6, 5, 4, 3, 2, 1, 0] 7 48 (.slice A5 n5 c5) [(47, .bool (ngB y1)), (1, .int .i64 (S : Int)), (2, .pointer (some ⟨w.heap.size, 0, none⟩)), (4, .pointer (some ⟨w.heap.size + 1, 0, none⟩)), (6, .slice A6 n6 c6)] rfl (by decide) (by decide) (by decide) ha (fun o ho hg => y_of (wanted_none hg) (fun wx hS => e_move (.inl ho) (ha.ev (i := 5) (v := .slice A5 n5 c5) (by simp)))) (by simp) hSw ?_; intro a ha
      refine line_ahead rq7nR 8 0 [7, 6, 5, 4, 3, 2, 1, 0] 8 49 (.int .i64 (S : Int)) [(48, .slice A5 n5 c5), (47, .bool (ngB y1)), (1, .int .i64 (S : Int)), (2, .pointer (some ⟨w.heap.size, 0, none⟩)), (4, .pointer (some ⟨w.heap.size + 1, 0, none⟩)), (6, .slice A6 n6 c6)] rfl (by decide) (by decide) (by decide) ha (fun o ho hg => y_of (wanted_none hg) (fun wx hS => e_move (.inl ho) (ha.ev (i := 1) (v := .int .i64 (S : Int)) (by simp)))) (by simp) hSw ?_; intro a ha
      refine line_ahead rq7nR 9 0 [8, 7, 6, 5, 4, 3, 2, 1, 0] 9 50 (.agg #[.bool (ngB y1), .slice A5 n5 c5, .int .i64 (S : Int)]) [(1, .int .i64 (S : Int)), (2, .pointer (some ⟨w.heap.size, 0, none⟩)), (4, .pointer (some ⟨w.heap.size + 1, 0, none⟩)), (6, .slice A6 n6 c6)] rfl (by decide) (by decide) (by decide) ha (fun o ho hg => y_of (wanted_none hg) (fun wx hS => e_build ho (ha.ev (i := 47) (v := .bool (ngB y1)) (by simp)) (ha.ev (i := 48) (v := .slice A5 n5 c5) (by simp)) (ha.ev (i := 49) (v := .int .i64 (S : Int)) (by simp)))) (by simp) hSw ?_; intro a ha
      refine line_ahead rq7nR 10 0 [9, 8, 7, 6, 5, 4, 3, 2, 1, 0] 10 51 (.pointer (some ⟨w.heap.size, 0, none⟩)) [(50, .agg #[.bool (ngB y1), .slice A5 n5 c5, .int .i64 (S : Int)]), (1, .int .i64 (S : Int)), (2, .pointer (some ⟨w.heap.size, 0, none⟩)), (4, .pointer (some ⟨w.heap.size + 1, 0, none⟩)), (6, .slice A6 n6 c6)] rfl (by decide) (by decide) (by decide) ha (fun o ho hg => y_of (wanted_none hg) (fun wx hS => e_field 0 (by simp) ho (ha.ev (i := 2) (v := .pointer (some ⟨w.heap.size, 0, none⟩)) (by simp)))) (by simp) hSw ?_; intro a ha
      refine line_ahead rq7nR 11 0 [10, 9, 8, 7, 6, 5, 4, 3, 2, 1, 0] 11 52 ((.bool (ngB i))) [(50, .agg #[.bool (ngB y1), .slice A5 n5 c5, .int .i64 (S : Int)]), (1, .int .i64 (S : Int)), (2, .pointer (some ⟨w.heap.size, 0, none⟩)), (4, .pointer (some ⟨w.heap.size + 1, 0, none⟩)), (6, .slice A6 n6 c6)] rfl (by decide) (by decide) (by decide) ha (fun o ho hg => y_of (wanted_none hg) (fun wx hS => e_cell (by simp) ho (ha.ev (i := 51) (v := .pointer (some ⟨w.heap.size, 0, none⟩)) (by simp)) (hS.at_ (g := w.heap.size) (x0 := (.bool (ngB i))) (x1 := (.slice A n c)) (x2 := (.int .i64 (s : Int))) (by simp)).c0)) (by simp) hSw ?_; intro a ha
      refine line_ahead rq7nR 12 0 [11, 10, 9, 8, 7, 6, 5, 4, 3, 2, 1, 0] 12 53 (.slice A6 n6 c6) [(52, (.bool (ngB i))), (50, .agg #[.bool (ngB y1), .slice A5 n5 c5, .int .i64 (S : Int)]), (1, .int .i64 (S : Int)), (2, .pointer (some ⟨w.heap.size, 0, none⟩)), (4, .pointer (some ⟨w.heap.size + 1, 0, none⟩)), (6, .slice A6 n6 c6)] rfl (by decide) (by decide) (by decide) ha (fun o ho hg => y_of (wanted_none hg) (fun wx hS => e_move (.inl ho) (ha.ev (i := 6) (v := .slice A6 n6 c6) (by simp)))) (by simp) hSw ?_; intro a ha
      refine line_ahead rq7nR 13 0 [12, 11, 10, 9, 8, 7, 6, 5, 4, 3, 2, 1, 0] 13 54 (.int .i64 (S : Int)) [(53, .slice A6 n6 c6), (52, (.bool (ngB i))), (50, .agg #[.bool (ngB y1), .slice A5 n5 c5, .int .i64 (S : Int)]), (1, .int .i64 (S : Int)), (2, .pointer (some ⟨w.heap.size, 0, none⟩)), (4, .pointer (some ⟨w.heap.size + 1, 0, none⟩)), (6, .slice A6 n6 c6)] rfl (by decide) (by decide) (by decide) ha (fun o ho hg => y_of (wanted_none hg) (fun wx hS => e_move (.inl ho) (ha.ev (i := 1) (v := .int .i64 (S : Int)) (by simp)))) (by simp) hSw ?_; intro a ha
      refine line_ahead rq7nR 14 0 [13, 12, 11, 10, 9, 8, 7, 6, 5, 4, 3, 2, 1, 0] 14 55 (.agg #[(.bool (ngB i)), .slice A6 n6 c6, .int .i64 (S : Int)]) [(50, .agg #[.bool (ngB y1), .slice A5 n5 c5, .int .i64 (S : Int)]), (1, .int .i64 (S : Int)), (2, .pointer (some ⟨w.heap.size, 0, none⟩)), (4, .pointer (some ⟨w.heap.size + 1, 0, none⟩)), (6, .slice A6 n6 c6)] rfl (by decide) (by decide) (by decide) ha (fun o ho hg => y_of (wanted_none hg) (fun wx hS => e_build ho (ha.ev (i := 52) (v := (.bool (ngB i))) (by simp)) (ha.ev (i := 53) (v := .slice A6 n6 c6) (by simp)) (ha.ev (i := 54) (v := .int .i64 (S : Int)) (by simp)))) (by simp) hSw ?_; intro a ha
      refine line_all rq7nR 15 0 [14, 13, 12, 11, 10, 9, 8, 7, 6, 5, 4, 3, 2, 1, 0] [15, 16] (by decide) (rq7nB _ (by decide)) (by simp) ?_
      intro j hj; simp only [List.mem_cons, List.not_mem_nil, or_false] at hj
      rcases hj with rfl | rfl
      ·
        have lt1_0 := (St.at_ (x0 := .bool false) (x1 := .slice none 0 0) (x2 := .int .i64 0) (g := (w.heap.size + 1)) E (by simp)).lt
        have lt1_1 := (St.at_ (x0 := (.bool (ngB i))) (x1 := (.slice A n c)) (x2 := (.int .i64 (s : Int))) (g := w.heap.size) E (by simp)).lt
        refine turn_op rq7nR 15 0 [14, 13, 12, 11, 10, 9, 8, 7, 6, 5, 4, 3, 2, 1, 0] 15 7 (v := .pointer (some ⟨v0.heap.size, 0, none⟩)) (w' := v0.alloc (.cells #[.bool false, .slice none 0 0, .int .i64 0] 25)) [(55, .agg #[(.bool (ngB i)), .slice A6 n6 c6, .int .i64 (S : Int)]), (50, .agg #[.bool (ngB y1), .slice A5 n5 c5, .int .i64 (S : Int)]), (1, .int .i64 (S : Int)), (2, .pointer (some ⟨w.heap.size, 0, none⟩)), (4, .pointer (some ⟨w.heap.size + 1, 0, none⟩)), (6, .slice A6 n6 c6)] rfl (by decide) ha (fun o ho hg => ⟨(wanted_none hg), e_alloc ho⟩) (by simp) (St.sbOf (bs' := [((w.heap.size + 1), .bool false, .slice none 0 0, .int .i64 0), (w.heap.size, (.bool (ngB i)), (.slice A n c), (.int .i64 (s : Int)))]) (Lib.hid (St.alloc E.out _)) (by simp)) ?_; intro a ha
        replace E := Lib.hid (St.lay (t := 25) (x0 := .bool false) (x1 := .slice none 0 0) (x2 := .int .i64 0) (g := v0.heap.size) E.out rfl)
        generalize hW : World.alloc v0 _ = v1 at E ⊢; clear hW
        have hSw := St.sbOf (bs' := [((w.heap.size + 1), .bool false, .slice none 0 0, .int .i64 0), (w.heap.size, (.bool (ngB i)), (.slice A n c), (.int .i64 (s : Int)))]) E (by simp)
        refine line_all rq7nR 16 0 [15, 14, 13, 12, 11, 10, 9, 8, 7, 6, 5, 4, 3, 2, 1, 0] [16] (by decide) (rq7nB _ (by decide)) (by simp) ?_
        intro j hj; simp only [List.mem_cons, List.not_mem_nil, or_false] at hj
        subst hj
        have lt2_0 := (St.at_ (x0 := .bool false) (x1 := .slice none 0 0) (x2 := .int .i64 0) (g := v0.heap.size) E (by simp)).lt
        have lt2_1 := (St.at_ (x0 := .bool false) (x1 := .slice none 0 0) (x2 := .int .i64 0) (g := (w.heap.size + 1)) E (by simp)).lt
        have lt2_2 := (St.at_ (x0 := (.bool (ngB i))) (x1 := (.slice A n c)) (x2 := (.int .i64 (s : Int))) (g := w.heap.size) E (by simp)).lt
        refine turn_op rq7nR 16 0 [15, 14, 13, 12, 11, 10, 9, 8, 7, 6, 5, 4, 3, 2, 1, 0] 16 8 (v := .pointer (some ⟨v1.heap.size, 0, none⟩)) (w' := v1.alloc (.cells #[.bool false, .slice none 0 0, .int .i64 0] 25)) [(7, .pointer (some ⟨v0.heap.size, 0, none⟩)), (55, .agg #[(.bool (ngB i)), .slice A6 n6 c6, .int .i64 (S : Int)]), (50, .agg #[.bool (ngB y1), .slice A5 n5 c5, .int .i64 (S : Int)]), (1, .int .i64 (S : Int)), (2, .pointer (some ⟨w.heap.size, 0, none⟩)), (4, .pointer (some ⟨w.heap.size + 1, 0, none⟩)), (6, .slice A6 n6 c6)] rfl (by decide) ha (fun o ho hg => ⟨(wanted_none hg), e_alloc ho⟩) (by simp) (St.sbOf (bs' := [((w.heap.size + 1), .bool false, .slice none 0 0, .int .i64 0), (w.heap.size, (.bool (ngB i)), (.slice A n c), (.int .i64 (s : Int)))]) (Lib.hid (St.alloc E.out _)) (by simp)) ?_; intro a ha
        replace E := Lib.hid (St.lay (t := 25) (x0 := .bool false) (x1 := .slice none 0 0) (x2 := .int .i64 0) (g := v1.heap.size) E.out rfl)
        generalize hW : World.alloc v1 _ = v2 at E ⊢; clear hW
        have hSw := St.sbOf (bs' := [((w.heap.size + 1), .bool false, .slice none 0 0, .int .i64 0), (w.heap.size, (.bool (ngB i)), (.slice A n c), (.int .i64 (s : Int)))]) E (by simp)
        refine line_all rq7nR 17 0 [16, 15, 14, 13, 12, 11, 10, 9, 8, 7, 6, 5, 4, 3, 2, 1, 0] [17] (by decide) (rq7nB _ (by decide)) (by simp) ?_
        intro j hj; simp only [List.mem_cons, List.not_mem_nil, or_false] at hj
        subst hj
        have E2 := Lib.hid (St.store E.out (g := v0.heap.size) (x0 := .bool false) (x1 := .slice none 0 0) (x2 := .int .i64 0) (by simp) (noLimb_bool _) (noLimb_slice _ _ _) (noLimb_int _) [(v1.heap.size, .bool false, .slice none 0 0, .int .i64 0), ((w.heap.size + 1), .bool false, .slice none 0 0, .int .i64 0), (w.heap.size, (.bool (ngB i)), (.slice A n c), (.int .i64 (s : Int)))] (by simp <;> omega) (.bool (ngB y1)) (.slice A5 n5 c5) (.int .i64 (S : Int)))
        refine turn_store rq7nR 17 0 [16, 15, 14, 13, 12, 11, 10, 9, 8, 7, 6, 5, 4, 3, 2, 1, 0] 17 (w' := put3 v2 (v0.heap.size) (.bool (ngB y1)) (.slice A5 n5 c5) (.int .i64 (S : Int))) rfl ha (fun o ho hg => ⟨(wanted_none hg), e_store ho (ha.ev (i := 7) (v := .pointer (some ⟨v0.heap.size, 0, none⟩)) (by simp)) (ha.ev (i := 50) (v := .agg #[.bool (ngB y1), .slice A5 n5 c5, .int .i64 (S : Int)]) (by simp)) (St.at_ (g := v0.heap.size) (x0 := .bool false) (x1 := .slice none 0 0) (x2 := .int .i64 0) E (by simp))⟩) (St.sbOf (bs' := [((w.heap.size + 1), .bool false, .slice none 0 0, .int .i64 0), (w.heap.size, (.bool (ngB i)), (.slice A n c), (.int .i64 (s : Int)))]) E2 (by simp)) ?_; intro a ha
        replace E := E2; clear E2
        generalize hW : put3 v2 _ _ _ _ = v3 at E ⊢; clear hW
        have hSw := St.sbOf (bs' := [((w.heap.size + 1), .bool false, .slice none 0 0, .int .i64 0), (w.heap.size, (.bool (ngB i)), (.slice A n c), (.int .i64 (s : Int)))]) E (by simp)
        refine line_all rq7nR 18 0 [17, 16, 15, 14, 13, 12, 11, 10, 9, 8, 7, 6, 5, 4, 3, 2, 1, 0] [18] (by decide) (rq7nB _ (by decide)) (by simp) ?_
        intro j hj; simp only [List.mem_cons, List.not_mem_nil, or_false] at hj
        subst hj
        have E2 := Lib.hid (St.store E.out (g := v1.heap.size) (x0 := .bool false) (x1 := .slice none 0 0) (x2 := .int .i64 0) (by simp) (noLimb_bool _) (noLimb_slice _ _ _) (noLimb_int _) [(v0.heap.size, (.bool (ngB y1)), (.slice A5 n5 c5), (.int .i64 (S : Int))), ((w.heap.size + 1), .bool false, .slice none 0 0, .int .i64 0), (w.heap.size, (.bool (ngB i)), (.slice A n c), (.int .i64 (s : Int)))] (by simp <;> omega) (.bool (ngB i)) (.slice A6 n6 c6) (.int .i64 (S : Int)))
        refine turn_store rq7nR 18 0 [17, 16, 15, 14, 13, 12, 11, 10, 9, 8, 7, 6, 5, 4, 3, 2, 1, 0] 18 (w' := put3 v3 (v1.heap.size) (.bool (ngB i)) (.slice A6 n6 c6) (.int .i64 (S : Int))) rfl ha (fun o ho hg => ⟨(wanted_none hg), e_store ho (ha.ev (i := 8) (v := .pointer (some ⟨v1.heap.size, 0, none⟩)) (by simp)) (ha.ev (i := 55) (v := .agg #[(.bool (ngB i)), .slice A6 n6 c6, .int .i64 (S : Int)]) (by simp)) (St.at_ (g := v1.heap.size) (x0 := .bool false) (x1 := .slice none 0 0) (x2 := .int .i64 0) E (by simp))⟩) (St.sbOf (bs' := [((w.heap.size + 1), .bool false, .slice none 0 0, .int .i64 0), (w.heap.size, (.bool (ngB i)), (.slice A n c), (.int .i64 (s : Int)))]) E2 (by simp)) ?_; intro a ha
        replace E := E2; clear E2
        generalize hW : put3 v3 _ _ _ _ = v4 at E ⊢; clear hW
        have hSw := St.sbOf (bs' := [((w.heap.size + 1), .bool false, .slice none 0 0, .int .i64 0), (w.heap.size, (.bool (ngB i)), (.slice A n c), (.int .i64 (s : Int)))]) E (by simp)
        refine line_end0 rq7nR (show ∀ i, i < 19 → i ∈ [18, 17, 16, 15, 14, 13, 12, 11, 10, 9, 8, 7, 6, 5, 4, 3, 2, 1, 0] by decide) ?_
        exact ⟨rfl, v0.heap.size, v1.heap.size, ha.sub (by simp), by omega, by omega, by omega, by omega, Lib.hid ((E.out).sub (by simp) (by simp))⟩
      ·
        have lt5_0 := (St.at_ (x0 := .bool false) (x1 := .slice none 0 0) (x2 := .int .i64 0) (g := (w.heap.size + 1)) E (by simp)).lt
        have lt5_1 := (St.at_ (x0 := (.bool (ngB i))) (x1 := (.slice A n c)) (x2 := (.int .i64 (s : Int))) (g := w.heap.size) E (by simp)).lt
        refine turn_op rq7nR 15 0 [14, 13, 12, 11, 10, 9, 8, 7, 6, 5, 4, 3, 2, 1, 0] 16 8 (v := .pointer (some ⟨v0.heap.size, 0, none⟩)) (w' := v0.alloc (.cells #[.bool false, .slice none 0 0, .int .i64 0] 25)) [(55, .agg #[(.bool (ngB i)), .slice A6 n6 c6, .int .i64 (S : Int)]), (50, .agg #[.bool (ngB y1), .slice A5 n5 c5, .int .i64 (S : Int)]), (1, .int .i64 (S : Int)), (2, .pointer (some ⟨w.heap.size, 0, none⟩)), (4, .pointer (some ⟨w.heap.size + 1, 0, none⟩)), (6, .slice A6 n6 c6)] rfl (by decide) ha (fun o ho hg => ⟨(wanted_none hg), e_alloc ho⟩) (by simp) (St.sbOf (bs' := [((w.heap.size + 1), .bool false, .slice none 0 0, .int .i64 0), (w.heap.size, (.bool (ngB i)), (.slice A n c), (.int .i64 (s : Int)))]) (Lib.hid (St.alloc E.out _)) (by simp)) ?_; intro a ha
        replace E := Lib.hid (St.lay (t := 25) (x0 := .bool false) (x1 := .slice none 0 0) (x2 := .int .i64 0) (g := v0.heap.size) E.out rfl)
        generalize hW : World.alloc v0 _ = v5 at E ⊢; clear hW
        have hSw := St.sbOf (bs' := [((w.heap.size + 1), .bool false, .slice none 0 0, .int .i64 0), (w.heap.size, (.bool (ngB i)), (.slice A n c), (.int .i64 (s : Int)))]) E (by simp)
        refine line_all rq7nR 16 0 [16, 14, 13, 12, 11, 10, 9, 8, 7, 6, 5, 4, 3, 2, 1, 0] [15] (by decide) (rq7nB _ (by decide)) (by simp) ?_
        intro j hj; simp only [List.mem_cons, List.not_mem_nil, or_false] at hj
        subst hj
        have lt6_0 := (St.at_ (x0 := .bool false) (x1 := .slice none 0 0) (x2 := .int .i64 0) (g := v0.heap.size) E (by simp)).lt
        have lt6_1 := (St.at_ (x0 := .bool false) (x1 := .slice none 0 0) (x2 := .int .i64 0) (g := (w.heap.size + 1)) E (by simp)).lt
        have lt6_2 := (St.at_ (x0 := (.bool (ngB i))) (x1 := (.slice A n c)) (x2 := (.int .i64 (s : Int))) (g := w.heap.size) E (by simp)).lt
        refine turn_op rq7nR 16 0 [16, 14, 13, 12, 11, 10, 9, 8, 7, 6, 5, 4, 3, 2, 1, 0] 15 7 (v := .pointer (some ⟨v5.heap.size, 0, none⟩)) (w' := v5.alloc (.cells #[.bool false, .slice none 0 0, .int .i64 0] 25)) [(8, .pointer (some ⟨v0.heap.size, 0, none⟩)), (55, .agg #[(.bool (ngB i)), .slice A6 n6 c6, .int .i64 (S : Int)]), (50, .agg #[.bool (ngB y1), .slice A5 n5 c5, .int .i64 (S : Int)]), (1, .int .i64 (S : Int)), (2, .pointer (some ⟨w.heap.size, 0, none⟩)), (4, .pointer (some ⟨w.heap.size + 1, 0, none⟩)), (6, .slice A6 n6 c6)] rfl (by decide) ha (fun o ho hg => ⟨(wanted_none hg), e_alloc ho⟩) (by simp) (St.sbOf (bs' := [((w.heap.size + 1), .bool false, .slice none 0 0, .int .i64 0), (w.heap.size, (.bool (ngB i)), (.slice A n c), (.int .i64 (s : Int)))]) (Lib.hid (St.alloc E.out _)) (by simp)) ?_; intro a ha
        replace E := Lib.hid (St.lay (t := 25) (x0 := .bool false) (x1 := .slice none 0 0) (x2 := .int .i64 0) (g := v5.heap.size) E.out rfl)
        generalize hW : World.alloc v5 _ = v6 at E ⊢; clear hW
        have hSw := St.sbOf (bs' := [((w.heap.size + 1), .bool false, .slice none 0 0, .int .i64 0), (w.heap.size, (.bool (ngB i)), (.slice A n c), (.int .i64 (s : Int)))]) E (by simp)
        refine line_all rq7nR 17 0 [15, 16, 14, 13, 12, 11, 10, 9, 8, 7, 6, 5, 4, 3, 2, 1, 0] [17] (by decide) (rq7nB _ (by decide)) (by simp) ?_
        intro j hj; simp only [List.mem_cons, List.not_mem_nil, or_false] at hj
        subst hj
        have E2 := Lib.hid (St.store E.out (g := v5.heap.size) (x0 := .bool false) (x1 := .slice none 0 0) (x2 := .int .i64 0) (by simp) (noLimb_bool _) (noLimb_slice _ _ _) (noLimb_int _) [(v0.heap.size, .bool false, .slice none 0 0, .int .i64 0), ((w.heap.size + 1), .bool false, .slice none 0 0, .int .i64 0), (w.heap.size, (.bool (ngB i)), (.slice A n c), (.int .i64 (s : Int)))] (by simp <;> omega) (.bool (ngB y1)) (.slice A5 n5 c5) (.int .i64 (S : Int)))
        refine turn_store rq7nR 17 0 [15, 16, 14, 13, 12, 11, 10, 9, 8, 7, 6, 5, 4, 3, 2, 1, 0] 17 (w' := put3 v6 (v5.heap.size) (.bool (ngB y1)) (.slice A5 n5 c5) (.int .i64 (S : Int))) rfl ha (fun o ho hg => ⟨(wanted_none hg), e_store ho (ha.ev (i := 7) (v := .pointer (some ⟨v5.heap.size, 0, none⟩)) (by simp)) (ha.ev (i := 50) (v := .agg #[.bool (ngB y1), .slice A5 n5 c5, .int .i64 (S : Int)]) (by simp)) (St.at_ (g := v5.heap.size) (x0 := .bool false) (x1 := .slice none 0 0) (x2 := .int .i64 0) E (by simp))⟩) (St.sbOf (bs' := [((w.heap.size + 1), .bool false, .slice none 0 0, .int .i64 0), (w.heap.size, (.bool (ngB i)), (.slice A n c), (.int .i64 (s : Int)))]) E2 (by simp)) ?_; intro a ha
        replace E := E2; clear E2
        generalize hW : put3 v6 _ _ _ _ = v7 at E ⊢; clear hW
        have hSw := St.sbOf (bs' := [((w.heap.size + 1), .bool false, .slice none 0 0, .int .i64 0), (w.heap.size, (.bool (ngB i)), (.slice A n c), (.int .i64 (s : Int)))]) E (by simp)
        refine line_all rq7nR 18 0 [17, 15, 16, 14, 13, 12, 11, 10, 9, 8, 7, 6, 5, 4, 3, 2, 1, 0] [18] (by decide) (rq7nB _ (by decide)) (by simp) ?_
        intro j hj; simp only [List.mem_cons, List.not_mem_nil, or_false] at hj
        subst hj
        have E2 := Lib.hid (St.store E.out (g := v0.heap.size) (x0 := .bool false) (x1 := .slice none 0 0) (x2 := .int .i64 0) (by simp) (noLimb_bool _) (noLimb_slice _ _ _) (noLimb_int _) [(v5.heap.size, (.bool (ngB y1)), (.slice A5 n5 c5), (.int .i64 (S : Int))), ((w.heap.size + 1), .bool false, .slice none 0 0, .int .i64 0), (w.heap.size, (.bool (ngB i)), (.slice A n c), (.int .i64 (s : Int)))] (by simp <;> omega) (.bool (ngB i)) (.slice A6 n6 c6) (.int .i64 (S : Int)))
        refine turn_store rq7nR 18 0 [17, 15, 16, 14, 13, 12, 11, 10, 9, 8, 7, 6, 5, 4, 3, 2, 1, 0] 18 (w' := put3 v7 (v0.heap.size) (.bool (ngB i)) (.slice A6 n6 c6) (.int .i64 (S : Int))) rfl ha (fun o ho hg => ⟨(wanted_none hg), e_store ho (ha.ev (i := 8) (v := .pointer (some ⟨v0.heap.size, 0, none⟩)) (by simp)) (ha.ev (i := 55) (v := .agg #[(.bool (ngB i)), .slice A6 n6 c6, .int .i64 (S : Int)]) (by simp)) (St.at_ (g := v0.heap.size) (x0 := .bool false) (x1 := .slice none 0 0) (x2 := .int .i64 0) E (by simp))⟩) (St.sbOf (bs' := [((w.heap.size + 1), .bool false, .slice none 0 0, .int .i64 0), (w.heap.size, (.bool (ngB i)), (.slice A n c), (.int .i64 (s : Int)))]) E2 (by simp)) ?_; intro a ha
        replace E := E2; clear E2
        generalize hW : put3 v7 _ _ _ _ = v8 at E ⊢; clear hW
        have hSw := St.sbOf (bs' := [((w.heap.size + 1), .bool false, .slice none 0 0, .int .i64 0), (w.heap.size, (.bool (ngB i)), (.slice A n c), (.int .i64 (s : Int)))]) E (by simp)
        refine line_end0 rq7nR (show ∀ i, i < 19 → i ∈ [18, 17, 15, 16, 14, 13, 12, 11, 10, 9, 8, 7, 6, 5, 4, 3, 2, 1, 0] by decide) ?_
        exact ⟨rfl, v5.heap.size, v0.heap.size, ha.sub (by simp), by omega, by omega, by omega, by omega, Lib.hid ((E.out).sub (by simp) (by simp))⟩
    ·
      have HB := Lib.hid hb
      have HN : Hid (ngB y1 = false) := by show _ = _; rw [HB1.out, hb]; rfl
      clear hb
      refine line_start (ops := opsAt Try.prog 13 7) (S := SB [((w.heap.size + 1), .bool false, .slice none 0 0, .int .i64 0), (w.heap.size, (.bool (ngB i)), (.slice A n c), (.int .i64 (s : Int)))]) (by kernel_rfl) (by kernel_rfl) (St.sbOf E (by simp)) ?_
      generalize w2.drew = v0 at E ⊢
      have hSw := St.sbOf (bs' := [((w.heap.size + 1), .bool false, .slice none 0 0, .int .i64 0), (w.heap.size, (.bool (ngB i)), (.slice A n c), (.int .i64 (s : Int)))]) E (by simp)
      refine line_ahead rq7pR 0 0 [] 0 41 (.pointer (some ⟨w.heap.size, 0, none⟩)) [(1, .int .i64 (S : Int)), (2, .pointer (some ⟨w.heap.size, 0, none⟩)), (4, .pointer (some ⟨w.heap.size + 1, 0, none⟩)), (5, .slice A5 n5 c5), (6, .slice A6 n6 c6)] rfl (by decide) (by decide) (by decide) ha (fun o ho hg => y_of (wanted_none hg) (fun wx hS => e_field 0 (by simp) ho (ha.ev (i := 2) (v := .pointer (some ⟨w.heap.size, 0, none⟩)) (by simp)))) (by simp) hSw ?_; intro a ha
      refine line_ahead rq7pR 1 0 [0] 1 42 (.bool false) [(1, .int .i64 (S : Int)), (2, .pointer (some ⟨w.heap.size, 0, none⟩)), (4, .pointer (some ⟨w.heap.size + 1, 0, none⟩)), (5, .slice A5 n5 c5), (6, .slice A6 n6 c6)] rfl (by decide) (by decide) (by decide) ha (fun o ho hg => y_of (wanted_none hg) (fun wx hS => (e_cell (by simp) ho (ha.ev (i := 41) (v := .pointer (some ⟨w.heap.size, 0, none⟩)) (by simp)) (hS.at_ (g := w.heap.size) (x0 := (.bool (ngB i))) (x1 := (.slice A n c)) (x2 := (.int .i64 (s : Int))) (by simp)).c0).trans (by rw [HB.out]))) (by simp) hSw ?_; intro a ha
      refine line_ahead rq7pR 2 0 [1, 0] 2 43 (.bool false) [(1, .int .i64 (S : Int)), (2, .pointer (some ⟨w.heap.size, 0, none⟩)), (4, .pointer (some ⟨w.heap.size + 1, 0, none⟩)), (5, .slice A5 n5 c5), (6, .slice A6 n6 c6)] rfl (by decide) (by decide) (by decide) ha (fun o ho hg => y_of (wanted_none hg) (fun wx hS => e_move (.inl ho) (ha.ev (i := 42) (v := .bool false) (by simp)))) (by simp) hSw ?_; intro a ha
      refine line_ahead rq7pR 3 0 [2, 1, 0] 3 44 undef [(43, .bool false), (1, .int .i64 (S : Int)), (2, .pointer (some ⟨w.heap.size, 0, none⟩)), (4, .pointer (some ⟨w.heap.size + 1, 0, none⟩)), (5, .slice A5 n5 c5), (6, .slice A6 n6 c6)] rfl (by decide) (by decide) (by decide) ha (fun o ho hg => y_not (rq7pR.unwanted hg rfl ha (d := 43) (by simp))) (by simp) hSw ?_; intro a ha
      refine line_ahead rq7pR 4 0 [3, 2, 1, 0] 4 45 undef [(43, .bool false), (1, .int .i64 (S : Int)), (2, .pointer (some ⟨w.heap.size, 0, none⟩)), (4, .pointer (some ⟨w.heap.size + 1, 0, none⟩)), (5, .slice A5 n5 c5), (6, .slice A6 n6 c6)] rfl (by decide) (by decide) (by decide) ha (fun o ho hg => y_not (rq7pR.unwanted hg rfl ha (d := 43) (by simp))) (by simp) hSw ?_; intro a ha
      refine line_ahead rq7pR 5 0 [4, 3, 2, 1, 0] 5 46 undef [(43, .bool false), (1, .int .i64 (S : Int)), (2, .pointer (some ⟨w.heap.size, 0, none⟩)), (4, .pointer (some ⟨w.heap.size + 1, 0, none⟩)), (5, .slice A5 n5 c5), (6, .slice A6 n6 c6)] rfl (by decide) (by decide) (by decide) ha (fun o ho hg => y_not (rq7pR.unwanted hg rfl ha (d := 43) (by simp))) (by simp) hSw ?_; intro a ha
      refine line_ahead rq7pR 6 0 [5, 4, 3, 2, 1, 0] 6 47 (.bool (ngB y1)) [(1, .int .i64 (S : Int)), (2, .pointer (some ⟨w.heap.size, 0, none⟩)), (4, .pointer (some ⟨w.heap.size + 1, 0, none⟩)), (5, .slice A5 n5 c5), (6, .slice A6 n6 c6)] rfl (by decide) (by decide) (by decide) ha (fun o ho hg => y_of (wanted_none hg) (fun wx hS => (e_pick ho (ha.ev (i := 43) (v := .bool false) (by simp)) (ha.ev (i := 46) (v := undef) (by simp)) rfl).trans (by rw [HN.out]; rfl))) (by simp) hSw ?_; intro a ha
      refine line_ahead rq7pR 7 0 [6, 5, 4, 3, 2, 1, 0] 7 48 (.slice A5 n5 c5) [(47, .bool (ngB y1)), (1, .int .i64 (S : Int)), (2, .pointer (some ⟨w.heap.size, 0, none⟩)), (4, .pointer (some ⟨w.heap.size + 1, 0, none⟩)), (6, .slice A6 n6 c6)] rfl (by decide) (by decide) (by decide) ha (fun o ho hg => y_of (wanted_none hg) (fun wx hS => e_move (.inl ho) (ha.ev (i := 5) (v := .slice A5 n5 c5) (by simp)))) (by simp) hSw ?_; intro a ha
      refine line_ahead rq7pR 8 0 [7, 6, 5, 4, 3, 2, 1, 0] 8 49 (.int .i64 (S : Int)) [(48, .slice A5 n5 c5), (47, .bool (ngB y1)), (1, .int .i64 (S : Int)), (2, .pointer (some ⟨w.heap.size, 0, none⟩)), (4, .pointer (some ⟨w.heap.size + 1, 0, none⟩)), (6, .slice A6 n6 c6)] rfl (by decide) (by decide) (by decide) ha (fun o ho hg => y_of (wanted_none hg) (fun wx hS => e_move (.inl ho) (ha.ev (i := 1) (v := .int .i64 (S : Int)) (by simp)))) (by simp) hSw ?_; intro a ha
      refine line_ahead rq7pR 9 0 [8, 7, 6, 5, 4, 3, 2, 1, 0] 9 50 (.agg #[.bool (ngB y1), .slice A5 n5 c5, .int .i64 (S : Int)]) [(1, .int .i64 (S : Int)), (2, .pointer (some ⟨w.heap.size, 0, none⟩)), (4, .pointer (some ⟨w.heap.size + 1, 0, none⟩)), (6, .slice A6 n6 c6)] rfl (by decide) (by decide) (by decide) ha (fun o ho hg => y_of (wanted_none hg) (fun wx hS => e_build ho (ha.ev (i := 47) (v := .bool (ngB y1)) (by simp)) (ha.ev (i := 48) (v := .slice A5 n5 c5) (by simp)) (ha.ev (i := 49) (v := .int .i64 (S : Int)) (by simp)))) (by simp) hSw ?_; intro a ha
      refine line_ahead rq7pR 10 0 [9, 8, 7, 6, 5, 4, 3, 2, 1, 0] 10 51 (.pointer (some ⟨w.heap.size, 0, none⟩)) [(50, .agg #[.bool (ngB y1), .slice A5 n5 c5, .int .i64 (S : Int)]), (1, .int .i64 (S : Int)), (2, .pointer (some ⟨w.heap.size, 0, none⟩)), (4, .pointer (some ⟨w.heap.size + 1, 0, none⟩)), (6, .slice A6 n6 c6)] rfl (by decide) (by decide) (by decide) ha (fun o ho hg => y_of (wanted_none hg) (fun wx hS => e_field 0 (by simp) ho (ha.ev (i := 2) (v := .pointer (some ⟨w.heap.size, 0, none⟩)) (by simp)))) (by simp) hSw ?_; intro a ha
      refine line_ahead rq7pR 11 0 [10, 9, 8, 7, 6, 5, 4, 3, 2, 1, 0] 11 52 ((.bool (ngB i))) [(50, .agg #[.bool (ngB y1), .slice A5 n5 c5, .int .i64 (S : Int)]), (1, .int .i64 (S : Int)), (2, .pointer (some ⟨w.heap.size, 0, none⟩)), (4, .pointer (some ⟨w.heap.size + 1, 0, none⟩)), (6, .slice A6 n6 c6)] rfl (by decide) (by decide) (by decide) ha (fun o ho hg => y_of (wanted_none hg) (fun wx hS => e_cell (by simp) ho (ha.ev (i := 51) (v := .pointer (some ⟨w.heap.size, 0, none⟩)) (by simp)) (hS.at_ (g := w.heap.size) (x0 := (.bool (ngB i))) (x1 := (.slice A n c)) (x2 := (.int .i64 (s : Int))) (by simp)).c0)) (by simp) hSw ?_; intro a ha
      refine line_ahead rq7pR 12 0 [11, 10, 9, 8, 7, 6, 5, 4, 3, 2, 1, 0] 12 53 (.slice A6 n6 c6) [(52, (.bool (ngB i))), (50, .agg #[.bool (ngB y1), .slice A5 n5 c5, .int .i64 (S : Int)]), (1, .int .i64 (S : Int)), (2, .pointer (some ⟨w.heap.size, 0, none⟩)), (4, .pointer (some ⟨w.heap.size + 1, 0, none⟩)), (6, .slice A6 n6 c6)] rfl (by decide) (by decide) (by decide) ha (fun o ho hg => y_of (wanted_none hg) (fun wx hS => e_move (.inl ho) (ha.ev (i := 6) (v := .slice A6 n6 c6) (by simp)))) (by simp) hSw ?_; intro a ha
      refine line_ahead rq7pR 13 0 [12, 11, 10, 9, 8, 7, 6, 5, 4, 3, 2, 1, 0] 13 54 (.int .i64 (S : Int)) [(53, .slice A6 n6 c6), (52, (.bool (ngB i))), (50, .agg #[.bool (ngB y1), .slice A5 n5 c5, .int .i64 (S : Int)]), (1, .int .i64 (S : Int)), (2, .pointer (some ⟨w.heap.size, 0, none⟩)), (4, .pointer (some ⟨w.heap.size + 1, 0, none⟩)), (6, .slice A6 n6 c6)] rfl (by decide) (by decide) (by decide) ha (fun o ho hg => y_of (wanted_none hg) (fun wx hS => e_move (.inl ho) (ha.ev (i := 1) (v := .int .i64 (S : Int)) (by simp)))) (by simp) hSw ?_; intro a ha
      refine line_ahead rq7pR 14 0 [13, 12, 11, 10, 9, 8, 7, 6, 5, 4, 3, 2, 1, 0] 14 55 (.agg #[(.bool (ngB i)), .slice A6 n6 c6, .int .i64 (S : Int)]) [(50, .agg #[.bool (ngB y1), .slice A5 n5 c5, .int .i64 (S : Int)]), (1, .int .i64 (S : Int)), (2, .pointer (some ⟨w.heap.size, 0, none⟩)), (4, .pointer (some ⟨w.heap.size + 1, 0, none⟩)), (6, .slice A6 n6 c6)] rfl (by decide) (by decide) (by decide) ha (fun o ho hg => y_of (wanted_none hg) (fun wx hS => e_build ho (ha.ev (i := 52) (v := (.bool (ngB i))) (by simp)) (ha.ev (i := 53) (v := .slice A6 n6 c6) (by simp)) (ha.ev (i := 54) (v := .int .i64 (S : Int)) (by simp)))) (by simp) hSw ?_; intro a ha
      refine line_all rq7pR 15 0 [14, 13, 12, 11, 10, 9, 8, 7, 6, 5, 4, 3, 2, 1, 0] [15, 16] (by decide) (rq7pB _ (by decide)) (by simp) ?_
      intro j hj; simp only [List.mem_cons, List.not_mem_nil, or_false] at hj
      rcases hj with rfl | rfl
      ·
        have lt1_0 := (St.at_ (x0 := .bool false) (x1 := .slice none 0 0) (x2 := .int .i64 0) (g := (w.heap.size + 1)) E (by simp)).lt
        have lt1_1 := (St.at_ (x0 := (.bool (ngB i))) (x1 := (.slice A n c)) (x2 := (.int .i64 (s : Int))) (g := w.heap.size) E (by simp)).lt
        refine turn_op rq7pR 15 0 [14, 13, 12, 11, 10, 9, 8, 7, 6, 5, 4, 3, 2, 1, 0] 15 7 (v := .pointer (some ⟨v0.heap.size, 0, none⟩)) (w' := v0.alloc (.cells #[.bool false, .slice none 0 0, .int .i64 0] 25)) [(55, .agg #[(.bool (ngB i)), .slice A6 n6 c6, .int .i64 (S : Int)]), (50, .agg #[.bool (ngB y1), .slice A5 n5 c5, .int .i64 (S : Int)]), (1, .int .i64 (S : Int)), (2, .pointer (some ⟨w.heap.size, 0, none⟩)), (4, .pointer (some ⟨w.heap.size + 1, 0, none⟩)), (6, .slice A6 n6 c6)] rfl (by decide) ha (fun o ho hg => ⟨(wanted_none hg), e_alloc ho⟩) (by simp) (St.sbOf (bs' := [((w.heap.size + 1), .bool false, .slice none 0 0, .int .i64 0), (w.heap.size, (.bool (ngB i)), (.slice A n c), (.int .i64 (s : Int)))]) (Lib.hid (St.alloc E.out _)) (by simp)) ?_; intro a ha
        replace E := Lib.hid (St.lay (t := 25) (x0 := .bool false) (x1 := .slice none 0 0) (x2 := .int .i64 0) (g := v0.heap.size) E.out rfl)
        generalize hW : World.alloc v0 _ = v1 at E ⊢; clear hW
        have hSw := St.sbOf (bs' := [((w.heap.size + 1), .bool false, .slice none 0 0, .int .i64 0), (w.heap.size, (.bool (ngB i)), (.slice A n c), (.int .i64 (s : Int)))]) E (by simp)
        refine line_all rq7pR 16 0 [15, 14, 13, 12, 11, 10, 9, 8, 7, 6, 5, 4, 3, 2, 1, 0] [16] (by decide) (rq7pB _ (by decide)) (by simp) ?_
        intro j hj; simp only [List.mem_cons, List.not_mem_nil, or_false] at hj
        subst hj
        have lt2_0 := (St.at_ (x0 := .bool false) (x1 := .slice none 0 0) (x2 := .int .i64 0) (g := v0.heap.size) E (by simp)).lt
        have lt2_1 := (St.at_ (x0 := .bool false) (x1 := .slice none 0 0) (x2 := .int .i64 0) (g := (w.heap.size + 1)) E (by simp)).lt
        have lt2_2 := (St.at_ (x0 := (.bool (ngB i))) (x1 := (.slice A n c)) (x2 := (.int .i64 (s : Int))) (g := w.heap.size) E (by simp)).lt
        refine turn_op rq7pR 16 0 [15, 14, 13, 12, 11, 10, 9, 8, 7, 6, 5, 4, 3, 2, 1, 0] 16 8 (v := .pointer (some ⟨v1.heap.size, 0, none⟩)) (w' := v1.alloc (.cells #[.bool false, .slice none 0 0, .int .i64 0] 25)) [(7, .pointer (some ⟨v0.heap.size, 0, none⟩)), (55, .agg #[(.bool (ngB i)), .slice A6 n6 c6, .int .i64 (S : Int)]), (50, .agg #[.bool (ngB y1), .slice A5 n5 c5, .int .i64 (S : Int)]), (1, .int .i64 (S : Int)), (2, .pointer (some ⟨w.heap.size, 0, none⟩)), (4, .pointer (some ⟨w.heap.size + 1, 0, none⟩)), (6, .slice A6 n6 c6)] rfl (by decide) ha (fun o ho hg => ⟨(wanted_none hg), e_alloc ho⟩) (by simp) (St.sbOf (bs' := [((w.heap.size + 1), .bool false, .slice none 0 0, .int .i64 0), (w.heap.size, (.bool (ngB i)), (.slice A n c), (.int .i64 (s : Int)))]) (Lib.hid (St.alloc E.out _)) (by simp)) ?_; intro a ha
        replace E := Lib.hid (St.lay (t := 25) (x0 := .bool false) (x1 := .slice none 0 0) (x2 := .int .i64 0) (g := v1.heap.size) E.out rfl)
        generalize hW : World.alloc v1 _ = v2 at E ⊢; clear hW
        have hSw := St.sbOf (bs' := [((w.heap.size + 1), .bool false, .slice none 0 0, .int .i64 0), (w.heap.size, (.bool (ngB i)), (.slice A n c), (.int .i64 (s : Int)))]) E (by simp)
        refine line_all rq7pR 17 0 [16, 15, 14, 13, 12, 11, 10, 9, 8, 7, 6, 5, 4, 3, 2, 1, 0] [17] (by decide) (rq7pB _ (by decide)) (by simp) ?_
        intro j hj; simp only [List.mem_cons, List.not_mem_nil, or_false] at hj
        subst hj
        have E2 := Lib.hid (St.store E.out (g := v0.heap.size) (x0 := .bool false) (x1 := .slice none 0 0) (x2 := .int .i64 0) (by simp) (noLimb_bool _) (noLimb_slice _ _ _) (noLimb_int _) [(v1.heap.size, .bool false, .slice none 0 0, .int .i64 0), ((w.heap.size + 1), .bool false, .slice none 0 0, .int .i64 0), (w.heap.size, (.bool (ngB i)), (.slice A n c), (.int .i64 (s : Int)))] (by simp <;> omega) (.bool (ngB y1)) (.slice A5 n5 c5) (.int .i64 (S : Int)))
        refine turn_store rq7pR 17 0 [16, 15, 14, 13, 12, 11, 10, 9, 8, 7, 6, 5, 4, 3, 2, 1, 0] 17 (w' := put3 v2 (v0.heap.size) (.bool (ngB y1)) (.slice A5 n5 c5) (.int .i64 (S : Int))) rfl ha (fun o ho hg => ⟨(wanted_none hg), e_store ho (ha.ev (i := 7) (v := .pointer (some ⟨v0.heap.size, 0, none⟩)) (by simp)) (ha.ev (i := 50) (v := .agg #[.bool (ngB y1), .slice A5 n5 c5, .int .i64 (S : Int)]) (by simp)) (St.at_ (g := v0.heap.size) (x0 := .bool false) (x1 := .slice none 0 0) (x2 := .int .i64 0) E (by simp))⟩) (St.sbOf (bs' := [((w.heap.size + 1), .bool false, .slice none 0 0, .int .i64 0), (w.heap.size, (.bool (ngB i)), (.slice A n c), (.int .i64 (s : Int)))]) E2 (by simp)) ?_; intro a ha
        replace E := E2; clear E2
        generalize hW : put3 v2 _ _ _ _ = v3 at E ⊢; clear hW
        have hSw := St.sbOf (bs' := [((w.heap.size + 1), .bool false, .slice none 0 0, .int .i64 0), (w.heap.size, (.bool (ngB i)), (.slice A n c), (.int .i64 (s : Int)))]) E (by simp)
        refine line_all rq7pR 18 0 [17, 16, 15, 14, 13, 12, 11, 10, 9, 8, 7, 6, 5, 4, 3, 2, 1, 0] [18] (by decide) (rq7pB _ (by decide)) (by simp) ?_
        intro j hj; simp only [List.mem_cons, List.not_mem_nil, or_false] at hj
        subst hj
        have E2 := Lib.hid (St.store E.out (g := v1.heap.size) (x0 := .bool false) (x1 := .slice none 0 0) (x2 := .int .i64 0) (by simp) (noLimb_bool _) (noLimb_slice _ _ _) (noLimb_int _) [(v0.heap.size, (.bool (ngB y1)), (.slice A5 n5 c5), (.int .i64 (S : Int))), ((w.heap.size + 1), .bool false, .slice none 0 0, .int .i64 0), (w.heap.size, (.bool (ngB i)), (.slice A n c), (.int .i64 (s : Int)))] (by simp <;> omega) (.bool (ngB i)) (.slice A6 n6 c6) (.int .i64 (S : Int)))
        refine turn_store rq7pR 18 0 [17, 16, 15, 14, 13, 12, 11, 10, 9, 8, 7, 6, 5, 4, 3, 2, 1, 0] 18 (w' := put3 v3 (v1.heap.size) (.bool (ngB i)) (.slice A6 n6 c6) (.int .i64 (S : Int))) rfl ha (fun o ho hg => ⟨(wanted_none hg), e_store ho (ha.ev (i := 8) (v := .pointer (some ⟨v1.heap.size, 0, none⟩)) (by simp)) (ha.ev (i := 55) (v := .agg #[(.bool (ngB i)), .slice A6 n6 c6, .int .i64 (S : Int)]) (by simp)) (St.at_ (g := v1.heap.size) (x0 := .bool false) (x1 := .slice none 0 0) (x2 := .int .i64 0) E (by simp))⟩) (St.sbOf (bs' := [((w.heap.size + 1), .bool false, .slice none 0 0, .int .i64 0), (w.heap.size, (.bool (ngB i)), (.slice A n c), (.int .i64 (s : Int)))]) E2 (by simp)) ?_; intro a ha
        replace E := E2; clear E2
        generalize hW : put3 v3 _ _ _ _ = v4 at E ⊢; clear hW
        have hSw := St.sbOf (bs' := [((w.heap.size + 1), .bool false, .slice none 0 0, .int .i64 0), (w.heap.size, (.bool (ngB i)), (.slice A n c), (.int .i64 (s : Int)))]) E (by simp)
        refine line_end0 rq7pR (show ∀ i, i < 19 → i ∈ [18, 17, 16, 15, 14, 13, 12, 11, 10, 9, 8, 7, 6, 5, 4, 3, 2, 1, 0] by decide) ?_
        exact ⟨rfl, v0.heap.size, v1.heap.size, ha.sub (by simp), by omega, by omega, by omega, by omega, Lib.hid ((E.out).sub (by simp) (by simp))⟩
      ·
        have lt5_0 := (St.at_ (x0 := .bool false) (x1 := .slice none 0 0) (x2 := .int .i64 0) (g := (w.heap.size + 1)) E (by simp)).lt
        have lt5_1 := (St.at_ (x0 := (.bool (ngB i))) (x1 := (.slice A n c)) (x2 := (.int .i64 (s : Int))) (g := w.heap.size) E (by simp)).lt
        refine turn_op rq7pR 15 0 [14, 13, 12, 11, 10, 9, 8, 7, 6, 5, 4, 3, 2, 1, 0] 16 8 (v := .pointer (some ⟨v0.heap.size, 0, none⟩)) (w' := v0.alloc (.cells #[.bool false, .slice none 0 0, .int .i64 0] 25)) [(55, .agg #[(.bool (ngB i)), .slice A6 n6 c6, .int .i64 (S : Int)]), (50, .agg #[.bool (ngB y1), .slice A5 n5 c5, .int .i64 (S : Int)]), (1, .int .i64 (S : Int)), (2, .pointer (some ⟨w.heap.size, 0, none⟩)), (4, .pointer (some ⟨w.heap.size + 1, 0, none⟩)), (6, .slice A6 n6 c6)] rfl (by decide) ha (fun o ho hg => ⟨(wanted_none hg), e_alloc ho⟩) (by simp) (St.sbOf (bs' := [((w.heap.size + 1), .bool false, .slice none 0 0, .int .i64 0), (w.heap.size, (.bool (ngB i)), (.slice A n c), (.int .i64 (s : Int)))]) (Lib.hid (St.alloc E.out _)) (by simp)) ?_; intro a ha
        replace E := Lib.hid (St.lay (t := 25) (x0 := .bool false) (x1 := .slice none 0 0) (x2 := .int .i64 0) (g := v0.heap.size) E.out rfl)
        generalize hW : World.alloc v0 _ = v5 at E ⊢; clear hW
        have hSw := St.sbOf (bs' := [((w.heap.size + 1), .bool false, .slice none 0 0, .int .i64 0), (w.heap.size, (.bool (ngB i)), (.slice A n c), (.int .i64 (s : Int)))]) E (by simp)
        refine line_all rq7pR 16 0 [16, 14, 13, 12, 11, 10, 9, 8, 7, 6, 5, 4, 3, 2, 1, 0] [15] (by decide) (rq7pB _ (by decide)) (by simp) ?_
        intro j hj; simp only [List.mem_cons, List.not_mem_nil, or_false] at hj
        subst hj
        have lt6_0 := (St.at_ (x0 := .bool false) (x1 := .slice none 0 0) (x2 := .int .i64 0) (g := v0.heap.size) E (by simp)).lt
        have lt6_1 := (St.at_ (x0 := .bool false) (x1 := .slice none 0 0) (x2 := .int .i64 0) (g := (w.heap.size + 1)) E (by simp)).lt
        have lt6_2 := (St.at_ (x0 := (.bool (ngB i))) (x1 := (.slice A n c)) (x2 := (.int .i64 (s : Int))) (g := w.heap.size) E (by simp)).lt
        refine turn_op rq7pR 16 0 [16, 14, 13, 12, 11, 10, 9, 8, 7, 6, 5, 4, 3, 2, 1, 0] 15 7 (v := .pointer (some ⟨v5.heap.size, 0, none⟩)) (w' := v5.alloc (.cells #[.bool false, .slice none 0 0, .int .i64 0] 25)) [(8, .pointer (some ⟨v0.heap.size, 0, none⟩)), (55, .agg #[(.bool (ngB i)), .slice A6 n6 c6, .int .i64 (S : Int)]), (50, .agg #[.bool (ngB y1), .slice A5 n5 c5, .int .i64 (S : Int)]), (1, .int .i64 (S : Int)), (2, .pointer (some ⟨w.heap.size, 0, none⟩)), (4, .pointer (some ⟨w.heap.size + 1, 0, none⟩)), (6, .slice A6 n6 c6)] rfl (by decide) ha (fun o ho hg => ⟨(wanted_none hg), e_alloc ho⟩) (by simp) (St.sbOf (bs' := [((w.heap.size + 1), .bool false, .slice none 0 0, .int .i64 0), (w.heap.size, (.bool (ngB i)), (.slice A n c), (.int .i64 (s : Int)))]) (Lib.hid (St.alloc E.out _)) (by simp)) ?_; intro a ha
        replace E := Lib.hid (St.lay (t := 25) (x0 := .bool false) (x1 := .slice none 0 0) (x2 := .int .i64 0) (g := v5.heap.size) E.out rfl)
        generalize hW : World.alloc v5 _ = v6 at E ⊢; clear hW
        have hSw := St.sbOf (bs' := [((w.heap.size + 1), .bool false, .slice none 0 0, .int .i64 0), (w.heap.size, (.bool (ngB i)), (.slice A n c), (.int .i64 (s : Int)))]) E (by simp)
        refine line_all rq7pR 17 0 [15, 16, 14, 13, 12, 11, 10, 9, 8, 7, 6, 5, 4, 3, 2, 1, 0] [17] (by decide) (rq7pB _ (by decide)) (by simp) ?_
        intro j hj; simp only [List.mem_cons, List.not_mem_nil, or_false] at hj
        subst hj
        have E2 := Lib.hid (St.store E.out (g := v5.heap.size) (x0 := .bool false) (x1 := .slice none 0 0) (x2 := .int .i64 0) (by simp) (noLimb_bool _) (noLimb_slice _ _ _) (noLimb_int _) [(v0.heap.size, .bool false, .slice none 0 0, .int .i64 0), ((w.heap.size + 1), .bool false, .slice none 0 0, .int .i64 0), (w.heap.size, (.bool (ngB i)), (.slice A n c), (.int .i64 (s : Int)))] (by simp <;> omega) (.bool (ngB y1)) (.slice A5 n5 c5) (.int .i64 (S : Int)))
        refine turn_store rq7pR 17 0 [15, 16, 14, 13, 12, 11, 10, 9, 8, 7, 6, 5, 4, 3, 2, 1, 0] 17 (w' := put3 v6 (v5.heap.size) (.bool (ngB y1)) (.slice A5 n5 c5) (.int .i64 (S : Int))) rfl ha (fun o ho hg => ⟨(wanted_none hg), e_store ho (ha.ev (i := 7) (v := .pointer (some ⟨v5.heap.size, 0, none⟩)) (by simp)) (ha.ev (i := 50) (v := .agg #[.bool (ngB y1), .slice A5 n5 c5, .int .i64 (S : Int)]) (by simp)) (St.at_ (g := v5.heap.size) (x0 := .bool false) (x1 := .slice none 0 0) (x2 := .int .i64 0) E (by simp))⟩) (St.sbOf (bs' := [((w.heap.size + 1), .bool false, .slice none 0 0, .int .i64 0), (w.heap.size, (.bool (ngB i)), (.slice A n c), (.int .i64 (s : Int)))]) E2 (by simp)) ?_; intro a ha
        replace E := E2; clear E2
        generalize hW : put3 v6 _ _ _ _ = v7 at E ⊢; clear hW
        have hSw := St.sbOf (bs' := [((w.heap.size + 1), .bool false, .slice none 0 0, .int .i64 0), (w.heap.size, (.bool (ngB i)), (.slice A n c), (.int .i64 (s : Int)))]) E (by simp)
        refine line_all rq7pR 18 0 [17, 15, 16, 14, 13, 12, 11, 10, 9, 8, 7, 6, 5, 4, 3, 2, 1, 0] [18] (by decide) (rq7pB _ (by decide)) (by simp) ?_
        intro j hj; simp only [List.mem_cons, List.not_mem_nil, or_false] at hj
        subst hj
        have E2 := Lib.hid (St.store E.out (g := v0.heap.size) (x0 := .bool false) (x1 := .slice none 0 0) (x2 := .int .i64 0) (by simp) (noLimb_bool _) (noLimb_slice _ _ _) (noLimb_int _) [(v5.heap.size, (.bool (ngB y1)), (.slice A5 n5 c5), (.int .i64 (S : Int))), ((w.heap.size + 1), .bool false, .slice none 0 0, .int .i64 0), (w.heap.size, (.bool (ngB i)), (.slice A n c), (.int .i64 (s : Int)))] (by simp <;> omega) (.bool (ngB i)) (.slice A6 n6 c6) (.int .i64 (S : Int)))
        refine turn_store rq7pR 18 0 [17, 15, 16, 14, 13, 12, 11, 10, 9, 8, 7, 6, 5, 4, 3, 2, 1, 0] 18 (w' := put3 v7 (v0.heap.size) (.bool (ngB i)) (.slice A6 n6 c6) (.int .i64 (S : Int))) rfl ha (fun o ho hg => ⟨(wanted_none hg), e_store ho (ha.ev (i := 8) (v := .pointer (some ⟨v0.heap.size, 0, none⟩)) (by simp)) (ha.ev (i := 55) (v := .agg #[(.bool (ngB i)), .slice A6 n6 c6, .int .i64 (S : Int)]) (by simp)) (St.at_ (g := v0.heap.size) (x0 := .bool false) (x1 := .slice none 0 0) (x2 := .int .i64 0) E (by simp))⟩) (St.sbOf (bs' := [((w.heap.size + 1), .bool false, .slice none 0 0, .int .i64 0), (w.heap.size, (.bool (ngB i)), (.slice A n c), (.int .i64 (s : Int)))]) E2 (by simp)) ?_; intro a ha
        replace E := E2; clear E2
        generalize hW : put3 v7 _ _ _ _ = v8 at E ⊢; clear hW
        have hSw := St.sbOf (bs' := [((w.heap.size + 1), .bool false, .slice none 0 0, .int .i64 0), (w.heap.size, (.bool (ngB i)), (.slice A n c), (.int .i64 (s : Int)))]) E (by simp)
        refine line_end0 rq7pR (show ∀ i, i < 19 → i ∈ [18, 17, 15, 16, 14, 13, 12, 11, 10, 9, 8, 7, 6, 5, 4, 3, 2, 1, 0] by decide) ?_
        exact ⟨rfl, v5.heap.size, v0.heap.size, ha.sub (by simp), by omega, by omega, by omega, by omega, Lib.hid ((E.out).sub (by simp) (by simp))⟩
  clear E
  rintro a wB ⟨g7, g8, ha, hg1, hg2, hg3, hg4, E⟩
  simp only [Exit.then]
  refine hK _ _ ?_
  clear hK K
  refine wp_seq_k (fun K hK => ?_)
  replace E := Lib.hid (St.drew E.out)
  refine wp_cut (fun a' w' => ∃ (g9 g10 : Nat) (A9 : Option Addr) (n9 c9 : Nat) (A10 : Option Addr) (n10 c10 : Nat), Fr 79 a' [(1, .int .i64 (S : Int)), (2, .pointer (some ⟨w.heap.size, 0, none⟩)), (4, .pointer (some ⟨w.heap.size + 1, 0, none⟩)), (7, .pointer (some ⟨g7, 0, none⟩)), (8, .pointer (some ⟨g8, 0, none⟩)), (6, .slice A6 n6 c6), (9, .pointer (some ⟨g9, 0, none⟩)), (10, .pointer (some ⟨g10, 0, none⟩))] ∧ n9 ≤ 5000 ∧ n10 ≤ 5000 ∧ Hid (St w w' [(A9, n9, c9, (p).natAbs), (A10, n10, c10, (q).natAbs), (A6, n6, c6, (y2).natAbs), (A5, n5, c5, (y1).natAbs), (A, n, c, i.natAbs)] [(g9, (.bool (ngB p)), (.slice A9 n9 c9), (.int .i64 (M : Int))), (g10, (.bool (ngB q)), (.slice A10 n10 c10), (.int .i64 (M : Int))), (g7, (.bool (ngB y1)), (.slice A5 n5 c5), (.int .i64 (S : Int))), (g8, (.bool (ngB i)), (.slice A6 n6 c6), (.int .i64 (S : Int))), ((w.heap.size + 1), .bool false, .slice none 0 0, .int .i64 0), (w.heap.size, (.bool (ngB i)), (.slice A n c), (.int .i64 (s : Int)))])) ?_ ?_
  · refine line_start (ops := opsAt Try.prog 13 8) (S := SB [(g7, (.bool (ngB y1)), (.slice A5 n5 c5), (.int .i64 (S : Int))), (g8, (.bool (ngB i)), (.slice A6 n6 c6), (.int .i64 (S : Int))), ((w.heap.size + 1), .bool false, .slice none 0 0, .int .i64 0), (w.heap.size, (.bool (ngB i)), (.slice A n c), (.int .i64 (s : Int)))]) (by kernel_rfl) (by kernel_rfl) (St.sbOf E (by simp)) ?_
    generalize wB.drew = v0 at E ⊢
    have SBL : ∀ {W : World} {l : List (Option Addr × Nat × Nat × Nat)} {bs : List (Nat × Value × Value × Value)}, Hid (St w W l bs) → (∀ q ∈ ([(g7, (.bool (ngB y1)), (.slice A5 n5 c5), (.int .i64 (S : Int))), (g8, (.bool (ngB i)), (.slice A6 n6 c6), (.int .i64 (S : Int))), ((w.heap.size + 1), .bool false, .slice none 0 0, .int .i64 0), (w.heap.size, (.bool (ngB i)), (.slice A n c), (.int .i64 (s : Int)))] : List (Nat × Value × Value × Value)), q ∈ bs) → SB [(g7, (.bool (ngB y1)), (.slice A5 n5 c5), (.int .i64 (S : Int))), (g8, (.bool (ngB i)), (.slice A6 n6 c6), (.int .i64 (S : Int))), ((w.heap.size + 1), .bool false, .slice none 0 0, .int .i64 0), (w.heap.size, (.bool (ngB i)), (.slice A n c), (.int .i64 (s : Int)))] W := fun h hs => St.sbOf h hs
    have hSw := SBL E (by simp)
    refine line_ahead0 rq8R 0 0 [] 0 56 (.agg #[(.bool (ngB i)), (.slice A n c), (.int .i64 (s : Int))]) rfl (by decide) (by decide) (by decide) ha (fun o ho hg => y_of (wanted_none hg) (fun wx hS => e_load ho (ha.ev (i := 2) (v := .pointer (some ⟨w.heap.size, 0, none⟩)) (by simp)) (hS.at_ (g := w.heap.size) (x0 := (.bool (ngB i))) (x1 := (.slice A n c)) (x2 := (.int .i64 (s : Int))) (by simp)))) (by simp) hSw ?_; intro a ha
    refine line_ahead0 rq8R 1 0 [0] 1 57 (.agg #[(.bool (ngB y1)), (.slice A5 n5 c5), (.int .i64 (S : Int))]) rfl (by decide) (by decide) (by decide) ha (fun o ho hg => y_of (wanted_none hg) (fun wx hS => e_load ho (ha.ev (i := 7) (v := .pointer (some ⟨g7, 0, none⟩)) (by simp)) (hS.at_ (g := g7) (x0 := (.bool (ngB y1))) (x1 := (.slice A5 n5 c5)) (x2 := (.int .i64 (S : Int))) (by simp)))) (by simp) hSw ?_; intro a ha
    refine line_ahead0 rq8R 2 0 [1, 0] 4 60 (.agg #[(.bool (ngB i)), (.slice A6 n6 c6), (.int .i64 (S : Int))]) rfl (by decide) (by decide) (by decide) ha (fun o ho hg => y_of (wanted_none hg) (fun wx hS => e_load ho (ha.ev (i := 8) (v := .pointer (some ⟨g8, 0, none⟩)) (by simp)) (hS.at_ (g := g8) (x0 := (.bool (ngB i))) (x1 := (.slice A6 n6 c6)) (x2 := (.int .i64 (S : Int))) (by simp)))) (by simp) hSw ?_; intro a ha
    refine line_ahead0 rq8R 3 0 [4, 1, 0] 5 61 (.agg #[(.bool (ngB i)), (.slice A n c), (.int .i64 (s : Int))]) rfl (by decide) (by decide) (by decide) ha (fun o ho hg => y_of (wanted_none hg) (fun wx hS => e_load ho (ha.ev (i := 2) (v := .pointer (some ⟨w.heap.size, 0, none⟩)) (by simp)) (hS.at_ (g := w.heap.size) (x0 := (.bool (ngB i))) (x1 := (.slice A n c)) (x2 := (.int .i64 (s : Int))) (by simp)))) (by simp) hSw ?_; intro a ha
    refine line_all rq8R 4 0 [5, 4, 1, 0] [2, 8, 9] (by decide) (rq8B _ (by decide)) (by simp) ?_
    intro j hj; simp only [List.mem_cons, List.not_mem_nil, or_false] at hj
    rcases hj with rfl | rfl | rfl
    ·
      refine turn_call0 rq8R 4 0 [5, 4, 1, 0] 2 58 (args := #[.agg #[(.bool (ngB i)), (.slice A n c), (.int .i64 (s : Int))], .agg #[(.bool (ngB y1)), (.slice A5 n5 c5), (.int .i64 (S : Int))]]) rfl (by decide) ha (fun o ho hg => ⟨(wanted_none hg), e_call (by kernel_rfl) ho rfl (by have q0 := ha.ev (i := 56) (v := .agg #[(.bool (ngB i)), (.slice A n c), (.int .i64 (s : Int))]) (by simp); have q1 := ha.ev (i := 57) (v := .agg #[(.bool (ngB y1)), (.slice A5 n5 c5), (.int .i64 (S : Int))]) (by simp); simp only [List.map_toArray, List.map_cons, List.map_nil, ev_const, q0, q1])⟩) (by simp) ?_
      refine (refsub_isB (i := i) (s := s) (j := y1) (t := S) rfl rfl (St.got E (A := A) (n := n) (c := c) (a := (i).natAbs) (by simp)) (St.got E (A := A5) (n := n5) (c := c5) (a := (y1).natAbs) (by simp)) (by omega) (by omega) (by omega) (by omega) HM1.out HP0.out).mono ?_; rintro e v1 ⟨X1, m1, d1, rfl, h, hb⟩
      have q1 : m1 ≤ 4500 := len_le h LP0.out
      replace E := Lib.hid (St.push E.out hb h)
      clear h hb
      have hSw := SBL E (by simp); refine ⟨_, rfl, hSw, ?_⟩; intro a ha
      refine line_all rq8R 5 0 [2, 5, 4, 1, 0] [3, 8, 9] (by decide) (rq8B _ (by decide)) (by simp) ?_
      intro j hj; simp only [List.mem_cons, List.not_mem_nil, or_false] at hj
      rcases hj with rfl | rfl | rfl
      ·
        refine turn_call0 rq8R 5 0 [2, 5, 4, 1, 0] 3 59 (args := #[.agg #[.bool (ngB p0), .slice X1 m1 d1, .int .i64 (M : Int)]]) rfl (by decide) ha (fun o ho hg => ⟨(wanted_none hg), e_call (by kernel_rfl) ho rfl (by have q0 := ha.ev (i := 58) (v := .agg #[.bool (ngB p0), .slice X1 m1 d1, .int .i64 (M : Int)]) (by simp); simp only [List.map_toArray, List.map_cons, List.map_nil, ev_const, q0])⟩) (by simp) ?_
        refine (refabs_is5 (i := p0) (s := M) (St.got E (A := X1) (n := m1) (c := d1) (a := (p0).natAbs) (by simp)) (by omega) (by omega) HP.out).mono ?_; rintro e v2 ⟨X2, m2, d2, rfl, h, hb⟩
        have q2 : m2 ≤ 4500 := len_le h LP.out
        replace E := Lib.hid (St.push E.out hb h)
        clear h hb
        have hSw := SBL E (by simp); refine ⟨_, rfl, hSw, ?_⟩; intro a ha
        refine line_all rq8R 6 0 [3, 2, 5, 4, 1, 0] [6, 8, 9] (by decide) (rq8B _ (by decide)) (by simp) ?_
        intro j hj; simp only [List.mem_cons, List.not_mem_nil, or_false] at hj
        rcases hj with rfl | rfl | rfl
        ·
          refine turn_call0 rq8R 6 0 [3, 2, 5, 4, 1, 0] 6 62 (args := #[.agg #[(.bool (ngB i)), (.slice A6 n6 c6), (.int .i64 (S : Int))], .agg #[(.bool (ngB i)), (.slice A n c), (.int .i64 (s : Int))]]) rfl (by decide) ha (fun o ho hg => ⟨(wanted_none hg), e_call (by kernel_rfl) ho rfl (by have q0 := ha.ev (i := 60) (v := .agg #[(.bool (ngB i)), (.slice A6 n6 c6), (.int .i64 (S : Int))]) (by simp); have q1 := ha.ev (i := 61) (v := .agg #[(.bool (ngB i)), (.slice A n c), (.int .i64 (s : Int))]) (by simp); simp only [List.map_toArray, List.map_cons, List.map_nil, ev_const, q0, q1])⟩) (by simp) ?_
          refine (refsub_isB (i := y2) (s := S) (j := i) (t := s) HB2.out.symm rfl (St.got E (A := A6) (n := n6) (c := c6) (a := (y2).natAbs) (by simp)) (St.got E (A := A) (n := n) (c := c) (a := (i).natAbs) (by simp)) (by omega) (by omega) (by omega) (by omega) HM2.out HQ0.out).mono ?_; rintro e v3 ⟨X3, m3, d3, rfl, h, hb⟩
          have q3 : m3 ≤ 4500 := len_le h LQ0.out
          replace E := Lib.hid (St.push E.out hb h)
          clear h hb
          have hSw := SBL E (by simp); refine ⟨_, rfl, hSw, ?_⟩; intro a ha
          refine line_all rq8R 7 0 [6, 3, 2, 5, 4, 1, 0] [7, 8, 9] (by decide) (rq8B _ (by decide)) (by simp) ?_
          intro j hj; simp only [List.mem_cons, List.not_mem_nil, or_false] at hj
          rcases hj with rfl | rfl | rfl
          ·
            refine turn_call0 rq8R 7 0 [6, 3, 2, 5, 4, 1, 0] 7 63 (args := #[.agg #[.bool (ngB q0), .slice X3 m3 d3, .int .i64 (M : Int)]]) rfl (by decide) ha (fun o ho hg => ⟨(wanted_none hg), e_call (by kernel_rfl) ho rfl (by have q0 := ha.ev (i := 62) (v := .agg #[.bool (ngB q0), .slice X3 m3 d3, .int .i64 (M : Int)]) (by simp); simp only [List.map_toArray, List.map_cons, List.map_nil, ev_const, q0])⟩) (by simp) ?_
            refine (refabs_is5 (i := q0) (s := M) (St.got E (A := X3) (n := m3) (c := d3) (a := (q0).natAbs) (by simp)) (by omega) (by omega) HQ.out).mono ?_; rintro e v4 ⟨X4, m4, d4, rfl, h, hb⟩
            have q4 : m4 ≤ 4500 := len_le h LQ.out
            replace E := Lib.hid (St.push E.out hb h)
            clear h hb
            have hSw := SBL E (by simp); refine ⟨_, rfl, hSw, ?_⟩; intro a ha
            refine line_all rq8R 8 0 [7, 6, 3, 2, 5, 4, 1, 0] [8, 9] (by decide) (rq8B _ (by decide)) (by simp) ?_
            intro j hj; simp only [List.mem_cons, List.not_mem_nil, or_false] at hj
            rcases hj with rfl | rfl
            ·
              have lt5_0 := (St.at_ (x0 := (.bool (ngB y1))) (x1 := (.slice A5 n5 c5)) (x2 := (.int .i64 (S : Int))) (g := g7) E (by simp)).lt
              have lt5_1 := (St.at_ (x0 := (.bool (ngB i))) (x1 := (.slice A6 n6 c6)) (x2 := (.int .i64 (S : Int))) (g := g8) E (by simp)).lt
              have lt5_2 := (St.at_ (x0 := .bool false) (x1 := .slice none 0 0) (x2 := .int .i64 0) (g := (w.heap.size + 1)) E (by simp)).lt
              have lt5_3 := (St.at_ (x0 := (.bool (ngB i))) (x1 := (.slice A n c)) (x2 := (.int .i64 (s : Int))) (g := w.heap.size) E (by simp)).lt
              refine turn_op0 rq8R 8 0 [7, 6, 3, 2, 5, 4, 1, 0] 8 9 (v := .pointer (some ⟨v4.heap.size, 0, none⟩)) (w' := v4.alloc (.cells #[.bool false, .slice none 0 0, .int .i64 0] 25)) rfl (by decide) ha (fun o ho hg => ⟨(wanted_none hg), e_alloc ho⟩) (by simp) (SBL (Lib.hid (St.alloc E.out _)) (by simp)) ?_; intro a ha
              replace E := Lib.hid (St.lay (t := 25) (x0 := .bool false) (x1 := .slice none 0 0) (x2 := .int .i64 0) (g := v4.heap.size) E.out rfl)
              generalize hW : World.alloc v4 _ = v5 at E ⊢; clear hW
              have hSw := SBL E (by simp)
              refine line_all rq8R 9 0 [8, 7, 6, 3, 2, 5, 4, 1, 0] [9] (by decide) (rq8B _ (by decide)) (by simp) ?_
              intro j hj; simp only [List.mem_cons, List.not_mem_nil, or_false] at hj
              subst hj
              have lt6_0 := (St.at_ (x0 := .bool false) (x1 := .slice none 0 0) (x2 := .int .i64 0) (g := v4.heap.size) E (by simp)).lt
              have lt6_1 := (St.at_ (x0 := (.bool (ngB y1))) (x1 := (.slice A5 n5 c5)) (x2 := (.int .i64 (S : Int))) (g := g7) E (by simp)).lt
              have lt6_2 := (St.at_ (x0 := (.bool (ngB i))) (x1 := (.slice A6 n6 c6)) (x2 := (.int .i64 (S : Int))) (g := g8) E (by simp)).lt
              have lt6_3 := (St.at_ (x0 := .bool false) (x1 := .slice none 0 0) (x2 := .int .i64 0) (g := (w.heap.size + 1)) E (by simp)).lt
              have lt6_4 := (St.at_ (x0 := (.bool (ngB i))) (x1 := (.slice A n c)) (x2 := (.int .i64 (s : Int))) (g := w.heap.size) E (by simp)).lt
              refine turn_op0 rq8R 9 0 [8, 7, 6, 3, 2, 5, 4, 1, 0] 9 10 (v := .pointer (some ⟨v5.heap.size, 0, none⟩)) (w' := v5.alloc (.cells #[.bool false, .slice none 0 0, .int .i64 0] 25)) rfl (by decide) ha (fun o ho hg => ⟨(wanted_none hg), e_alloc ho⟩) (by simp) (SBL (Lib.hid (St.alloc E.out _)) (by simp)) ?_; intro a ha
              replace E := Lib.hid (St.lay (t := 25) (x0 := .bool false) (x1 := .slice none 0 0) (x2 := .int .i64 0) (g := v5.heap.size) E.out rfl)
              generalize hW : World.alloc v5 _ = v6 at E ⊢; clear hW
              have hSw := SBL E (by simp)
              refine line_all rq8R 10 0 [9, 8, 7, 6, 3, 2, 5, 4, 1, 0] [10] (by decide) (rq8B _ (by decide)) (by simp) ?_
              intro j hj; simp only [List.mem_cons, List.not_mem_nil, or_false] at hj
              subst hj
              have E2 := Lib.hid (St.store E.out (g := v4.heap.size) (x0 := .bool false) (x1 := .slice none 0 0) (x2 := .int .i64 0) (by simp) (noLimb_bool _) (noLimb_slice _ _ _) (noLimb_int _) [(v5.heap.size, .bool false, .slice none 0 0, .int .i64 0), (g7, (.bool (ngB y1)), (.slice A5 n5 c5), (.int .i64 (S : Int))), (g8, (.bool (ngB i)), (.slice A6 n6 c6), (.int .i64 (S : Int))), ((w.heap.size + 1), .bool false, .slice none 0 0, .int .i64 0), (w.heap.size, (.bool (ngB i)), (.slice A n c), (.int .i64 (s : Int)))] (by simp <;> omega) (.bool (ngB p)) (.slice X2 m2 d2) (.int .i64 (M : Int)))
              refine turn_store rq8R 10 0 [9, 8, 7, 6, 3, 2, 5, 4, 1, 0] 10 (w' := put3 v6 (v4.heap.size) (.bool (ngB p)) (.slice X2 m2 d2) (.int .i64 (M : Int))) rfl ha (fun o ho hg => ⟨(wanted_none hg), e_store ho (ha.ev (i := 9) (v := .pointer (some ⟨v4.heap.size, 0, none⟩)) (by simp)) (ha.ev (i := 59) (v := .agg #[.bool (ngB p), .slice X2 m2 d2, .int .i64 (M : Int)]) (by simp)) (St.at_ (g := v4.heap.size) (x0 := .bool false) (x1 := .slice none 0 0) (x2 := .int .i64 0) E (by simp))⟩) (SBL E2 (by simp)) ?_; intro a ha
              replace E := E2; clear E2
              generalize hW : put3 v6 _ _ _ _ = v7 at E ⊢; clear hW
              have hSw := SBL E (by simp)
              refine line_all rq8R 11 0 [10, 9, 8, 7, 6, 3, 2, 5, 4, 1, 0] [11] (by decide) (rq8B _ (by decide)) (by simp) ?_
              intro j hj; simp only [List.mem_cons, List.not_mem_nil, or_false] at hj
              subst hj
              have E2 := Lib.hid (St.store E.out (g := v5.heap.size) (x0 := .bool false) (x1 := .slice none 0 0) (x2 := .int .i64 0) (by simp) (noLimb_bool _) (noLimb_slice _ _ _) (noLimb_int _) [(v4.heap.size, (.bool (ngB p)), (.slice X2 m2 d2), (.int .i64 (M : Int))), (g7, (.bool (ngB y1)), (.slice A5 n5 c5), (.int .i64 (S : Int))), (g8, (.bool (ngB i)), (.slice A6 n6 c6), (.int .i64 (S : Int))), ((w.heap.size + 1), .bool false, .slice none 0 0, .int .i64 0), (w.heap.size, (.bool (ngB i)), (.slice A n c), (.int .i64 (s : Int)))] (by simp <;> omega) (.bool (ngB q)) (.slice X4 m4 d4) (.int .i64 (M : Int)))
              refine turn_store rq8R 11 0 [10, 9, 8, 7, 6, 3, 2, 5, 4, 1, 0] 11 (w' := put3 v7 (v5.heap.size) (.bool (ngB q)) (.slice X4 m4 d4) (.int .i64 (M : Int))) rfl ha (fun o ho hg => ⟨(wanted_none hg), e_store ho (ha.ev (i := 10) (v := .pointer (some ⟨v5.heap.size, 0, none⟩)) (by simp)) (ha.ev (i := 63) (v := .agg #[.bool (ngB q), .slice X4 m4 d4, .int .i64 (M : Int)]) (by simp)) (St.at_ (g := v5.heap.size) (x0 := .bool false) (x1 := .slice none 0 0) (x2 := .int .i64 0) E (by simp))⟩) (SBL E2 (by simp)) ?_; intro a ha
              replace E := E2; clear E2
              generalize hW : put3 v7 _ _ _ _ = v8 at E ⊢; clear hW
              have hSw := SBL E (by simp)
              refine line_end0 rq8R (show ∀ i, i < 12 → i ∈ [11, 10, 9, 8, 7, 6, 3, 2, 5, 4, 1, 0] by decide) ?_
              exact ⟨rfl, v4.heap.size, v5.heap.size, X2, m2, d2, X4, m4, d4, ha.sub (by simp), by omega, by omega, Lib.hid ((E.out).sub (by simp) (by simp))⟩
            ·
              have lt9_0 := (St.at_ (x0 := (.bool (ngB y1))) (x1 := (.slice A5 n5 c5)) (x2 := (.int .i64 (S : Int))) (g := g7) E (by simp)).lt
              have lt9_1 := (St.at_ (x0 := (.bool (ngB i))) (x1 := (.slice A6 n6 c6)) (x2 := (.int .i64 (S : Int))) (g := g8) E (by simp)).lt
              have lt9_2 := (St.at_ (x0 := .bool false) (x1 := .slice none 0 0) (x2 := .int .i64 0) (g := (w.heap.size + 1)) E (by simp)).lt
              have lt9_3 := (St.at_ (x0 := (.bool (ngB i))) (x1 := (.slice A n c)) (x2 := (.int .i64 (s : Int))) (g := w.heap.size) E (by simp)).lt
              refine turn_op0 rq8R 8 0 [7, 6, 3, 2, 5, 4, 1, 0] 9 10 (v := .pointer (some ⟨v4.heap.size, 0, none⟩)) (w' := v4.alloc (.cells #[.bool false, .slice none 0 0, .int .i64 0] 25)) rfl (by decide) ha (fun o ho hg => ⟨(wanted_none hg), e_alloc ho⟩) (by simp) (SBL (Lib.hid (St.alloc E.out _)) (by simp)) ?_; intro a ha
              replace E := Lib.hid (St.lay (t := 25) (x0 := .bool false) (x1 := .slice none 0 0) (x2 := .int .i64 0) (g := v4.heap.size) E.out rfl)
              generalize hW : World.alloc v4 _ = v9 at E ⊢; clear hW
              have hSw := SBL E (by simp)
              refine line_all rq8R 9 0 [9, 7, 6, 3, 2, 5, 4, 1, 0] [8] (by decide) (rq8B _ (by decide)) (by simp) ?_
              intro j hj; simp only [List.mem_cons, List.not_mem_nil, or_false] at hj
              subst hj
              have lt10_0 := (St.at_ (x0 := .bool false) (x1 := .slice none 0 0) (x2 := .int .i64 0) (g := v4.heap.size) E (by simp)).lt
              have lt10_1 := (St.at_ (x0 := (.bool (ngB y1))) (x1 := (.slice A5 n5 c5)) (x2 := (.int .i64 (S : Int))) (g := g7) E (by simp)).lt
              have lt10_2 := (St.at_ (x0 := (.bool (ngB i))) (x1 := (.slice A6 n6 c6)) (x2 := (.int .i64 (S : Int))) (g := g8) E (by simp)).lt
              have lt10_3 := (St.at_ (x0 := .bool false) (x1 := .slice none 0 0) (x2 := .int .i64 0) (g := (w.heap.size + 1)) E (by simp)).lt
              have lt10_4 := (St.at_ (x0 := (.bool (ngB i))) (x1 := (.slice A n c)) (x2 := (.int .i64 (s : Int))) (g := w.heap.size) E (by simp)).lt
              refine turn_op0 rq8R 9 0 [9, 7, 6, 3, 2, 5, 4, 1, 0] 8 9 (v := .pointer (some ⟨v9.heap.size, 0, none⟩)) (w' := v9.alloc (.cells #[.bool false, .slice none 0 0, .int .i64 0] 25)) rfl (by decide) ha (fun o ho hg => ⟨(wanted_none hg), e_alloc ho⟩) (by simp) (SBL (Lib.hid (St.alloc E.out _)) (by simp)) ?_; intro a ha
              replace E := Lib.hid (St.lay (t := 25) (x0 := .bool false) (x1 := .slice none 0 0) (x2 := .int .i64 0) (g := v9.heap.size) E.out rfl)
              generalize hW : World.alloc v9 _ = v10 at E ⊢; clear hW
              have hSw := SBL E (by simp)
              refine line_all rq8R 10 0 [8, 9, 7, 6, 3, 2, 5, 4, 1, 0] [10] (by decide) (rq8B _ (by decide)) (by simp) ?_
              intro j hj; simp only [List.mem_cons, List.not_mem_nil, or_false] at hj
              subst hj
              have E2 := Lib.hid (St.store E.out (g := v9.heap.size) (x0 := .bool false) (x1 := .slice none 0 0) (x2 := .int .i64 0) (by simp) (noLimb_bool _) (noLimb_slice _ _ _) (noLimb_int _) [(v4.heap.size, .bool false, .slice none 0 0, .int .i64 0), (g7, (.bool (ngB y1)), (.slice A5 n5 c5), (.int .i64 (S : Int))), (g8, (.bool (ngB i)), (.slice A6 n6 c6), (.int .i64 (S : Int))), ((w.heap.size + 1), .bool false, .slice none 0 0, .int .i64 0), (w.heap.size, (.bool (ngB i)), (.slice A n c), (.int .i64 (s : Int)))] (by simp <;> omega) (.bool (ngB p)) (.slice X2 m2 d2) (.int .i64 (M : Int)))
              refine turn_store rq8R 10 0 [8, 9, 7, 6, 3, 2, 5, 4, 1, 0] 10 (w' := put3 v10 (v9.heap.size) (.bool (ngB p)) (.slice X2 m2 d2) (.int .i64 (M : Int))) rfl ha (fun o ho hg => ⟨(wanted_none hg), e_store ho (ha.ev (i := 9) (v := .pointer (some ⟨v9.heap.size, 0, none⟩)) (by simp)) (ha.ev (i := 59) (v := .agg #[.bool (ngB p), .slice X2 m2 d2, .int .i64 (M : Int)]) (by simp)) (St.at_ (g := v9.heap.size) (x0 := .bool false) (x1 := .slice none 0 0) (x2 := .int .i64 0) E (by simp))⟩) (SBL E2 (by simp)) ?_; intro a ha
              replace E := E2; clear E2
              generalize hW : put3 v10 _ _ _ _ = v11 at E ⊢; clear hW
              have hSw := SBL E (by simp)
              refine line_all rq8R 11 0 [10, 8, 9, 7, 6, 3, 2, 5, 4, 1, 0] [11] (by decide) (rq8B _ (by decide)) (by simp) ?_
              intro j hj; simp only [List.mem_cons, List.not_mem_nil, or_false] at hj
              subst hj
              have E2 := Lib.hid (St.store E.out (g := v4.heap.size) (x0 := .bool false) (x1 := .slice none 0 0) (x2 := .int .i64 0) (by simp) (noLimb_bool _) (noLimb_slice _ _ _) (noLimb_int _) [(v9.heap.size, (.bool (ngB p)), (.slice X2 m2 d2), (.int .i64 (M : Int))), (g7, (.bool (ngB y1)), (.slice A5 n5 c5), (.int .i64 (S : Int))), (g8, (.bool (ngB i)), (.slice A6 n6 c6), (.int .i64 (S : Int))), ((w.heap.size + 1), .bool false, .slice none 0 0, .int .i64 0), (w.heap.size, (.bool (ngB i)), (.slice A n c), (.int .i64 (s : Int)))] (by simp <;> omega) (.bool (ngB q)) (.slice X4 m4 d4) (.int .i64 (M : Int)))
              refine turn_store rq8R 11 0 [10, 8, 9, 7, 6, 3, 2, 5, 4, 1, 0] 11 (w' := put3 v11 (v4.heap.size) (.bool (ngB q)) (.slice X4 m4 d4) (.int .i64 (M : Int))) rfl ha (fun o ho hg => ⟨(wanted_none hg), e_store ho (ha.ev (i := 10) (v := .pointer (some ⟨v4.heap.size, 0, none⟩)) (by simp)) (ha.ev (i := 63) (v := .agg #[.bool (ngB q), .slice X4 m4 d4, .int .i64 (M : Int)]) (by simp)) (St.at_ (g := v4.heap.size) (x0 := .bool false) (x1 := .slice none 0 0) (x2 := .int .i64 0) E (by simp))⟩) (SBL E2 (by simp)) ?_; intro a ha
              replace E := E2; clear E2
              generalize hW : put3 v11 _ _ _ _ = v12 at E ⊢; clear hW
              have hSw := SBL E (by simp)
              refine line_end0 rq8R (show ∀ i, i < 12 → i ∈ [11, 10, 8, 9, 7, 6, 3, 2, 5, 4, 1, 0] by decide) ?_
              exact ⟨rfl, v9.heap.size, v4.heap.size, X2, m2, d2, X4, m4, d4, ha.sub (by simp), by omega, by omega, Lib.hid ((E.out).sub (by simp) (by simp))⟩
          ·
            have lt13_0 := (St.at_ (x0 := (.bool (ngB y1))) (x1 := (.slice A5 n5 c5)) (x2 := (.int .i64 (S : Int))) (g := g7) E (by simp)).lt
            have lt13_1 := (St.at_ (x0 := (.bool (ngB i))) (x1 := (.slice A6 n6 c6)) (x2 := (.int .i64 (S : Int))) (g := g8) E (by simp)).lt
            have lt13_2 := (St.at_ (x0 := .bool false) (x1 := .slice none 0 0) (x2 := .int .i64 0) (g := (w.heap.size + 1)) E (by simp)).lt
            have lt13_3 := (St.at_ (x0 := (.bool (ngB i))) (x1 := (.slice A n c)) (x2 := (.int .i64 (s : Int))) (g := w.heap.size) E (by simp)).lt
            refine turn_op0 rq8R 7 0 [6, 3, 2, 5, 4, 1, 0] 8 9 (v := .pointer (some ⟨v3.heap.size, 0, none⟩)) (w' := v3.alloc (.cells #[.bool false, .slice none 0 0, .int .i64 0] 25)) rfl (by decide) ha (fun o ho hg => ⟨(wanted_none hg), e_alloc ho⟩) (by simp) (SBL (Lib.hid (St.alloc E.out _)) (by simp)) ?_; intro a ha
            replace E := Lib.hid (St.lay (t := 25) (x0 := .bool false) (x1 := .slice none 0 0) (x2 := .int .i64 0) (g := v3.heap.size) E.out rfl)
            generalize hW : World.alloc v3 _ = v13 at E ⊢; clear hW
            have hSw := SBL E (by simp)
            refine line_all rq8R 8 0 [8, 6, 3, 2, 5, 4, 1, 0] [7, 9] (by decide) (rq8B _ (by decide)) (by simp) ?_
            intro j hj; simp only [List.mem_cons, List.not_mem_nil, or_false] at hj
            rcases hj with rfl | rfl
            ·
              refine turn_call0 rq8R 8 0 [8, 6, 3, 2, 5, 4, 1, 0] 7 63 (args := #[.agg #[.bool (ngB q0), .slice X3 m3 d3, .int .i64 (M : Int)]]) rfl (by decide) ha (fun o ho hg => ⟨(wanted_none hg), e_call (by kernel_rfl) ho rfl (by have q0 := ha.ev (i := 62) (v := .agg #[.bool (ngB q0), .slice X3 m3 d3, .int .i64 (M : Int)]) (by simp); simp only [List.map_toArray, List.map_cons, List.map_nil, ev_const, q0])⟩) (by simp) ?_
              refine (refabs_is5 (i := q0) (s := M) (St.got E (A := X3) (n := m3) (c := d3) (a := (q0).natAbs) (by simp)) (by omega) (by omega) HQ.out).mono ?_; rintro e v14 ⟨X14, m14, d14, rfl, h, hb⟩
              have q14 : m14 ≤ 4500 := len_le h LQ.out
              replace E := Lib.hid (St.push E.out hb h)
              clear h hb
              have hSw := SBL E (by simp); refine ⟨_, rfl, hSw, ?_⟩; intro a ha
              refine line_all rq8R 9 0 [7, 8, 6, 3, 2, 5, 4, 1, 0] [9] (by decide) (rq8B _ (by decide)) (by simp) ?_
              intro j hj; simp only [List.mem_cons, List.not_mem_nil, or_false] at hj
              subst hj
              have lt15_0 := (St.at_ (x0 := .bool false) (x1 := .slice none 0 0) (x2 := .int .i64 0) (g := v3.heap.size) E (by simp)).lt
              have lt15_1 := (St.at_ (x0 := (.bool (ngB y1))) (x1 := (.slice A5 n5 c5)) (x2 := (.int .i64 (S : Int))) (g := g7) E (by simp)).lt
              have lt15_2 := (St.at_ (x0 := (.bool (ngB i))) (x1 := (.slice A6 n6 c6)) (x2 := (.int .i64 (S : Int))) (g := g8) E (by simp)).lt
              have lt15_3 := (St.at_ (x0 := .bool false) (x1 := .slice none 0 0) (x2 := .int .i64 0) (g := (w.heap.size + 1)) E (by simp)).lt
              have lt15_4 := (St.at_ (x0 := (.bool (ngB i))) (x1 := (.slice A n c)) (x2 := (.int .i64 (s : Int))) (g := w.heap.size) E (by simp)).lt
              refine turn_op0 rq8R 9 0 [7, 8, 6, 3, 2, 5, 4, 1, 0] 9 10 (v := .pointer (some ⟨v14.heap.size, 0, none⟩)) (w' := v14.alloc (.cells #[.bool false, .slice none 0 0, .int .i64 0] 25)) rfl (by decide) ha (fun o ho hg => ⟨(wanted_none hg), e_alloc ho⟩) (by simp) (SBL (Lib.hid (St.alloc E.out _)) (by simp)) ?_; intro a ha
              replace E := Lib.hid (St.lay (t := 25) (x0 := .bool false) (x1 := .slice none 0 0) (x2 := .int .i64 0) (g := v14.heap.size) E.out rfl)
              generalize hW : World.alloc v14 _ = v15 at E ⊢; clear hW
              have hSw := SBL E (by simp)
              refine line_all rq8R 10 0 [9, 7, 8, 6, 3, 2, 5, 4, 1, 0] [10] (by decide) (rq8B _ (by decide)) (by simp) ?_
              intro j hj; simp only [List.mem_cons, List.not_mem_nil, or_false] at hj
              subst hj
              have E2 := Lib.hid (St.store E.out (g := v3.heap.size) (x0 := .bool false) (x1 := .slice none 0 0) (x2 := .int .i64 0) (by simp) (noLimb_bool _) (noLimb_slice _ _ _) (noLimb_int _) [(v14.heap.size, .bool false, .slice none 0 0, .int .i64 0), (g7, (.bool (ngB y1)), (.slice A5 n5 c5), (.int .i64 (S : Int))), (g8, (.bool (ngB i)), (.slice A6 n6 c6), (.int .i64 (S : Int))), ((w.heap.size + 1), .bool false, .slice none 0 0, .int .i64 0), (w.heap.size, (.bool (ngB i)), (.slice A n c), (.int .i64 (s : Int)))] (by simp <;> omega) (.bool (ngB p)) (.slice X2 m2 d2) (.int .i64 (M : Int)))
              refine turn_store rq8R 10 0 [9, 7, 8, 6, 3, 2, 5, 4, 1, 0] 10 (w' := put3 v15 (v3.heap.size) (.bool (ngB p)) (.slice X2 m2 d2) (.int .i64 (M : Int))) rfl ha (fun o ho hg => ⟨(wanted_none hg), e_store ho (ha.ev (i := 9) (v := .pointer (some ⟨v3.heap.size, 0, none⟩)) (by simp)) (ha.ev (i := 59) (v := .agg #[.bool (ngB p), .slice X2 m2 d2, .int .i64 (M : Int)]) (by simp)) (St.at_ (g := v3.heap.size) (x0 := .bool false) (x1 := .slice none 0 0) (x2 := .int .i64 0) E (by simp))⟩) (SBL E2 (by simp)) ?_; intro a ha
              replace E := E2; clear E2
              generalize hW : put3 v15 _ _ _ _ = v16 at E ⊢; clear hW
              have hSw := SBL E (by simp)
              refine line_all rq8R 11 0 [10, 9, 7, 8, 6, 3, 2, 5, 4, 1, 0] [11] (by decide) (rq8B _ (by decide)) (by simp) ?_
              intro j hj; simp only [List.mem_cons, List.not_mem_nil, or_false] at hj
              subst hj
              have E2 := Lib.hid (St.store E.out (g := v14.heap.size) (x0 := .bool false) (x1 := .slice none 0 0) (x2 := .int .i64 0) (by simp) (noLimb_bool _) (noLimb_slice _ _ _) (noLimb_int _) [(v3.heap.size, (.bool (ngB p)), (.slice X2 m2 d2), (.int .i64 (M : Int))), (g7, (.bool (ngB y1)), (.slice A5 n5 c5), (.int .i64 (S : Int))), (g8, (.bool (ngB i)), (.slice A6 n6 c6), (.int .i64 (S : Int))), ((w.heap.size + 1), .bool false, .slice none 0 0, .int .i64 0), (w.heap.size, (.bool (ngB i)), (.slice A n c), (.int .i64 (s : Int)))] (by simp <;> omega) (.bool (ngB q)) (.slice X14 m14 d14) (.int .i64 (M : Int)))
              refine turn_store rq8R 11 0 [10, 9, 7, 8, 6, 3, 2, 5, 4, 1, 0] 11 (w' := put3 v16 (v14.heap.size) (.bool (ngB q)) (.slice X14 m14 d14) (.int .i64 (M : Int))) rfl ha (fun o ho hg => ⟨(wanted_none hg), e_store ho (ha.ev (i := 10) (v := .pointer (some ⟨v14.heap.size, 0, none⟩)) (by simp)) (ha.ev (i := 63) (v := .agg #[.bool (ngB q), .slice X14 m14 d14, .int .i64 (M : Int)]) (by simp)) (St.at_ (g := v14.heap.size) (x0 := .bool false) (x1 := .slice none 0 0) (x2 := .int .i64 0) E (by simp))⟩) (SBL E2 (by simp)) ?_; intro a ha
              replace E := E2; clear E2
              generalize hW : put3 v16 _ _ _ _ = v17 at E ⊢; clear hW
              have hSw := SBL E (by simp)
              refine line_end0 rq8R (show ∀ i, i < 12 → i ∈ [11, 10, 9, 7, 8, 6, 3, 2, 5, 4, 1, 0] by decide) ?_
              exact ⟨rfl, v3.heap.size, v14.heap.size, X2, m2, d2, X14, m14, d14, ha.sub (by simp), by omega, by omega, Lib.hid ((E.out).sub (by simp) (by simp))⟩
            ·
              have lt18_0 := (St.at_ (x0 := .bool false) (x1 := .slice none 0 0) (x2 := .int .i64 0) (g := v3.heap.size) E (by simp)).lt
              have lt18_1 := (St.at_ (x0 := (.bool (ngB y1))) (x1 := (.slice A5 n5 c5)) (x2 := (.int .i64 (S : Int))) (g := g7) E (by simp)).lt
              have lt18_2 := (St.at_ (x0 := (.bool (ngB i))) (x1 := (.slice A6 n6 c6)) (x2 := (.int .i64 (S : Int))) (g := g8) E (by simp)).lt
              have lt18_3 := (St.at_ (x0 := .bool false) (x1 := .slice none 0 0) (x2 := .int .i64 0) (g := (w.heap.size + 1)) E (by simp)).lt
              have lt18_4 := (St.at_ (x0 := (.bool (ngB i))) (x1 := (.slice A n c)) (x2 := (.int .i64 (s : Int))) (g := w.heap.size) E (by simp)).lt
              refine turn_op0 rq8R 8 0 [8, 6, 3, 2, 5, 4, 1, 0] 9 10 (v := .pointer (some ⟨v13.heap.size, 0, none⟩)) (w' := v13.alloc (.cells #[.bool false, .slice none 0 0, .int .i64 0] 25)) rfl (by decide) ha (fun o ho hg => ⟨(wanted_none hg), e_alloc ho⟩) (by simp) (SBL (Lib.hid (St.alloc E.out _)) (by simp)) ?_; intro a ha
              replace E := Lib.hid (St.lay (t := 25) (x0 := .bool false) (x1 := .slice none 0 0) (x2 := .int .i64 0) (g := v13.heap.size) E.out rfl)
              generalize hW : World.alloc v13 _ = v18 at E ⊢; clear hW
              have hSw := SBL E (by simp)
              refine line_all rq8R 9 0 [9, 8, 6, 3, 2, 5, 4, 1, 0] [7] (by decide) (rq8B _ (by decide)) (by simp) ?_
              intro j hj; simp only [List.mem_cons, List.not_mem_nil, or_false] at hj
              subst hj
              refine turn_call0 rq8R 9 0 [9, 8, 6, 3, 2, 5, 4, 1, 0] 7 63 (args := #[.agg #[.bool (ngB q0), .slice X3 m3 d3, .int .i64 (M : Int)]]) rfl (by decide) ha (fun o ho hg => ⟨(wanted_none hg), e_call (by kernel_rfl) ho rfl (by have q0 := ha.ev (i := 62) (v := .agg #[.bool (ngB q0), .slice X3 m3 d3, .int .i64 (M : Int)]) (by simp); simp only [List.map_toArray, List.map_cons, List.map_nil, ev_const, q0])⟩) (by simp) ?_
              refine (refabs_is5 (i := q0) (s := M) (St.got E (A := X3) (n := m3) (c := d3) (a := (q0).natAbs) (by simp)) (by omega) (by omega) HQ.out).mono ?_; rintro e v19 ⟨X19, m19, d19, rfl, h, hb⟩
              have q19 : m19 ≤ 4500 := len_le h LQ.out
              replace E := Lib.hid (St.push E.out hb h)
              clear h hb
              have hSw := SBL E (by simp); refine ⟨_, rfl, hSw, ?_⟩; intro a ha
              refine line_all rq8R 10 0 [7, 9, 8, 6, 3, 2, 5, 4, 1, 0] [10] (by decide) (rq8B _ (by decide)) (by simp) ?_
              intro j hj; simp only [List.mem_cons, List.not_mem_nil, or_false] at hj
              subst hj
              have E2 := Lib.hid (St.store E.out (g := v3.heap.size) (x0 := .bool false) (x1 := .slice none 0 0) (x2 := .int .i64 0) (by simp) (noLimb_bool _) (noLimb_slice _ _ _) (noLimb_int _) [(v13.heap.size, .bool false, .slice none 0 0, .int .i64 0), (g7, (.bool (ngB y1)), (.slice A5 n5 c5), (.int .i64 (S : Int))), (g8, (.bool (ngB i)), (.slice A6 n6 c6), (.int .i64 (S : Int))), ((w.heap.size + 1), .bool false, .slice none 0 0, .int .i64 0), (w.heap.size, (.bool (ngB i)), (.slice A n c), (.int .i64 (s : Int)))] (by simp <;> omega) (.bool (ngB p)) (.slice X2 m2 d2) (.int .i64 (M : Int)))
              refine turn_store rq8R 10 0 [7, 9, 8, 6, 3, 2, 5, 4, 1, 0] 10 (w' := put3 v19 (v3.heap.size) (.bool (ngB p)) (.slice X2 m2 d2) (.int .i64 (M : Int))) rfl ha (fun o ho hg => ⟨(wanted_none hg), e_store ho (ha.ev (i := 9) (v := .pointer (some ⟨v3.heap.size, 0, none⟩)) (by simp)) (ha.ev (i := 59) (v := .agg #[.bool (ngB p), .slice X2 m2 d2, .int .i64 (M : Int)]) (by simp)) (St.at_ (g := v3.heap.size) (x0 := .bool false) (x1 := .slice none 0 0) (x2 := .int .i64 0) E (by simp))⟩) (SBL E2 (by simp)) ?_; intro a ha
              replace E := E2; clear E2
              generalize hW : put3 v19 _ _ _ _ = v20 at E ⊢; clear hW
              have hSw := SBL E (by simp)
              refine line_all rq8R 11 0 [10, 7, 9, 8, 6, 3, 2, 5, 4, 1, 0] [11] (by decide) (rq8B _ (by decide)) (by simp) ?_
              intro j hj; simp only [List.mem_cons, List.not_mem_nil, or_false] at hj
              subst hj
              have E2 := Lib.hid (St.store E.out (g := v13.heap.size) (x0 := .bool false) (x1 := .slice none 0 0) (x2 := .int .i64 0) (by simp) (noLimb_bool _) (noLimb_slice _ _ _) (noLimb_int _) [(v3.heap.size, (.bool (ngB p)), (.slice X2 m2 d2), (.int .i64 (M : Int))), (g7, (.bool (ngB y1)), (.slice A5 n5 c5), (.int .i64 (S : Int))), (g8, (.bool (ngB i)), (.slice A6 n6 c6), (.int .i64 (S : Int))), ((w.heap.size + 1), .bool false, .slice none 0 0, .int .i64 0), (w.heap.size, (.bool (ngB i)), (.slice A n c), (.int .i64 (s : Int)))] (by simp <;> omega) (.bool (ngB q)) (.slice X19 m19 d19) (.int .i64 (M : Int)))
              refine turn_store rq8R 11 0 [10, 7, 9, 8, 6, 3, 2, 5, 4, 1, 0] 11 (w' := put3 v20 (v13.heap.size) (.bool (ngB q)) (.slice X19 m19 d19) (.int .i64 (M : Int))) rfl ha (fun o ho hg => ⟨(wanted_none hg), e_store ho (ha.ev (i := 10) (v := .pointer (some ⟨v13.heap.size, 0, none⟩)) (by simp)) (ha.ev (i := 63) (v := .agg #[.bool (ngB q), .slice X19 m19 d19, .int .i64 (M : Int)]) (by simp)) (St.at_ (g := v13.heap.size) (x0 := .bool false) (x1 := .slice none 0 0) (x2 := .int .i64 0) E (by simp))⟩) (SBL E2 (by simp)) ?_; intro a ha
              replace E := E2; clear E2
              generalize hW : put3 v20 _ _ _ _ = v21 at E ⊢; clear hW
              have hSw := SBL E (by simp)
              refine line_end0 rq8R (show ∀ i, i < 12 → i ∈ [11, 10, 7, 9, 8, 6, 3, 2, 5, 4, 1, 0] by decide) ?_
              exact ⟨rfl, v3.heap.size, v13.heap.size, X2, m2, d2, X19, m19, d19, ha.sub (by simp), by omega, by omega, Lib.hid ((E.out).sub (by simp) (by simp))⟩
          ·
            have lt22_0 := (St.at_ (x0 := (.bool (ngB y1))) (x1 := (.slice A5 n5 c5)) (x2 := (.int .i64 (S : Int))) (g := g7) E (by simp)).lt
            have lt22_1 := (St.at_ (x0 := (.bool (ngB i))) (x1 := (.slice A6 n6 c6)) (x2 := (.int .i64 (S : Int))) (g := g8) E (by simp)).lt
            have lt22_2 := (St.at_ (x0 := .bool false) (x1 := .slice none 0 0) (x2 := .int .i64 0) (g := (w.heap.size + 1)) E (by simp)).lt
            have lt22_3 := (St.at_ (x0 := (.bool (ngB i))) (x1 := (.slice A n c)) (x2 := (.int .i64 (s : Int))) (g := w.heap.size) E (by simp)).lt
            refine turn_op0 rq8R 7 0 [6, 3, 2, 5, 4, 1, 0] 9 10 (v := .pointer (some ⟨v3.heap.size, 0, none⟩)) (w' := v3.alloc (.cells #[.bool false, .slice none 0 0, .int .i64 0] 25)) rfl (by decide) ha (fun o ho hg => ⟨(wanted_none hg), e_alloc ho⟩) (by simp) (SBL (Lib.hid (St.alloc E.out _)) (by simp)) ?_; intro a ha
            replace E := Lib.hid (St.lay (t := 25) (x0 := .bool false) (x1 := .slice none 0 0) (x2 := .int .i64 0) (g := v3.heap.size) E.out rfl)
            generalize hW : World.alloc v3 _ = v22 at E ⊢; clear hW
            have hSw := SBL E (by simp)
            refine line_all rq8R 8 0 [9, 6, 3, 2, 5, 4, 1, 0] [7, 8] (by decide) (rq8B _ (by decide)) (by simp) ?_
            intro j hj; simp only [List.mem_cons, List.not_mem_nil, or_false] at hj
            rcases hj with rfl | rfl
            ·
              refine turn_call0 rq8R 8 0 [9, 6, 3, 2, 5, 4, 1, 0] 7 63 (args := #[.agg #[.bool (ngB q0), .slice X3 m3 d3, .int .i64 (M : Int)]]) rfl (by decide) ha (fun o ho hg => ⟨(wanted_none hg), e_call (by kernel_rfl) ho rfl (by have q0 := ha.ev (i := 62) (v := .agg #[.bool (ngB q0), .slice X3 m3 d3, .int .i64 (M : Int)]) (by simp); simp only [List.map_toArray, List.map_cons, List.map_nil, ev_const, q0])⟩) (by simp) ?_
              refine (refabs_is5 (i := q0) (s := M) (St.got E (A := X3) (n := m3) (c := d3) (a := (q0).natAbs) (by simp)) (by omega) (by omega) HQ.out).mono ?_; rintro e v23 ⟨X23, m23, d23, rfl, h, hb⟩
              have q23 : m23 ≤ 4500 := len_le h LQ.out
              replace E := Lib.hid (St.push E.out hb h)
              clear h hb
              have hSw := SBL E (by simp); refine ⟨_, rfl, hSw, ?_⟩; intro a ha
              refine line_all rq8R 9 0 [7, 9, 6, 3, 2, 5, 4, 1, 0] [8] (by decide) (rq8B _ (by decide)) (by simp) ?_
              intro j hj; simp only [List.mem_cons, List.not_mem_nil, or_false] at hj
              subst hj
              have lt24_0 := (St.at_ (x0 := .bool false) (x1 := .slice none 0 0) (x2 := .int .i64 0) (g := v3.heap.size) E (by simp)).lt
              have lt24_1 := (St.at_ (x0 := (.bool (ngB y1))) (x1 := (.slice A5 n5 c5)) (x2 := (.int .i64 (S : Int))) (g := g7) E (by simp)).lt
              have lt24_2 := (St.at_ (x0 := (.bool (ngB i))) (x1 := (.slice A6 n6 c6)) (x2 := (.int .i64 (S : Int))) (g := g8) E (by simp)).lt
              have lt24_3 := (St.at_ (x0 := .bool false) (x1 := .slice none 0 0) (x2 := .int .i64 0) (g := (w.heap.size + 1)) E (by simp)).lt
              have lt24_4 := (St.at_ (x0 := (.bool (ngB i))) (x1 := (.slice A n c)) (x2 := (.int .i64 (s : Int))) (g := w.heap.size) E (by simp)).lt
              refine turn_op0 rq8R 9 0 [7, 9, 6, 3, 2, 5, 4, 1, 0] 8 9 (v := .pointer (some ⟨v23.heap.size, 0, none⟩)) (w' := v23.alloc (.cells #[.bool false, .slice none 0 0, .int .i64 0] 25)) rfl (by decide) ha (fun o ho hg => ⟨(wanted_none hg), e_alloc ho⟩) (by simp) (SBL (Lib.hid (St.alloc E.out _)) (by simp)) ?_; intro a ha
              replace E := Lib.hid (St.lay (t := 25) (x0 := .bool false) (x1 := .slice none 0 0) (x2 := .int .i64 0) (g := v23.heap.size) E.out rfl)
              generalize hW : World.alloc v23 _ = v24 at E ⊢; clear hW
              have hSw := SBL E (by simp)
              refine line_all rq8R 10 0 [8, 7, 9, 6, 3, 2, 5, 4, 1, 0] [10] (by decide) (rq8B _ (by decide)) (by simp) ?_
              intro j hj; simp only [List.mem_cons, List.not_mem_nil, or_false] at hj
              subst hj
              have E2 := Lib.hid (St.store E.out (g := v23.heap.size) (x0 := .bool false) (x1 := .slice none 0 0) (x2 := .int .i64 0) (by simp) (noLimb_bool _) (noLimb_slice _ _ _) (noLimb_int _) [(v3.heap.size, .bool false, .slice none 0 0, .int .i64 0), (g7, (.bool (ngB y1)), (.slice A5 n5 c5), (.int .i64 (S : Int))), (g8, (.bool (ngB i)), (.slice A6 n6 c6), (.int .i64 (S : Int))), ((w.heap.size + 1), .bool false, .slice none 0 0, .int .i64 0), (w.heap.size, (.bool (ngB i)), (.slice A n c), (.int .i64 (s : Int)))] (by simp <;> omega) (.bool (ngB p)) (.slice X2 m2 d2) (.int .i64 (M : Int)))
              refine turn_store rq8R 10 0 [8, 7, 9, 6, 3, 2, 5, 4, 1, 0] 10 (w' := put3 v24 (v23.heap.size) (.bool (ngB p)) (.slice X2 m2 d2) (.int .i64 (M : Int))) rfl ha (fun o ho hg => ⟨(wanted_none hg), e_store ho (ha.ev (i := 9) (v := .pointer (some ⟨v23.heap.size, 0, none⟩)) (by simp)) (ha.ev (i := 59) (v := .agg #[.bool (ngB p), .slice X2 m2 d2, .int .i64 (M : Int)]) (by simp)) (St.at_ (g := v23.heap.size) (x0 := .bool false) (x1 := .slice none 0 0) (x2 := .int .i64 0) E (by simp))⟩) (SBL E2 (by simp)) ?_; intro a ha
              replace E := E2; clear E2
              generalize hW : put3 v24 _ _ _ _ = v25 at E ⊢; clear hW
              have hSw := SBL E (by simp)
              refine line_all rq8R 11 0 [10, 8, 7, 9, 6, 3, 2, 5, 4, 1, 0] [11] (by decide) (rq8B _ (by decide)) (by simp) ?_
              intro j hj; simp only [List.mem_cons, List.not_mem_nil, or_false] at hj
              subst hj
              have E2 := Lib.hid (St.store E.out (g := v3.heap.size) (x0 := .bool false) (x1 := .slice none 0 0) (x2 := .int .i64 0) (by simp) (noLimb_bool _) (noLimb_slice _ _ _) (noLimb_int _) [(v23.heap.size, (.bool (ngB p)), (.slice X2 m2 d2), (.int .i64 (M : Int))), (g7, (.bool (ngB y1)), (.slice A5 n5 c5), (.int .i64 (S : Int))), (g8, (.bool (ngB i)), (.slice A6 n6 c6), (.int .i64 (S : Int))), ((w.heap.size + 1), .bool false, .slice none 0 0, .int .i64 0), (w.heap.size, (.bool (ngB i)), (.slice A n c), (.int .i64 (s : Int)))] (by simp <;> omega) (.bool (ngB q)) (.slice X23 m23 d23) (.int .i64 (M : Int)))
              refine turn_store rq8R 11 0 [10, 8, 7, 9, 6, 3, 2, 5, 4, 1, 0] 11 (w' := put3 v25 (v3.heap.size) (.bool (ngB q)) (.slice X23 m23 d23) (.int .i64 (M : Int))) rfl ha (fun o ho hg => ⟨(wanted_none hg), e_store ho (ha.ev (i := 10) (v := .pointer (some ⟨v3.heap.size, 0, none⟩)) (by simp)) (ha.ev (i := 63) (v := .agg #[.bool (ngB q), .slice X23 m23 d23, .int .i64 (M : Int)]) (by simp)) (St.at_ (g := v3.heap.size) (x0 := .bool false) (x1 := .slice none 0 0) (x2 := .int .i64 0) E (by simp))⟩) (SBL E2 (by simp)) ?_; intro a ha
              replace E := E2; clear E2
              generalize hW : put3 v25 _ _ _ _ = v26 at E ⊢; clear hW
              have hSw := SBL E (by simp)
              refine line_end0 rq8R (show ∀ i, i < 12 → i ∈ [11, 10, 8, 7, 9, 6, 3, 2, 5, 4, 1, 0] by decide) ?_
              exact ⟨rfl, v23.heap.size, v3.heap.size, X2, m2, d2, X23, m23, d23, ha.sub (by simp), by omega, by omega, Lib.hid ((E.out).sub (by simp) (by simp))⟩
            ·
              have lt27_0 := (St.at_ (x0 := .bool false) (x1 := .slice none 0 0) (x2 := .int .i64 0) (g := v3.heap.size) E (by simp)).lt
              have lt27_1 := (St.at_ (x0 := (.bool (ngB y1))) (x1 := (.slice A5 n5 c5)) (x2 := (.int .i64 (S : Int))) (g := g7) E (by simp)).lt
              have lt27_2 := (St.at_ (x0 := (.bool (ngB i))) (x1 := (.slice A6 n6 c6)) (x2 := (.int .i64 (S : Int))) (g := g8) E (by simp)).lt
              have lt27_3 := (St.at_ (x0 := .bool false) (x1 := .slice none 0 0) (x2 := .int .i64 0) (g := (w.heap.size + 1)) E (by simp)).lt
              have lt27_4 := (St.at_ (x0 := (.bool (ngB i))) (x1 := (.slice A n c)) (x2 := (.int .i64 (s : Int))) (g := w.heap.size) E (by simp)).lt
              refine turn_op0 rq8R 8 0 [9, 6, 3, 2, 5, 4, 1, 0] 8 9 (v := .pointer (some ⟨v22.heap.size, 0, none⟩)) (w' := v22.alloc (.cells #[.bool false, .slice none 0 0, .int .i64 0] 25)) rfl (by decide) ha (fun o ho hg => ⟨(wanted_none hg), e_alloc ho⟩) (by simp) (SBL (Lib.hid (St.alloc E.out _)) (by simp)) ?_; intro a ha
              replace E := Lib.hid (St.lay (t := 25) (x0 := .bool false) (x1 := .slice none 0 0) (x2 := .int .i64 0) (g := v22.heap.size) E.out rfl)
              generalize hW : World.alloc v22 _ = v27 at E ⊢; clear hW
              have hSw := SBL E (by simp)
              refine line_all rq8R 9 0 [8, 9, 6, 3, 2, 5, 4, 1, 0] [7] (by decide) (rq8B _ (by decide)) (by simp) ?_
              intro j hj; simp only [List.mem_cons, List.not_mem_nil, or_false] at hj
              subst hj
              refine turn_call0 rq8R 9 0 [8, 9, 6, 3, 2, 5, 4, 1, 0] 7 63 (args := #[.agg #[.bool (ngB q0), .slice X3 m3 d3, .int .i64 (M : Int)]]) rfl (by decide) ha (fun o ho hg => ⟨(wanted_none hg), e_call (by kernel_rfl) ho rfl (by have q0 := ha.ev (i := 62) (v := .agg #[.bool (ngB q0), .slice X3 m3 d3, .int .i64 (M : Int)]) (by simp); simp only [List.map_toArray, List.map_cons, List.map_nil, ev_const, q0])⟩) (by simp) ?_
              refine (refabs_is5 (i := q0) (s := M) (St.got E (A := X3) (n := m3) (c := d3) (a := (q0).natAbs) (by simp)) (by omega) (by omega) HQ.out).mono ?_; rintro e v28 ⟨X28, m28, d28, rfl, h, hb⟩
              have q28 : m28 ≤ 4500 := len_le h LQ.out
              replace E := Lib.hid (St.push E.out hb h)
              clear h hb
              have hSw := SBL E (by simp); refine ⟨_, rfl, hSw, ?_⟩; intro a ha
              refine line_all rq8R 10 0 [7, 8, 9, 6, 3, 2, 5, 4, 1, 0] [10] (by decide) (rq8B _ (by decide)) (by simp) ?_
              intro j hj; simp only [List.mem_cons, List.not_mem_nil, or_false] at hj
              subst hj
              have E2 := Lib.hid (St.store E.out (g := v22.heap.size) (x0 := .bool false) (x1 := .slice none 0 0) (x2 := .int .i64 0) (by simp) (noLimb_bool _) (noLimb_slice _ _ _) (noLimb_int _) [(v3.heap.size, .bool false, .slice none 0 0, .int .i64 0), (g7, (.bool (ngB y1)), (.slice A5 n5 c5), (.int .i64 (S : Int))), (g8, (.bool (ngB i)), (.slice A6 n6 c6), (.int .i64 (S : Int))), ((w.heap.size + 1), .bool false, .slice none 0 0, .int .i64 0), (w.heap.size, (.bool (ngB i)), (.slice A n c), (.int .i64 (s : Int)))] (by simp <;> omega) (.bool (ngB p)) (.slice X2 m2 d2) (.int .i64 (M : Int)))
              refine turn_store rq8R 10 0 [7, 8, 9, 6, 3, 2, 5, 4, 1, 0] 10 (w' := put3 v28 (v22.heap.size) (.bool (ngB p)) (.slice X2 m2 d2) (.int .i64 (M : Int))) rfl ha (fun o ho hg => ⟨(wanted_none hg), e_store ho (ha.ev (i := 9) (v := .pointer (some ⟨v22.heap.size, 0, none⟩)) (by simp)) (ha.ev (i := 59) (v := .agg #[.bool (ngB p), .slice X2 m2 d2, .int .i64 (M : Int)]) (by simp)) (St.at_ (g := v22.heap.size) (x0 := .bool false) (x1 := .slice none 0 0) (x2 := .int .i64 0) E (by simp))⟩) (SBL E2 (by simp)) ?_; intro a ha
              replace E := E2; clear E2
              generalize hW : put3 v28 _ _ _ _ = v29 at E ⊢; clear hW
              have hSw := SBL E (by simp)
              refine line_all rq8R 11 0 [10, 7, 8, 9, 6, 3, 2, 5, 4, 1, 0] [11] (by decide) (rq8B _ (by decide)) (by simp) ?_
              intro j hj; simp only [List.mem_cons, List.not_mem_nil, or_false] at hj
              subst hj
              have E2 := Lib.hid (St.store E.out (g := v3.heap.size) (x0 := .bool false) (x1 := .slice none 0 0) (x2 := .int .i64 0) (by simp) (noLimb_bool _) (noLimb_slice _ _ _) (noLimb_int _) [(v22.heap.size, (.bool (ngB p)), (.slice X2 m2 d2), (.int .i64 (M : Int))), (g7, (.bool (ngB y1)), (.slice A5 n5 c5), (.int .i64 (S : Int))), (g8, (.bool (ngB i)), (.slice A6 n6 c6), (.int .i64 (S : Int))), ((w.heap.size + 1), .bool false, .slice none 0 0, .int .i64 0), (w.heap.size, (.bool (ngB i)), (.slice A n c), (.int .i64 (s : Int)))] (by simp <;> omega) (.bool (ngB q)) (.slice X28 m28 d28) (.int .i64 (M : Int)))
              refine turn_store rq8R 11 0 [10, 7, 8, 9, 6, 3, 2, 5, 4, 1, 0] 11 (w' := put3 v29 (v3.heap.size) (.bool (ngB q)) (.slice X28 m28 d28) (.int .i64 (M : Int))) rfl ha (fun o ho hg => ⟨(wanted_none hg), e_store ho (ha.ev (i := 10) (v := .pointer (some ⟨v3.heap.size, 0, none⟩)) (by simp)) (ha.ev (i := 63) (v := .agg #[.bool (ngB q), .slice X28 m28 d28, .int .i64 (M : Int)]) (by simp)) (St.at_ (g := v3.heap.size) (x0 := .bool false) (x1 := .slice none 0 0) (x2 := .int .i64 0) E (by simp))⟩) (SBL E2 (by simp)) ?_; intro a ha
              replace E := E2; clear E2
              generalize hW : put3 v29 _ _ _ _ = v30 at E ⊢; clear hW
              have hSw := SBL E (by simp)
              refine line_end0 rq8R (show ∀ i, i < 12 → i ∈ [11, 10, 7, 8, 9, 6, 3, 2, 5, 4, 1, 0] by decide) ?_
              exact ⟨rfl, v22.heap.size, v3.heap.size, X2, m2, d2, X28, m28, d28, ha.sub (by simp), by omega, by omega, Lib.hid ((E.out).sub (by simp) (by simp))⟩
        ·
          have lt31_0 := (St.at_ (x0 := (.bool (ngB y1))) (x1 := (.slice A5 n5 c5)) (x2 := (.int .i64 (S : Int))) (g := g7) E (by simp)).lt
          have lt31_1 := (St.at_ (x0 := (.bool (ngB i))) (x1 := (.slice A6 n6 c6)) (x2 := (.int .i64 (S : Int))) (g := g8) E (by simp)).lt
          have lt31_2 := (St.at_ (x0 := .bool false) (x1 := .slice none 0 0) (x2 := .int .i64 0) (g := (w.heap.size + 1)) E (by simp)).lt
          have lt31_3 := (St.at_ (x0 := (.bool (ngB i))) (x1 := (.slice A n c)) (x2 := (.int .i64 (s : Int))) (g := w.heap.size) E (by simp)).lt
          refine turn_op0 rq8R 6 0 [3, 2, 5, 4, 1, 0] 8 9 (v := .pointer (some ⟨v2.heap.size, 0, none⟩)) (w' := v2.alloc (.cells #[.bool false, .slice none 0 0, .int .i64 0] 25)) rfl (by decide) ha (fun o ho hg => ⟨(wanted_none hg), e_alloc ho⟩) (by simp) (SBL (Lib.hid (St.alloc E.out _)) (by simp)) ?_; intro a ha
          replace E := Lib.hid (St.lay (t := 25) (x0 := .bool false) (x1 := .slice none 0 0) (x2 := .int .i64 0) (g := v2.heap.size) E.out rfl)
          generalize hW : World.alloc v2 _ = v31 at E ⊢; clear hW
          have hSw := SBL E (by simp)
          refine line_all rq8R 7 0 [8, 3, 2, 5, 4, 1, 0] [6, 9] (by decide) (rq8B _ (by decide)) (by simp) ?_
          intro j hj; simp only [List.mem_cons, List.not_mem_nil, or_false] at hj
          rcases hj with rfl | rfl
          ·
            refine turn_call0 rq8R 7 0 [8, 3, 2, 5, 4, 1, 0] 6 62 (args := #[.agg #[(.bool (ngB i)), (.slice A6 n6 c6), (.int .i64 (S : Int))], .agg #[(.bool (ngB i)), (.slice A n c), (.int .i64 (s : Int))]]) rfl (by decide) ha (fun o ho hg => ⟨(wanted_none hg), e_call (by kernel_rfl) ho rfl (by have q0 := ha.ev (i := 60) (v := .agg #[(.bool (ngB i)), (.slice A6 n6 c6), (.int .i64 (S : Int))]) (by simp); have q1 := ha.ev (i := 61) (v := .agg #[(.bool (ngB i)), (.slice A n c), (.int .i64 (s : Int))]) (by simp); simp only [List.map_toArray, List.map_cons, List.map_nil, ev_const, q0, q1])⟩) (by simp) ?_
            refine (refsub_isB (i := y2) (s := S) (j := i) (t := s) HB2.out.symm rfl (St.got E (A := A6) (n := n6) (c := c6) (a := (y2).natAbs) (by simp)) (St.got E (A := A) (n := n) (c := c) (a := (i).natAbs) (by simp)) (by omega) (by omega) (by omega) (by omega) HM2.out HQ0.out).mono ?_; rintro e v32 ⟨X32, m32, d32, rfl, h, hb⟩
            have q32 : m32 ≤ 4500 := len_le h LQ0.out
            replace E := Lib.hid (St.push E.out hb h)
            clear h hb
            have hSw := SBL E (by simp); refine ⟨_, rfl, hSw, ?_⟩; intro a ha
            refine line_all rq8R 8 0 [6, 8, 3, 2, 5, 4, 1, 0] [7, 9] (by decide) (rq8B _ (by decide)) (by simp) ?_
            intro j hj; simp only [List.mem_cons, List.not_mem_nil, or_false] at hj
            rcases hj with rfl | rfl
            ·
              refine turn_call0 rq8R 8 0 [6, 8, 3, 2, 5, 4, 1, 0] 7 63 (args := #[.agg #[.bool (ngB q0), .slice X32 m32 d32, .int .i64 (M : Int)]]) rfl (by decide) ha (fun o ho hg => ⟨(wanted_none hg), e_call (by kernel_rfl) ho rfl (by have q0 := ha.ev (i := 62) (v := .agg #[.bool (ngB q0), .slice X32 m32 d32, .int .i64 (M : Int)]) (by simp); simp only [List.map_toArray, List.map_cons, List.map_nil, ev_const, q0])⟩) (by simp) ?_
              refine (refabs_is5 (i := q0) (s := M) (St.got E (A := X32) (n := m32) (c := d32) (a := (q0).natAbs) (by simp)) (by omega) (by omega) HQ.out).mono ?_; rintro e v33 ⟨X33, m33, d33, rfl, h, hb⟩
              have q33 : m33 ≤ 4500 := len_le h LQ.out
              replace E := Lib.hid (St.push E.out hb h)
              clear h hb
              have hSw := SBL E (by simp); refine ⟨_, rfl, hSw, ?_⟩; intro a ha
              refine line_all rq8R 9 0 [7, 6, 8, 3, 2, 5, 4, 1, 0] [9] (by decide) (rq8B _ (by decide)) (by simp) ?_
              intro j hj; simp only [List.mem_cons, List.not_mem_nil, or_false] at hj
              subst hj
              have lt34_0 := (St.at_ (x0 := .bool false) (x1 := .slice none 0 0) (x2 := .int .i64 0) (g := v2.heap.size) E (by simp)).lt
              have lt34_1 := (St.at_ (x0 := (.bool (ngB y1))) (x1 := (.slice A5 n5 c5)) (x2 := (.int .i64 (S : Int))) (g := g7) E (by simp)).lt
              have lt34_2 := (St.at_ (x0 := (.bool (ngB i))) (x1 := (.slice A6 n6 c6)) (x2 := (.int .i64 (S : Int))) (g := g8) E (by simp)).lt
              have lt34_3 := (St.at_ (x0 := .bool false) (x1 := .slice none 0 0) (x2 := .int .i64 0) (g := (w.heap.size + 1)) E (by simp)).lt
              have lt34_4 := (St.at_ (x0 := (.bool (ngB i))) (x1 := (.slice A n c)) (x2 := (.int .i64 (s : Int))) (g := w.heap.size) E (by simp)).lt
              refine turn_op0 rq8R 9 0 [7, 6, 8, 3, 2, 5, 4, 1, 0] 9 10 (v := .pointer (some ⟨v33.heap.size, 0, none⟩)) (w' := v33.alloc (.cells #[.bool false, .slice none 0 0, .int .i64 0] 25)) rfl (by decide) ha (fun o ho hg => ⟨(wanted_none hg), e_alloc ho⟩) (by simp) (SBL (Lib.hid (St.alloc E.out _)) (by simp)) ?_; intro a ha
              replace E := Lib.hid (St.lay (t := 25) (x0 := .bool false) (x1 := .slice none 0 0) (x2 := .int .i64 0) (g := v33.heap.size) E.out rfl)
              generalize hW : World.alloc v33 _ = v34 at E ⊢; clear hW
              have hSw := SBL E (by simp)
              refine line_all rq8R 10 0 [9, 7, 6, 8, 3, 2, 5, 4, 1, 0] [10] (by decide) (rq8B _ (by decide)) (by simp) ?_
              intro j hj; simp only [List.mem_cons, List.not_mem_nil, or_false] at hj
              subst hj
              have E2 := Lib.hid (St.store E.out (g := v2.heap.size) (x0 := .bool false) (x1 := .slice none 0 0) (x2 := .int .i64 0) (by simp) (noLimb_bool _) (noLimb_slice _ _ _) (noLimb_int _) [(v33.heap.size, .bool false, .slice none 0 0, .int .i64 0), (g7, (.bool (ngB y1)), (.slice A5 n5 c5), (.int .i64 (S : Int))), (g8, (.bool (ngB i)), (.slice A6 n6 c6), (.int .i64 (S : Int))), ((w.heap.size + 1), .bool false, .slice none 0 0, .int .i64 0), (w.heap.size, (.bool (ngB i)), (.slice A n c), (.int .i64 (s : Int)))] (by simp <;> omega) (.bool (ngB p)) (.slice X2 m2 d2) (.int .i64 (M : Int)))
              refine turn_store rq8R 10 0 [9, 7, 6, 8, 3, 2, 5, 4, 1, 0] 10 (w' := put3 v34 (v2.heap.size) (.bool (ngB p)) (.slice X2 m2 d2) (.int .i64 (M : Int))) rfl ha (fun o ho hg => ⟨(wanted_none hg), e_store ho (ha.ev (i := 9) (v := .pointer (some ⟨v2.heap.size, 0, none⟩)) (by simp)) (ha.ev (i := 59) (v := .agg #[.bool (ngB p), .slice X2 m2 d2, .int .i64 (M : Int)]) (by simp)) (St.at_ (g := v2.heap.size) (x0 := .bool false) (x1 := .slice none 0 0) (x2 := .int .i64 0) E (by simp))⟩) (SBL E2 (by simp)) ?_; intro a ha
              replace E := E2; clear E2
              generalize hW : put3 v34 _ _ _ _ = v35 at E ⊢; clear hW
              have hSw := SBL E (by simp)
              refine line_all rq8R 11 0 [10, 9, 7, 6, 8, 3, 2, 5, 4, 1, 0] [11] (by decide) (rq8B _ (by decide)) (by simp) ?_
              intro j hj; simp only [List.mem_cons, List.not_mem_nil, or_false] at hj
              subst hj
              have E2 := Lib.hid (St.store E.out (g := v33.heap.size) (x0 := .bool false) (x1 := .slice none 0 0) (x2 := .int .i64 0) (by simp) (noLimb_bool _) (noLimb_slice _ _ _) (noLimb_int _) [(v2.heap.size, (.bool (ngB p)), (.slice X2 m2 d2), (.int .i64 (M : Int))), (g7, (.bool (ngB y1)), (.slice A5 n5 c5), (.int .i64 (S : Int))), (g8, (.bool (ngB i)), (.slice A6 n6 c6), (.int .i64 (S : Int))), ((w.heap.size + 1), .bool false, .slice none 0 0, .int .i64 0), (w.heap.size, (.bool (ngB i)), (.slice A n c), (.int .i64 (s : Int)))] (by simp <;> omega) (.bool (ngB q)) (.slice X33 m33 d33) (.int .i64 (M : Int)))
              refine turn_store rq8R 11 0 [10, 9, 7, 6, 8, 3, 2, 5, 4, 1, 0] 11 (w' := put3 v35 (v33.heap.size) (.bool (ngB q)) (.slice X33 m33 d33) (.int .i64 (M : Int))) rfl ha (fun o ho hg => ⟨(wanted_none hg), e_store ho (ha.ev (i := 10) (v := .pointer (some ⟨v33.heap.size, 0, none⟩)) (by simp)) (ha.ev (i := 63) (v := .agg #[.bool (ngB q), .slice X33 m33 d33, .int .i64 (M : Int)]) (by simp)) (St.at_ (g := v33.heap.size) (x0 := .bool false) (x1 := .slice none 0 0) (x2 := .int .i64 0) E (by simp))⟩) (SBL E2 (by simp)) ?_; intro a ha
              replace E := E2; clear E2
              generalize hW : put3 v35 _ _ _ _ = v36 at E ⊢; clear hW
              have hSw := SBL E (by simp)
              refine line_end0 rq8R (show ∀ i, i < 12 → i ∈ [11, 10, 9, 7, 6, 8, 3, 2, 5, 4, 1, 0] by decide) ?_
              exact ⟨rfl, v2.heap.size, v33.heap.size, X2, m2, d2, X33, m33, d33, ha.sub (by simp), by omega, by omega, Lib.hid ((E.out).sub (by simp) (by simp))⟩
            ·
              have lt37_0 := (St.at_ (x0 := .bool false) (x1 := .slice none 0 0) (x2 := .int .i64 0) (g := v2.heap.size) E (by simp)).lt
              have lt37_1 := (St.at_ (x0 := (.bool (ngB y1))) (x1 := (.slice A5 n5 c5)) (x2 := (.int .i64 (S : Int))) (g := g7) E (by simp)).lt
              have lt37_2 := (St.at_ (x0 := (.bool (ngB i))) (x1 := (.slice A6 n6 c6)) (x2 := (.int .i64 (S : Int))) (g := g8) E (by simp)).lt
              have lt37_3 := (St.at_ (x0 := .bool false) (x1 := .slice none 0 0) (x2 := .int .i64 0) (g := (w.heap.size + 1)) E (by simp)).lt
              have lt37_4 := (St.at_ (x0 := (.bool (ngB i))) (x1 := (.slice A n c)) (x2 := (.int .i64 (s : Int))) (g := w.heap.size) E (by simp)).lt
              refine turn_op0 rq8R 8 0 [6, 8, 3, 2, 5, 4, 1, 0] 9 10 (v := .pointer (some ⟨v32.heap.size, 0, none⟩)) (w' := v32.alloc (.cells #[.bool false, .slice none 0 0, .int .i64 0] 25)) rfl (by decide) ha (fun o ho hg => ⟨(wanted_none hg), e_alloc ho⟩) (by simp) (SBL (Lib.hid (St.alloc E.out _)) (by simp)) ?_; intro a ha
              replace E := Lib.hid (St.lay (t := 25) (x0 := .bool false) (x1 := .slice none 0 0) (x2 := .int .i64 0) (g := v32.heap.size) E.out rfl)
              generalize hW : World.alloc v32 _ = v37 at E ⊢; clear hW
              have hSw := SBL E (by simp)
              refine line_all rq8R 9 0 [9, 6, 8, 3, 2, 5, 4, 1, 0] [7] (by decide) (rq8B _ (by decide)) (by simp) ?_
              intro j hj; simp only [List.mem_cons, List.not_mem_nil, or_false] at hj
              subst hj
              refine turn_call0 rq8R 9 0 [9, 6, 8, 3, 2, 5, 4, 1, 0] 7 63 (args := #[.agg #[.bool (ngB q0), .slice X32 m32 d32, .int .i64 (M : Int)]]) rfl (by decide) ha (fun o ho hg => ⟨(wanted_none hg), e_call (by kernel_rfl) ho rfl (by have q0 := ha.ev (i := 62) (v := .agg #[.bool (ngB q0), .slice X32 m32 d32, .int .i64 (M : Int)]) (by simp); simp only [List.map_toArray, List.map_cons, List.map_nil, ev_const, q0])⟩) (by simp) ?_
              refine (refabs_is5 (i := q0) (s := M) (St.got E (A := X32) (n := m32) (c := d32) (a := (q0).natAbs) (by simp)) (by omega) (by omega) HQ.out).mono ?_; rintro e v38 ⟨X38, m38, d38, rfl, h, hb⟩
              have q38 : m38 ≤ 4500 := len_le h LQ.out
              replace E := Lib.hid (St.push E.out hb h)
              clear h hb
              have hSw := SBL E (by simp); refine ⟨_, rfl, hSw, ?_⟩; intro a ha
              refine line_all rq8R 10 0 [7, 9, 6, 8, 3, 2, 5, 4, 1, 0] [10] (by decide) (rq8B _ (by decide)) (by simp) ?_
              intro j hj; simp only [List.mem_cons, List.not_mem_nil, or_false] at hj
              subst hj
              have E2 := Lib.hid (St.store E.out (g := v2.heap.size) (x0 := .bool false) (x1 := .slice none 0 0) (x2 := .int .i64 0) (by simp) (noLimb_bool _) (noLimb_slice _ _ _) (noLimb_int _) [(v32.heap.size, .bool false, .slice none 0 0, .int .i64 0), (g7, (.bool (ngB y1)), (.slice A5 n5 c5), (.int .i64 (S : Int))), (g8, (.bool (ngB i)), (.slice A6 n6 c6), (.int .i64 (S : Int))), ((w.heap.size + 1), .bool false, .slice none 0 0, .int .i64 0), (w.heap.size, (.bool (ngB i)), (.slice A n c), (.int .i64 (s : Int)))] (by simp <;> omega) (.bool (ngB p)) (.slice X2 m2 d2) (.int .i64 (M : Int)))
              refine turn_store rq8R 10 0 [7, 9, 6, 8, 3, 2, 5, 4, 1, 0] 10 (w' := put3 v38 (v2.heap.size) (.bool (ngB p)) (.slice X2 m2 d2) (.int .i64 (M : Int))) rfl ha (fun o ho hg => ⟨(wanted_none hg), e_store ho (ha.ev (i := 9) (v := .pointer (some ⟨v2.heap.size, 0, none⟩)) (by simp)) (ha.ev (i := 59) (v := .agg #[.bool (ngB p), .slice X2 m2 d2, .int .i64 (M : Int)]) (by simp)) (St.at_ (g := v2.heap.size) (x0 := .bool false) (x1 := .slice none 0 0) (x2 := .int .i64 0) E (by simp))⟩) (SBL E2 (by simp)) ?_; intro a ha
              replace E := E2; clear E2
              generalize hW : put3 v38 _ _ _ _ = v39 at E ⊢; clear hW
              have hSw := SBL E (by simp)
              refine line_all rq8R 11 0 [10, 7, 9, 6, 8, 3, 2, 5, 4, 1, 0] [11] (by decide) (rq8B _ (by decide)) (by simp) ?_
              intro j hj; simp only [List.mem_cons, List.not_mem_nil, or_false] at hj
              subst hj
              have E2 := Lib.hid (St.store E.out (g := v32.heap.size) (x0 := .bool false) (x1 := .slice none 0 0) (x2 := .int .i64 0) (by simp) (noLimb_bool _) (noLimb_slice _ _ _) (noLimb_int _) [(v2.heap.size, (.bool (ngB p)), (.slice X2 m2 d2), (.int .i64 (M : Int))), (g7, (.bool (ngB y1)), (.slice A5 n5 c5), (.int .i64 (S : Int))), (g8, (.bool (ngB i)), (.slice A6 n6 c6), (.int .i64 (S : Int))), ((w.heap.size + 1), .bool false, .slice none 0 0, .int .i64 0), (w.heap.size, (.bool (ngB i)), (.slice A n c), (.int .i64 (s : Int)))] (by simp <;> omega) (.bool (ngB q)) (.slice X38 m38 d38) (.int .i64 (M : Int)))
              refine turn_store rq8R 11 0 [10, 7, 9, 6, 8, 3, 2, 5, 4, 1, 0] 11 (w' := put3 v39 (v32.heap.size) (.bool (ngB q)) (.slice X38 m38 d38) (.int .i64 (M : Int))) rfl ha (fun o ho hg => ⟨(wanted_none hg), e_store ho (ha.ev (i := 10) (v := .pointer (some ⟨v32.heap.size, 0, none⟩)) (by simp)) (ha.ev (i := 63) (v := .agg #[.bool (ngB q), .slice X38 m38 d38, .int .i64 (M : Int)]) (by simp)) (St.at_ (g := v32.heap.size) (x0 := .bool false) (x1 := .slice none 0 0) (x2 := .int .i64 0) E (by simp))⟩) (SBL E2 (by simp)) ?_; intro a ha
              replace E := E2; clear E2
              generalize hW : put3 v39 _ _ _ _ = v40 at E ⊢; clear hW
              have hSw := SBL E (by simp)
              refine line_end0 rq8R (show ∀ i, i < 12 → i ∈ [11, 10, 7, 9, 6, 8, 3, 2, 5, 4, 1, 0] by decide) ?_
              exact ⟨rfl, v2.heap.size, v32.heap.size, X2, m2, d2, X38, m38, d38, ha.sub (by simp), by omega, by omega, Lib.hid ((E.out).sub (by simp) (by simp))⟩
          ·
            have lt41_0 := (St.at_ (x0 := .bool false) (x1 := .slice none 0 0) (x2 := .int .i64 0) (g := v2.heap.size) E (by simp)).lt
            have lt41_1 := (St.at_ (x0 := (.bool (ngB y1))) (x1 := (.slice A5 n5 c5)) (x2 := (.int .i64 (S : Int))) (g := g7) E (by simp)).lt
            have lt41_2 := (St.at_ (x0 := (.bool (ngB i))) (x1 := (.slice A6 n6 c6)) (x2 := (.int .i64 (S : Int))) (g := g8) E (by simp)).lt
            have lt41_3 := (St.at_ (x0 := .bool false) (x1 := .slice none 0 0) (x2 := .int .i64 0) (g := (w.heap.size + 1)) E (by simp)).lt
            have lt41_4 := (St.at_ (x0 := (.bool (ngB i))) (x1 := (.slice A n c)) (x2 := (.int .i64 (s : Int))) (g := w.heap.size) E (by simp)).lt
            refine turn_op0 rq8R 7 0 [8, 3, 2, 5, 4, 1, 0] 9 10 (v := .pointer (some ⟨v31.heap.size, 0, none⟩)) (w' := v31.alloc (.cells #[.bool false, .slice none 0 0, .int .i64 0] 25)) rfl (by decide) ha (fun o ho hg => ⟨(wanted_none hg), e_alloc ho⟩) (by simp) (SBL (Lib.hid (St.alloc E.out _)) (by simp)) ?_; intro a ha
            replace E := Lib.hid (St.lay (t := 25) (x0 := .bool false) (x1 := .slice none 0 0) (x2 := .int .i64 0) (g := v31.heap.size) E.out rfl)
            generalize hW : World.alloc v31 _ = v41 at E ⊢; clear hW
            have hSw := SBL E (by simp)
            refine line_all rq8R 8 0 [9, 8, 3, 2, 5, 4, 1, 0] [6] (by decide) (rq8B _ (by decide)) (by simp) ?_
            intro j hj; simp only [List.mem_cons, List.not_mem_nil, or_false] at hj
            subst hj
            refine turn_call0 rq8R 8 0 [9, 8, 3, 2, 5, 4, 1, 0] 6 62 (args := #[.agg #[(.bool (ngB i)), (.slice A6 n6 c6), (.int .i64 (S : Int))], .agg #[(.bool (ngB i)), (.slice A n c), (.int .i64 (s : Int))]]) rfl (by decide) ha (fun o ho hg => ⟨(wanted_none hg), e_call (by kernel_rfl) ho rfl (by have q0 := ha.ev (i := 60) (v := .agg #[(.bool (ngB i)), (.slice A6 n6 c6), (.int .i64 (S : Int))]) (by simp); have q1 := ha.ev (i := 61) (v := .agg #[(.bool (ngB i)), (.slice A n c), (.int .i64 (s : Int))]) (by simp); simp only [List.map_toArray, List.map_cons, List.map_nil, ev_const, q0, q1])⟩) (by simp) ?_
            refine (refsub_isB (i := y2) (s := S) (j := i) (t := s) HB2.out.symm rfl (St.got E (A := A6) (n := n6) (c := c6) (a := (y2).natAbs) (by simp)) (St.got E (A := A) (n := n) (c := c) (a := (i).natAbs) (by simp)) (by omega) (by omega) (by omega) (by omega) HM2.out HQ0.out).mono ?_; rintro e v42 ⟨X42, m42, d42, rfl, h, hb⟩
            have q42 : m42 ≤ 4500 := len_le h LQ0.out
            replace E := Lib.hid (St.push E.out hb h)
            clear h hb
            have hSw := SBL E (by simp); refine ⟨_, rfl, hSw, ?_⟩; intro a ha
            refine line_all rq8R 9 0 [6, 9, 8, 3, 2, 5, 4, 1, 0] [7] (by decide) (rq8B _ (by decide)) (by simp) ?_
            intro j hj; simp only [List.mem_cons, List.not_mem_nil, or_false] at hj
            subst hj
            refine turn_call0 rq8R 9 0 [6, 9, 8, 3, 2, 5, 4, 1, 0] 7 63 (args := #[.agg #[.bool (ngB q0), .slice X42 m42 d42, .int .i64 (M : Int)]]) rfl (by decide) ha (fun o ho hg => ⟨(wanted_none hg), e_call (by kernel_rfl) ho rfl (by have q0 := ha.ev (i := 62) (v := .agg #[.bool (ngB q0), .slice X42 m42 d42, .int .i64 (M : Int)]) (by simp); simp only [List.map_toArray, List.map_cons, List.map_nil, ev_const, q0])⟩) (by simp) ?_
            refine (refabs_is5 (i := q0) (s := M) (St.got E (A := X42) (n := m42) (c := d42) (a := (q0).natAbs) (by simp)) (by omega) (by omega) HQ.out).mono ?_; rintro e v43 ⟨X43, m43, d43, rfl, h, hb⟩
            have q43 : m43 ≤ 4500 := len_le h LQ.out
            replace E := Lib.hid (St.push E.out hb h)
            clear h hb
            have hSw := SBL E (by simp); refine ⟨_, rfl, hSw, ?_⟩; intro a ha
            refine line_all rq8R 10 0 [7, 6, 9, 8, 3, 2, 5, 4, 1, 0] [10] (by decide) (rq8B _ (by decide)) (by simp) ?_
            intro j hj; simp only [List.mem_cons, List.not_mem_nil, or_false] at hj
            subst hj
            have E2 := Lib.hid (St.store E.out (g := v2.heap.size) (x0 := .bool false) (x1 := .slice none 0 0) (x2 := .int .i64 0) (by simp) (noLimb_bool _) (noLimb_slice _ _ _) (noLimb_int _) [(v31.heap.size, .bool false, .slice none 0 0, .int .i64 0), (g7, (.bool (ngB y1)), (.slice A5 n5 c5), (.int .i64 (S : Int))), (g8, (.bool (ngB i)), (.slice A6 n6 c6), (.int .i64 (S : Int))), ((w.heap.size + 1), .bool false, .slice none 0 0, .int .i64 0), (w.heap.size, (.bool (ngB i)), (.slice A n c), (.int .i64 (s : Int)))] (by simp <;> omega) (.bool (ngB p)) (.slice X2 m2 d2) (.int .i64 (M : Int)))
            refine turn_store rq8R 10 0 [7, 6, 9, 8, 3, 2, 5, 4, 1, 0] 10 (w' := put3 v43 (v2.heap.size) (.bool (ngB p)) (.slice X2 m2 d2) (.int .i64 (M : Int))) rfl ha (fun o ho hg => ⟨(wanted_none hg), e_store ho (ha.ev (i := 9) (v := .pointer (some ⟨v2.heap.size, 0, none⟩)) (by simp)) (ha.ev (i := 59) (v := .agg #[.bool (ngB p), .slice X2 m2 d2, .int .i64 (M : Int)]) (by simp)) (St.at_ (g := v2.heap.size) (x0 := .bool false) (x1 := .slice none 0 0) (x2 := .int .i64 0) E (by simp))⟩) (SBL E2 (by simp)) ?_; intro a ha
            replace E := E2; clear E2
            generalize hW : put3 v43 _ _ _ _ = v44 at E ⊢; clear hW
            have hSw := SBL E (by simp)
            refine line_all rq8R 11 0 [10, 7, 6, 9, 8, 3, 2, 5, 4, 1, 0] [11] (by decide) (rq8B _ (by decide)) (by simp) ?_
            intro j hj; simp only [List.mem_cons, List.not_mem_nil, or_false] at hj
            subst hj
            have E2 := Lib.hid (St.store E.out (g := v31.heap.size) (x0 := .bool false) (x1 := .slice none 0 0) (x2 := .int .i64 0) (by simp) (noLimb_bool _) (noLimb_slice _ _ _) (noLimb_int _) [(v2.heap.size, (.bool (ngB p)), (.slice X2 m2 d2), (.int .i64 (M : Int))), (g7, (.bool (ngB y1)), (.slice A5 n5 c5), (.int .i64 (S : Int))), (g8, (.bool (ngB i)), (.slice A6 n6 c6), (.int .i64 (S : Int))), ((w.heap.size + 1), .bool false, .slice none 0 0, .int .i64 0), (w.heap.size, (.bool (ngB i)), (.slice A n c), (.int .i64 (s : Int)))] (by simp <;> omega) (.bool (ngB q)) (.slice X43 m43 d43) (.int .i64 (M : Int)))
            refine turn_store rq8R 11 0 [10, 7, 6, 9, 8, 3, 2, 5, 4, 1, 0] 11 (w' := put3 v44 (v31.heap.size) (.bool (ngB q)) (.slice X43 m43 d43) (.int .i64 (M : Int))) rfl ha (fun o ho hg => ⟨(wanted_none hg), e_store ho (ha.ev (i := 10) (v := .pointer (some ⟨v31.heap.size, 0, none⟩)) (by simp)) (ha.ev (i := 63) (v := .agg #[.bool (ngB q), .slice X43 m43 d43, .int .i64 (M : Int)]) (by simp)) (St.at_ (g := v31.heap.size) (x0 := .bool false) (x1 := .slice none 0 0) (x2 := .int .i64 0) E (by simp))⟩) (SBL E2 (by simp)) ?_; intro a ha
            replace E := E2; clear E2
            generalize hW : put3 v44 _ _ _ _ = v45 at E ⊢; clear hW
            have hSw := SBL E (by simp)
            refine line_end0 rq8R (show ∀ i, i < 12 → i ∈ [11, 10, 7, 6, 9, 8, 3, 2, 5, 4, 1, 0] by decide) ?_
            exact ⟨rfl, v2.heap.size, v31.heap.size, X2, m2, d2, X43, m43, d43, ha.sub (by simp), by omega, by omega, Lib.hid ((E.out).sub (by simp) (by simp))⟩
        ·
          have lt46_0 := (St.at_ (x0 := (.bool (ngB y1))) (x1 := (.slice A5 n5 c5)) (x2 := (.int .i64 (S : Int))) (g := g7) E (by simp)).lt
          have lt46_1 := (St.at_ (x0 := (.bool (ngB i))) (x1 := (.slice A6 n6 c6)) (x2 := (.int .i64 (S : Int))) (g := g8) E (by simp)).lt
          have lt46_2 := (St.at_ (x0 := .bool false) (x1 := .slice none 0 0) (x2 := .int .i64 0) (g := (w.heap.size + 1)) E (by simp)).lt
          have lt46_3 := (St.at_ (x0 := (.bool (ngB i))) (x1 := (.slice A n c)) (x2 := (.int .i64 (s : Int))) (g := w.heap.size) E (by simp)).lt
          refine turn_op0 rq8R 6 0 [3, 2, 5, 4, 1, 0] 9 10 (v := .pointer (some ⟨v2.heap.size, 0, none⟩)) (w' := v2.alloc (.cells #[.bool false, .slice none 0 0, .int .i64 0] 25)) rfl (by decide) ha (fun o ho hg => ⟨(wanted_none hg), e_alloc ho⟩) (by simp) (SBL (Lib.hid (St.alloc E.out _)) (by simp)) ?_; intro a ha
          replace E := Lib.hid (St.lay (t := 25) (x0 := .bool false) (x1 := .slice none 0 0) (x2 := .int .i64 0) (g := v2.heap.size) E.out rfl)
          generalize hW : World.alloc v2 _ = v46 at E ⊢; clear hW
          have hSw := SBL E (by simp)
          refine line_all rq8R 7 0 [9, 3, 2, 5, 4, 1, 0] [6, 8] (by decide) (rq8B _ (by decide)) (by simp) ?_
          intro j hj; simp only [List.mem_cons, List.not_mem_nil, or_false] at hj
          rcases hj with rfl | rfl
          ·
            refine turn_call0 rq8R 7 0 [9, 3, 2, 5, 4, 1, 0] 6 62 (args := #[.agg #[(.bool (ngB i)), (.slice A6 n6 c6), (.int .i64 (S : Int))], .agg #[(.bool (ngB i)), (.slice A n c), (.int .i64 (s : Int))]]) rfl (by decide) ha (fun o ho hg => ⟨(wanted_none hg), e_call (by kernel_rfl) ho rfl (by have q0 := ha.ev (i := 60) (v := .agg #[(.bool (ngB i)), (.slice A6 n6 c6), (.int .i64 (S : Int))]) (by simp); have q1 := ha.ev (i := 61) (v := .agg #[(.bool (ngB i)), (.slice A n c), (.int .i64 (s : Int))]) (by simp); simp only [List.map_toArray, List.map_cons, List.map_nil, ev_const, q0, q1])⟩) (by simp) ?_
            refine (refsub_isB (i := y2) (s := S) (j := i) (t := s) HB2.out.symm rfl (St.got E (A := A6) (n := n6) (c := c6) (a := (y2).natAbs) (by simp)) (St.got E (A := A) (n := n) (c := c) (a := (i).natAbs) (by simp)) (by omega) (by omega) (by omega) (by omega) HM2.out HQ0.out).mono ?_; rintro e v47 ⟨X47, m47, d47, rfl, h, hb⟩
            have q47 : m47 ≤ 4500 := len_le h LQ0.out
            replace E := Lib.hid (St.push E.out hb h)
            clear h hb
            have hSw := SBL E (by simp); refine ⟨_, rfl, hSw, ?_⟩; intro a ha
            refine line_all rq8R 8 0 [6, 9, 3, 2, 5, 4, 1, 0] [7, 8] (by decide) (rq8B _ (by decide)) (by simp) ?_
            intro j hj; simp only [List.mem_cons, List.not_mem_nil, or_false] at hj
            rcases hj with rfl | rfl
            ·
              refine turn_call0 rq8R 8 0 [6, 9, 3, 2, 5, 4, 1, 0] 7 63 (args := #[.agg #[.bool (ngB q0), .slice X47 m47 d47, .int .i64 (M : Int)]]) rfl (by decide) ha (fun o ho hg => ⟨(wanted_none hg), e_call (by kernel_rfl) ho rfl (by have q0 := ha.ev (i := 62) (v := .agg #[.bool (ngB q0), .slice X47 m47 d47, .int .i64 (M : Int)]) (by simp); simp only [List.map_toArray, List.map_cons, List.map_nil, ev_const, q0])⟩) (by simp) ?_
              refine (refabs_is5 (i := q0) (s := M) (St.got E (A := X47) (n := m47) (c := d47) (a := (q0).natAbs) (by simp)) (by omega) (by omega) HQ.out).mono ?_; rintro e v48 ⟨X48, m48, d48, rfl, h, hb⟩
              have q48 : m48 ≤ 4500 := len_le h LQ.out
              replace E := Lib.hid (St.push E.out hb h)
              clear h hb
              have hSw := SBL E (by simp); refine ⟨_, rfl, hSw, ?_⟩; intro a ha
              refine line_all rq8R 9 0 [7, 6, 9, 3, 2, 5, 4, 1, 0] [8] (by decide) (rq8B _ (by decide)) (by simp) ?_
              intro j hj; simp only [List.mem_cons, List.not_mem_nil, or_false] at hj
              subst hj
              have lt49_0 := (St.at_ (x0 := .bool false) (x1 := .slice none 0 0) (x2 := .int .i64 0) (g := v2.heap.size) E (by simp)).lt
              have lt49_1 := (St.at_ (x0 := (.bool (ngB y1))) (x1 := (.slice A5 n5 c5)) (x2 := (.int .i64 (S : Int))) (g := g7) E (by simp)).lt
              have lt49_2 := (St.at_ (x0 := (.bool (ngB i))) (x1 := (.slice A6 n6 c6)) (x2 := (.int .i64 (S : Int))) (g := g8) E (by simp)).lt
              have lt49_3 := (St.at_ (x0 := .bool false) (x1 := .slice none 0 0) (x2 := .int .i64 0) (g := (w.heap.size + 1)) E (by simp)).lt
              have lt49_4 := (St.at_ (x0 := (.bool (ngB i))) (x1 := (.slice A n c)) (x2 := (.int .i64 (s : Int))) (g := w.heap.size) E (by simp)).lt
              refine turn_op0 rq8R 9 0 [7, 6, 9, 3, 2, 5, 4, 1, 0] 8 9 (v := .pointer (some ⟨v48.heap.size, 0, none⟩)) (w' := v48.alloc (.cells #[.bool false, .slice none 0 0, .int .i64 0] 25)) rfl (by decide) ha (fun o ho hg => ⟨(wanted_none hg), e_alloc ho⟩) (by simp) (SBL (Lib.hid (St.alloc E.out _)) (by simp)) ?_; intro a ha
              replace E := Lib.hid (St.lay (t := 25) (x0 := .bool false) (x1 := .slice none 0 0) (x2 := .int .i64 0) (g := v48.heap.size) E.out rfl)
              generalize hW : World.alloc v48 _ = v49 at E ⊢; clear hW
              have hSw := SBL E (by simp)
              refine line_all rq8R 10 0 [8, 7, 6, 9, 3, 2, 5, 4, 1, 0] [10] (by decide) (rq8B _ (by decide)) (by simp) ?_
              intro j hj; simp only [List.mem_cons, List.not_mem_nil, or_false] at hj
              subst hj
              have E2 := Lib.hid (St.store E.out (g := v48.heap.size) (x0 := .bool false) (x1 := .slice none 0 0) (x2 := .int .i64 0) (by simp) (noLimb_bool _) (noLimb_slice _ _ _) (noLimb_int _) [(v2.heap.size, .bool false, .slice none 0 0, .int .i64 0), (g7, (.bool (ngB y1)), (.slice A5 n5 c5), (.int .i64 (S : Int))), (g8, (.bool (ngB i)), (.slice A6 n6 c6), (.int .i64 (S : Int))), ((w.heap.size + 1), .bool false, .slice none 0 0, .int .i64 0), (w.heap.size, (.bool (ngB i)), (.slice A n c), (.int .i64 (s : Int)))] (by simp <;> omega) (.bool (ngB p)) (.slice X2 m2 d2) (.int .i64 (M : Int)))
              refine turn_store rq8R 10 0 [8, 7, 6, 9, 3, 2, 5, 4, 1, 0] 10 (w' := put3 v49 (v48.heap.size) (.bool (ngB p)) (.slice X2 m2 d2) (.int .i64 (M : Int))) rfl ha (fun o ho hg => ⟨(wanted_none hg), e_store ho (ha.ev (i := 9) (v := .pointer (some ⟨v48.heap.size, 0, none⟩)) (by simp)) (ha.ev (i := 59) (v := .agg #[.bool (ngB p), .slice X2 m2 d2, .int .i64 (M : Int)]) (by simp)) (St.at_ (g := v48.heap.size) (x0 := .bool false) (x1 := .slice none 0 0) (x2 := .int .i64 0) E (by simp))⟩) (SBL E2 (by simp)) ?_; intro a ha
              replace E := E2; clear E2
              generalize hW : put3 v49 _ _ _ _ = v50 at E ⊢; clear hW
              have hSw := SBL E (by simp)
              refine line_all rq8R 11 0 [10, 8, 7, 6, 9, 3, 2, 5, 4, 1, 0] [11] (by decide) (rq8B _ (by decide)) (by simp) ?_
              intro j hj; simp only [List.mem_cons, List.not_mem_nil, or_false] at hj
              subst hj
              have E2 := Lib.hid (St.store E.out (g := v2.heap.size) (x0 := .bool false) (x1 := .slice none 0 0) (x2 := .int .i64 0) (by simp) (noLimb_bool _) (noLimb_slice _ _ _) (noLimb_int _) [(v48.heap.size, (.bool (ngB p)), (.slice X2 m2 d2), (.int .i64 (M : Int))), (g7, (.bool (ngB y1)), (.slice A5 n5 c5), (.int .i64 (S : Int))), (g8, (.bool (ngB i)), (.slice A6 n6 c6), (.int .i64 (S : Int))), ((w.heap.size + 1), .bool false, .slice none 0 0, .int .i64 0), (w.heap.size, (.bool (ngB i)), (.slice A n c), (.int .i64 (s : Int)))] (by simp <;> omega) (.bool (ngB q)) (.slice X48 m48 d48) (.int .i64 (M : Int)))
              refine turn_store rq8R 11 0 [10, 8, 7, 6, 9, 3, 2, 5, 4, 1, 0] 11 (w' := put3 v50 (v2.heap.size) (.bool (ngB q)) (.slice X48 m48 d48) (.int .i64 (M : Int))) rfl ha (fun o ho hg => ⟨(wanted_none hg), e_store ho (ha.ev (i := 10) (v := .pointer (some ⟨v2.heap.size, 0, none⟩)) (by simp)) (ha.ev (i := 63) (v := .agg #[.bool (ngB q), .slice X48 m48 d48, .int .i64 (M : Int)]) (by simp)) (St.at_ (g := v2.heap.size) (x0 := .bool false) (x1 := .slice none 0 0) (x2 := .int .i64 0) E (by simp))⟩) (SBL E2 (by simp)) ?_; intro a ha
              replace E := E2; clear E2
              generalize hW : put3 v50 _ _ _ _ = v51 at E ⊢; clear hW
              have hSw := SBL E (by simp)
              refine line_end0 rq8R (show ∀ i, i < 12 → i ∈ [11, 10, 8, 7, 6, 9, 3, 2, 5, 4, 1, 0] by decide) ?_
              exact ⟨rfl, v48.heap.size, v2.heap.size, X2, m2, d2, X48, m48, d48, ha.sub (by simp), by omega, by omega, Lib.hid ((E.out).sub (by simp) (by simp))⟩
            ·
              have lt52_0 := (St.at_ (x0 := .bool false) (x1 := .slice none 0 0) (x2 := .int .i64 0) (g := v2.heap.size) E (by simp)).lt
              have lt52_1 := (St.at_ (x0 := (.bool (ngB y1))) (x1 := (.slice A5 n5 c5)) (x2 := (.int .i64 (S : Int))) (g := g7) E (by simp)).lt
              have lt52_2 := (St.at_ (x0 := (.bool (ngB i))) (x1 := (.slice A6 n6 c6)) (x2 := (.int .i64 (S : Int))) (g := g8) E (by simp)).lt
              have lt52_3 := (St.at_ (x0 := .bool false) (x1 := .slice none 0 0) (x2 := .int .i64 0) (g := (w.heap.size + 1)) E (by simp)).lt
              have lt52_4 := (St.at_ (x0 := (.bool (ngB i))) (x1 := (.slice A n c)) (x2 := (.int .i64 (s : Int))) (g := w.heap.size) E (by simp)).lt
              refine turn_op0 rq8R 8 0 [6, 9, 3, 2, 5, 4, 1, 0] 8 9 (v := .pointer (some ⟨v47.heap.size, 0, none⟩)) (w' := v47.alloc (.cells #[.bool false, .slice none 0 0, .int .i64 0] 25)) rfl (by decide) ha (fun o ho hg => ⟨(wanted_none hg), e_alloc ho⟩) (by simp) (SBL (Lib.hid (St.alloc E.out _)) (by simp)) ?_; intro a ha
              replace E := Lib.hid (St.lay (t := 25) (x0 := .bool false) (x1 := .slice none 0 0) (x2 := .int .i64 0) (g := v47.heap.size) E.out rfl)
              generalize hW : World.alloc v47 _ = v52 at E ⊢; clear hW
              have hSw := SBL E (by simp)
              refine line_all rq8R 9 0 [8, 6, 9, 3, 2, 5, 4, 1, 0] [7] (by decide) (rq8B _ (by decide)) (by simp) ?_
              intro j hj; simp only [List.mem_cons, List.not_mem_nil, or_false] at hj
              subst hj
              refine turn_call0 rq8R 9 0 [8, 6, 9, 3, 2, 5, 4, 1, 0] 7 63 (args := #[.agg #[.bool (ngB q0), .slice X47 m47 d47, .int .i64 (M : Int)]]) rfl (by decide) ha (fun o ho hg => ⟨(wanted_none hg), e_call (by kernel_rfl) ho rfl (by have q0 := ha.ev (i := 62) (v := .agg #[.bool (ngB q0), .slice X47 m47 d47, .int .i64 (M : Int)]) (by simp); simp only [List.map_toArray, List.map_cons, List.map_nil, ev_const, q0])⟩) (by simp) ?_
              refine (refabs_is5 (i := q0) (s := M) (St.got E (A := X47) (n := m47) (c := d47) (a := (q0).natAbs) (by simp)) (by omega) (by omega) HQ.out).mono ?_; rintro e v53 ⟨X53, m53, d53, rfl, h, hb⟩
              have q53 : m53 ≤ 4500 := len_le h LQ.out
              replace E := Lib.hid (St.push E.out hb h)
              clear h hb
              have hSw := SBL E (by simp); refine ⟨_, rfl, hSw, ?_⟩; intro a ha
              refine line_all rq8R 10 0 [7, 8, 6, 9, 3, 2, 5, 4, 1, 0] [10] (by decide) (rq8B _ (by decide)) (by simp) ?_
              intro j hj; simp only [List.mem_cons, List.not_mem_nil, or_false] at hj
              subst hj
              have E2 := Lib.hid (St.store E.out (g := v47.heap.size) (x0 := .bool false) (x1 := .slice none 0 0) (x2 := .int .i64 0) (by simp) (noLimb_bool _) (noLimb_slice _ _ _) (noLimb_int _) [(v2.heap.size, .bool false, .slice none 0 0, .int .i64 0), (g7, (.bool (ngB y1)), (.slice A5 n5 c5), (.int .i64 (S : Int))), (g8, (.bool (ngB i)), (.slice A6 n6 c6), (.int .i64 (S : Int))), ((w.heap.size + 1), .bool false, .slice none 0 0, .int .i64 0), (w.heap.size, (.bool (ngB i)), (.slice A n c), (.int .i64 (s : Int)))] (by simp <;> omega) (.bool (ngB p)) (.slice X2 m2 d2) (.int .i64 (M : Int)))
              refine turn_store rq8R 10 0 [7, 8, 6, 9, 3, 2, 5, 4, 1, 0] 10 (w' := put3 v53 (v47.heap.size) (.bool (ngB p)) (.slice X2 m2 d2) (.int .i64 (M : Int))) rfl ha (fun o ho hg => ⟨(wanted_none hg), e_store ho (ha.ev (i := 9) (v := .pointer (some ⟨v47.heap.size, 0, none⟩)) (by simp)) (ha.ev (i := 59) (v := .agg #[.bool (ngB p), .slice X2 m2 d2, .int .i64 (M : Int)]) (by simp)) (St.at_ (g := v47.heap.size) (x0 := .bool false) (x1 := .slice none 0 0) (x2 := .int .i64 0) E (by simp))⟩) (SBL E2 (by simp)) ?_; intro a ha
              replace E := E2; clear E2
              generalize hW : put3 v53 _ _ _ _ = v54 at E ⊢; clear hW
              have hSw := SBL E (by simp)
              refine line_all rq8R 11 0 [10, 7, 8, 6, 9, 3, 2, 5, 4, 1, 0] [11] (by decide) (rq8B _ (by decide)) (by simp) ?_
              intro j hj; simp only [List.mem_cons, List.not_mem_nil, or_false] at hj
              subst hj
              have E2 := Lib.hid (St.store E.out (g := v2.heap.size) (x0 := .bool false) (x1 := .slice none 0 0) (x2 := .int .i64 0) (by simp) (noLimb_bool _) (noLimb_slice _ _ _) (noLimb_int _) [(v47.heap.size, (.bool (ngB p)), (.slice X2 m2 d2), (.int .i64 (M : Int))), (g7, (.bool (ngB y1)), (.slice A5 n5 c5), (.int .i64 (S : Int))), (g8, (.bool (ngB i)), (.slice A6 n6 c6), (.int .i64 (S : Int))), ((w.heap.size + 1), .bool false, .slice none 0 0, .int .i64 0), (w.heap.size, (.bool (ngB i)), (.slice A n c), (.int .i64 (s : Int)))] (by simp <;> omega) (.bool (ngB q)) (.slice X53 m53 d53) (.int .i64 (M : Int)))
              refine turn_store rq8R 11 0 [10, 7, 8, 6, 9, 3, 2, 5, 4, 1, 0] 11 (w' := put3 v54 (v2.heap.size) (.bool (ngB q)) (.slice X53 m53 d53) (.int .i64 (M : Int))) rfl ha (fun o ho hg => ⟨(wanted_none hg), e_store ho (ha.ev (i := 10) (v := .pointer (some ⟨v2.heap.size, 0, none⟩)) (by simp)) (ha.ev (i := 63) (v := .agg #[.bool (ngB q), .slice X53 m53 d53, .int .i64 (M : Int)]) (by simp)) (St.at_ (g := v2.heap.size) (x0 := .bool false) (x1 := .slice none 0 0) (x2 := .int .i64 0) E (by simp))⟩) (SBL E2 (by simp)) ?_; intro a ha
              replace E := E2; clear E2
              generalize hW : put3 v54 _ _ _ _ = v55 at E ⊢; clear hW
              have hSw := SBL E (by simp)
              refine line_end0 rq8R (show ∀ i, i < 12 → i ∈ [11, 10, 7, 8, 6, 9, 3, 2, 5, 4, 1, 0] by decide) ?_
              exact ⟨rfl, v47.heap.size, v2.heap.size, X2, m2, d2, X53, m53, d53, ha.sub (by simp), by omega, by omega, Lib.hid ((E.out).sub (by simp) (by simp))⟩
          ·
            have lt56_0 := (St.at_ (x0 := .bool false) (x1 := .slice none 0 0) (x2 := .int .i64 0) (g := v2.heap.size) E (by simp)).lt
            have lt56_1 := (St.at_ (x0 := (.bool (ngB y1))) (x1 := (.slice A5 n5 c5)) (x2 := (.int .i64 (S : Int))) (g := g7) E (by simp)).lt
            have lt56_2 := (St.at_ (x0 := (.bool (ngB i))) (x1 := (.slice A6 n6 c6)) (x2 := (.int .i64 (S : Int))) (g := g8) E (by simp)).lt
            have lt56_3 := (St.at_ (x0 := .bool false) (x1 := .slice none 0 0) (x2 := .int .i64 0) (g := (w.heap.size + 1)) E (by simp)).lt
            have lt56_4 := (St.at_ (x0 := (.bool (ngB i))) (x1 := (.slice A n c)) (x2 := (.int .i64 (s : Int))) (g := w.heap.size) E (by simp)).lt
            refine turn_op0 rq8R 7 0 [9, 3, 2, 5, 4, 1, 0] 8 9 (v := .pointer (some ⟨v46.heap.size, 0, none⟩)) (w' := v46.alloc (.cells #[.bool false, .slice none 0 0, .int .i64 0] 25)) rfl (by decide) ha (fun o ho hg => ⟨(wanted_none hg), e_alloc ho⟩) (by simp) (SBL (Lib.hid (St.alloc E.out _)) (by simp)) ?_; intro a ha
            replace E := Lib.hid (St.lay (t := 25) (x0 := .bool false) (x1 := .slice none 0 0) (x2 := .int .i64 0) (g := v46.heap.size) E.out rfl)
            generalize hW : World.alloc v46 _ = v56 at E ⊢; clear hW
            have hSw := SBL E (by simp)
            refine line_all rq8R 8 0 [8, 9, 3, 2, 5, 4, 1, 0] [6] (by decide) (rq8B _ (by decide)) (by simp) ?_
            intro j hj; simp only [List.mem_cons, List.not_mem_nil, or_false] at hj
            subst hj
            refine turn_call0 rq8R 8 0 [8, 9, 3, 2, 5, 4, 1, 0] 6 62 (args := #[.agg #[(.bool (ngB i)), (.slice A6 n6 c6), (.int .i64 (S : Int))], .agg #[(.bool (ngB i)), (.slice A n c), (.int .i64 (s : Int))]]) rfl (by decide) ha (fun o ho hg => ⟨(wanted_none hg), e_call (by kernel_rfl) ho rfl (by have q0 := ha.ev (i := 60) (v := .agg #[(.bool (ngB i)), (.slice A6 n6 c6), (.int .i64 (S : Int))]) (by simp); have q1 := ha.ev (i := 61) (v := .agg #[(.bool (ngB i)), (.slice A n c), (.int .i64 (s : Int))]) (by simp); simp only [List.map_toArray, List.map_cons, List.map_nil, ev_const, q0, q1])⟩) (by simp) ?_
            refine (refsub_isB (i := y2) (s := S) (j := i) (t := s) HB2.out.symm rfl (St.got E (A := A6) (n := n6) (c := c6) (a := (y2).natAbs) (by simp)) (St.got E (A := A) (n := n) (c := c) (a := (i).natAbs) (by simp)) (by omega) (by omega) (by omega) (by omega) HM2.out HQ0.out).mono ?_; rintro e v57 ⟨X57, m57, d57, rfl, h, hb⟩
            have q57 : m57 ≤ 4500 := len_le h LQ0.out
            replace E := Lib.hid (St.push E.out hb h)
            clear h hb
            have hSw := SBL E (by simp); refine ⟨_, rfl, hSw, ?_⟩; intro a ha
            refine line_all rq8R 9 0 [6, 8, 9, 3, 2, 5, 4, 1, 0] [7] (by decide) (rq8B _ (by decide)) (by simp) ?_
            intro j hj; simp only [List.mem_cons, List.not_mem_nil, or_false] at hj
            subst hj
            refine turn_call0 rq8R 9 0 [6, 8, 9, 3, 2, 5, 4, 1, 0] 7 63 (args := #[.agg #[.bool (ngB q0), .slice X57 m57 d57, .int .i64 (M : Int)]]) rfl (by decide) ha (fun o ho hg => ⟨(wanted_none hg), e_call (by kernel_rfl) ho rfl (by have q0 := ha.ev (i := 62) (v := .agg #[.bool (ngB q0), .slice X57 m57 d57, .int .i64 (M : Int)]) (by simp); simp only [List.map_toArray, List.map_cons, List.map_nil, ev_const, q0])⟩) (by simp) ?_
            refine (refabs_is5 (i := q0) (s := M) (St.got E (A := X57) (n := m57) (c := d57) (a := (q0).natAbs) (by simp)) (by omega) (by omega) HQ.out).mono ?_; rintro e v58 ⟨X58, m58, d58, rfl, h, hb⟩
            have q58 : m58 ≤ 4500 := len_le h LQ.out
            replace E := Lib.hid (St.push E.out hb h)
            clear h hb
            have hSw := SBL E (by simp); refine ⟨_, rfl, hSw, ?_⟩; intro a ha
            refine line_all rq8R 10 0 [7, 6, 8, 9, 3, 2, 5, 4, 1, 0] [10] (by decide) (rq8B _ (by decide)) (by simp) ?_
            intro j hj; simp only [List.mem_cons, List.not_mem_nil, or_false] at hj
            subst hj
            have E2 := Lib.hid (St.store E.out (g := v46.heap.size) (x0 := .bool false) (x1 := .slice none 0 0) (x2 := .int .i64 0) (by simp) (noLimb_bool _) (noLimb_slice _ _ _) (noLimb_int _) [(v2.heap.size, .bool false, .slice none 0 0, .int .i64 0), (g7, (.bool (ngB y1)), (.slice A5 n5 c5), (.int .i64 (S : Int))), (g8, (.bool (ngB i)), (.slice A6 n6 c6), (.int .i64 (S : Int))), ((w.heap.size + 1), .bool false, .slice none 0 0, .int .i64 0), (w.heap.size, (.bool (ngB i)), (.slice A n c), (.int .i64 (s : Int)))] (by simp <;> omega) (.bool (ngB p)) (.slice X2 m2 d2) (.int .i64 (M : Int)))
            refine turn_store rq8R 10 0 [7, 6, 8, 9, 3, 2, 5, 4, 1, 0] 10 (w' := put3 v58 (v46.heap.size) (.bool (ngB p)) (.slice X2 m2 d2) (.int .i64 (M : Int))) rfl ha (fun o ho hg => ⟨(wanted_none hg), e_store ho (ha.ev (i := 9) (v := .pointer (some ⟨v46.heap.size, 0, none⟩)) (by simp)) (ha.ev (i := 59) (v := .agg #[.bool (ngB p), .slice X2 m2 d2, .int .i64 (M : Int)]) (by simp)) (St.at_ (g := v46.heap.size) (x0 := .bool false) (x1 := .slice none 0 0) (x2 := .int .i64 0) E (by simp))⟩) (SBL E2 (by simp)) ?_; intro a ha
            replace E := E2; clear E2
            generalize hW : put3 v58 _ _ _ _ = v59 at E ⊢; clear hW
            have hSw := SBL E (by simp)
            refine line_all rq8R 11 0 [10, 7, 6, 8, 9, 3, 2, 5, 4, 1, 0] [11] (by decide) (rq8B _ (by decide)) (by simp) ?_
            intro j hj; simp only [List.mem_cons, List.not_mem_nil, or_false] at hj
            subst hj
            have E2 := Lib.hid (St.store E.out (g := v2.heap.size) (x0 := .bool false) (x1 := .slice none 0 0) (x2 := .int .i64 0) (by simp) (noLimb_bool _) (noLimb_slice _ _ _) (noLimb_int _) [(v46.heap.size, (.bool (ngB p)), (.slice X2 m2 d2), (.int .i64 (M : Int))), (g7, (.bool (ngB y1)), (.slice A5 n5 c5), (.int .i64 (S : Int))), (g8, (.bool (ngB i)), (.slice A6 n6 c6), (.int .i64 (S : Int))), ((w.heap.size + 1), .bool false, .slice none 0 0, .int .i64 0), (w.heap.size, (.bool (ngB i)), (.slice A n c), (.int .i64 (s : Int)))] (by simp <;> omega) (.bool (ngB q)) (.slice X58 m58 d58) (.int .i64 (M : Int)))
            refine turn_store rq8R 11 0 [10, 7, 6, 8, 9, 3, 2, 5, 4, 1, 0] 11 (w' := put3 v59 (v2.heap.size) (.bool (ngB q)) (.slice X58 m58 d58) (.int .i64 (M : Int))) rfl ha (fun o ho hg => ⟨(wanted_none hg), e_store ho (ha.ev (i := 10) (v := .pointer (some ⟨v2.heap.size, 0, none⟩)) (by simp)) (ha.ev (i := 63) (v := .agg #[.bool (ngB q), .slice X58 m58 d58, .int .i64 (M : Int)]) (by simp)) (St.at_ (g := v2.heap.size) (x0 := .bool false) (x1 := .slice none 0 0) (x2 := .int .i64 0) E (by simp))⟩) (SBL E2 (by simp)) ?_; intro a ha
            replace E := E2; clear E2
            generalize hW : put3 v59 _ _ _ _ = v60 at E ⊢; clear hW
            have hSw := SBL E (by simp)
            refine line_end0 rq8R (show ∀ i, i < 12 → i ∈ [11, 10, 7, 6, 8, 9, 3, 2, 5, 4, 1, 0] by decide) ?_
            exact ⟨rfl, v46.heap.size, v2.heap.size, X2, m2, d2, X58, m58, d58, ha.sub (by simp), by omega, by omega, Lib.hid ((E.out).sub (by simp) (by simp))⟩
      ·
        have lt61_0 := (St.at_ (x0 := (.bool (ngB y1))) (x1 := (.slice A5 n5 c5)) (x2 := (.int .i64 (S : Int))) (g := g7) E (by simp)).lt
        have lt61_1 := (St.at_ (x0 := (.bool (ngB i))) (x1 := (.slice A6 n6 c6)) (x2 := (.int .i64 (S : Int))) (g := g8) E (by simp)).lt
        have lt61_2 := (St.at_ (x0 := .bool false) (x1 := .slice none 0 0) (x2 := .int .i64 0) (g := (w.heap.size + 1)) E (by simp)).lt
        have lt61_3 := (St.at_ (x0 := (.bool (ngB i))) (x1 := (.slice A n c)) (x2 := (.int .i64 (s : Int))) (g := w.heap.size) E (by simp)).lt
        refine turn_op0 rq8R 5 0 [2, 5, 4, 1, 0] 8 9 (v := .pointer (some ⟨v1.heap.size, 0, none⟩)) (w' := v1.alloc (.cells #[.bool false, .slice none 0 0, .int .i64 0] 25)) rfl (by decide) ha (fun o ho hg => ⟨(wanted_none hg), e_alloc ho⟩) (by simp) (SBL (Lib.hid (St.alloc E.out _)) (by simp)) ?_; intro a ha
        replace E := Lib.hid (St.lay (t := 25) (x0 := .bool false) (x1 := .slice none 0 0) (x2 := .int .i64 0) (g := v1.heap.size) E.out rfl)
        generalize hW : World.alloc v1 _ = v61 at E ⊢; clear hW
        have hSw := SBL E (by simp)
        refine line_all rq8R 6 0 [8, 2, 5, 4, 1, 0] [3, 9] (by decide) (rq8B _ (by decide)) (by simp) ?_
        intro j hj; simp only [List.mem_cons, List.not_mem_nil, or_false] at hj
        rcases hj with rfl | rfl
        ·
          refine turn_call0 rq8R 6 0 [8, 2, 5, 4, 1, 0] 3 59 (args := #[.agg #[.bool (ngB p0), .slice X1 m1 d1, .int .i64 (M : Int)]]) rfl (by decide) ha (fun o ho hg => ⟨(wanted_none hg), e_call (by kernel_rfl) ho rfl (by have q0 := ha.ev (i := 58) (v := .agg #[.bool (ngB p0), .slice X1 m1 d1, .int .i64 (M : Int)]) (by simp); simp only [List.map_toArray, List.map_cons, List.map_nil, ev_const, q0])⟩) (by simp) ?_
          refine (refabs_is5 (i := p0) (s := M) (St.got E (A := X1) (n := m1) (c := d1) (a := (p0).natAbs) (by simp)) (by omega) (by omega) HP.out).mono ?_; rintro e v62 ⟨X62, m62, d62, rfl, h, hb⟩
          have q62 : m62 ≤ 4500 := len_le h LP.out
          replace E := Lib.hid (St.push E.out hb h)
          clear h hb
          have hSw := SBL E (by simp); refine ⟨_, rfl, hSw, ?_⟩; intro a ha
          refine line_all rq8R 7 0 [3, 8, 2, 5, 4, 1, 0] [6, 9] (by decide) (rq8B _ (by decide)) (by simp) ?_
          intro j hj; simp only [List.mem_cons, List.not_mem_nil, or_false] at hj
          rcases hj with rfl | rfl
          ·
            refine turn_call0 rq8R 7 0 [3, 8, 2, 5, 4, 1, 0] 6 62 (args := #[.agg #[(.bool (ngB i)), (.slice A6 n6 c6), (.int .i64 (S : Int))], .agg #[(.bool (ngB i)), (.slice A n c), (.int .i64 (s : Int))]]) rfl (by decide) ha (fun o ho hg => ⟨(wanted_none hg), e_call (by kernel_rfl) ho rfl (by have q0 := ha.ev (i := 60) (v := .agg #[(.bool (ngB i)), (.slice A6 n6 c6), (.int .i64 (S : Int))]) (by simp); have q1 := ha.ev (i := 61) (v := .agg #[(.bool (ngB i)), (.slice A n c), (.int .i64 (s : Int))]) (by simp); simp only [List.map_toArray, List.map_cons, List.map_nil, ev_const, q0, q1])⟩) (by simp) ?_
            refine (refsub_isB (i := y2) (s := S) (j := i) (t := s) HB2.out.symm rfl (St.got E (A := A6) (n := n6) (c := c6) (a := (y2).natAbs) (by simp)) (St.got E (A := A) (n := n) (c := c) (a := (i).natAbs) (by simp)) (by omega) (by omega) (by omega) (by omega) HM2.out HQ0.out).mono ?_; rintro e v63 ⟨X63, m63, d63, rfl, h, hb⟩
            have q63 : m63 ≤ 4500 := len_le h LQ0.out
            replace E := Lib.hid (St.push E.out hb h)
            clear h hb
            have hSw := SBL E (by simp); refine ⟨_, rfl, hSw, ?_⟩; intro a ha
            refine line_all rq8R 8 0 [6, 3, 8, 2, 5, 4, 1, 0] [7, 9] (by decide) (rq8B _ (by decide)) (by simp) ?_
            intro j hj; simp only [List.mem_cons, List.not_mem_nil, or_false] at hj
            rcases hj with rfl | rfl
            ·
              refine turn_call0 rq8R 8 0 [6, 3, 8, 2, 5, 4, 1, 0] 7 63 (args := #[.agg #[.bool (ngB q0), .slice X63 m63 d63, .int .i64 (M : Int)]]) rfl (by decide) ha (fun o ho hg => ⟨(wanted_none hg), e_call (by kernel_rfl) ho rfl (by have q0 := ha.ev (i := 62) (v := .agg #[.bool (ngB q0), .slice X63 m63 d63, .int .i64 (M : Int)]) (by simp); simp only [List.map_toArray, List.map_cons, List.map_nil, ev_const, q0])⟩) (by simp) ?_
              refine (refabs_is5 (i := q0) (s := M) (St.got E (A := X63) (n := m63) (c := d63) (a := (q0).natAbs) (by simp)) (by omega) (by omega) HQ.out).mono ?_; rintro e v64 ⟨X64, m64, d64, rfl, h, hb⟩
              have q64 : m64 ≤ 4500 := len_le h LQ.out
              replace E := Lib.hid (St.push E.out hb h)
              clear h hb
              have hSw := SBL E (by simp); refine ⟨_, rfl, hSw, ?_⟩; intro a ha
              refine line_all rq8R 9 0 [7, 6, 3, 8, 2, 5, 4, 1, 0] [9] (by decide) (rq8B _ (by decide)) (by simp) ?_
              intro j hj; simp only [List.mem_cons, List.not_mem_nil, or_false] at hj
              subst hj
              have lt65_0 := (St.at_ (x0 := .bool false) (x1 := .slice none 0 0) (x2 := .int .i64 0) (g := v1.heap.size) E (by simp)).lt
              have lt65_1 := (St.at_ (x0 := (.bool (ngB y1))) (x1 := (.slice A5 n5 c5)) (x2 := (.int .i64 (S : Int))) (g := g7) E (by simp)).lt
              have lt65_2 := (St.at_ (x0 := (.bool (ngB i))) (x1 := (.slice A6 n6 c6)) (x2 := (.int .i64 (S : Int))) (g := g8) E (by simp)).lt
              have lt65_3 := (St.at_ (x0 := .bool false) (x1 := .slice none 0 0) (x2 := .int .i64 0) (g := (w.heap.size + 1)) E (by simp)).lt
              have lt65_4 := (St.at_ (x0 := (.bool (ngB i))) (x1 := (.slice A n c)) (x2 := (.int .i64 (s : Int))) (g := w.heap.size) E (by simp)).lt
              refine turn_op0 rq8R 9 0 [7, 6, 3, 8, 2, 5, 4, 1, 0] 9 10 (v := .pointer (some ⟨v64.heap.size, 0, none⟩)) (w' := v64.alloc (.cells #[.bool false, .slice none 0 0, .int .i64 0] 25)) rfl (by decide) ha (fun o ho hg => ⟨(wanted_none hg), e_alloc ho⟩) (by simp) (SBL (Lib.hid (St.alloc E.out _)) (by simp)) ?_; intro a ha
              replace E := Lib.hid (St.lay (t := 25) (x0 := .bool false) (x1 := .slice none 0 0) (x2 := .int .i64 0) (g := v64.heap.size) E.out rfl)
              generalize hW : World.alloc v64 _ = v65 at E ⊢; clear hW
              have hSw := SBL E (by simp)
              refine line_all rq8R 10 0 [9, 7, 6, 3, 8, 2, 5, 4, 1, 0] [10] (by decide) (rq8B _ (by decide)) (by simp) ?_
              intro j hj; simp only [List.mem_cons, List.not_mem_nil, or_false] at hj
              subst hj
              have E2 := Lib.hid (St.store E.out (g := v1.heap.size) (x0 := .bool false) (x1 := .slice none 0 0) (x2 := .int .i64 0) (by simp) (noLimb_bool _) (noLimb_slice _ _ _) (noLimb_int _) [(v64.heap.size, .bool false, .slice none 0 0, .int .i64 0), (g7, (.bool (ngB y1)), (.slice A5 n5 c5), (.int .i64 (S : Int))), (g8, (.bool (ngB i)), (.slice A6 n6 c6), (.int .i64 (S : Int))), ((w.heap.size + 1), .bool false, .slice none 0 0, .int .i64 0), (w.heap.size, (.bool (ngB i)), (.slice A n c), (.int .i64 (s : Int)))] (by simp <;> omega) (.bool (ngB p)) (.slice X62 m62 d62) (.int .i64 (M : Int)))
              refine turn_store rq8R 10 0 [9, 7, 6, 3, 8, 2, 5, 4, 1, 0] 10 (w' := put3 v65 (v1.heap.size) (.bool (ngB p)) (.slice X62 m62 d62) (.int .i64 (M : Int))) rfl ha (fun o ho hg => ⟨(wanted_none hg), e_store ho (ha.ev (i := 9) (v := .pointer (some ⟨v1.heap.size, 0, none⟩)) (by simp)) (ha.ev (i := 59) (v := .agg #[.bool (ngB p), .slice X62 m62 d62, .int .i64 (M : Int)]) (by simp)) (St.at_ (g := v1.heap.size) (x0 := .bool false) (x1 := .slice none 0 0) (x2 := .int .i64 0) E (by simp))⟩) (SBL E2 (by simp)) ?_; intro a ha
              replace E := E2; clear E2
              generalize hW : put3 v65 _ _ _ _ = v66 at E ⊢; clear hW
              have hSw := SBL E (by simp)
              refine line_all rq8R 11 0 [10, 9, 7, 6, 3, 8, 2, 5, 4, 1, 0] [11] (by decide) (rq8B _ (by decide)) (by simp) ?_
              intro j hj; simp only [List.mem_cons, List.not_mem_nil, or_false] at hj
              subst hj
              have E2 := Lib.hid (St.store E.out (g := v64.heap.size) (x0 := .bool false) (x1 := .slice none 0 0) (x2 := .int .i64 0) (by simp) (noLimb_bool _) (noLimb_slice _ _ _) (noLimb_int _) [(v1.heap.size, (.bool (ngB p)), (.slice X62 m62 d62), (.int .i64 (M : Int))), (g7, (.bool (ngB y1)), (.slice A5 n5 c5), (.int .i64 (S : Int))), (g8, (.bool (ngB i)), (.slice A6 n6 c6), (.int .i64 (S : Int))), ((w.heap.size + 1), .bool false, .slice none 0 0, .int .i64 0), (w.heap.size, (.bool (ngB i)), (.slice A n c), (.int .i64 (s : Int)))] (by simp <;> omega) (.bool (ngB q)) (.slice X64 m64 d64) (.int .i64 (M : Int)))
              refine turn_store rq8R 11 0 [10, 9, 7, 6, 3, 8, 2, 5, 4, 1, 0] 11 (w' := put3 v66 (v64.heap.size) (.bool (ngB q)) (.slice X64 m64 d64) (.int .i64 (M : Int))) rfl ha (fun o ho hg => ⟨(wanted_none hg), e_store ho (ha.ev (i := 10) (v := .pointer (some ⟨v64.heap.size, 0, none⟩)) (by simp)) (ha.ev (i := 63) (v := .agg #[.bool (ngB q), .slice X64 m64 d64, .int .i64 (M : Int)]) (by simp)) (St.at_ (g := v64.heap.size) (x0 := .bool false) (x1 := .slice none 0 0) (x2 := .int .i64 0) E (by simp))⟩) (SBL E2 (by simp)) ?_; intro a ha
              replace E := E2; clear E2
              generalize hW : put3 v66 _ _ _ _ = v67 at E ⊢; clear hW
              have hSw := SBL E (by simp)
              refine line_end0 rq8R (show ∀ i, i < 12 → i ∈ [11, 10, 9, 7, 6, 3, 8, 2, 5, 4, 1, 0] by decide) ?_
              exact ⟨rfl, v1.heap.size, v64.heap.size, X62, m62, d62, X64, m64, d64, ha.sub (by simp), by omega, by omega, Lib.hid ((E.out).sub (by simp) (by simp))⟩
            ·
              have lt68_0 := (St.at_ (x0 := .bool false) (x1 := .slice none 0 0) (x2 := .int .i64 0) (g := v1.heap.size) E (by simp)).lt
              have lt68_1 := (St.at_ (x0 := (.bool (ngB y1))) (x1 := (.slice A5 n5 c5)) (x2 := (.int .i64 (S : Int))) (g := g7) E (by simp)).lt
              have lt68_2 := (St.at_ (x0 := (.bool (ngB i))) (x1 := (.slice A6 n6 c6)) (x2 := (.int .i64 (S : Int))) (g := g8) E (by simp)).lt
              have lt68_3 := (St.at_ (x0 := .bool false) (x1 := .slice none 0 0) (x2 := .int .i64 0) (g := (w.heap.size + 1)) E (by simp)).lt
              have lt68_4 := (St.at_ (x0 := (.bool (ngB i))) (x1 := (.slice A n c)) (x2 := (.int .i64 (s : Int))) (g := w.heap.size) E (by simp)).lt
              refine turn_op0 rq8R 8 0 [6, 3, 8, 2, 5, 4, 1, 0] 9 10 (v := .pointer (some ⟨v63.heap.size, 0, none⟩)) (w' := v63.alloc (.cells #[.bool false, .slice none 0 0, .int .i64 0] 25)) rfl (by decide) ha (fun o ho hg => ⟨(wanted_none hg), e_alloc ho⟩) (by simp) (SBL (Lib.hid (St.alloc E.out _)) (by simp)) ?_; intro a ha
              replace E := Lib.hid (St.lay (t := 25) (x0 := .bool false) (x1 := .slice none 0 0) (x2 := .int .i64 0) (g := v63.heap.size) E.out rfl)
              generalize hW : World.alloc v63 _ = v68 at E ⊢; clear hW
              have hSw := SBL E (by simp)
              refine line_all rq8R 9 0 [9, 6, 3, 8, 2, 5, 4, 1, 0] [7] (by decide) (rq8B _ (by decide)) (by simp) ?_
              intro j hj; simp only [List.mem_cons, List.not_mem_nil, or_false] at hj
              subst hj
              refine turn_call0 rq8R 9 0 [9, 6, 3, 8, 2, 5, 4, 1, 0] 7 63 (args := #[.agg #[.bool (ngB q0), .slice X63 m63 d63, .int .i64 (M : Int)]]) rfl (by decide) ha (fun o ho hg => ⟨(wanted_none hg), e_call (by kernel_rfl) ho rfl (by have q0 := ha.ev (i := 62) (v := .agg #[.bool (ngB q0), .slice X63 m63 d63, .int .i64 (M : Int)]) (by simp); simp only [List.map_toArray, List.map_cons, List.map_nil, ev_const, q0])⟩) (by simp) ?_
              refine (refabs_is5 (i := q0) (s := M) (St.got E (A := X63) (n := m63) (c := d63) (a := (q0).natAbs) (by simp)) (by omega) (by omega) HQ.out).mono ?_; rintro e v69 ⟨X69, m69, d69, rfl, h, hb⟩
              have q69 : m69 ≤ 4500 := len_le h LQ.out
              replace E := Lib.hid (St.push E.out hb h)
              clear h hb
              have hSw := SBL E (by simp); refine ⟨_, rfl, hSw, ?_⟩; intro a ha
              refine line_all rq8R 10 0 [7, 9, 6, 3, 8, 2, 5, 4, 1, 0] [10] (by decide) (rq8B _ (by decide)) (by simp) ?_
              intro j hj; simp only [List.mem_cons, List.not_mem_nil, or_false] at hj
              subst hj
              have E2 := Lib.hid (St.store E.out (g := v1.heap.size) (x0 := .bool false) (x1 := .slice none 0 0) (x2 := .int .i64 0) (by simp) (noLimb_bool _) (noLimb_slice _ _ _) (noLimb_int _) [(v63.heap.size, .bool false, .slice none 0 0, .int .i64 0), (g7, (.bool (ngB y1)), (.slice A5 n5 c5), (.int .i64 (S : Int))), (g8, (.bool (ngB i)), (.slice A6 n6 c6), (.int .i64 (S : Int))), ((w.heap.size + 1), .bool false, .slice none 0 0, .int .i64 0), (w.heap.size, (.bool (ngB i)), (.slice A n c), (.int .i64 (s : Int)))] (by simp <;> omega) (.bool (ngB p)) (.slice X62 m62 d62) (.int .i64 (M : Int)))
              refine turn_store rq8R 10 0 [7, 9, 6, 3, 8, 2, 5, 4, 1, 0] 10 (w' := put3 v69 (v1.heap.size) (.bool (ngB p)) (.slice X62 m62 d62) (.int .i64 (M : Int))) rfl ha (fun o ho hg => ⟨(wanted_none hg), e_store ho (ha.ev (i := 9) (v := .pointer (some ⟨v1.heap.size, 0, none⟩)) (by simp)) (ha.ev (i := 59) (v := .agg #[.bool (ngB p), .slice X62 m62 d62, .int .i64 (M : Int)]) (by simp)) (St.at_ (g := v1.heap.size) (x0 := .bool false) (x1 := .slice none 0 0) (x2 := .int .i64 0) E (by simp))⟩) (SBL E2 (by simp)) ?_; intro a ha
              replace E := E2; clear E2
              generalize hW : put3 v69 _ _ _ _ = v70 at E ⊢; clear hW
              have hSw := SBL E (by simp)
              refine line_all rq8R 11 0 [10, 7, 9, 6, 3, 8, 2, 5, 4, 1, 0] [11] (by decide) (rq8B _ (by decide)) (by simp) ?_
              intro j hj; simp only [List.mem_cons, List.not_mem_nil, or_false] at hj
              subst hj
              have E2 := Lib.hid (St.store E.out (g := v63.heap.size) (x0 := .bool false) (x1 := .slice none 0 0) (x2 := .int .i64 0) (by simp) (noLimb_bool _) (noLimb_slice _ _ _) (noLimb_int _) [(v1.heap.size, (.bool (ngB p)), (.slice X62 m62 d62), (.int .i64 (M : Int))), (g7, (.bool (ngB y1)), (.slice A5 n5 c5), (.int .i64 (S : Int))), (g8, (.bool (ngB i)), (.slice A6 n6 c6), (.int .i64 (S : Int))), ((w.heap.size + 1), .bool false, .slice none 0 0, .int .i64 0), (w.heap.size, (.bool (ngB i)), (.slice A n c), (.int .i64 (s : Int)))] (by simp <;> omega) (.bool (ngB q)) (.slice X69 m69 d69) (.int .i64 (M : Int)))
              refine turn_store rq8R 11 0 [10, 7, 9, 6, 3, 8, 2, 5, 4, 1, 0] 11 (w' := put3 v70 (v63.heap.size) (.bool (ngB q)) (.slice X69 m69 d69) (.int .i64 (M : Int))) rfl ha (fun o ho hg => ⟨(wanted_none hg), e_store ho (ha.ev (i := 10) (v := .pointer (some ⟨v63.heap.size, 0, none⟩)) (by simp)) (ha.ev (i := 63) (v := .agg #[.bool (ngB q), .slice X69 m69 d69, .int .i64 (M : Int)]) (by simp)) (St.at_ (g := v63.heap.size) (x0 := .bool false) (x1 := .slice none 0 0) (x2 := .int .i64 0) E (by simp))⟩) (SBL E2 (by simp)) ?_; intro a ha
              replace E := E2; clear E2
              generalize hW : put3 v70 _ _ _ _ = v71 at E ⊢; clear hW
              have hSw := SBL E (by simp)
              refine line_end0 rq8R (show ∀ i, i < 12 → i ∈ [11, 10, 7, 9, 6, 3, 8, 2, 5, 4, 1, 0] by decide) ?_
              exact ⟨rfl, v1.heap.size, v63.heap.size, X62, m62, d62, X69, m69, d69, ha.sub (by simp), by omega, by omega, Lib.hid ((E.out).sub (by simp) (by simp))⟩
          ·
            have lt72_0 := (St.at_ (x0 := .bool false) (x1 := .slice none 0 0) (x2 := .int .i64 0) (g := v1.heap.size) E (by simp)).lt
            have lt72_1 := (St.at_ (x0 := (.bool (ngB y1))) (x1 := (.slice A5 n5 c5)) (x2 := (.int .i64 (S : Int))) (g := g7) E (by simp)).lt
            have lt72_2 := (St.at_ (x0 := (.bool (ngB i))) (x1 := (.slice A6 n6 c6)) (x2 := (.int .i64 (S : Int))) (g := g8) E (by simp)).lt
            have lt72_3 := (St.at_ (x0 := .bool false) (x1 := .slice none 0 0) (x2 := .int .i64 0) (g := (w.heap.size + 1)) E (by simp)).lt
            have lt72_4 := (St.at_ (x0 := (.bool (ngB i))) (x1 := (.slice A n c)) (x2 := (.int .i64 (s : Int))) (g := w.heap.size) E (by simp)).lt
            refine turn_op0 rq8R 7 0 [3, 8, 2, 5, 4, 1, 0] 9 10 (v := .pointer (some ⟨v62.heap.size, 0, none⟩)) (w' := v62.alloc (.cells #[.bool false, .slice none 0 0, .int .i64 0] 25)) rfl (by decide) ha (fun o ho hg => ⟨(wanted_none hg), e_alloc ho⟩) (by simp) (SBL (Lib.hid (St.alloc E.out _)) (by simp)) ?_; intro a ha
            replace E := Lib.hid (St.lay (t := 25) (x0 := .bool false) (x1 := .slice none 0 0) (x2 := .int .i64 0) (g := v62.heap.size) E.out rfl)
            generalize hW : World.alloc v62 _ = v72 at E ⊢; clear hW
            have hSw := SBL E (by simp)
            refine line_all rq8R 8 0 [9, 3, 8, 2, 5, 4, 1, 0] [6] (by decide) (rq8B _ (by decide)) (by simp) ?_
            intro j hj; simp only [List.mem_cons, List.not_mem_nil, or_false] at hj
            subst hj
            refine turn_call0 rq8R 8 0 [9, 3, 8, 2, 5, 4, 1, 0] 6 62 (args := #[.agg #[(.bool (ngB i)), (.slice A6 n6 c6), (.int .i64 (S : Int))], .agg #[(.bool (ngB i)), (.slice A n c), (.int .i64 (s : Int))]]) rfl (by decide) ha (fun o ho hg => ⟨(wanted_none hg), e_call (by kernel_rfl) ho rfl (by have q0 := ha.ev (i := 60) (v := .agg #[(.bool (ngB i)), (.slice A6 n6 c6), (.int .i64 (S : Int))]) (by simp); have q1 := ha.ev (i := 61) (v := .agg #[(.bool (ngB i)), (.slice A n c), (.int .i64 (s : Int))]) (by simp); simp only [List.map_toArray, List.map_cons, List.map_nil, ev_const, q0, q1])⟩) (by simp) ?_
            refine (refsub_isB (i := y2) (s := S) (j := i) (t := s) HB2.out.symm rfl (St.got E (A := A6) (n := n6) (c := c6) (a := (y2).natAbs) (by simp)) (St.got E (A := A) (n := n) (c := c) (a := (i).natAbs) (by simp)) (by omega) (by omega) (by omega) (by omega) HM2.out HQ0.out).mono ?_; rintro e v73 ⟨X73, m73, d73, rfl, h, hb⟩
            have q73 : m73 ≤ 4500 := len_le h LQ0.out
            replace E := Lib.hid (St.push E.out hb h)
            clear h hb
            have hSw := SBL E (by simp); refine ⟨_, rfl, hSw, ?_⟩; intro a ha
            refine line_all rq8R 9 0 [6, 9, 3, 8, 2, 5, 4, 1, 0] [7] (by decide) (rq8B _ (by decide)) (by simp) ?_
            intro j hj; simp only [List.mem_cons, List.not_mem_nil, or_false] at hj
            subst hj
            refine turn_call0 rq8R 9 0 [6, 9, 3, 8, 2, 5, 4, 1, 0] 7 63 (args := #[.agg #[.bool (ngB q0), .slice X73 m73 d73, .int .i64 (M : Int)]]) rfl (by decide) ha (fun o ho hg => ⟨(wanted_none hg), e_call (by kernel_rfl) ho rfl (by have q0 := ha.ev (i := 62) (v := .agg #[.bool (ngB q0), .slice X73 m73 d73, .int .i64 (M : Int)]) (by simp); simp only [List.map_toArray, List.map_cons, List.map_nil, ev_const, q0])⟩) (by simp) ?_
            refine (refabs_is5 (i := q0) (s := M) (St.got E (A := X73) (n := m73) (c := d73) (a := (q0).natAbs) (by simp)) (by omega) (by omega) HQ.out).mono ?_; rintro e v74 ⟨X74, m74, d74, rfl, h, hb⟩
            have q74 : m74 ≤ 4500 := len_le h LQ.out
            replace E := Lib.hid (St.push E.out hb h)
            clear h hb
            have hSw := SBL E (by simp); refine ⟨_, rfl, hSw, ?_⟩; intro a ha
            refine line_all rq8R 10 0 [7, 6, 9, 3, 8, 2, 5, 4, 1, 0] [10] (by decide) (rq8B _ (by decide)) (by simp) ?_
            intro j hj; simp only [List.mem_cons, List.not_mem_nil, or_false] at hj
            subst hj
            have E2 := Lib.hid (St.store E.out (g := v1.heap.size) (x0 := .bool false) (x1 := .slice none 0 0) (x2 := .int .i64 0) (by simp) (noLimb_bool _) (noLimb_slice _ _ _) (noLimb_int _) [(v62.heap.size, .bool false, .slice none 0 0, .int .i64 0), (g7, (.bool (ngB y1)), (.slice A5 n5 c5), (.int .i64 (S : Int))), (g8, (.bool (ngB i)), (.slice A6 n6 c6), (.int .i64 (S : Int))), ((w.heap.size + 1), .bool false, .slice none 0 0, .int .i64 0), (w.heap.size, (.bool (ngB i)), (.slice A n c), (.int .i64 (s : Int)))] (by simp <;> omega) (.bool (ngB p)) (.slice X62 m62 d62) (.int .i64 (M : Int)))
            refine turn_store rq8R 10 0 [7, 6, 9, 3, 8, 2, 5, 4, 1, 0] 10 (w' := put3 v74 (v1.heap.size) (.bool (ngB p)) (.slice X62 m62 d62) (.int .i64 (M : Int))) rfl ha (fun o ho hg => ⟨(wanted_none hg), e_store ho (ha.ev (i := 9) (v := .pointer (some ⟨v1.heap.size, 0, none⟩)) (by simp)) (ha.ev (i := 59) (v := .agg #[.bool (ngB p), .slice X62 m62 d62, .int .i64 (M : Int)]) (by simp)) (St.at_ (g := v1.heap.size) (x0 := .bool false) (x1 := .slice none 0 0) (x2 := .int .i64 0) E (by simp))⟩) (SBL E2 (by simp)) ?_; intro a ha
            replace E := E2; clear E2
            generalize hW : put3 v74 _ _ _ _ = v75 at E ⊢; clear hW
            have hSw := SBL E (by simp)
            refine line_all rq8R 11 0 [10, 7, 6, 9, 3, 8, 2, 5, 4, 1, 0] [11] (by decide) (rq8B _ (by decide)) (by simp) ?_
            intro j hj; simp only [List.mem_cons, List.not_mem_nil, or_false] at hj
            subst hj
            have E2 := Lib.hid (St.store E.out (g := v62.heap.size) (x0 := .bool false) (x1 := .slice none 0 0) (x2 := .int .i64 0) (by simp) (noLimb_bool _) (noLimb_slice _ _ _) (noLimb_int _) [(v1.heap.size, (.bool (ngB p)), (.slice X62 m62 d62), (.int .i64 (M : Int))), (g7, (.bool (ngB y1)), (.slice A5 n5 c5), (.int .i64 (S : Int))), (g8, (.bool (ngB i)), (.slice A6 n6 c6), (.int .i64 (S : Int))), ((w.heap.size + 1), .bool false, .slice none 0 0, .int .i64 0), (w.heap.size, (.bool (ngB i)), (.slice A n c), (.int .i64 (s : Int)))] (by simp <;> omega) (.bool (ngB q)) (.slice X74 m74 d74) (.int .i64 (M : Int)))
            refine turn_store rq8R 11 0 [10, 7, 6, 9, 3, 8, 2, 5, 4, 1, 0] 11 (w' := put3 v75 (v62.heap.size) (.bool (ngB q)) (.slice X74 m74 d74) (.int .i64 (M : Int))) rfl ha (fun o ho hg => ⟨(wanted_none hg), e_store ho (ha.ev (i := 10) (v := .pointer (some ⟨v62.heap.size, 0, none⟩)) (by simp)) (ha.ev (i := 63) (v := .agg #[.bool (ngB q), .slice X74 m74 d74, .int .i64 (M : Int)]) (by simp)) (St.at_ (g := v62.heap.size) (x0 := .bool false) (x1 := .slice none 0 0) (x2 := .int .i64 0) E (by simp))⟩) (SBL E2 (by simp)) ?_; intro a ha
            replace E := E2; clear E2
            generalize hW : put3 v75 _ _ _ _ = v76 at E ⊢; clear hW
            have hSw := SBL E (by simp)
            refine line_end0 rq8R (show ∀ i, i < 12 → i ∈ [11, 10, 7, 6, 9, 3, 8, 2, 5, 4, 1, 0] by decide) ?_
            exact ⟨rfl, v1.heap.size, v62.heap.size, X62, m62, d62, X74, m74, d74, ha.sub (by simp), by omega, by omega, Lib.hid ((E.out).sub (by simp) (by simp))⟩
        ·
          have lt77_0 := (St.at_ (x0 := .bool false) (x1 := .slice none 0 0) (x2 := .int .i64 0) (g := v1.heap.size) E (by simp)).lt
          have lt77_1 := (St.at_ (x0 := (.bool (ngB y1))) (x1 := (.slice A5 n5 c5)) (x2 := (.int .i64 (S : Int))) (g := g7) E (by simp)).lt
          have lt77_2 := (St.at_ (x0 := (.bool (ngB i))) (x1 := (.slice A6 n6 c6)) (x2 := (.int .i64 (S : Int))) (g := g8) E (by simp)).lt
          have lt77_3 := (St.at_ (x0 := .bool false) (x1 := .slice none 0 0) (x2 := .int .i64 0) (g := (w.heap.size + 1)) E (by simp)).lt
          have lt77_4 := (St.at_ (x0 := (.bool (ngB i))) (x1 := (.slice A n c)) (x2 := (.int .i64 (s : Int))) (g := w.heap.size) E (by simp)).lt
          refine turn_op0 rq8R 6 0 [8, 2, 5, 4, 1, 0] 9 10 (v := .pointer (some ⟨v61.heap.size, 0, none⟩)) (w' := v61.alloc (.cells #[.bool false, .slice none 0 0, .int .i64 0] 25)) rfl (by decide) ha (fun o ho hg => ⟨(wanted_none hg), e_alloc ho⟩) (by simp) (SBL (Lib.hid (St.alloc E.out _)) (by simp)) ?_; intro a ha
          replace E := Lib.hid (St.lay (t := 25) (x0 := .bool false) (x1 := .slice none 0 0) (x2 := .int .i64 0) (g := v61.heap.size) E.out rfl)
          generalize hW : World.alloc v61 _ = v77 at E ⊢; clear hW
          have hSw := SBL E (by simp)
          refine line_all rq8R 7 0 [9, 8, 2, 5, 4, 1, 0] [3] (by decide) (rq8B _ (by decide)) (by simp) ?_
          intro j hj; simp only [List.mem_cons, List.not_mem_nil, or_false] at hj
          subst hj
          refine turn_call0 rq8R 7 0 [9, 8, 2, 5, 4, 1, 0] 3 59 (args := #[.agg #[.bool (ngB p0), .slice X1 m1 d1, .int .i64 (M : Int)]]) rfl (by decide) ha (fun o ho hg => ⟨(wanted_none hg), e_call (by kernel_rfl) ho rfl (by have q0 := ha.ev (i := 58) (v := .agg #[.bool (ngB p0), .slice X1 m1 d1, .int .i64 (M : Int)]) (by simp); simp only [List.map_toArray, List.map_cons, List.map_nil, ev_const, q0])⟩) (by simp) ?_
          refine (refabs_is5 (i := p0) (s := M) (St.got E (A := X1) (n := m1) (c := d1) (a := (p0).natAbs) (by simp)) (by omega) (by omega) HP.out).mono ?_; rintro e v78 ⟨X78, m78, d78, rfl, h, hb⟩
          have q78 : m78 ≤ 4500 := len_le h LP.out
          replace E := Lib.hid (St.push E.out hb h)
          clear h hb
          have hSw := SBL E (by simp); refine ⟨_, rfl, hSw, ?_⟩; intro a ha
          refine line_all rq8R 8 0 [3, 9, 8, 2, 5, 4, 1, 0] [6] (by decide) (rq8B _ (by decide)) (by simp) ?_
          intro j hj; simp only [List.mem_cons, List.not_mem_nil, or_false] at hj
          subst hj
          refine turn_call0 rq8R 8 0 [3, 9, 8, 2, 5, 4, 1, 0] 6 62 (args := #[.agg #[(.bool (ngB i)), (.slice A6 n6 c6), (.int .i64 (S : Int))], .agg #[(.bool (ngB i)), (.slice A n c), (.int .i64 (s : Int))]]) rfl (by decide) ha (fun o ho hg => ⟨(wanted_none hg), e_call (by kernel_rfl) ho rfl (by have q0 := ha.ev (i := 60) (v := .agg #[(.bool (ngB i)), (.slice A6 n6 c6), (.int .i64 (S : Int))]) (by simp); have q1 := ha.ev (i := 61) (v := .agg #[(.bool (ngB i)), (.slice A n c), (.int .i64 (s : Int))]) (by simp); simp only [List.map_toArray, List.map_cons, List.map_nil, ev_const, q0, q1])⟩) (by simp) ?_
          refine (refsub_isB (i := y2) (s := S) (j := i) (t := s) HB2.out.symm rfl (St.got E (A := A6) (n := n6) (c := c6) (a := (y2).natAbs) (by simp)) (St.got E (A := A) (n := n) (c := c) (a := (i).natAbs) (by simp)) (by omega) (by omega) (by omega) (by omega) HM2.out HQ0.out).mono ?_; rintro e v79 ⟨X79, m79, d79, rfl, h, hb⟩
          have q79 : m79 ≤ 4500 := len_le h LQ0.out
          replace E := Lib.hid (St.push E.out hb h)
          clear h hb
          have hSw := SBL E (by simp); refine ⟨_, rfl, hSw, ?_⟩; intro a ha
          refine line_all rq8R 9 0 [6, 3, 9, 8, 2, 5, 4, 1, 0] [7] (by decide) (rq8B _ (by decide)) (by simp) ?_
          intro j hj; simp only [List.mem_cons, List.not_mem_nil, or_false] at hj
          subst hj
          refine turn_call0 rq8R 9 0 [6, 3, 9, 8, 2, 5, 4, 1, 0] 7 63 (args := #[.agg #[.bool (ngB q0), .slice X79 m79 d79, .int .i64 (M : Int)]]) rfl (by decide) ha (fun o ho hg => ⟨(wanted_none hg), e_call (by kernel_rfl) ho rfl (by have q0 := ha.ev (i := 62) (v := .agg #[.bool (ngB q0), .slice X79 m79 d79, .int .i64 (M : Int)]) (by simp); simp only [List.map_toArray, List.map_cons, List.map_nil, ev_const, q0])⟩) (by simp) ?_
          refine (refabs_is5 (i := q0) (s := M) (St.got E (A := X79) (n := m79) (c := d79) (a := (q0).natAbs) (by simp)) (by omega) (by omega) HQ.out).mono ?_; rintro e v80 ⟨X80, m80, d80, rfl, h, hb⟩
          have q80 : m80 ≤ 4500 := len_le h LQ.out
          replace E := Lib.hid (St.push E.out hb h)
          clear h hb
          have hSw := SBL E (by simp); refine ⟨_, rfl, hSw, ?_⟩; intro a ha
          refine line_all rq8R 10 0 [7, 6, 3, 9, 8, 2, 5, 4, 1, 0] [10] (by decide) (rq8B _ (by decide)) (by simp) ?_
          intro j hj; simp only [List.mem_cons, List.not_mem_nil, or_false] at hj
          subst hj
          have E2 := Lib.hid (St.store E.out (g := v1.heap.size) (x0 := .bool false) (x1 := .slice none 0 0) (x2 := .int .i64 0) (by simp) (noLimb_bool _) (noLimb_slice _ _ _) (noLimb_int _) [(v61.heap.size, .bool false, .slice none 0 0, .int .i64 0), (g7, (.bool (ngB y1)), (.slice A5 n5 c5), (.int .i64 (S : Int))), (g8, (.bool (ngB i)), (.slice A6 n6 c6), (.int .i64 (S : Int))), ((w.heap.size + 1), .bool false, .slice none 0 0, .int .i64 0), (w.heap.size, (.bool (ngB i)), (.slice A n c), (.int .i64 (s : Int)))] (by simp <;> omega) (.bool (ngB p)) (.slice X78 m78 d78) (.int .i64 (M : Int)))
          refine turn_store rq8R 10 0 [7, 6, 3, 9, 8, 2, 5, 4, 1, 0] 10 (w' := put3 v80 (v1.heap.size) (.bool (ngB p)) (.slice X78 m78 d78) (.int .i64 (M : Int))) rfl ha (fun o ho hg => ⟨(wanted_none hg), e_store ho (ha.ev (i := 9) (v := .pointer (some ⟨v1.heap.size, 0, none⟩)) (by simp)) (ha.ev (i := 59) (v := .agg #[.bool (ngB p), .slice X78 m78 d78, .int .i64 (M : Int)]) (by simp)) (St.at_ (g := v1.heap.size) (x0 := .bool false) (x1 := .slice none 0 0) (x2 := .int .i64 0) E (by simp))⟩) (SBL E2 (by simp)) ?_; intro a ha
          replace E := E2; clear E2
          generalize hW : put3 v80 _ _ _ _ = v81 at E ⊢; clear hW
          have hSw := SBL E (by simp)
          refine line_all rq8R 11 0 [10, 7, 6, 3, 9, 8, 2, 5, 4, 1, 0] [11] (by decide) (rq8B _ (by decide)) (by simp) ?_
          intro j hj; simp only [List.mem_cons, List.not_mem_nil, or_false] at hj
          subst hj
          have E2 := Lib.hid (St.store E.out (g := v61.heap.size) (x0 := .bool false) (x1 := .slice none 0 0) (x2 := .int .i64 0) (by simp) (noLimb_bool _) (noLimb_slice _ _ _) (noLimb_int _) [(v1.heap.size, (.bool (ngB p)), (.slice X78 m78 d78), (.int .i64 (M : Int))), (g7, (.bool (ngB y1)), (.slice A5 n5 c5), (.int .i64 (S : Int))), (g8, (.bool (ngB i)), (.slice A6 n6 c6), (.int .i64 (S : Int))), ((w.heap.size + 1), .bool false, .slice none 0 0, .int .i64 0), (w.heap.size, (.bool (ngB i)), (.slice A n c), (.int .i64 (s : Int)))] (by simp <;> omega) (.bool (ngB q)) (.slice X80 m80 d80) (.int .i64 (M : Int)))
          refine turn_store rq8R 11 0 [10, 7, 6, 3, 9, 8, 2, 5, 4, 1, 0] 11 (w' := put3 v81 (v61.heap.size) (.bool (ngB q)) (.slice X80 m80 d80) (.int .i64 (M : Int))) rfl ha (fun o ho hg => ⟨(wanted_none hg), e_store ho (ha.ev (i := 10) (v := .pointer (some ⟨v61.heap.size, 0, none⟩)) (by simp)) (ha.ev (i := 63) (v := .agg #[.bool (ngB q), .slice X80 m80 d80, .int .i64 (M : Int)]) (by simp)) (St.at_ (g := v61.heap.size) (x0 := .bool false) (x1 := .slice none 0 0) (x2 := .int .i64 0) E (by simp))⟩) (SBL E2 (by simp)) ?_; intro a ha
          replace E := E2; clear E2
          generalize hW : put3 v81 _ _ _ _ = v82 at E ⊢; clear hW
          have hSw := SBL E (by simp)
          refine line_end0 rq8R (show ∀ i, i < 12 → i ∈ [11, 10, 7, 6, 3, 9, 8, 2, 5, 4, 1, 0] by decide) ?_
          exact ⟨rfl, v1.heap.size, v61.heap.size, X78, m78, d78, X80, m80, d80, ha.sub (by simp), by omega, by omega, Lib.hid ((E.out).sub (by simp) (by simp))⟩
      ·
        have lt83_0 := (St.at_ (x0 := (.bool (ngB y1))) (x1 := (.slice A5 n5 c5)) (x2 := (.int .i64 (S : Int))) (g := g7) E (by simp)).lt
        have lt83_1 := (St.at_ (x0 := (.bool (ngB i))) (x1 := (.slice A6 n6 c6)) (x2 := (.int .i64 (S : Int))) (g := g8) E (by simp)).lt
        have lt83_2 := (St.at_ (x0 := .bool false) (x1 := .slice none 0 0) (x2 := .int .i64 0) (g := (w.heap.size + 1)) E (by simp)).lt
        have lt83_3 := (St.at_ (x0 := (.bool (ngB i))) (x1 := (.slice A n c)) (x2 := (.int .i64 (s : Int))) (g := w.heap.size) E (by simp)).lt
        refine turn_op0 rq8R 5 0 [2, 5, 4, 1, 0] 9 10 (v := .pointer (some ⟨v1.heap.size, 0, none⟩)) (w' := v1.alloc (.cells #[.bool false, .slice none 0 0, .int .i64 0] 25)) rfl (by decide) ha (fun o ho hg => ⟨(wanted_none hg), e_alloc ho⟩) (by simp) (SBL (Lib.hid (St.alloc E.out _)) (by simp)) ?_; intro a ha
        replace E := Lib.hid (St.lay (t := 25) (x0 := .bool false) (x1 := .slice none 0 0) (x2 := .int .i64 0) (g := v1.heap.size) E.out rfl)
        generalize hW : World.alloc v1 _ = v83 at E ⊢; clear hW
        have hSw := SBL E (by simp)
        refine line_all rq8R 6 0 [9, 2, 5, 4, 1, 0] [3, 8] (by decide) (rq8B _ (by decide)) (by simp) ?_
        intro j hj; simp only [List.mem_cons, List.not_mem_nil, or_false] at hj
        rcases hj with rfl | rfl
        ·
          refine turn_call0 rq8R 6 0 [9, 2, 5, 4, 1, 0] 3 59 (args := #[.agg #[.bool (ngB p0), .slice X1 m1 d1, .int .i64 (M : Int)]]) rfl (by decide) ha (fun o ho hg => ⟨(wanted_none hg), e_call (by kernel_rfl) ho rfl (by have q0 := ha.ev (i := 58) (v := .agg #[.bool (ngB p0), .slice X1 m1 d1, .int .i64 (M : Int)]) (by simp); simp only [List.map_toArray, List.map_cons, List.map_nil, ev_const, q0])⟩) (by simp) ?_
          refine (refabs_is5 (i := p0) (s := M) (St.got E (A := X1) (n := m1) (c := d1) (a := (p0).natAbs) (by simp)) (by omega) (by omega) HP.out).mono ?_; rintro e v84 ⟨X84, m84, d84, rfl, h, hb⟩
          have q84 : m84 ≤ 4500 := len_le h LP.out
          replace E := Lib.hid (St.push E.out hb h)
          clear h hb
          have hSw := SBL E (by simp); refine ⟨_, rfl, hSw, ?_⟩; intro a ha
          refine line_all rq8R 7 0 [3, 9, 2, 5, 4, 1, 0] [6, 8] (by decide) (rq8B _ (by decide)) (by simp) ?_
          intro j hj; simp only [List.mem_cons, List.not_mem_nil, or_false] at hj
          rcases hj with rfl | rfl
          ·
            refine turn_call0 rq8R 7 0 [3, 9, 2, 5, 4, 1, 0] 6 62 (args := #[.agg #[(.bool (ngB i)), (.slice A6 n6 c6), (.int .i64 (S : Int))], .agg #[(.bool (ngB i)), (.slice A n c), (.int .i64 (s : Int))]]) rfl (by decide) ha (fun o ho hg => ⟨(wanted_none hg), e_call (by kernel_rfl) ho rfl (by have q0 := ha.ev (i := 60) (v := .agg #[(.bool (ngB i)), (.slice A6 n6 c6), (.int .i64 (S : Int))]) (by simp); have q1 := ha.ev (i := 61) (v := .agg #[(.bool (ngB i)), (.slice A n c), (.int .i64 (s : Int))]) (by simp); simp only [List.map_toArray, List.map_cons, List.map_nil, ev_const, q0, q1])⟩) (by simp) ?_
            refine (refsub_isB (i := y2) (s := S) (j := i) (t := s) HB2.out.symm rfl (St.got E (A := A6) (n := n6) (c := c6) (a := (y2).natAbs) (by simp)) (St.got E (A := A) (n := n) (c := c) (a := (i).natAbs) (by simp)) (by omega) (by omega) (by omega) (by omega) HM2.out HQ0.out).mono ?_; rintro e v85 ⟨X85, m85, d85, rfl, h, hb⟩
            have q85 : m85 ≤ 4500 := len_le h LQ0.out
            replace E := Lib.hid (St.push E.out hb h)
            clear h hb
            have hSw := SBL E (by simp); refine ⟨_, rfl, hSw, ?_⟩; intro a ha
            refine line_all rq8R 8 0 [6, 3, 9, 2, 5, 4, 1, 0] [7, 8] (by decide) (rq8B _ (by decide)) (by simp) ?_
            intro j hj; simp only [List.mem_cons, List.not_mem_nil, or_false] at hj
            rcases hj with rfl | rfl
            ·
              refine turn_call0 rq8R 8 0 [6, 3, 9, 2, 5, 4, 1, 0] 7 63 (args := #[.agg #[.bool (ngB q0), .slice X85 m85 d85, .int .i64 (M : Int)]]) rfl (by decide) ha (fun o ho hg => ⟨(wanted_none hg), e_call (by kernel_rfl) ho rfl (by have q0 := ha.ev (i := 62) (v := .agg #[.bool (ngB q0), .slice X85 m85 d85, .int .i64 (M : Int)]) (by simp); simp only [List.map_toArray, List.map_cons, List.map_nil, ev_const, q0])⟩) (by simp) ?_
              refine (refabs_is5 (i := q0) (s := M) (St.got E (A := X85) (n := m85) (c := d85) (a := (q0).natAbs) (by simp)) (by omega) (by omega) HQ.out).mono ?_; rintro e v86 ⟨X86, m86, d86, rfl, h, hb⟩
              have q86 : m86 ≤ 4500 := len_le h LQ.out
              replace E := Lib.hid (St.push E.out hb h)
              clear h hb
              have hSw := SBL E (by simp); refine ⟨_, rfl, hSw, ?_⟩; intro a ha
              refine line_all rq8R 9 0 [7, 6, 3, 9, 2, 5, 4, 1, 0] [8] (by decide) (rq8B _ (by decide)) (by simp) ?_
              intro j hj; simp only [List.mem_cons, List.not_mem_nil, or_false] at hj
              subst hj
              have lt87_0 := (St.at_ (x0 := .bool false) (x1 := .slice none 0 0) (x2 := .int .i64 0) (g := v1.heap.size) E (by simp)).lt
              have lt87_1 := (St.at_ (x0 := (.bool (ngB y1))) (x1 := (.slice A5 n5 c5)) (x2 := (.int .i64 (S : Int))) (g := g7) E (by simp)).lt
              have lt87_2 := (St.at_ (x0 := (.bool (ngB i))) (x1 := (.slice A6 n6 c6)) (x2 := (.int .i64 (S : Int))) (g := g8) E (by simp)).lt
              have lt87_3 := (St.at_ (x0 := .bool false) (x1 := .slice none 0 0) (x2 := .int .i64 0) (g := (w.heap.size + 1)) E (by simp)).lt
              have lt87_4 := (St.at_ (x0 := (.bool (ngB i))) (x1 := (.slice A n c)) (x2 := (.int .i64 (s : Int))) (g := w.heap.size) E (by simp)).lt
              refine turn_op0 rq8R 9 0 [7, 6, 3, 9, 2, 5, 4, 1, 0] 8 9 (v := .pointer (some ⟨v86.heap.size, 0, none⟩)) (w' := v86.alloc (.cells #[.bool false, .slice none 0 0, .int .i64 0] 25)) rfl (by decide) ha (fun o ho hg => ⟨(wanted_none hg), e_alloc ho⟩) (by simp) (SBL (Lib.hid (St.alloc E.out _)) (by simp)) ?_; intro a ha
              replace E := Lib.hid (St.lay (t := 25) (x0 := .bool false) (x1 := .slice none 0 0) (x2 := .int .i64 0) (g := v86.heap.size) E.out rfl)
              generalize hW : World.alloc v86 _ = v87 at E ⊢; clear hW
              have hSw := SBL E (by simp)
              refine line_all rq8R 10 0 [8, 7, 6, 3, 9, 2, 5, 4, 1, 0] [10] (by decide) (rq8B _ (by decide)) (by simp) ?_
              intro j hj; simp only [List.mem_cons, List.not_mem_nil, or_false] at hj
              subst hj
              have E2 := Lib.hid (St.store E.out (g := v86.heap.size) (x0 := .bool false) (x1 := .slice none 0 0) (x2 := .int .i64 0) (by simp) (noLimb_bool _) (noLimb_slice _ _ _) (noLimb_int _) [(v1.heap.size, .bool false, .slice none 0 0, .int .i64 0), (g7, (.bool (ngB y1)), (.slice A5 n5 c5), (.int .i64 (S : Int))), (g8, (.bool (ngB i)), (.slice A6 n6 c6), (.int .i64 (S : Int))), ((w.heap.size + 1), .bool false, .slice none 0 0, .int .i64 0), (w.heap.size, (.bool (ngB i)), (.slice A n c), (.int .i64 (s : Int)))] (by simp <;> omega) (.bool (ngB p)) (.slice X84 m84 d84) (.int .i64 (M : Int)))
              refine turn_store rq8R 10 0 [8, 7, 6, 3, 9, 2, 5, 4, 1, 0] 10 (w' := put3 v87 (v86.heap.size) (.bool (ngB p)) (.slice X84 m84 d84) (.int .i64 (M : Int))) rfl ha (fun o ho hg => ⟨(wanted_none hg), e_store ho (ha.ev (i := 9) (v := .pointer (some ⟨v86.heap.size, 0, none⟩)) (by simp)) (ha.ev (i := 59) (v := .agg #[.bool (ngB p), .slice X84 m84 d84, .int .i64 (M : Int)]) (by simp)) (St.at_ (g := v86.heap.size) (x0 := .bool false) (x1 := .slice none 0 0) (x2 := .int .i64 0) E (by simp))⟩) (SBL E2 (by simp)) ?_; intro a ha
              replace E := E2; clear E2
              generalize hW : put3 v87 _ _ _ _ = v88 at E ⊢; clear hW
              have hSw := SBL E (by simp)
              refine line_all rq8R 11 0 [10, 8, 7, 6, 3, 9, 2, 5, 4, 1, 0] [11] (by decide) (rq8B _ (by decide)) (by simp) ?_
              intro j hj; simp only [List.mem_cons, List.not_mem_nil, or_false] at hj
              subst hj
              have E2 := Lib.hid (St.store E.out (g := v1.heap.size) (x0 := .bool false) (x1 := .slice none 0 0) (x2 := .int .i64 0) (by simp) (noLimb_bool _) (noLimb_slice _ _ _) (noLimb_int _) [(v86.heap.size, (.bool (ngB p)), (.slice X84 m84 d84), (.int .i64 (M : Int))), (g7, (.bool (ngB y1)), (.slice A5 n5 c5), (.int .i64 (S : Int))), (g8, (.bool (ngB i)), (.slice A6 n6 c6), (.int .i64 (S : Int))), ((w.heap.size + 1), .bool false, .slice none 0 0, .int .i64 0), (w.heap.size, (.bool (ngB i)), (.slice A n c), (.int .i64 (s : Int)))] (by simp <;> omega) (.bool (ngB q)) (.slice X86 m86 d86) (.int .i64 (M : Int)))
              refine turn_store rq8R 11 0 [10, 8, 7, 6, 3, 9, 2, 5, 4, 1, 0] 11 (w' := put3 v88 (v1.heap.size) (.bool (ngB q)) (.slice X86 m86 d86) (.int .i64 (M : Int))) rfl ha (fun o ho hg => ⟨(wanted_none hg), e_store ho (ha.ev (i := 10) (v := .pointer (some ⟨v1.heap.size, 0, none⟩)) (by simp)) (ha.ev (i := 63) (v := .agg #[.bool (ngB q), .slice X86 m86 d86, .int .i64 (M : Int)]) (by simp)) (St.at_ (g := v1.heap.size) (x0 := .bool false) (x1 := .slice none 0 0) (x2 := .int .i64 0) E (by simp))⟩) (SBL E2 (by simp)) ?_; intro a ha
              replace E := E2; clear E2
              generalize hW : put3 v88 _ _ _ _ = v89 at E ⊢; clear hW
              have hSw := SBL E (by simp)
              refine line_end0 rq8R (show ∀ i, i < 12 → i ∈ [11, 10, 8, 7, 6, 3, 9, 2, 5, 4, 1, 0] by decide) ?_
              exact ⟨rfl, v86.heap.size, v1.heap.size, X84, m84, d84, X86, m86, d86, ha.sub (by simp), by omega, by omega, Lib.hid ((E.out).sub (by simp) (by simp))⟩
            ·
              have lt90_0 := (St.at_ (x0 := .bool false) (x1 := .slice none 0 0) (x2 := .int .i64 0) (g := v1.heap.size) E (by simp)).lt
              have lt90_1 := (St.at_ (x0 := (.bool (ngB y1))) (x1 := (.slice A5 n5 c5)) (x2 := (.int .i64 (S : Int))) (g := g7) E (by simp)).lt
              have lt90_2 := (St.at_ (x0 := (.bool (ngB i))) (x1 := (.slice A6 n6 c6)) (x2 := (.int .i64 (S : Int))) (g := g8) E (by simp)).lt
              have lt90_3 := (St.at_ (x0 := .bool false) (x1 := .slice none 0 0) (x2 := .int .i64 0) (g := (w.heap.size + 1)) E (by simp)).lt
              have lt90_4 := (St.at_ (x0 := (.bool (ngB i))) (x1 := (.slice A n c)) (x2 := (.int .i64 (s : Int))) (g := w.heap.size) E (by simp)).lt
              refine turn_op0 rq8R 8 0 [6, 3, 9, 2, 5, 4, 1, 0] 8 9 (v := .pointer (some ⟨v85.heap.size, 0, none⟩)) (w' := v85.alloc (.cells #[.bool false, .slice none 0 0, .int .i64 0] 25)) rfl (by decide) ha (fun o ho hg => ⟨(wanted_none hg), e_alloc ho⟩) (by simp) (SBL (Lib.hid (St.alloc E.out _)) (by simp)) ?_; intro a ha
              replace E := Lib.hid (St.lay (t := 25) (x0 := .bool false) (x1 := .slice none 0 0) (x2 := .int .i64 0) (g := v85.heap.size) E.out rfl)
              generalize hW : World.alloc v85 _ = v90 at E ⊢; clear hW
              have hSw := SBL E (by simp)
              refine line_all rq8R 9 0 [8, 6, 3, 9, 2, 5, 4, 1, 0] [7] (by decide) (rq8B _ (by decide)) (by simp) ?_
              intro j hj; simp only [List.mem_cons, List.not_mem_nil, or_false] at hj
              subst hj
              refine turn_call0 rq8R 9 0 [8, 6, 3, 9, 2, 5, 4, 1, 0] 7 63 (args := #[.agg #[.bool (ngB q0), .slice X85 m85 d85, .int .i64 (M : Int)]]) rfl (by decide) ha (fun o ho hg => ⟨(wanted_none hg), e_call (by kernel_rfl) ho rfl (by have q0 := ha.ev (i := 62) (v := .agg #[.bool (ngB q0), .slice X85 m85 d85, .int .i64 (M : Int)]) (by simp); simp only [List.map_toArray, List.map_cons, List.map_nil, ev_const, q0])⟩) (by simp) ?_
              refine (refabs_is5 (i := q0) (s := M) (St.got E (A := X85) (n := m85) (c := d85) (a := (q0).natAbs) (by simp)) (by omega) (by omega) HQ.out).mono ?_; rintro e v91 ⟨X91, m91, d91, rfl, h, hb⟩
              have q91 : m91 ≤ 4500 := len_le h LQ.out
              replace E := Lib.hid (St.push E.out hb h)
              clear h hb
              have hSw := SBL E (by simp); refine ⟨_, rfl, hSw, ?_⟩; intro a ha
              refine line_all rq8R 10 0 [7, 8, 6, 3, 9, 2, 5, 4, 1, 0] [10] (by decide) (rq8B _ (by decide)) (by simp) ?_
              intro j hj; simp only [List.mem_cons, List.not_mem_nil, or_false] at hj
              subst hj
              have E2 := Lib.hid (St.store E.out (g := v85.heap.size) (x0 := .bool false) (x1 := .slice none 0 0) (x2 := .int .i64 0) (by simp) (noLimb_bool _) (noLimb_slice _ _ _) (noLimb_int _) [(v1.heap.size, .bool false, .slice none 0 0, .int .i64 0), (g7, (.bool (ngB y1)), (.slice A5 n5 c5), (.int .i64 (S : Int))), (g8, (.bool (ngB i)), (.slice A6 n6 c6), (.int .i64 (S : Int))), ((w.heap.size + 1), .bool false, .slice none 0 0, .int .i64 0), (w.heap.size, (.bool (ngB i)), (.slice A n c), (.int .i64 (s : Int)))] (by simp <;> omega) (.bool (ngB p)) (.slice X84 m84 d84) (.int .i64 (M : Int)))
              refine turn_store rq8R 10 0 [7, 8, 6, 3, 9, 2, 5, 4, 1, 0] 10 (w' := put3 v91 (v85.heap.size) (.bool (ngB p)) (.slice X84 m84 d84) (.int .i64 (M : Int))) rfl ha (fun o ho hg => ⟨(wanted_none hg), e_store ho (ha.ev (i := 9) (v := .pointer (some ⟨v85.heap.size, 0, none⟩)) (by simp)) (ha.ev (i := 59) (v := .agg #[.bool (ngB p), .slice X84 m84 d84, .int .i64 (M : Int)]) (by simp)) (St.at_ (g := v85.heap.size) (x0 := .bool false) (x1 := .slice none 0 0) (x2 := .int .i64 0) E (by simp))⟩) (SBL E2 (by simp)) ?_; intro a ha
              replace E := E2; clear E2
              generalize hW : put3 v91 _ _ _ _ = v92 at E ⊢; clear hW
              have hSw := SBL E (by simp)
              refine line_all rq8R 11 0 [10, 7, 8, 6, 3, 9, 2, 5, 4, 1, 0] [11] (by decide) (rq8B _ (by decide)) (by simp) ?_
              intro j hj; simp only [List.mem_cons, List.not_mem_nil, or_false] at hj
              subst hj
              have E2 := Lib.hid (St.store E.out (g := v1.heap.size) (x0 := .bool false) (x1 := .slice none 0 0) (x2 := .int .i64 0) (by simp) (noLimb_bool _) (noLimb_slice _ _ _) (noLimb_int _) [(v85.heap.size, (.bool (ngB p)), (.slice X84 m84 d84), (.int .i64 (M : Int))), (g7, (.bool (ngB y1)), (.slice A5 n5 c5), (.int .i64 (S : Int))), (g8, (.bool (ngB i)), (.slice A6 n6 c6), (.int .i64 (S : Int))), ((w.heap.size + 1), .bool false, .slice none 0 0, .int .i64 0), (w.heap.size, (.bool (ngB i)), (.slice A n c), (.int .i64 (s : Int)))] (by simp <;> omega) (.bool (ngB q)) (.slice X91 m91 d91) (.int .i64 (M : Int)))
              refine turn_store rq8R 11 0 [10, 7, 8, 6, 3, 9, 2, 5, 4, 1, 0] 11 (w' := put3 v92 (v1.heap.size) (.bool (ngB q)) (.slice X91 m91 d91) (.int .i64 (M : Int))) rfl ha (fun o ho hg => ⟨(wanted_none hg), e_store ho (ha.ev (i := 10) (v := .pointer (some ⟨v1.heap.size, 0, none⟩)) (by simp)) (ha.ev (i := 63) (v := .agg #[.bool (ngB q), .slice X91 m91 d91, .int .i64 (M : Int)]) (by simp)) (St.at_ (g := v1.heap.size) (x0 := .bool false) (x1 := .slice none 0 0) (x2 := .int .i64 0) E (by simp))⟩) (SBL E2 (by simp)) ?_; intro a ha
              replace E := E2; clear E2
              generalize hW : put3 v92 _ _ _ _ = v93 at E ⊢; clear hW
              have hSw := SBL E (by simp)
              refine line_end0 rq8R (show ∀ i, i < 12 → i ∈ [11, 10, 7, 8, 6, 3, 9, 2, 5, 4, 1, 0] by decide) ?_
              exact ⟨rfl, v85.heap.size, v1.heap.size, X84, m84, d84, X91, m91, d91, ha.sub (by simp), by omega, by omega, Lib.hid ((E.out).sub (by simp) (by simp))⟩
          ·
            have lt94_0 := (St.at_ (x0 := .bool false) (x1 := .slice none 0 0) (x2 := .int .i64 0) (g := v1.heap.size) E (by simp)).lt
            have lt94_1 := (St.at_ (x0 := (.bool (ngB y1))) (x1 := (.slice A5 n5 c5)) (x2 := (.int .i64 (S : Int))) (g := g7) E (by simp)).lt
            have lt94_2 := (St.at_ (x0 := (.bool (ngB i))) (x1 := (.slice A6 n6 c6)) (x2 := (.int .i64 (S : Int))) (g := g8) E (by simp)).lt
            have lt94_3 := (St.at_ (x0 := .bool false) (x1 := .slice none 0 0) (x2 := .int .i64 0) (g := (w.heap.size + 1)) E (by simp)).lt
            have lt94_4 := (St.at_ (x0 := (.bool (ngB i))) (x1 := (.slice A n c)) (x2 := (.int .i64 (s : Int))) (g := w.heap.size) E (by simp)).lt
            refine turn_op0 rq8R 7 0 [3, 9, 2, 5, 4, 1, 0] 8 9 (v := .pointer (some ⟨v84.heap.size, 0, none⟩)) (w' := v84.alloc (.cells #[.bool false, .slice none 0 0, .int .i64 0] 25)) rfl (by decide) ha (fun o ho hg => ⟨(wanted_none hg), e_alloc ho⟩) (by simp) (SBL (Lib.hid (St.alloc E.out _)) (by simp)) ?_; intro a ha
            replace E := Lib.hid (St.lay (t := 25) (x0 := .bool false) (x1 := .slice none 0 0) (x2 := .int .i64 0) (g := v84.heap.size) E.out rfl)
            generalize hW : World.alloc v84 _ = v94 at E ⊢; clear hW
            have hSw := SBL E (by simp)
            refine line_all rq8R 8 0 [8, 3, 9, 2, 5, 4, 1, 0] [6] (by decide) (rq8B _ (by decide)) (by simp) ?_
            intro j hj; simp only [List.mem_cons, List.not_mem_nil, or_false] at hj
            subst hj
            refine turn_call0 rq8R 8 0 [8, 3, 9, 2, 5, 4, 1, 0] 6 62 (args := #[.agg #[(.bool (ngB i)), (.slice A6 n6 c6), (.int .i64 (S : Int))], .agg #[(.bool (ngB i)), (.slice A n c), (.int .i64 (s : Int))]]) rfl (by decide) ha (fun o ho hg => ⟨(wanted_none hg), e_call (by kernel_rfl) ho rfl (by have q0 := ha.ev (i := 60) (v := .agg #[(.bool (ngB i)), (.slice A6 n6 c6), (.int .i64 (S : Int))]) (by simp); have q1 := ha.ev (i := 61) (v := .agg #[(.bool (ngB i)), (.slice A n c), (.int .i64 (s : Int))]) (by simp); simp only [List.map_toArray, List.map_cons, List.map_nil, ev_const, q0, q1])⟩) (by simp) ?_
            refine (refsub_isB (i := y2) (s := S) (j := i) (t := s) HB2.out.symm rfl (St.got E (A := A6) (n := n6) (c := c6) (a := (y2).natAbs) (by simp)) (St.got E (A := A) (n := n) (c := c) (a := (i).natAbs) (by simp)) (by omega) (by omega) (by omega) (by omega) HM2.out HQ0.out).mono ?_; rintro e v95 ⟨X95, m95, d95, rfl, h, hb⟩
            have q95 : m95 ≤ 4500 := len_le h LQ0.out
            replace E := Lib.hid (St.push E.out hb h)
            clear h hb
            have hSw := SBL E (by simp); refine ⟨_, rfl, hSw, ?_⟩; intro a ha
            refine line_all rq8R 9 0 [6, 8, 3, 9, 2, 5, 4, 1, 0] [7] (by decide) (rq8B _ (by decide)) (by simp) ?_
            intro j hj; simp only [List.mem_cons, List.not_mem_nil, or_false] at hj
            subst hj
            refine turn_call0 rq8R 9 0 [6, 8, 3, 9, 2, 5, 4, 1, 0] 7 63 (args := #[.agg #[.bool (ngB q0), .slice X95 m95 d95, .int .i64 (M : Int)]]) rfl (by decide) ha (fun o ho hg => ⟨(wanted_none hg), e_call (by kernel_rfl) ho rfl (by have q0 := ha.ev (i := 62) (v := .agg #[.bool (ngB q0), .slice X95 m95 d95, .int .i64 (M : Int)]) (by simp); simp only [List.map_toArray, List.map_cons, List.map_nil, ev_const, q0])⟩) (by simp) ?_
            refine (refabs_is5 (i := q0) (s := M) (St.got E (A := X95) (n := m95) (c := d95) (a := (q0).natAbs) (by simp)) (by omega) (by omega) HQ.out).mono ?_; rintro e v96 ⟨X96, m96, d96, rfl, h, hb⟩
            have q96 : m96 ≤ 4500 := len_le h LQ.out
            replace E := Lib.hid (St.push E.out hb h)
            clear h hb
            have hSw := SBL E (by simp); refine ⟨_, rfl, hSw, ?_⟩; intro a ha
            refine line_all rq8R 10 0 [7, 6, 8, 3, 9, 2, 5, 4, 1, 0] [10] (by decide) (rq8B _ (by decide)) (by simp) ?_
            intro j hj; simp only [List.mem_cons, List.not_mem_nil, or_false] at hj
            subst hj
            have E2 := Lib.hid (St.store E.out (g := v84.heap.size) (x0 := .bool false) (x1 := .slice none 0 0) (x2 := .int .i64 0) (by simp) (noLimb_bool _) (noLimb_slice _ _ _) (noLimb_int _) [(v1.heap.size, .bool false, .slice none 0 0, .int .i64 0), (g7, (.bool (ngB y1)), (.slice A5 n5 c5), (.int .i64 (S : Int))), (g8, (.bool (ngB i)), (.slice A6 n6 c6), (.int .i64 (S : Int))), ((w.heap.size + 1), .bool false, .slice none 0 0, .int .i64 0), (w.heap.size, (.bool (ngB i)), (.slice A n c), (.int .i64 (s : Int)))] (by simp <;> omega) (.bool (ngB p)) (.slice X84 m84 d84) (.int .i64 (M : Int)))
            refine turn_store rq8R 10 0 [7, 6, 8, 3, 9, 2, 5, 4, 1, 0] 10 (w' := put3 v96 (v84.heap.size) (.bool (ngB p)) (.slice X84 m84 d84) (.int .i64 (M : Int))) rfl ha (fun o ho hg => ⟨(wanted_none hg), e_store ho (ha.ev (i := 9) (v := .pointer (some ⟨v84.heap.size, 0, none⟩)) (by simp)) (ha.ev (i := 59) (v := .agg #[.bool (ngB p), .slice X84 m84 d84, .int .i64 (M : Int)]) (by simp)) (St.at_ (g := v84.heap.size) (x0 := .bool false) (x1 := .slice none 0 0) (x2 := .int .i64 0) E (by simp))⟩) (SBL E2 (by simp)) ?_; intro a ha
            replace E := E2; clear E2
            generalize hW : put3 v96 _ _ _ _ = v97 at E ⊢; clear hW
            have hSw := SBL E (by simp)
            refine line_all rq8R 11 0 [10, 7, 6, 8, 3, 9, 2, 5, 4, 1, 0] [11] (by decide) (rq8B _ (by decide)) (by simp) ?_
            intro j hj; simp only [List.mem_cons, List.not_mem_nil, or_false] at hj
            subst hj
            have E2 := Lib.hid (St.store E.out (g := v1.heap.size) (x0 := .bool false) (x1 := .slice none 0 0) (x2 := .int .i64 0) (by simp) (noLimb_bool _) (noLimb_slice _ _ _) (noLimb_int _) [(v84.heap.size, (.bool (ngB p)), (.slice X84 m84 d84), (.int .i64 (M : Int))), (g7, (.bool (ngB y1)), (.slice A5 n5 c5), (.int .i64 (S : Int))), (g8, (.bool (ngB i)), (.slice A6 n6 c6), (.int .i64 (S : Int))), ((w.heap.size + 1), .bool false, .slice none 0 0, .int .i64 0), (w.heap.size, (.bool (ngB i)), (.slice A n c), (.int .i64 (s : Int)))] (by simp <;> omega) (.bool (ngB q)) (.slice X96 m96 d96) (.int .i64 (M : Int)))
            refine turn_store rq8R 11 0 [10, 7, 6, 8, 3, 9, 2, 5, 4, 1, 0] 11 (w' := put3 v97 (v1.heap.size) (.bool (ngB q)) (.slice X96 m96 d96) (.int .i64 (M : Int))) rfl ha (fun o ho hg => ⟨(wanted_none hg), e_store ho (ha.ev (i := 10) (v := .pointer (some ⟨v1.heap.size, 0, none⟩)) (by simp)) (ha.ev (i := 63) (v := .agg #[.bool (ngB q), .slice X96 m96 d96, .int .i64 (M : Int)]) (by simp)) (St.at_ (g := v1.heap.size) (x0 := .bool false) (x1 := .slice none 0 0) (x2 := .int .i64 0) E (by simp))⟩) (SBL E2 (by simp)) ?_; intro a ha
            replace E := E2; clear E2
            generalize hW : put3 v97 _ _ _ _ = v98 at E ⊢; clear hW
            have hSw := SBL E (by simp)
            refine line_end0 rq8R (show ∀ i, i < 12 → i ∈ [11, 10, 7, 6, 8, 3, 9, 2, 5, 4, 1, 0] by decide) ?_
            exact ⟨rfl, v84.heap.size, v1.heap.size, X84, m84, d84, X96, m96, d96, ha.sub (by simp), by omega, by omega, Lib.hid ((E.out).sub (by simp) (by simp))⟩
        ·
          have lt99_0 := (St.at_ (x0 := .bool false) (x1 := .slice none 0 0) (x2 := .int .i64 0) (g := v1.heap.size) E (by simp)).lt
          have lt99_1 := (St.at_ (x0 := (.bool (ngB y1))) (x1 := (.slice A5 n5 c5)) (x2 := (.int .i64 (S : Int))) (g := g7) E (by simp)).lt
          have lt99_2 := (St.at_ (x0 := (.bool (ngB i))) (x1 := (.slice A6 n6 c6)) (x2 := (.int .i64 (S : Int))) (g := g8) E (by simp)).lt
          have lt99_3 := (St.at_ (x0 := .bool false) (x1 := .slice none 0 0) (x2 := .int .i64 0) (g := (w.heap.size + 1)) E (by simp)).lt
          have lt99_4 := (St.at_ (x0 := (.bool (ngB i))) (x1 := (.slice A n c)) (x2 := (.int .i64 (s : Int))) (g := w.heap.size) E (by simp)).lt
          refine turn_op0 rq8R 6 0 [9, 2, 5, 4, 1, 0] 8 9 (v := .pointer (some ⟨v83.heap.size, 0, none⟩)) (w' := v83.alloc (.cells #[.bool false, .slice none 0 0, .int .i64 0] 25)) rfl (by decide) ha (fun o ho hg => ⟨(wanted_none hg), e_alloc ho⟩) (by simp) (SBL (Lib.hid (St.alloc E.out _)) (by simp)) ?_; intro a ha
          replace E := Lib.hid (St.lay (t := 25) (x0 := .bool false) (x1 := .slice none 0 0) (x2 := .int .i64 0) (g := v83.heap.size) E.out rfl)
          generalize hW : World.alloc v83 _ = v99 at E ⊢; clear hW
          have hSw := SBL E (by simp)
          refine line_all rq8R 7 0 [8, 9, 2, 5, 4, 1, 0] [3] (by decide) (rq8B _ (by decide)) (by simp) ?_
          intro j hj; simp only [List.mem_cons, List.not_mem_nil, or_false] at hj
          subst hj
          refine turn_call0 rq8R 7 0 [8, 9, 2, 5, 4, 1, 0] 3 59 (args := #[.agg #[.bool (ngB p0), .slice X1 m1 d1, .int .i64 (M : Int)]]) rfl (by decide) ha (fun o ho hg => ⟨(wanted_none hg), e_call (by kernel_rfl) ho rfl (by have q0 := ha.ev (i := 58) (v := .agg #[.bool (ngB p0), .slice X1 m1 d1, .int .i64 (M : Int)]) (by simp); simp only [List.map_toArray, List.map_cons, List.map_nil, ev_const, q0])⟩) (by simp) ?_
          refine (refabs_is5 (i := p0) (s := M) (St.got E (A := X1) (n := m1) (c := d1) (a := (p0).natAbs) (by simp)) (by omega) (by omega) HP.out).mono ?_; rintro e v100 ⟨X100, m100, d100, rfl, h, hb⟩
          have q100 : m100 ≤ 4500 := len_le h LP.out
          replace E := Lib.hid (St.push E.out hb h)
          clear h hb
          have hSw := SBL E (by simp); refine ⟨_, rfl, hSw, ?_⟩; intro a ha
          refine line_all rq8R 8 0 [3, 8, 9, 2, 5, 4, 1, 0] [6] (by decide) (rq8B _ (by decide)) (by simp) ?_
          intro j hj; simp only [List.mem_cons, List.not_mem_nil, or_false] at hj
          subst hj
          refine turn_call0 rq8R 8 0 [3, 8, 9, 2, 5, 4, 1, 0] 6 62 (args := #[.agg #[(.bool (ngB i)), (.slice A6 n6 c6), (.int .i64 (S : Int))], .agg #[(.bool (ngB i)), (.slice A n c), (.int .i64 (s : Int))]]) rfl (by decide) ha (fun o ho hg => ⟨(wanted_none hg), e_call (by kernel_rfl) ho rfl (by have q0 := ha.ev (i := 60) (v := .agg #[(.bool (ngB i)), (.slice A6 n6 c6), (.int .i64 (S : Int))]) (by simp); have q1 := ha.ev (i := 61) (v := .agg #[(.bool (ngB i)), (.slice A n c), (.int .i64 (s : Int))]) (by simp); simp only [List.map_toArray, List.map_cons, List.map_nil, ev_const, q0, q1])⟩) (by simp) ?_
          refine (refsub_isB (i := y2) (s := S) (j := i) (t := s) HB2.out.symm rfl (St.got E (A := A6) (n := n6) (c := c6) (a := (y2).natAbs) (by simp)) (St.got E (A := A) (n := n) (c := c) (a := (i).natAbs) (by simp)) (by omega) (by omega) (by omega) (by omega) HM2.out HQ0.out).mono ?_; rintro e v101 ⟨X101, m101, d101, rfl, h, hb⟩
          have q101 : m101 ≤ 4500 := len_le h LQ0.out
          replace E := Lib.hid (St.push E.out hb h)
          clear h hb
          have hSw := SBL E (by simp); refine ⟨_, rfl, hSw, ?_⟩; intro a ha
          refine line_all rq8R 9 0 [6, 3, 8, 9, 2, 5, 4, 1, 0] [7] (by decide) (rq8B _ (by decide)) (by simp) ?_
          intro j hj; simp only [List.mem_cons, List.not_mem_nil, or_false] at hj
          subst hj
          refine turn_call0 rq8R 9 0 [6, 3, 8, 9, 2, 5, 4, 1, 0] 7 63 (args := #[.agg #[.bool (ngB q0), .slice X101 m101 d101, .int .i64 (M : Int)]]) rfl (by decide) ha (fun o ho hg => ⟨(wanted_none hg), e_call (by kernel_rfl) ho rfl (by have q0 := ha.ev (i := 62) (v := .agg #[.bool (ngB q0), .slice X101 m101 d101, .int .i64 (M : Int)]) (by simp); simp only [List.map_toArray, List.map_cons, List.map_nil, ev_const, q0])⟩) (by simp) ?_
          refine (refabs_is5 (i := q0) (s := M) (St.got E (A := X101) (n := m101) (c := d101) (a := (q0).natAbs) (by simp)) (by omega) (by omega) HQ.out).mono ?_; rintro e v102 ⟨X102, m102, d102, rfl, h, hb⟩
          have q102 : m102 ≤ 4500 := len_le h LQ.out
          replace E := Lib.hid (St.push E.out hb h)
          clear h hb
          have hSw := SBL E (by simp); refine ⟨_, rfl, hSw, ?_⟩; intro a ha
          refine line_all rq8R 10 0 [7, 6, 3, 8, 9, 2, 5, 4, 1, 0] [10] (by decide) (rq8B _ (by decide)) (by simp) ?_
          intro j hj; simp only [List.mem_cons, List.not_mem_nil, or_false] at hj
          subst hj
          have E2 := Lib.hid (St.store E.out (g := v83.heap.size) (x0 := .bool false) (x1 := .slice none 0 0) (x2 := .int .i64 0) (by simp) (noLimb_bool _) (noLimb_slice _ _ _) (noLimb_int _) [(v1.heap.size, .bool false, .slice none 0 0, .int .i64 0), (g7, (.bool (ngB y1)), (.slice A5 n5 c5), (.int .i64 (S : Int))), (g8, (.bool (ngB i)), (.slice A6 n6 c6), (.int .i64 (S : Int))), ((w.heap.size + 1), .bool false, .slice none 0 0, .int .i64 0), (w.heap.size, (.bool (ngB i)), (.slice A n c), (.int .i64 (s : Int)))] (by simp <;> omega) (.bool (ngB p)) (.slice X100 m100 d100) (.int .i64 (M : Int)))
          refine turn_store rq8R 10 0 [7, 6, 3, 8, 9, 2, 5, 4, 1, 0] 10 (w' := put3 v102 (v83.heap.size) (.bool (ngB p)) (.slice X100 m100 d100) (.int .i64 (M : Int))) rfl ha (fun o ho hg => ⟨(wanted_none hg), e_store ho (ha.ev (i := 9) (v := .pointer (some ⟨v83.heap.size, 0, none⟩)) (by simp)) (ha.ev (i := 59) (v := .agg #[.bool (ngB p), .slice X100 m100 d100, .int .i64 (M : Int)]) (by simp)) (St.at_ (g := v83.heap.size) (x0 := .bool false) (x1 := .slice none 0 0) (x2 := .int .i64 0) E (by simp))⟩) (SBL E2 (by simp)) ?_; intro a ha
          replace E := E2; clear E2
          generalize hW : put3 v102 _ _ _ _ = v103 at E ⊢; clear hW
          have hSw := SBL E (by simp)
          refine line_all rq8R 11 0 [10, 7, 6, 3, 8, 9, 2, 5, 4, 1, 0] [11] (by decide) (rq8B _ (by decide)) (by simp) ?_
          intro j hj; simp only [List.mem_cons, List.not_mem_nil, or_false] at hj
          subst hj
          have E2 := Lib.hid (St.store E.out (g := v1.heap.size) (x0 := .bool false) (x1 := .slice none 0 0) (x2 := .int .i64 0) (by simp) (noLimb_bool _) (noLimb_slice _ _ _) (noLimb_int _) [(v83.heap.size, (.bool (ngB p)), (.slice X100 m100 d100), (.int .i64 (M : Int))), (g7, (.bool (ngB y1)), (.slice A5 n5 c5), (.int .i64 (S : Int))), (g8, (.bool (ngB i)), (.slice A6 n6 c6), (.int .i64 (S : Int))), ((w.heap.size + 1), .bool false, .slice none 0 0, .int .i64 0), (w.heap.size, (.bool (ngB i)), (.slice A n c), (.int .i64 (s : Int)))] (by simp <;> omega) (.bool (ngB q)) (.slice X102 m102 d102) (.int .i64 (M : Int)))
          refine turn_store rq8R 11 0 [10, 7, 6, 3, 8, 9, 2, 5, 4, 1, 0] 11 (w' := put3 v103 (v1.heap.size) (.bool (ngB q)) (.slice X102 m102 d102) (.int .i64 (M : Int))) rfl ha (fun o ho hg => ⟨(wanted_none hg), e_store ho (ha.ev (i := 10) (v := .pointer (some ⟨v1.heap.size, 0, none⟩)) (by simp)) (ha.ev (i := 63) (v := .agg #[.bool (ngB q), .slice X102 m102 d102, .int .i64 (M : Int)]) (by simp)) (St.at_ (g := v1.heap.size) (x0 := .bool false) (x1 := .slice none 0 0) (x2 := .int .i64 0) E (by simp))⟩) (SBL E2 (by simp)) ?_; intro a ha
          replace E := E2; clear E2
          generalize hW : put3 v103 _ _ _ _ = v104 at E ⊢; clear hW
          have hSw := SBL E (by simp)
          refine line_end0 rq8R (show ∀ i, i < 12 → i ∈ [11, 10, 7, 6, 3, 8, 9, 2, 5, 4, 1, 0] by decide) ?_
          exact ⟨rfl, v83.heap.size, v1.heap.size, X100, m100, d100, X102, m102, d102, ha.sub (by simp), by omega, by omega, Lib.hid ((E.out).sub (by simp) (by simp))⟩
    ·
      have lt105_0 := (St.at_ (x0 := (.bool (ngB y1))) (x1 := (.slice A5 n5 c5)) (x2 := (.int .i64 (S : Int))) (g := g7) E (by simp)).lt
      have lt105_1 := (St.at_ (x0 := (.bool (ngB i))) (x1 := (.slice A6 n6 c6)) (x2 := (.int .i64 (S : Int))) (g := g8) E (by simp)).lt
      have lt105_2 := (St.at_ (x0 := .bool false) (x1 := .slice none 0 0) (x2 := .int .i64 0) (g := (w.heap.size + 1)) E (by simp)).lt
      have lt105_3 := (St.at_ (x0 := (.bool (ngB i))) (x1 := (.slice A n c)) (x2 := (.int .i64 (s : Int))) (g := w.heap.size) E (by simp)).lt
      refine turn_op0 rq8R 4 0 [5, 4, 1, 0] 8 9 (v := .pointer (some ⟨v0.heap.size, 0, none⟩)) (w' := v0.alloc (.cells #[.bool false, .slice none 0 0, .int .i64 0] 25)) rfl (by decide) ha (fun o ho hg => ⟨(wanted_none hg), e_alloc ho⟩) (by simp) (SBL (Lib.hid (St.alloc E.out _)) (by simp)) ?_; intro a ha
      replace E := Lib.hid (St.lay (t := 25) (x0 := .bool false) (x1 := .slice none 0 0) (x2 := .int .i64 0) (g := v0.heap.size) E.out rfl)
      generalize hW : World.alloc v0 _ = v105 at E ⊢; clear hW
      have hSw := SBL E (by simp)
      refine line_all rq8R 5 0 [8, 5, 4, 1, 0] [2, 9] (by decide) (rq8B _ (by decide)) (by simp) ?_
      intro j hj; simp only [List.mem_cons, List.not_mem_nil, or_false] at hj
      rcases hj with rfl | rfl
      ·
        refine turn_call0 rq8R 5 0 [8, 5, 4, 1, 0] 2 58 (args := #[.agg #[(.bool (ngB i)), (.slice A n c), (.int .i64 (s : Int))], .agg #[(.bool (ngB y1)), (.slice A5 n5 c5), (.int .i64 (S : Int))]]) rfl (by decide) ha (fun o ho hg => ⟨(wanted_none hg), e_call (by kernel_rfl) ho rfl (by have q0 := ha.ev (i := 56) (v := .agg #[(.bool (ngB i)), (.slice A n c), (.int .i64 (s : Int))]) (by simp); have q1 := ha.ev (i := 57) (v := .agg #[(.bool (ngB y1)), (.slice A5 n5 c5), (.int .i64 (S : Int))]) (by simp); simp only [List.map_toArray, List.map_cons, List.map_nil, ev_const, q0, q1])⟩) (by simp) ?_
        refine (refsub_isB (i := i) (s := s) (j := y1) (t := S) rfl rfl (St.got E (A := A) (n := n) (c := c) (a := (i).natAbs) (by simp)) (St.got E (A := A5) (n := n5) (c := c5) (a := (y1).natAbs) (by simp)) (by omega) (by omega) (by omega) (by omega) HM1.out HP0.out).mono ?_; rintro e v106 ⟨X106, m106, d106, rfl, h, hb⟩
        have q106 : m106 ≤ 4500 := len_le h LP0.out
        replace E := Lib.hid (St.push E.out hb h)
        clear h hb
        have hSw := SBL E (by simp); refine ⟨_, rfl, hSw, ?_⟩; intro a ha
        refine line_all rq8R 6 0 [2, 8, 5, 4, 1, 0] [3, 9] (by decide) (rq8B _ (by decide)) (by simp) ?_
        intro j hj; simp only [List.mem_cons, List.not_mem_nil, or_false] at hj
        rcases hj with rfl | rfl
        ·
          refine turn_call0 rq8R 6 0 [2, 8, 5, 4, 1, 0] 3 59 (args := #[.agg #[.bool (ngB p0), .slice X106 m106 d106, .int .i64 (M : Int)]]) rfl (by decide) ha (fun o ho hg => ⟨(wanted_none hg), e_call (by kernel_rfl) ho rfl (by have q0 := ha.ev (i := 58) (v := .agg #[.bool (ngB p0), .slice X106 m106 d106, .int .i64 (M : Int)]) (by simp); simp only [List.map_toArray, List.map_cons, List.map_nil, ev_const, q0])⟩) (by simp) ?_
          refine (refabs_is5 (i := p0) (s := M) (St.got E (A := X106) (n := m106) (c := d106) (a := (p0).natAbs) (by simp)) (by omega) (by omega) HP.out).mono ?_; rintro e v107 ⟨X107, m107, d107, rfl, h, hb⟩
          have q107 : m107 ≤ 4500 := len_le h LP.out
          replace E := Lib.hid (St.push E.out hb h)
          clear h hb
          have hSw := SBL E (by simp); refine ⟨_, rfl, hSw, ?_⟩; intro a ha
          refine line_all rq8R 7 0 [3, 2, 8, 5, 4, 1, 0] [6, 9] (by decide) (rq8B _ (by decide)) (by simp) ?_
          intro j hj; simp only [List.mem_cons, List.not_mem_nil, or_false] at hj
          rcases hj with rfl | rfl
          ·
            refine turn_call0 rq8R 7 0 [3, 2, 8, 5, 4, 1, 0] 6 62 (args := #[.agg #[(.bool (ngB i)), (.slice A6 n6 c6), (.int .i64 (S : Int))], .agg #[(.bool (ngB i)), (.slice A n c), (.int .i64 (s : Int))]]) rfl (by decide) ha (fun o ho hg => ⟨(wanted_none hg), e_call (by kernel_rfl) ho rfl (by have q0 := ha.ev (i := 60) (v := .agg #[(.bool (ngB i)), (.slice A6 n6 c6), (.int .i64 (S : Int))]) (by simp); have q1 := ha.ev (i := 61) (v := .agg #[(.bool (ngB i)), (.slice A n c), (.int .i64 (s : Int))]) (by simp); simp only [List.map_toArray, List.map_cons, List.map_nil, ev_const, q0, q1])⟩) (by simp) ?_
            refine (refsub_isB (i := y2) (s := S) (j := i) (t := s) HB2.out.symm rfl (St.got E (A := A6) (n := n6) (c := c6) (a := (y2).natAbs) (by simp)) (St.got E (A := A) (n := n) (c := c) (a := (i).natAbs) (by simp)) (by omega) (by omega) (by omega) (by omega) HM2.out HQ0.out).mono ?_; rintro e v108 ⟨X108, m108, d108, rfl, h, hb⟩
            have q108 : m108 ≤ 4500 := len_le h LQ0.out
            replace E := Lib.hid (St.push E.out hb h)
            clear h hb
            have hSw := SBL E (by simp); refine ⟨_, rfl, hSw, ?_⟩; intro a ha
            refine line_all rq8R 8 0 [6, 3, 2, 8, 5, 4, 1, 0] [7, 9] (by decide) (rq8B _ (by decide)) (by simp) ?_
            intro j hj; simp only [List.mem_cons, List.not_mem_nil, or_false] at hj
            rcases hj with rfl | rfl
            ·
              refine turn_call0 rq8R 8 0 [6, 3, 2, 8, 5, 4, 1, 0] 7 63 (args := #[.agg #[.bool (ngB q0), .slice X108 m108 d108, .int .i64 (M : Int)]]) rfl (by decide) ha (fun o ho hg => ⟨(wanted_none hg), e_call (by kernel_rfl) ho rfl (by have q0 := ha.ev (i := 62) (v := .agg #[.bool (ngB q0), .slice X108 m108 d108, .int .i64 (M : Int)]) (by simp); simp only [List.map_toArray, List.map_cons, List.map_nil, ev_const, q0])⟩) (by simp) ?_
              refine (refabs_is5 (i := q0) (s := M) (St.got E (A := X108) (n := m108) (c := d108) (a := (q0).natAbs) (by simp)) (by omega) (by omega) HQ.out).mono ?_; rintro e v109 ⟨X109, m109, d109, rfl, h, hb⟩
              have q109 : m109 ≤ 4500 := len_le h LQ.out
              replace E := Lib.hid (St.push E.out hb h)
              clear h hb
              have hSw := SBL E (by simp); refine ⟨_, rfl, hSw, ?_⟩; intro a ha
              refine line_all rq8R 9 0 [7, 6, 3, 2, 8, 5, 4, 1, 0] [9] (by decide) (rq8B _ (by decide)) (by simp) ?_
              intro j hj; simp only [List.mem_cons, List.not_mem_nil, or_false] at hj
              subst hj
              have lt110_0 := (St.at_ (x0 := .bool false) (x1 := .slice none 0 0) (x2 := .int .i64 0) (g := v0.heap.size) E (by simp)).lt
              have lt110_1 := (St.at_ (x0 := (.bool (ngB y1))) (x1 := (.slice A5 n5 c5)) (x2 := (.int .i64 (S : Int))) (g := g7) E (by simp)).lt
              have lt110_2 := (St.at_ (x0 := (.bool (ngB i))) (x1 := (.slice A6 n6 c6)) (x2 := (.int .i64 (S : Int))) (g := g8) E (by simp)).lt
              have lt110_3 := (St.at_ (x0 := .bool false) (x1 := .slice none 0 0) (x2 := .int .i64 0) (g := (w.heap.size + 1)) E (by simp)).lt
              have lt110_4 := (St.at_ (x0 := (.bool (ngB i))) (x1 := (.slice A n c)) (x2 := (.int .i64 (s : Int))) (g := w.heap.size) E (by simp)).lt
              refine turn_op0 rq8R 9 0 [7, 6, 3, 2, 8, 5, 4, 1, 0] 9 10 (v := .pointer (some ⟨v109.heap.size, 0, none⟩)) (w' := v109.alloc (.cells #[.bool false, .slice none 0 0, .int .i64 0] 25)) rfl (by decide) ha (fun o ho hg => ⟨(wanted_none hg), e_alloc ho⟩) (by simp) (SBL (Lib.hid (St.alloc E.out _)) (by simp)) ?_; intro a ha
              replace E := Lib.hid (St.lay (t := 25) (x0 := .bool false) (x1 := .slice none 0 0) (x2 := .int .i64 0) (g := v109.heap.size) E.out rfl)
              generalize hW : World.alloc v109 _ = v110 at E ⊢; clear hW
              have hSw := SBL E (by simp)
              refine line_all rq8R 10 0 [9, 7, 6, 3, 2, 8, 5, 4, 1, 0] [10] (by decide) (rq8B _ (by decide)) (by simp) ?_
              intro j hj; simp only [List.mem_cons, List.not_mem_nil, or_false] at hj
              subst hj
              have E2 := Lib.hid (St.store E.out (g := v0.heap.size) (x0 := .bool false) (x1 := .slice none 0 0) (x2 := .int .i64 0) (by simp) (noLimb_bool _) (noLimb_slice _ _ _) (noLimb_int _) [(v109.heap.size, .bool false, .slice none 0 0, .int .i64 0), (g7, (.bool (ngB y1)), (.slice A5 n5 c5), (.int .i64 (S : Int))), (g8, (.bool (ngB i)), (.slice A6 n6 c6), (.int .i64 (S : Int))), ((w.heap.size + 1), .bool false, .slice none 0 0, .int .i64 0), (w.heap.size, (.bool (ngB i)), (.slice A n c), (.int .i64 (s : Int)))] (by simp <;> omega) (.bool (ngB p)) (.slice X107 m107 d107) (.int .i64 (M : Int)))
              refine turn_store rq8R 10 0 [9, 7, 6, 3, 2, 8, 5, 4, 1, 0] 10 (w' := put3 v110 (v0.heap.size) (.bool (ngB p)) (.slice X107 m107 d107) (.int .i64 (M : Int))) rfl ha (fun o ho hg => ⟨(wanted_none hg), e_store ho (ha.ev (i := 9) (v := .pointer (some ⟨v0.heap.size, 0, none⟩)) (by simp)) (ha.ev (i := 59) (v := .agg #[.bool (ngB p), .slice X107 m107 d107, .int .i64 (M : Int)]) (by simp)) (St.at_ (g := v0.heap.size) (x0 := .bool false) (x1 := .slice none 0 0) (x2 := .int .i64 0) E (by simp))⟩) (SBL E2 (by simp)) ?_; intro a ha
              replace E := E2; clear E2
              generalize hW : put3 v110 _ _ _ _ = v111 at E ⊢; clear hW
              have hSw := SBL E (by simp)
              refine line_all rq8R 11 0 [10, 9, 7, 6, 3, 2, 8, 5, 4, 1, 0] [11] (by decide) (rq8B _ (by decide)) (by simp) ?_
              intro j hj; simp only [List.mem_cons, List.not_mem_nil, or_false] at hj
              subst hj
              have E2 := Lib.hid (St.store E.out (g := v109.heap.size) (x0 := .bool false) (x1 := .slice none 0 0) (x2 := .int .i64 0) (by simp) (noLimb_bool _) (noLimb_slice _ _ _) (noLimb_int _) [(v0.heap.size, (.bool (ngB p)), (.slice X107 m107 d107), (.int .i64 (M : Int))), (g7, (.bool (ngB y1)), (.slice A5 n5 c5), (.int .i64 (S : Int))), (g8, (.bool (ngB i)), (.slice A6 n6 c6), (.int .i64 (S : Int))), ((w.heap.size + 1), .bool false, .slice none 0 0, .int .i64 0), (w.heap.size, (.bool (ngB i)), (.slice A n c), (.int .i64 (s : Int)))] (by simp <;> omega) (.bool (ngB q)) (.slice X109 m109 d109) (.int .i64 (M : Int)))
              refine turn_store rq8R 11 0 [10, 9, 7, 6, 3, 2, 8, 5, 4, 1, 0] 11 (w' := put3 v111 (v109.heap.size) (.bool (ngB q)) (.slice X109 m109 d109) (.int .i64 (M : Int))) rfl ha (fun o ho hg => ⟨(wanted_none hg), e_store ho (ha.ev (i := 10) (v := .pointer (some ⟨v109.heap.size, 0, none⟩)) (by simp)) (ha.ev (i := 63) (v := .agg #[.bool (ngB q), .slice X109 m109 d109, .int .i64 (M : Int)]) (by simp)) (St.at_ (g := v109.heap.size) (x0 := .bool false) (x1 := .slice none 0 0) (x2 := .int .i64 0) E (by simp))⟩) (SBL E2 (by simp)) ?_; intro a ha
              replace E := E2; clear E2
              generalize hW : put3 v111 _ _ _ _ = v112 at E ⊢; clear hW
              have hSw := SBL E (by simp)
              refine line_end0 rq8R (show ∀ i, i < 12 → i ∈ [11, 10, 9, 7, 6, 3, 2, 8, 5, 4, 1, 0] by decide) ?_
              exact ⟨rfl, v0.heap.size, v109.heap.size, X107, m107, d107, X109, m109, d109, ha.sub (by simp), by omega, by omega, Lib.hid ((E.out).sub (by simp) (by simp))⟩
            ·
              have lt113_0 := (St.at_ (x0 := .bool false) (x1 := .slice none 0 0) (x2 := .int .i64 0) (g := v0.heap.size) E (by simp)).lt
              have lt113_1 := (St.at_ (x0 := (.bool (ngB y1))) (x1 := (.slice A5 n5 c5)) (x2 := (.int .i64 (S : Int))) (g := g7) E (by simp)).lt
              have lt113_2 := (St.at_ (x0 := (.bool (ngB i))) (x1 := (.slice A6 n6 c6)) (x2 := (.int .i64 (S : Int))) (g := g8) E (by simp)).lt
              have lt113_3 := (St.at_ (x0 := .bool false) (x1 := .slice none 0 0) (x2 := .int .i64 0) (g := (w.heap.size + 1)) E (by simp)).lt
              have lt113_4 := (St.at_ (x0 := (.bool (ngB i))) (x1 := (.slice A n c)) (x2 := (.int .i64 (s : Int))) (g := w.heap.size) E (by simp)).lt
              refine turn_op0 rq8R 8 0 [6, 3, 2, 8, 5, 4, 1, 0] 9 10 (v := .pointer (some ⟨v108.heap.size, 0, none⟩)) (w' := v108.alloc (.cells #[.bool false, .slice none 0 0, .int .i64 0] 25)) rfl (by decide) ha (fun o ho hg => ⟨(wanted_none hg), e_alloc ho⟩) (by simp) (SBL (Lib.hid (St.alloc E.out _)) (by simp)) ?_; intro a ha
              replace E := Lib.hid (St.lay (t := 25) (x0 := .bool false) (x1 := .slice none 0 0) (x2 := .int .i64 0) (g := v108.heap.size) E.out rfl)
              generalize hW : World.alloc v108 _ = v113 at E ⊢; clear hW
              have hSw := SBL E (by simp)
              refine line_all rq8R 9 0 [9, 6, 3, 2, 8, 5, 4, 1, 0] [7] (by decide) (rq8B _ (by decide)) (by simp) ?_
              intro j hj; simp only [List.mem_cons, List.not_mem_nil, or_false] at hj
              subst hj
              refine turn_call0 rq8R 9 0 [9, 6, 3, 2, 8, 5, 4, 1, 0] 7 63 (args := #[.agg #[.bool (ngB q0), .slice X108 m108 d108, .int .i64 (M : Int)]]) rfl (by decide) ha (fun o ho hg => ⟨(wanted_none hg), e_call (by kernel_rfl) ho rfl (by have q0 := ha.ev (i := 62) (v := .agg #[.bool (ngB q0), .slice X108 m108 d108, .int .i64 (M : Int)]) (by simp); simp only [List.map_toArray, List.map_cons, List.map_nil, ev_const, q0])⟩) (by simp) ?_
              refine (refabs_is5 (i := q0) (s := M) (St.got E (A := X108) (n := m108) (c := d108) (a := (q0).natAbs) (by simp)) (by omega) (by omega) HQ.out).mono ?_; rintro e v114 ⟨X114, m114, d114, rfl, h, hb⟩
              have q114 : m114 ≤ 4500 := len_le h LQ.out
              replace E := Lib.hid (St.push E.out hb h)
              clear h hb
              have hSw := SBL E (by simp); refine ⟨_, rfl, hSw, ?_⟩; intro a ha
              refine line_all rq8R 10 0 [7, 9, 6, 3, 2, 8, 5, 4, 1, 0] [10] (by decide) (rq8B _ (by decide)) (by simp) ?_
              intro j hj; simp only [List.mem_cons, List.not_mem_nil, or_false] at hj
              subst hj
              have E2 := Lib.hid (St.store E.out (g := v0.heap.size) (x0 := .bool false) (x1 := .slice none 0 0) (x2 := .int .i64 0) (by simp) (noLimb_bool _) (noLimb_slice _ _ _) (noLimb_int _) [(v108.heap.size, .bool false, .slice none 0 0, .int .i64 0), (g7, (.bool (ngB y1)), (.slice A5 n5 c5), (.int .i64 (S : Int))), (g8, (.bool (ngB i)), (.slice A6 n6 c6), (.int .i64 (S : Int))), ((w.heap.size + 1), .bool false, .slice none 0 0, .int .i64 0), (w.heap.size, (.bool (ngB i)), (.slice A n c), (.int .i64 (s : Int)))] (by simp <;> omega) (.bool (ngB p)) (.slice X107 m107 d107) (.int .i64 (M : Int)))
              refine turn_store rq8R 10 0 [7, 9, 6, 3, 2, 8, 5, 4, 1, 0] 10 (w' := put3 v114 (v0.heap.size) (.bool (ngB p)) (.slice X107 m107 d107) (.int .i64 (M : Int))) rfl ha (fun o ho hg => ⟨(wanted_none hg), e_store ho (ha.ev (i := 9) (v := .pointer (some ⟨v0.heap.size, 0, none⟩)) (by simp)) (ha.ev (i := 59) (v := .agg #[.bool (ngB p), .slice X107 m107 d107, .int .i64 (M : Int)]) (by simp)) (St.at_ (g := v0.heap.size) (x0 := .bool false) (x1 := .slice none 0 0) (x2 := .int .i64 0) E (by simp))⟩) (SBL E2 (by simp)) ?_; intro a ha
              replace E := E2; clear E2
              generalize hW : put3 v114 _ _ _ _ = v115 at E ⊢; clear hW
              have hSw := SBL E (by simp)
              refine line_all rq8R 11 0 [10, 7, 9, 6, 3, 2, 8, 5, 4, 1, 0] [11] (by decide) (rq8B _ (by decide)) (by simp) ?_
              intro j hj; simp only [List.mem_cons, List.not_mem_nil, or_false] at hj
              subst hj
              have E2 := Lib.hid (St.store E.out (g := v108.heap.size) (x0 := .bool false) (x1 := .slice none 0 0) (x2 := .int .i64 0) (by simp) (noLimb_bool _) (noLimb_slice _ _ _) (noLimb_int _) [(v0.heap.size, (.bool (ngB p)), (.slice X107 m107 d107), (.int .i64 (M : Int))), (g7, (.bool (ngB y1)), (.slice A5 n5 c5), (.int .i64 (S : Int))), (g8, (.bool (ngB i)), (.slice A6 n6 c6), (.int .i64 (S : Int))), ((w.heap.size + 1), .bool false, .slice none 0 0, .int .i64 0), (w.heap.size, (.bool (ngB i)), (.slice A n c), (.int .i64 (s : Int)))] (by simp <;> omega) (.bool (ngB q)) (.slice X114 m114 d114) (.int .i64 (M : Int)))
              refine turn_store rq8R 11 0 [10, 7, 9, 6, 3, 2, 8, 5, 4, 1, 0] 11 (w' := put3 v115 (v108.heap.size) (.bool (ngB q)) (.slice X114 m114 d114) (.int .i64 (M : Int))) rfl ha (fun o ho hg => ⟨(wanted_none hg), e_store ho (ha.ev (i := 10) (v := .pointer (some ⟨v108.heap.size, 0, none⟩)) (by simp)) (ha.ev (i := 63) (v := .agg #[.bool (ngB q), .slice X114 m114 d114, .int .i64 (M : Int)]) (by simp)) (St.at_ (g := v108.heap.size) (x0 := .bool false) (x1 := .slice none 0 0) (x2 := .int .i64 0) E (by simp))⟩) (SBL E2 (by simp)) ?_; intro a ha
              replace E := E2; clear E2
              generalize hW : put3 v115 _ _ _ _ = v116 at E ⊢; clear hW
              have hSw := SBL E (by simp)
              refine line_end0 rq8R (show ∀ i, i < 12 → i ∈ [11, 10, 7, 9, 6, 3, 2, 8, 5, 4, 1, 0] by decide) ?_
              exact ⟨rfl, v0.heap.size, v108.heap.size, X107, m107, d107, X114, m114, d114, ha.sub (by simp), by omega, by omega, Lib.hid ((E.out).sub (by simp) (by simp))⟩
          ·
            have lt117_0 := (St.at_ (x0 := .bool false) (x1 := .slice none 0 0) (x2 := .int .i64 0) (g := v0.heap.size) E (by simp)).lt
            have lt117_1 := (St.at_ (x0 := (.bool (ngB y1))) (x1 := (.slice A5 n5 c5)) (x2 := (.int .i64 (S : Int))) (g := g7) E (by simp)).lt
            have lt117_2 := (St.at_ (x0 := (.bool (ngB i))) (x1 := (.slice A6 n6 c6)) (x2 := (.int .i64 (S : Int))) (g := g8) E (by simp)).lt
            have lt117_3 := (St.at_ (x0 := .bool false) (x1 := .slice none 0 0) (x2 := .int .i64 0) (g := (w.heap.size + 1)) E (by simp)).lt
            have lt117_4 := (St.at_ (x0 := (.bool (ngB i))) (x1 := (.slice A n c)) (x2 := (.int .i64 (s : Int))) (g := w.heap.size) E (by simp)).lt
            refine turn_op0 rq8R 7 0 [3, 2, 8, 5, 4, 1, 0] 9 10 (v := .pointer (some ⟨v107.heap.size, 0, none⟩)) (w' := v107.alloc (.cells #[.bool false, .slice none 0 0, .int .i64 0] 25)) rfl (by decide) ha (fun o ho hg => ⟨(wanted_none hg), e_alloc ho⟩) (by simp) (SBL (Lib.hid (St.alloc E.out _)) (by simp)) ?_; intro a ha
            replace E := Lib.hid (St.lay (t := 25) (x0 := .bool false) (x1 := .slice none 0 0) (x2 := .int .i64 0) (g := v107.heap.size) E.out rfl)
            generalize hW : World.alloc v107 _ = v117 at E ⊢; clear hW
            have hSw := SBL E (by simp)
            refine line_all rq8R 8 0 [9, 3, 2, 8, 5, 4, 1, 0] [6] (by decide) (rq8B _ (by decide)) (by simp) ?_
            intro j hj; simp only [List.mem_cons, List.not_mem_nil, or_false] at hj
            subst hj
            refine turn_call0 rq8R 8 0 [9, 3, 2, 8, 5, 4, 1, 0] 6 62 (args := #[.agg #[(.bool (ngB i)), (.slice A6 n6 c6), (.int .i64 (S : Int))], .agg #[(.bool (ngB i)), (.slice A n c), (.int .i64 (s : Int))]]) rfl (by decide) ha (fun o ho hg => ⟨(wanted_none hg), e_call (by kernel_rfl) ho rfl (by have q0 := ha.ev (i := 60) (v := .agg #[(.bool (ngB i)), (.slice A6 n6 c6), (.int .i64 (S : Int))]) (by simp); have q1 := ha.ev (i := 61) (v := .agg #[(.bool (ngB i)), (.slice A n c), (.int .i64 (s : Int))]) (by simp); simp only [List.map_toArray, List.map_cons, List.map_nil, ev_const, q0, q1])⟩) (by simp) ?_
            refine (refsub_isB (i := y2) (s := S) (j := i) (t := s) HB2.out.symm rfl (St.got E (A := A6) (n := n6) (c := c6) (a := (y2).natAbs) (by simp)) (St.got E (A := A) (n := n) (c := c) (a := (i).natAbs) (by simp)) (by omega) (by omega) (by omega) (by omega) HM2.out HQ0.out).mono ?_; rintro e v118 ⟨X118, m118, d118, rfl, h, hb⟩
            have q118 : m118 ≤ 4500 := len_le h LQ0.out
            replace E := Lib.hid (St.push E.out hb h)
            clear h hb
            have hSw := SBL E (by simp); refine ⟨_, rfl, hSw, ?_⟩; intro a ha
            refine line_all rq8R 9 0 [6, 9, 3, 2, 8, 5, 4, 1, 0] [7] (by decide) (rq8B _ (by decide)) (by simp) ?_
            intro j hj; simp only [List.mem_cons, List.not_mem_nil, or_false] at hj
            subst hj
            refine turn_call0 rq8R 9 0 [6, 9, 3, 2, 8, 5, 4, 1, 0] 7 63 (args := #[.agg #[.bool (ngB q0), .slice X118 m118 d118, .int .i64 (M : Int)]]) rfl (by decide) ha (fun o ho hg => ⟨(wanted_none hg), e_call (by kernel_rfl) ho rfl (by have q0 := ha.ev (i := 62) (v := .agg #[.bool (ngB q0), .slice X118 m118 d118, .int .i64 (M : Int)]) (by simp); simp only [List.map_toArray, List.map_cons, List.map_nil, ev_const, q0])⟩) (by simp) ?_
            refine (refabs_is5 (i := q0) (s := M) (St.got E (A := X118) (n := m118) (c := d118) (a := (q0).natAbs) (by simp)) (by omega) (by omega) HQ.out).mono ?_; rintro e v119 ⟨X119, m119, d119, rfl, h, hb⟩
            have q119 : m119 ≤ 4500 := len_le h LQ.out
            replace E := Lib.hid (St.push E.out hb h)
            clear h hb
            have hSw := SBL E (by simp); refine ⟨_, rfl, hSw, ?_⟩; intro a ha
            refine line_all rq8R 10 0 [7, 6, 9, 3, 2, 8, 5, 4, 1, 0] [10] (by decide) (rq8B _ (by decide)) (by simp) ?_
            intro j hj; simp only [List.mem_cons, List.not_mem_nil, or_false] at hj
            subst hj
            have E2 := Lib.hid (St.store E.out (g := v0.heap.size) (x0 := .bool false) (x1 := .slice none 0 0) (x2 := .int .i64 0) (by simp) (noLimb_bool _) (noLimb_slice _ _ _) (noLimb_int _) [(v107.heap.size, .bool false, .slice none 0 0, .int .i64 0), (g7, (.bool (ngB y1)), (.slice A5 n5 c5), (.int .i64 (S : Int))), (g8, (.bool (ngB i)), (.slice A6 n6 c6), (.int .i64 (S : Int))), ((w.heap.size + 1), .bool false, .slice none 0 0, .int .i64 0), (w.heap.size, (.bool (ngB i)), (.slice A n c), (.int .i64 (s : Int)))] (by simp <;> omega) (.bool (ngB p)) (.slice X107 m107 d107) (.int .i64 (M : Int)))
            refine turn_store rq8R 10 0 [7, 6, 9, 3, 2, 8, 5, 4, 1, 0] 10 (w' := put3 v119 (v0.heap.size) (.bool (ngB p)) (.slice X107 m107 d107) (.int .i64 (M : Int))) rfl ha (fun o ho hg => ⟨(wanted_none hg), e_store ho (ha.ev (i := 9) (v := .pointer (some ⟨v0.heap.size, 0, none⟩)) (by simp)) (ha.ev (i := 59) (v := .agg #[.bool (ngB p), .slice X107 m107 d107, .int .i64 (M : Int)]) (by simp)) (St.at_ (g := v0.heap.size) (x0 := .bool false) (x1 := .slice none 0 0) (x2 := .int .i64 0) E (by simp))⟩) (SBL E2 (by simp)) ?_; intro a ha
            replace E := E2; clear E2
            generalize hW : put3 v119 _ _ _ _ = v120 at E ⊢; clear hW
            have hSw := SBL E (by simp)
            refine line_all rq8R 11 0 [10, 7, 6, 9, 3, 2, 8, 5, 4, 1, 0] [11] (by decide) (rq8B _ (by decide)) (by simp) ?_
            intro j hj; simp only [List.mem_cons, List.not_mem_nil, or_false] at hj
            subst hj
            have E2 := Lib.hid (St.store E.out (g := v107.heap.size) (x0 := .bool false) (x1 := .slice none 0 0) (x2 := .int .i64 0) (by simp) (noLimb_bool _) (noLimb_slice _ _ _) (noLimb_int _) [(v0.heap.size, (.bool (ngB p)), (.slice X107 m107 d107), (.int .i64 (M : Int))), (g7, (.bool (ngB y1)), (.slice A5 n5 c5), (.int .i64 (S : Int))), (g8, (.bool (ngB i)), (.slice A6 n6 c6), (.int .i64 (S : Int))), ((w.heap.size + 1), .bool false, .slice none 0 0, .int .i64 0), (w.heap.size, (.bool (ngB i)), (.slice A n c), (.int .i64 (s : Int)))] (by simp <;> omega) (.bool (ngB q)) (.slice X119 m119 d119) (.int .i64 (M : Int)))
            refine turn_store rq8R 11 0 [10, 7, 6, 9, 3, 2, 8, 5, 4, 1, 0] 11 (w' := put3 v120 (v107.heap.size) (.bool (ngB q)) (.slice X119 m119 d119) (.int .i64 (M : Int))) rfl ha (fun o ho hg => ⟨(wanted_none hg), e_store ho (ha.ev (i := 10) (v := .pointer (some ⟨v107.heap.size, 0, none⟩)) (by simp)) (ha.ev (i := 63) (v := .agg #[.bool (ngB q), .slice X119 m119 d119, .int .i64 (M : Int)]) (by simp)) (St.at_ (g := v107.heap.size) (x0 := .bool false) (x1 := .slice none 0 0) (x2 := .int .i64 0) E (by simp))⟩) (SBL E2 (by simp)) ?_; intro a ha
            replace E := E2; clear E2
            generalize hW : put3 v120 _ _ _ _ = v121 at E ⊢; clear hW
            have hSw := SBL E (by simp)
            refine line_end0 rq8R (show ∀ i, i < 12 → i ∈ [11, 10, 7, 6, 9, 3, 2, 8, 5, 4, 1, 0] by decide) ?_
            exact ⟨rfl, v0.heap.size, v107.heap.size, X107, m107, d107, X119, m119, d119, ha.sub (by simp), by omega, by omega, Lib.hid ((E.out).sub (by simp) (by simp))⟩
        ·
          have lt122_0 := (St.at_ (x0 := .bool false) (x1 := .slice none 0 0) (x2 := .int .i64 0) (g := v0.heap.size) E (by simp)).lt
          have lt122_1 := (St.at_ (x0 := (.bool (ngB y1))) (x1 := (.slice A5 n5 c5)) (x2 := (.int .i64 (S : Int))) (g := g7) E (by simp)).lt
          have lt122_2 := (St.at_ (x0 := (.bool (ngB i))) (x1 := (.slice A6 n6 c6)) (x2 := (.int .i64 (S : Int))) (g := g8) E (by simp)).lt
          have lt122_3 := (St.at_ (x0 := .bool false) (x1 := .slice none 0 0) (x2 := .int .i64 0) (g := (w.heap.size + 1)) E (by simp)).lt
          have lt122_4 := (St.at_ (x0 := (.bool (ngB i))) (x1 := (.slice A n c)) (x2 := (.int .i64 (s : Int))) (g := w.heap.size) E (by simp)).lt
          refine turn_op0 rq8R 6 0 [2, 8, 5, 4, 1, 0] 9 10 (v := .pointer (some ⟨v106.heap.size, 0, none⟩)) (w' := v106.alloc (.cells #[.bool false, .slice none 0 0, .int .i64 0] 25)) rfl (by decide) ha (fun o ho hg => ⟨(wanted_none hg), e_alloc ho⟩) (by simp) (SBL (Lib.hid (St.alloc E.out _)) (by simp)) ?_; intro a ha
          replace E := Lib.hid (St.lay (t := 25) (x0 := .bool false) (x1 := .slice none 0 0) (x2 := .int .i64 0) (g := v106.heap.size) E.out rfl)
          generalize hW : World.alloc v106 _ = v122 at E ⊢; clear hW
          have hSw := SBL E (by simp)
          refine line_all rq8R 7 0 [9, 2, 8, 5, 4, 1, 0] [3] (by decide) (rq8B _ (by decide)) (by simp) ?_
          intro j hj; simp only [List.mem_cons, List.not_mem_nil, or_false] at hj
          subst hj
          refine turn_call0 rq8R 7 0 [9, 2, 8, 5, 4, 1, 0] 3 59 (args := #[.agg #[.bool (ngB p0), .slice X106 m106 d106, .int .i64 (M : Int)]]) rfl (by decide) ha (fun o ho hg => ⟨(wanted_none hg), e_call (by kernel_rfl) ho rfl (by have q0 := ha.ev (i := 58) (v := .agg #[.bool (ngB p0), .slice X106 m106 d106, .int .i64 (M : Int)]) (by simp); simp only [List.map_toArray, List.map_cons, List.map_nil, ev_const, q0])⟩) (by simp) ?_
          refine (refabs_is5 (i := p0) (s := M) (St.got E (A := X106) (n := m106) (c := d106) (a := (p0).natAbs) (by simp)) (by omega) (by omega) HP.out).mono ?_; rintro e v123 ⟨X123, m123, d123, rfl, h, hb⟩
          have q123 : m123 ≤ 4500 := len_le h LP.out
          replace E := Lib.hid (St.push E.out hb h)
          clear h hb
          have hSw := SBL E (by simp); refine ⟨_, rfl, hSw, ?_⟩; intro a ha
          refine line_all rq8R 8 0 [3, 9, 2, 8, 5, 4, 1, 0] [6] (by decide) (rq8B _ (by decide)) (by simp) ?_
          intro j hj; simp only [List.mem_cons, List.not_mem_nil, or_false] at hj
          subst hj
          refine turn_call0 rq8R 8 0 [3, 9, 2, 8, 5, 4, 1, 0] 6 62 (args := #[.agg #[(.bool (ngB i)), (.slice A6 n6 c6), (.int .i64 (S : Int))], .agg #[(.bool (ngB i)), (.slice A n c), (.int .i64 (s : Int))]]) rfl (by decide) ha (fun o ho hg => ⟨(wanted_none hg), e_call (by kernel_rfl) ho rfl (by have q0 := ha.ev (i := 60) (v := .agg #[(.bool (ngB i)), (.slice A6 n6 c6), (.int .i64 (S : Int))]) (by simp); have q1 := ha.ev (i := 61) (v := .agg #[(.bool (ngB i)), (.slice A n c), (.int .i64 (s : Int))]) (by simp); simp only [List.map_toArray, List.map_cons, List.map_nil, ev_const, q0, q1])⟩) (by simp) ?_
          refine (refsub_isB (i := y2) (s := S) (j := i) (t := s) HB2.out.symm rfl (St.got E (A := A6) (n := n6) (c := c6) (a := (y2).natAbs) (by simp)) (St.got E (A := A) (n := n) (c := c) (a := (i).natAbs) (by simp)) (by omega) (by omega) (by omega) (by omega) HM2.out HQ0.out).mono ?_; rintro e v124 ⟨X124, m124, d124, rfl, h, hb⟩
          have q124 : m124 ≤ 4500 := len_le h LQ0.out
          replace E := Lib.hid (St.push E.out hb h)
          clear h hb
          have hSw := SBL E (by simp); refine ⟨_, rfl, hSw, ?_⟩; intro a ha
          refine line_all rq8R 9 0 [6, 3, 9, 2, 8, 5, 4, 1, 0] [7] (by decide) (rq8B _ (by decide)) (by simp) ?_
          intro j hj; simp only [List.mem_cons, List.not_mem_nil, or_false] at hj
          subst hj
          refine turn_call0 rq8R 9 0 [6, 3, 9, 2, 8, 5, 4, 1, 0] 7 63 (args := #[.agg #[.bool (ngB q0), .slice X124 m124 d124, .int .i64 (M : Int)]]) rfl (by decide) ha (fun o ho hg => ⟨(wanted_none hg), e_call (by kernel_rfl) ho rfl (by have q0 := ha.ev (i := 62) (v := .agg #[.bool (ngB q0), .slice X124 m124 d124, .int .i64 (M : Int)]) (by simp); simp only [List.map_toArray, List.map_cons, List.map_nil, ev_const, q0])⟩) (by simp) ?_
          refine (refabs_is5 (i := q0) (s := M) (St.got E (A := X124) (n := m124) (c := d124) (a := (q0).natAbs) (by simp)) (by omega) (by omega) HQ.out).mono ?_; rintro e v125 ⟨X125, m125, d125, rfl, h, hb⟩
          have q125 : m125 ≤ 4500 := len_le h LQ.out
          replace E := Lib.hid (St.push E.out hb h)
          clear h hb
          have hSw := SBL E (by simp); refine ⟨_, rfl, hSw, ?_⟩; intro a ha
          refine line_all rq8R 10 0 [7, 6, 3, 9, 2, 8, 5, 4, 1, 0] [10] (by decide) (rq8B _ (by decide)) (by simp) ?_
          intro j hj; simp only [List.mem_cons, List.not_mem_nil, or_false] at hj
          subst hj
          have E2 := Lib.hid (St.store E.out (g := v0.heap.size) (x0 := .bool false) (x1 := .slice none 0 0) (x2 := .int .i64 0) (by simp) (noLimb_bool _) (noLimb_slice _ _ _) (noLimb_int _) [(v106.heap.size, .bool false, .slice none 0 0, .int .i64 0), (g7, (.bool (ngB y1)), (.slice A5 n5 c5), (.int .i64 (S : Int))), (g8, (.bool (ngB i)), (.slice A6 n6 c6), (.int .i64 (S : Int))), ((w.heap.size + 1), .bool false, .slice none 0 0, .int .i64 0), (w.heap.size, (.bool (ngB i)), (.slice A n c), (.int .i64 (s : Int)))] (by simp <;> omega) (.bool (ngB p)) (.slice X123 m123 d123) (.int .i64 (M : Int)))
          refine turn_store rq8R 10 0 [7, 6, 3, 9, 2, 8, 5, 4, 1, 0] 10 (w' := put3 v125 (v0.heap.size) (.bool (ngB p)) (.slice X123 m123 d123) (.int .i64 (M : Int))) rfl ha (fun o ho hg => ⟨(wanted_none hg), e_store ho (ha.ev (i := 9) (v := .pointer (some ⟨v0.heap.size, 0, none⟩)) (by simp)) (ha.ev (i := 59) (v := .agg #[.bool (ngB p), .slice X123 m123 d123, .int .i64 (M : Int)]) (by simp)) (St.at_ (g := v0.heap.size) (x0 := .bool false) (x1 := .slice none 0 0) (x2 := .int .i64 0) E (by simp))⟩) (SBL E2 (by simp)) ?_; intro a ha
          replace E := E2; clear E2
          generalize hW : put3 v125 _ _ _ _ = v126 at E ⊢; clear hW
          have hSw := SBL E (by simp)
          refine line_all rq8R 11 0 [10, 7, 6, 3, 9, 2, 8, 5, 4, 1, 0] [11] (by decide) (rq8B _ (by decide)) (by simp) ?_
          intro j hj; simp only [List.mem_cons, List.not_mem_nil, or_false] at hj
          subst hj
          have E2 := Lib.hid (St.store E.out (g := v106.heap.size) (x0 := .bool false) (x1 := .slice none 0 0) (x2 := .int .i64 0) (by simp) (noLimb_bool _) (noLimb_slice _ _ _) (noLimb_int _) [(v0.heap.size, (.bool (ngB p)), (.slice X123 m123 d123), (.int .i64 (M : Int))), (g7, (.bool (ngB y1)), (.slice A5 n5 c5), (.int .i64 (S : Int))), (g8, (.bool (ngB i)), (.slice A6 n6 c6), (.int .i64 (S : Int))), ((w.heap.size + 1), .bool false, .slice none 0 0, .int .i64 0), (w.heap.size, (.bool (ngB i)), (.slice A n c), (.int .i64 (s : Int)))] (by simp <;> omega) (.bool (ngB q)) (.slice X125 m125 d125) (.int .i64 (M : Int)))
          refine turn_store rq8R 11 0 [10, 7, 6, 3, 9, 2, 8, 5, 4, 1, 0] 11 (w' := put3 v126 (v106.heap.size) (.bool (ngB q)) (.slice X125 m125 d125) (.int .i64 (M : Int))) rfl ha (fun o ho hg => ⟨(wanted_none hg), e_store ho (ha.ev (i := 10) (v := .pointer (some ⟨v106.heap.size, 0, none⟩)) (by simp)) (ha.ev (i := 63) (v := .agg #[.bool (ngB q), .slice X125 m125 d125, .int .i64 (M : Int)]) (by simp)) (St.at_ (g := v106.heap.size) (x0 := .bool false) (x1 := .slice none 0 0) (x2 := .int .i64 0) E (by simp))⟩) (SBL E2 (by simp)) ?_; intro a ha
          replace E := E2; clear E2
          generalize hW : put3 v126 _ _ _ _ = v127 at E ⊢; clear hW
          have hSw := SBL E (by simp)
          refine line_end0 rq8R (show ∀ i, i < 12 → i ∈ [11, 10, 7, 6, 3, 9, 2, 8, 5, 4, 1, 0] by decide) ?_
          exact ⟨rfl, v0.heap.size, v106.heap.size, X123, m123, d123, X125, m125, d125, ha.sub (by simp), by omega, by omega, Lib.hid ((E.out).sub (by simp) (by simp))⟩
      ·
        have lt128_0 := (St.at_ (x0 := .bool false) (x1 := .slice none 0 0) (x2 := .int .i64 0) (g := v0.heap.size) E (by simp)).lt
        have lt128_1 := (St.at_ (x0 := (.bool (ngB y1))) (x1 := (.slice A5 n5 c5)) (x2 := (.int .i64 (S : Int))) (g := g7) E (by simp)).lt
        have lt128_2 := (St.at_ (x0 := (.bool (ngB i))) (x1 := (.slice A6 n6 c6)) (x2 := (.int .i64 (S : Int))) (g := g8) E (by simp)).lt
        have lt128_3 := (St.at_ (x0 := .bool false) (x1 := .slice none 0 0) (x2 := .int .i64 0) (g := (w.heap.size + 1)) E (by simp)).lt
        have lt128_4 := (St.at_ (x0 := (.bool (ngB i))) (x1 := (.slice A n c)) (x2 := (.int .i64 (s : Int))) (g := w.heap.size) E (by simp)).lt
        refine turn_op0 rq8R 5 0 [8, 5, 4, 1, 0] 9 10 (v := .pointer (some ⟨v105.heap.size, 0, none⟩)) (w' := v105.alloc (.cells #[.bool false, .slice none 0 0, .int .i64 0] 25)) rfl (by decide) ha (fun o ho hg => ⟨(wanted_none hg), e_alloc ho⟩) (by simp) (SBL (Lib.hid (St.alloc E.out _)) (by simp)) ?_; intro a ha
        replace E := Lib.hid (St.lay (t := 25) (x0 := .bool false) (x1 := .slice none 0 0) (x2 := .int .i64 0) (g := v105.heap.size) E.out rfl)
        generalize hW : World.alloc v105 _ = v128 at E ⊢; clear hW
        have hSw := SBL E (by simp)
        refine line_all rq8R 6 0 [9, 8, 5, 4, 1, 0] [2] (by decide) (rq8B _ (by decide)) (by simp) ?_
        intro j hj; simp only [List.mem_cons, List.not_mem_nil, or_false] at hj
        subst hj
        refine turn_call0 rq8R 6 0 [9, 8, 5, 4, 1, 0] 2 58 (args := #[.agg #[(.bool (ngB i)), (.slice A n c), (.int .i64 (s : Int))], .agg #[(.bool (ngB y1)), (.slice A5 n5 c5), (.int .i64 (S : Int))]]) rfl (by decide) ha (fun o ho hg => ⟨(wanted_none hg), e_call (by kernel_rfl) ho rfl (by have q0 := ha.ev (i := 56) (v := .agg #[(.bool (ngB i)), (.slice A n c), (.int .i64 (s : Int))]) (by simp); have q1 := ha.ev (i := 57) (v := .agg #[(.bool (ngB y1)), (.slice A5 n5 c5), (.int .i64 (S : Int))]) (by simp); simp only [List.map_toArray, List.map_cons, List.map_nil, ev_const, q0, q1])⟩) (by simp) ?_
        refine (refsub_isB (i := i) (s := s) (j := y1) (t := S) rfl rfl (St.got E (A := A) (n := n) (c := c) (a := (i).natAbs) (by simp)) (St.got E (A := A5) (n := n5) (c := c5) (a := (y1).natAbs) (by simp)) (by omega) (by omega) (by omega) (by omega) HM1.out HP0.out).mono ?_; rintro e v129 ⟨X129, m129, d129, rfl, h, hb⟩
        have q129 : m129 ≤ 4500 := len_le h LP0.out
        replace E := Lib.hid (St.push E.out hb h)
        clear h hb
        have hSw := SBL E (by simp); refine ⟨_, rfl, hSw, ?_⟩; intro a ha
        refine line_all rq8R 7 0 [2, 9, 8, 5, 4, 1, 0] [3] (by decide) (rq8B _ (by decide)) (by simp) ?_
        intro j hj; simp only [List.mem_cons, List.not_mem_nil, or_false] at hj
        subst hj
        refine turn_call0 rq8R 7 0 [2, 9, 8, 5, 4, 1, 0] 3 59 (args := #[.agg #[.bool (ngB p0), .slice X129 m129 d129, .int .i64 (M : Int)]]) rfl (by decide) ha (fun o ho hg => ⟨(wanted_none hg), e_call (by kernel_rfl) ho rfl (by have q0 := ha.ev (i := 58) (v := .agg #[.bool (ngB p0), .slice X129 m129 d129, .int .i64 (M : Int)]) (by simp); simp only [List.map_toArray, List.map_cons, List.map_nil, ev_const, q0])⟩) (by simp) ?_
        refine (refabs_is5 (i := p0) (s := M) (St.got E (A := X129) (n := m129) (c := d129) (a := (p0).natAbs) (by simp)) (by omega) (by omega) HP.out).mono ?_; rintro e v130 ⟨X130, m130, d130, rfl, h, hb⟩
        have q130 : m130 ≤ 4500 := len_le h LP.out
        replace E := Lib.hid (St.push E.out hb h)
        clear h hb
        have hSw := SBL E (by simp); refine ⟨_, rfl, hSw, ?_⟩; intro a ha
        refine line_all rq8R 8 0 [3, 2, 9, 8, 5, 4, 1, 0] [6] (by decide) (rq8B _ (by decide)) (by simp) ?_
        intro j hj; simp only [List.mem_cons, List.not_mem_nil, or_false] at hj
        subst hj
        refine turn_call0 rq8R 8 0 [3, 2, 9, 8, 5, 4, 1, 0] 6 62 (args := #[.agg #[(.bool (ngB i)), (.slice A6 n6 c6), (.int .i64 (S : Int))], .agg #[(.bool (ngB i)), (.slice A n c), (.int .i64 (s : Int))]]) rfl (by decide) ha (fun o ho hg => ⟨(wanted_none hg), e_call (by kernel_rfl) ho rfl (by have q0 := ha.ev (i := 60) (v := .agg #[(.bool (ngB i)), (.slice A6 n6 c6), (.int .i64 (S : Int))]) (by simp); have q1 := ha.ev (i := 61) (v := .agg #[(.bool (ngB i)), (.slice A n c), (.int .i64 (s : Int))]) (by simp); simp only [List.map_toArray, List.map_cons, List.map_nil, ev_const, q0, q1])⟩) (by simp) ?_
        refine (refsub_isB (i := y2) (s := S) (j := i) (t := s) HB2.out.symm rfl (St.got E (A := A6) (n := n6) (c := c6) (a := (y2).natAbs) (by simp)) (St.got E (A := A) (n := n) (c := c) (a := (i).natAbs) (by simp)) (by omega) (by omega) (by omega) (by omega) HM2.out HQ0.out).mono ?_; rintro e v131 ⟨X131, m131, d131, rfl, h, hb⟩
        have q131 : m131 ≤ 4500 := len_le h LQ0.out
        replace E := Lib.hid (St.push E.out hb h)
        clear h hb
        have hSw := SBL E (by simp); refine ⟨_, rfl, hSw, ?_⟩; intro a ha
        refine line_all rq8R 9 0 [6, 3, 2, 9, 8, 5, 4, 1, 0] [7] (by decide) (rq8B _ (by decide)) (by simp) ?_
        intro j hj; simp only [List.mem_cons, List.not_mem_nil, or_false] at hj
        subst hj
        refine turn_call0 rq8R 9 0 [6, 3, 2, 9, 8, 5, 4, 1, 0] 7 63 (args := #[.agg #[.bool (ngB q0), .slice X131 m131 d131, .int .i64 (M : Int)]]) rfl (by decide) ha (fun o ho hg => ⟨(wanted_none hg), e_call (by kernel_rfl) ho rfl (by have q0 := ha.ev (i := 62) (v := .agg #[.bool (ngB q0), .slice X131 m131 d131, .int .i64 (M : Int)]) (by simp); simp only [List.map_toArray, List.map_cons, List.map_nil, ev_const, q0])⟩) (by simp) ?_
        refine (refabs_is5 (i := q0) (s := M) (St.got E (A := X131) (n := m131) (c := d131) (a := (q0).natAbs) (by simp)) (by omega) (by omega) HQ.out).mono ?_; rintro e v132 ⟨X132, m132, d132, rfl, h, hb⟩
        have q132 : m132 ≤ 4500 := len_le h LQ.out
        replace E := Lib.hid (St.push E.out hb h)
        clear h hb
        have hSw := SBL E (by simp); refine ⟨_, rfl, hSw, ?_⟩; intro a ha
        refine line_all rq8R 10 0 [7, 6, 3, 2, 9, 8, 5, 4, 1, 0] [10] (by decide) (rq8B _ (by decide)) (by simp) ?_
        intro j hj; simp only [List.mem_cons, List.not_mem_nil, or_false] at hj
        subst hj
        have E2 := Lib.hid (St.store E.out (g := v0.heap.size) (x0 := .bool false) (x1 := .slice none 0 0) (x2 := .int .i64 0) (by simp) (noLimb_bool _) (noLimb_slice _ _ _) (noLimb_int _) [(v105.heap.size, .bool false, .slice none 0 0, .int .i64 0), (g7, (.bool (ngB y1)), (.slice A5 n5 c5), (.int .i64 (S : Int))), (g8, (.bool (ngB i)), (.slice A6 n6 c6), (.int .i64 (S : Int))), ((w.heap.size + 1), .bool false, .slice none 0 0, .int .i64 0), (w.heap.size, (.bool (ngB i)), (.slice A n c), (.int .i64 (s : Int)))] (by simp <;> omega) (.bool (ngB p)) (.slice X130 m130 d130) (.int .i64 (M : Int)))
        refine turn_store rq8R 10 0 [7, 6, 3, 2, 9, 8, 5, 4, 1, 0] 10 (w' := put3 v132 (v0.heap.size) (.bool (ngB p)) (.slice X130 m130 d130) (.int .i64 (M : Int))) rfl ha (fun o ho hg => ⟨(wanted_none hg), e_store ho (ha.ev (i := 9) (v := .pointer (some ⟨v0.heap.size, 0, none⟩)) (by simp)) (ha.ev (i := 59) (v := .agg #[.bool (ngB p), .slice X130 m130 d130, .int .i64 (M : Int)]) (by simp)) (St.at_ (g := v0.heap.size) (x0 := .bool false) (x1 := .slice none 0 0) (x2 := .int .i64 0) E (by simp))⟩) (SBL E2 (by simp)) ?_; intro a ha
        replace E := E2; clear E2
        generalize hW : put3 v132 _ _ _ _ = v133 at E ⊢; clear hW
        have hSw := SBL E (by simp)
        refine line_all rq8R 11 0 [10, 7, 6, 3, 2, 9, 8, 5, 4, 1, 0] [11] (by decide) (rq8B _ (by decide)) (by simp) ?_
        intro j hj; simp only [List.mem_cons, List.not_mem_nil, or_false] at hj
        subst hj
        have E2 := Lib.hid (St.store E.out (g := v105.heap.size) (x0 := .bool false) (x1 := .slice none 0 0) (x2 := .int .i64 0) (by simp) (noLimb_bool _) (noLimb_slice _ _ _) (noLimb_int _) [(v0.heap.size, (.bool (ngB p)), (.slice X130 m130 d130), (.int .i64 (M : Int))), (g7, (.bool (ngB y1)), (.slice A5 n5 c5), (.int .i64 (S : Int))), (g8, (.bool (ngB i)), (.slice A6 n6 c6), (.int .i64 (S : Int))), ((w.heap.size + 1), .bool false, .slice none 0 0, .int .i64 0), (w.heap.size, (.bool (ngB i)), (.slice A n c), (.int .i64 (s : Int)))] (by simp <;> omega) (.bool (ngB q)) (.slice X132 m132 d132) (.int .i64 (M : Int)))
        refine turn_store rq8R 11 0 [10, 7, 6, 3, 2, 9, 8, 5, 4, 1, 0] 11 (w' := put3 v133 (v105.heap.size) (.bool (ngB q)) (.slice X132 m132 d132) (.int .i64 (M : Int))) rfl ha (fun o ho hg => ⟨(wanted_none hg), e_store ho (ha.ev (i := 10) (v := .pointer (some ⟨v105.heap.size, 0, none⟩)) (by simp)) (ha.ev (i := 63) (v := .agg #[.bool (ngB q), .slice X132 m132 d132, .int .i64 (M : Int)]) (by simp)) (St.at_ (g := v105.heap.size) (x0 := .bool false) (x1 := .slice none 0 0) (x2 := .int .i64 0) E (by simp))⟩) (SBL E2 (by simp)) ?_; intro a ha
        replace E := E2; clear E2
        generalize hW : put3 v133 _ _ _ _ = v134 at E ⊢; clear hW
        have hSw := SBL E (by simp)
        refine line_end0 rq8R (show ∀ i, i < 12 → i ∈ [11, 10, 7, 6, 3, 2, 9, 8, 5, 4, 1, 0] by decide) ?_
        exact ⟨rfl, v0.heap.size, v105.heap.size, X130, m130, d130, X132, m132, d132, ha.sub (by simp), by omega, by omega, Lib.hid ((E.out).sub (by simp) (by simp))⟩
    ·
      have lt135_0 := (St.at_ (x0 := (.bool (ngB y1))) (x1 := (.slice A5 n5 c5)) (x2 := (.int .i64 (S : Int))) (g := g7) E (by simp)).lt
      have lt135_1 := (St.at_ (x0 := (.bool (ngB i))) (x1 := (.slice A6 n6 c6)) (x2 := (.int .i64 (S : Int))) (g := g8) E (by simp)).lt
      have lt135_2 := (St.at_ (x0 := .bool false) (x1 := .slice none 0 0) (x2 := .int .i64 0) (g := (w.heap.size + 1)) E (by simp)).lt
      have lt135_3 := (St.at_ (x0 := (.bool (ngB i))) (x1 := (.slice A n c)) (x2 := (.int .i64 (s : Int))) (g := w.heap.size) E (by simp)).lt
      refine turn_op0 rq8R 4 0 [5, 4, 1, 0] 9 10 (v := .pointer (some ⟨v0.heap.size, 0, none⟩)) (w' := v0.alloc (.cells #[.bool false, .slice none 0 0, .int .i64 0] 25)) rfl (by decide) ha (fun o ho hg => ⟨(wanted_none hg), e_alloc ho⟩) (by simp) (SBL (Lib.hid (St.alloc E.out _)) (by simp)) ?_; intro a ha
      replace E := Lib.hid (St.lay (t := 25) (x0 := .bool false) (x1 := .slice none 0 0) (x2 := .int .i64 0) (g := v0.heap.size) E.out rfl)
      generalize hW : World.alloc v0 _ = v135 at E ⊢; clear hW
      have hSw := SBL E (by simp)
      refine line_all rq8R 5 0 [9, 5, 4, 1, 0] [2, 8] (by decide) (rq8B _ (by decide)) (by simp) ?_
      intro j hj; simp only [List.mem_cons, List.not_mem_nil, or_false] at hj
      rcases hj with rfl | rfl
      ·
        refine turn_call0 rq8R 5 0 [9, 5, 4, 1, 0] 2 58 (args := #[.agg #[(.bool (ngB i)), (.slice A n c), (.int .i64 (s : Int))], .agg #[(.bool (ngB y1)), (.slice A5 n5 c5), (.int .i64 (S : Int))]]) rfl (by decide) ha (fun o ho hg => ⟨(wanted_none hg), e_call (by kernel_rfl) ho rfl (by have q0 := ha.ev (i := 56) (v := .agg #[(.bool (ngB i)), (.slice A n c), (.int .i64 (s : Int))]) (by simp); have q1 := ha.ev (i := 57) (v := .agg #[(.bool (ngB y1)), (.slice A5 n5 c5), (.int .i64 (S : Int))]) (by simp); simp only [List.map_toArray, List.map_cons, List.map_nil, ev_const, q0, q1])⟩) (by simp) ?_
        refine (refsub_isB (i := i) (s := s) (j := y1) (t := S) rfl rfl (St.got E (A := A) (n := n) (c := c) (a := (i).natAbs) (by simp)) (St.got E (A := A5) (n := n5) (c := c5) (a := (y1).natAbs) (by simp)) (by omega) (by omega) (by omega) (by omega) HM1.out HP0.out).mono ?_; rintro e v136 ⟨X136, m136, d136, rfl, h, hb⟩
        have q136 : m136 ≤ 4500 := len_le h LP0.out
        replace E := Lib.hid (St.push E.out hb h)
        clear h hb
        have hSw := SBL E (by simp); refine ⟨_, rfl, hSw, ?_⟩; intro a ha
        refine line_all rq8R 6 0 [2, 9, 5, 4, 1, 0] [3, 8] (by decide) (rq8B _ (by decide)) (by simp) ?_
        intro j hj; simp only [List.mem_cons, List.not_mem_nil, or_false] at hj
        rcases hj with rfl | rfl
        ·
          refine turn_call0 rq8R 6 0 [2, 9, 5, 4, 1, 0] 3 59 (args := #[.agg #[.bool (ngB p0), .slice X136 m136 d136, .int .i64 (M : Int)]]) rfl (by decide) ha (fun o ho hg => ⟨(wanted_none hg), e_call (by kernel_rfl) ho rfl (by have q0 := ha.ev (i := 58) (v := .agg #[.bool (ngB p0), .slice X136 m136 d136, .int .i64 (M : Int)]) (by simp); simp only [List.map_toArray, List.map_cons, List.map_nil, ev_const, q0])⟩) (by simp) ?_
          refine (refabs_is5 (i := p0) (s := M) (St.got E (A := X136) (n := m136) (c := d136) (a := (p0).natAbs) (by simp)) (by omega) (by omega) HP.out).mono ?_; rintro e v137 ⟨X137, m137, d137, rfl, h, hb⟩
          have q137 : m137 ≤ 4500 := len_le h LP.out
          replace E := Lib.hid (St.push E.out hb h)
          clear h hb
          have hSw := SBL E (by simp); refine ⟨_, rfl, hSw, ?_⟩; intro a ha
          refine line_all rq8R 7 0 [3, 2, 9, 5, 4, 1, 0] [6, 8] (by decide) (rq8B _ (by decide)) (by simp) ?_
          intro j hj; simp only [List.mem_cons, List.not_mem_nil, or_false] at hj
          rcases hj with rfl | rfl
          ·
            refine turn_call0 rq8R 7 0 [3, 2, 9, 5, 4, 1, 0] 6 62 (args := #[.agg #[(.bool (ngB i)), (.slice A6 n6 c6), (.int .i64 (S : Int))], .agg #[(.bool (ngB i)), (.slice A n c), (.int .i64 (s : Int))]]) rfl (by decide) ha (fun o ho hg => ⟨(wanted_none hg), e_call (by kernel_rfl) ho rfl (by have q0 := ha.ev (i := 60) (v := .agg #[(.bool (ngB i)), (.slice A6 n6 c6), (.int .i64 (S : Int))]) (by simp); have q1 := ha.ev (i := 61) (v := .agg #[(.bool (ngB i)), (.slice A n c), (.int .i64 (s : Int))]) (by simp); simp only [List.map_toArray, List.map_cons, List.map_nil, ev_const, q0, q1])⟩) (by simp) ?_
            refine (refsub_isB (i := y2) (s := S) (j := i) (t := s) HB2.out.symm rfl (St.got E (A := A6) (n := n6) (c := c6) (a := (y2).natAbs) (by simp)) (St.got E (A := A) (n := n) (c := c) (a := (i).natAbs) (by simp)) (by omega) (by omega) (by omega) (by omega) HM2.out HQ0.out).mono ?_; rintro e v138 ⟨X138, m138, d138, rfl, h, hb⟩
            have q138 : m138 ≤ 4500 := len_le h LQ0.out
            replace E := Lib.hid (St.push E.out hb h)
            clear h hb
            have hSw := SBL E (by simp); refine ⟨_, rfl, hSw, ?_⟩; intro a ha
            refine line_all rq8R 8 0 [6, 3, 2, 9, 5, 4, 1, 0] [7, 8] (by decide) (rq8B _ (by decide)) (by simp) ?_
            intro j hj; simp only [List.mem_cons, List.not_mem_nil, or_false] at hj
            rcases hj with rfl | rfl
            ·
              refine turn_call0 rq8R 8 0 [6, 3, 2, 9, 5, 4, 1, 0] 7 63 (args := #[.agg #[.bool (ngB q0), .slice X138 m138 d138, .int .i64 (M : Int)]]) rfl (by decide) ha (fun o ho hg => ⟨(wanted_none hg), e_call (by kernel_rfl) ho rfl (by have q0 := ha.ev (i := 62) (v := .agg #[.bool (ngB q0), .slice X138 m138 d138, .int .i64 (M : Int)]) (by simp); simp only [List.map_toArray, List.map_cons, List.map_nil, ev_const, q0])⟩) (by simp) ?_
              refine (refabs_is5 (i := q0) (s := M) (St.got E (A := X138) (n := m138) (c := d138) (a := (q0).natAbs) (by simp)) (by omega) (by omega) HQ.out).mono ?_; rintro e v139 ⟨X139, m139, d139, rfl, h, hb⟩
              have q139 : m139 ≤ 4500 := len_le h LQ.out
              replace E := Lib.hid (St.push E.out hb h)
              clear h hb
              have hSw := SBL E (by simp); refine ⟨_, rfl, hSw, ?_⟩; intro a ha
              refine line_all rq8R 9 0 [7, 6, 3, 2, 9, 5, 4, 1, 0] [8] (by decide) (rq8B _ (by decide)) (by simp) ?_
              intro j hj; simp only [List.mem_cons, List.not_mem_nil, or_false] at hj
              subst hj
              have lt140_0 := (St.at_ (x0 := .bool false) (x1 := .slice none 0 0) (x2 := .int .i64 0) (g := v0.heap.size) E (by simp)).lt
              have lt140_1 := (St.at_ (x0 := (.bool (ngB y1))) (x1 := (.slice A5 n5 c5)) (x2 := (.int .i64 (S : Int))) (g := g7) E (by simp)).lt
              have lt140_2 := (St.at_ (x0 := (.bool (ngB i))) (x1 := (.slice A6 n6 c6)) (x2 := (.int .i64 (S : Int))) (g := g8) E (by simp)).lt
              have lt140_3 := (St.at_ (x0 := .bool false) (x1 := .slice none 0 0) (x2 := .int .i64 0) (g := (w.heap.size + 1)) E (by simp)).lt
              have lt140_4 := (St.at_ (x0 := (.bool (ngB i))) (x1 := (.slice A n c)) (x2 := (.int .i64 (s : Int))) (g := w.heap.size) E (by simp)).lt
              refine turn_op0 rq8R 9 0 [7, 6, 3, 2, 9, 5, 4, 1, 0] 8 9 (v := .pointer (some ⟨v139.heap.size, 0, none⟩)) (w' := v139.alloc (.cells #[.bool false, .slice none 0 0, .int .i64 0] 25)) rfl (by decide) ha (fun o ho hg => ⟨(wanted_none hg), e_alloc ho⟩) (by simp) (SBL (Lib.hid (St.alloc E.out _)) (by simp)) ?_; intro a ha
              replace E := Lib.hid (St.lay (t := 25) (x0 := .bool false) (x1 := .slice none 0 0) (x2 := .int .i64 0) (g := v139.heap.size) E.out rfl)
              generalize hW : World.alloc v139 _ = v140 at E ⊢; clear hW
              have hSw := SBL E (by simp)
              refine line_all rq8R 10 0 [8, 7, 6, 3, 2, 9, 5, 4, 1, 0] [10] (by decide) (rq8B _ (by decide)) (by simp) ?_
              intro j hj; simp only [List.mem_cons, List.not_mem_nil, or_false] at hj
              subst hj
              have E2 := Lib.hid (St.store E.out (g := v139.heap.size) (x0 := .bool false) (x1 := .slice none 0 0) (x2 := .int .i64 0) (by simp) (noLimb_bool _) (noLimb_slice _ _ _) (noLimb_int _) [(v0.heap.size, .bool false, .slice none 0 0, .int .i64 0), (g7, (.bool (ngB y1)), (.slice A5 n5 c5), (.int .i64 (S : Int))), (g8, (.bool (ngB i)), (.slice A6 n6 c6), (.int .i64 (S : Int))), ((w.heap.size + 1), .bool false, .slice none 0 0, .int .i64 0), (w.heap.size, (.bool (ngB i)), (.slice A n c), (.int .i64 (s : Int)))] (by simp <;> omega) (.bool (ngB p)) (.slice X137 m137 d137) (.int .i64 (M : Int)))
              refine turn_store rq8R 10 0 [8, 7, 6, 3, 2, 9, 5, 4, 1, 0] 10 (w' := put3 v140 (v139.heap.size) (.bool (ngB p)) (.slice X137 m137 d137) (.int .i64 (M : Int))) rfl ha (fun o ho hg => ⟨(wanted_none hg), e_store ho (ha.ev (i := 9) (v := .pointer (some ⟨v139.heap.size, 0, none⟩)) (by simp)) (ha.ev (i := 59) (v := .agg #[.bool (ngB p), .slice X137 m137 d137, .int .i64 (M : Int)]) (by simp)) (St.at_ (g := v139.heap.size) (x0 := .bool false) (x1 := .slice none 0 0) (x2 := .int .i64 0) E (by simp))⟩) (SBL E2 (by simp)) ?_; intro a ha
              replace E := E2; clear E2
              generalize hW : put3 v140 _ _ _ _ = v141 at E ⊢; clear hW
              have hSw := SBL E (by simp)
              refine line_all rq8R 11 0 [10, 8, 7, 6, 3, 2, 9, 5, 4, 1, 0] [11] (by decide) (rq8B _ (by decide)) (by simp) ?_
              intro j hj; simp only [List.mem_cons, List.not_mem_nil, or_false] at hj
              subst hj
              have E2 := Lib.hid (St.store E.out (g := v0.heap.size) (x0 := .bool false) (x1 := .slice none 0 0) (x2 := .int .i64 0) (by simp) (noLimb_bool _) (noLimb_slice _ _ _) (noLimb_int _) [(v139.heap.size, (.bool (ngB p)), (.slice X137 m137 d137), (.int .i64 (M : Int))), (g7, (.bool (ngB y1)), (.slice A5 n5 c5), (.int .i64 (S : Int))), (g8, (.bool (ngB i)), (.slice A6 n6 c6), (.int .i64 (S : Int))), ((w.heap.size + 1), .bool false, .slice none 0 0, .int .i64 0), (w.heap.size, (.bool (ngB i)), (.slice A n c), (.int .i64 (s : Int)))] (by simp <;> omega) (.bool (ngB q)) (.slice X139 m139 d139) (.int .i64 (M : Int)))
              refine turn_store rq8R 11 0 [10, 8, 7, 6, 3, 2, 9, 5, 4, 1, 0] 11 (w' := put3 v141 (v0.heap.size) (.bool (ngB q)) (.slice X139 m139 d139) (.int .i64 (M : Int))) rfl ha (fun o ho hg => ⟨(wanted_none hg), e_store ho (ha.ev (i := 10) (v := .pointer (some ⟨v0.heap.size, 0, none⟩)) (by simp)) (ha.ev (i := 63) (v := .agg #[.bool (ngB q), .slice X139 m139 d139, .int .i64 (M : Int)]) (by simp)) (St.at_ (g := v0.heap.size) (x0 := .bool false) (x1 := .slice none 0 0) (x2 := .int .i64 0) E (by simp))⟩) (SBL E2 (by simp)) ?_; intro a ha
              replace E := E2; clear E2
              generalize hW : put3 v141 _ _ _ _ = v142 at E ⊢; clear hW
              have hSw := SBL E (by simp)
              refine line_end0 rq8R (show ∀ i, i < 12 → i ∈ [11, 10, 8, 7, 6, 3, 2, 9, 5, 4, 1, 0] by decide) ?_
              exact ⟨rfl, v139.heap.size, v0.heap.size, X137, m137, d137, X139, m139, d139, ha.sub (by simp), by omega, by omega, Lib.hid ((E.out).sub (by simp) (by simp))⟩
            ·
              have lt143_0 := (St.at_ (x0 := .bool false) (x1 := .slice none 0 0) (x2 := .int .i64 0) (g := v0.heap.size) E (by simp)).lt
              have lt143_1 := (St.at_ (x0 := (.bool (ngB y1))) (x1 := (.slice A5 n5 c5)) (x2 := (.int .i64 (S : Int))) (g := g7) E (by simp)).lt
              have lt143_2 := (St.at_ (x0 := (.bool (ngB i))) (x1 := (.slice A6 n6 c6)) (x2 := (.int .i64 (S : Int))) (g := g8) E (by simp)).lt
              have lt143_3 := (St.at_ (x0 := .bool false) (x1 := .slice none 0 0) (x2 := .int .i64 0) (g := (w.heap.size + 1)) E (by simp)).lt
              have lt143_4 := (St.at_ (x0 := (.bool (ngB i))) (x1 := (.slice A n c)) (x2 := (.int .i64 (s : Int))) (g := w.heap.size) E (by simp)).lt
              refine turn_op0 rq8R 8 0 [6, 3, 2, 9, 5, 4, 1, 0] 8 9 (v := .pointer (some ⟨v138.heap.size, 0, none⟩)) (w' := v138.alloc (.cells #[.bool false, .slice none 0 0, .int .i64 0] 25)) rfl (by decide) ha (fun o ho hg => ⟨(wanted_none hg), e_alloc ho⟩) (by simp) (SBL (Lib.hid (St.alloc E.out _)) (by simp)) ?_; intro a ha
              replace E := Lib.hid (St.lay (t := 25) (x0 := .bool false) (x1 := .slice none 0 0) (x2 := .int .i64 0) (g := v138.heap.size) E.out rfl)
              generalize hW : World.alloc v138 _ = v143 at E ⊢; clear hW
              have hSw := SBL E (by simp)
              refine line_all rq8R 9 0 [8, 6, 3, 2, 9, 5, 4, 1, 0] [7] (by decide) (rq8B _ (by decide)) (by simp) ?_
              intro j hj; simp only [List.mem_cons, List.not_mem_nil, or_false] at hj
              subst hj
              refine turn_call0 rq8R 9 0 [8, 6, 3, 2, 9, 5, 4, 1, 0] 7 63 (args := #[.agg #[.bool (ngB q0), .slice X138 m138 d138, .int .i64 (M : Int)]]) rfl (by decide) ha (fun o ho hg => ⟨(wanted_none hg), e_call (by kernel_rfl) ho rfl (by have q0 := ha.ev (i := 62) (v := .agg #[.bool (ngB q0), .slice X138 m138 d138, .int .i64 (M : Int)]) (by simp); simp only [List.map_toArray, List.map_cons, List.map_nil, ev_const, q0])⟩) (by simp) ?_
              refine (refabs_is5 (i := q0) (s := M) (St.got E (A := X138) (n := m138) (c := d138) (a := (q0).natAbs) (by simp)) (by omega) (by omega) HQ.out).mono ?_; rintro e v144 ⟨X144, m144, d144, rfl, h, hb⟩
              have q144 : m144 ≤ 4500 := len_le h LQ.out
              replace E := Lib.hid (St.push E.out hb h)
              clear h hb
              have hSw := SBL E (by simp); refine ⟨_, rfl, hSw, ?_⟩; intro a ha
              refine line_all rq8R 10 0 [7, 8, 6, 3, 2, 9, 5, 4, 1, 0] [10] (by decide) (rq8B _ (by decide)) (by simp) ?_
              intro j hj; simp only [List.mem_cons, List.not_mem_nil, or_false] at hj
              subst hj
              have E2 := Lib.hid (St.store E.out (g := v138.heap.size) (x0 := .bool false) (x1 := .slice none 0 0) (x2 := .int .i64 0) (by simp) (noLimb_bool _) (noLimb_slice _ _ _) (noLimb_int _) [(v0.heap.size, .bool false, .slice none 0 0, .int .i64 0), (g7, (.bool (ngB y1)), (.slice A5 n5 c5), (.int .i64 (S : Int))), (g8, (.bool (ngB i)), (.slice A6 n6 c6), (.int .i64 (S : Int))), ((w.heap.size + 1), .bool false, .slice none 0 0, .int .i64 0), (w.heap.size, (.bool (ngB i)), (.slice A n c), (.int .i64 (s : Int)))] (by simp <;> omega) (.bool (ngB p)) (.slice X137 m137 d137) (.int .i64 (M : Int)))
              refine turn_store rq8R 10 0 [7, 8, 6, 3, 2, 9, 5, 4, 1, 0] 10 (w' := put3 v144 (v138.heap.size) (.bool (ngB p)) (.slice X137 m137 d137) (.int .i64 (M : Int))) rfl ha (fun o ho hg => ⟨(wanted_none hg), e_store ho (ha.ev (i := 9) (v := .pointer (some ⟨v138.heap.size, 0, none⟩)) (by simp)) (ha.ev (i := 59) (v := .agg #[.bool (ngB p), .slice X137 m137 d137, .int .i64 (M : Int)]) (by simp)) (St.at_ (g := v138.heap.size) (x0 := .bool false) (x1 := .slice none 0 0) (x2 := .int .i64 0) E (by simp))⟩) (SBL E2 (by simp)) ?_; intro a ha
              replace E := E2; clear E2
              generalize hW : put3 v144 _ _ _ _ = v145 at E ⊢; clear hW
              have hSw := SBL E (by simp)
              refine line_all rq8R 11 0 [10, 7, 8, 6, 3, 2, 9, 5, 4, 1, 0] [11] (by decide) (rq8B _ (by decide)) (by simp) ?_
              intro j hj; simp only [List.mem_cons, List.not_mem_nil, or_false] at hj
              subst hj
              have E2 := Lib.hid (St.store E.out (g := v0.heap.size) (x0 := .bool false) (x1 := .slice none 0 0) (x2 := .int .i64 0) (by simp) (noLimb_bool _) (noLimb_slice _ _ _) (noLimb_int _) [(v138.heap.size, (.bool (ngB p)), (.slice X137 m137 d137), (.int .i64 (M : Int))), (g7, (.bool (ngB y1)), (.slice A5 n5 c5), (.int .i64 (S : Int))), (g8, (.bool (ngB i)), (.slice A6 n6 c6), (.int .i64 (S : Int))), ((w.heap.size + 1), .bool false, .slice none 0 0, .int .i64 0), (w.heap.size, (.bool (ngB i)), (.slice A n c), (.int .i64 (s : Int)))] (by simp <;> omega) (.bool (ngB q)) (.slice X144 m144 d144) (.int .i64 (M : Int)))
              refine turn_store rq8R 11 0 [10, 7, 8, 6, 3, 2, 9, 5, 4, 1, 0] 11 (w' := put3 v145 (v0.heap.size) (.bool (ngB q)) (.slice X144 m144 d144) (.int .i64 (M : Int))) rfl ha (fun o ho hg => ⟨(wanted_none hg), e_store ho (ha.ev (i := 10) (v := .pointer (some ⟨v0.heap.size, 0, none⟩)) (by simp)) (ha.ev (i := 63) (v := .agg #[.bool (ngB q), .slice X144 m144 d144, .int .i64 (M : Int)]) (by simp)) (St.at_ (g := v0.heap.size) (x0 := .bool false) (x1 := .slice none 0 0) (x2 := .int .i64 0) E (by simp))⟩) (SBL E2 (by simp)) ?_; intro a ha
              replace E := E2; clear E2
              generalize hW : put3 v145 _ _ _ _ = v146 at E ⊢; clear hW
              have hSw := SBL E (by simp)
              refine line_end0 rq8R (show ∀ i, i < 12 → i ∈ [11, 10, 7, 8, 6, 3, 2, 9, 5, 4, 1, 0] by decide) ?_
              exact ⟨rfl, v138.heap.size, v0.heap.size, X137, m137, d137, X144, m144, d144, ha.sub (by simp), by omega, by omega, Lib.hid ((E.out).sub (by simp) (by simp))⟩
          ·
            have lt147_0 := (St.at_ (x0 := .bool false) (x1 := .slice none 0 0) (x2 := .int .i64 0) (g := v0.heap.size) E (by simp)).lt
            have lt147_1 := (St.at_ (x0 := (.bool (ngB y1))) (x1 := (.slice A5 n5 c5)) (x2 := (.int .i64 (S : Int))) (g := g7) E (by simp)).lt
            have lt147_2 := (St.at_ (x0 := (.bool (ngB i))) (x1 := (.slice A6 n6 c6)) (x2 := (.int .i64 (S : Int))) (g := g8) E (by simp)).lt
            have lt147_3 := (St.at_ (x0 := .bool false) (x1 := .slice none 0 0) (x2 := .int .i64 0) (g := (w.heap.size + 1)) E (by simp)).lt
            have lt147_4 := (St.at_ (x0 := (.bool (ngB i))) (x1 := (.slice A n c)) (x2 := (.int .i64 (s : Int))) (g := w.heap.size) E (by simp)).lt
            refine turn_op0 rq8R 7 0 [3, 2, 9, 5, 4, 1, 0] 8 9 (v := .pointer (some ⟨v137.heap.size, 0, none⟩)) (w' := v137.alloc (.cells #[.bool false, .slice none 0 0, .int .i64 0] 25)) rfl (by decide) ha (fun o ho hg => ⟨(wanted_none hg), e_alloc ho⟩) (by simp) (SBL (Lib.hid (St.alloc E.out _)) (by simp)) ?_; intro a ha
            replace E := Lib.hid (St.lay (t := 25) (x0 := .bool false) (x1 := .slice none 0 0) (x2 := .int .i64 0) (g := v137.heap.size) E.out rfl)
            generalize hW : World.alloc v137 _ = v147 at E ⊢; clear hW
            have hSw := SBL E (by simp)
            refine line_all rq8R 8 0 [8, 3, 2, 9, 5, 4, 1, 0] [6] (by decide) (rq8B _ (by decide)) (by simp) ?_
            intro j hj; simp only [List.mem_cons, List.not_mem_nil, or_false] at hj
            subst hj
            refine turn_call0 rq8R 8 0 [8, 3, 2, 9, 5, 4, 1, 0] 6 62 (args := #[.agg #[(.bool (ngB i)), (.slice A6 n6 c6), (.int .i64 (S : Int))], .agg #[(.bool (ngB i)), (.slice A n c), (.int .i64 (s : Int))]]) rfl (by decide) ha (fun o ho hg => ⟨(wanted_none hg), e_call (by kernel_rfl) ho rfl (by have q0 := ha.ev (i := 60) (v := .agg #[(.bool (ngB i)), (.slice A6 n6 c6), (.int .i64 (S : Int))]) (by simp); have q1 := ha.ev (i := 61) (v := .agg #[(.bool (ngB i)), (.slice A n c), (.int .i64 (s : Int))]) (by simp); simp only [List.map_toArray, List.map_cons, List.map_nil, ev_const, q0, q1])⟩) (by simp) ?_
            refine (refsub_isB (i := y2) (s := S) (j := i) (t := s) HB2.out.symm rfl (St.got E (A := A6) (n := n6) (c := c6) (a := (y2).natAbs) (by simp)) (St.got E (A := A) (n := n) (c := c) (a := (i).natAbs) (by simp)) (by omega) (by omega) (by omega) (by omega) HM2.out HQ0.out).mono ?_; rintro e v148 ⟨X148, m148, d148, rfl, h, hb⟩
            have q148 : m148 ≤ 4500 := len_le h LQ0.out
            replace E := Lib.hid (St.push E.out hb h)
            clear h hb
            have hSw := SBL E (by simp); refine ⟨_, rfl, hSw, ?_⟩; intro a ha
            refine line_all rq8R 9 0 [6, 8, 3, 2, 9, 5, 4, 1, 0] [7] (by decide) (rq8B _ (by decide)) (by simp) ?_
            intro j hj; simp only [List.mem_cons, List.not_mem_nil, or_false] at hj
            subst hj
            refine turn_call0 rq8R 9 0 [6, 8, 3, 2, 9, 5, 4, 1, 0] 7 63 (args := #[.agg #[.bool (ngB q0), .slice X148 m148 d148, .int .i64 (M : Int)]]) rfl (by decide) ha (fun o ho hg => ⟨(wanted_none hg), e_call (by kernel_rfl) ho rfl (by have q0 := ha.ev (i := 62) (v := .agg #[.bool (ngB q0), .slice X148 m148 d148, .int .i64 (M : Int)]) (by simp); simp only [List.map_toArray, List.map_cons, List.map_nil, ev_const, q0])⟩) (by simp) ?_
            refine (refabs_is5 (i := q0) (s := M) (St.got E (A := X148) (n := m148) (c := d148) (a := (q0).natAbs) (by simp)) (by omega) (by omega) HQ.out).mono ?_; rintro e v149 ⟨X149, m149, d149, rfl, h, hb⟩
            have q149 : m149 ≤ 4500 := len_le h LQ.out
            replace E := Lib.hid (St.push E.out hb h)
            clear h hb
            have hSw := SBL E (by simp); refine ⟨_, rfl, hSw, ?_⟩; intro a ha
            refine line_all rq8R 10 0 [7, 6, 8, 3, 2, 9, 5, 4, 1, 0] [10] (by decide) (rq8B _ (by decide)) (by simp) ?_
            intro j hj; simp only [List.mem_cons, List.not_mem_nil, or_false] at hj
            subst hj
            have E2 := Lib.hid (St.store E.out (g := v137.heap.size) (x0 := .bool false) (x1 := .slice none 0 0) (x2 := .int .i64 0) (by simp) (noLimb_bool _) (noLimb_slice _ _ _) (noLimb_int _) [(v0.heap.size, .bool false, .slice none 0 0, .int .i64 0), (g7, (.bool (ngB y1)), (.slice A5 n5 c5), (.int .i64 (S : Int))), (g8, (.bool (ngB i)), (.slice A6 n6 c6), (.int .i64 (S : Int))), ((w.heap.size + 1), .bool false, .slice none 0 0, .int .i64 0), (w.heap.size, (.bool (ngB i)), (.slice A n c), (.int .i64 (s : Int)))] (by simp <;> omega) (.bool (ngB p)) (.slice X137 m137 d137) (.int .i64 (M : Int)))
            refine turn_store rq8R 10 0 [7, 6, 8, 3, 2, 9, 5, 4, 1, 0] 10 (w' := put3 v149 (v137.heap.size) (.bool (ngB p)) (.slice X137 m137 d137) (.int .i64 (M : Int))) rfl ha (fun o ho hg => ⟨(wanted_none hg), e_store ho (ha.ev (i := 9) (v := .pointer (some ⟨v137.heap.size, 0, none⟩)) (by simp)) (ha.ev (i := 59) (v := .agg #[.bool (ngB p), .slice X137 m137 d137, .int .i64 (M : Int)]) (by simp)) (St.at_ (g := v137.heap.size) (x0 := .bool false) (x1 := .slice none 0 0) (x2 := .int .i64 0) E (by simp))⟩) (SBL E2 (by simp)) ?_; intro a ha
            replace E := E2; clear E2
            generalize hW : put3 v149 _ _ _ _ = v150 at E ⊢; clear hW
            have hSw := SBL E (by simp)
            refine line_all rq8R 11 0 [10, 7, 6, 8, 3, 2, 9, 5, 4, 1, 0] [11] (by decide) (rq8B _ (by decide)) (by simp) ?_
            intro j hj; simp only [List.mem_cons, List.not_mem_nil, or_false] at hj
            subst hj
            have E2 := Lib.hid (St.store E.out (g := v0.heap.size) (x0 := .bool false) (x1 := .slice none 0 0) (x2 := .int .i64 0) (by simp) (noLimb_bool _) (noLimb_slice _ _ _) (noLimb_int _) [(v137.heap.size, (.bool (ngB p)), (.slice X137 m137 d137), (.int .i64 (M : Int))), (g7, (.bool (ngB y1)), (.slice A5 n5 c5), (.int .i64 (S : Int))), (g8, (.bool (ngB i)), (.slice A6 n6 c6), (.int .i64 (S : Int))), ((w.heap.size + 1), .bool false, .slice none 0 0, .int .i64 0), (w.heap.size, (.bool (ngB i)), (.slice A n c), (.int .i64 (s : Int)))] (by simp <;> omega) (.bool (ngB q)) (.slice X149 m149 d149) (.int .i64 (M : Int)))
            refine turn_store rq8R 11 0 [10, 7, 6, 8, 3, 2, 9, 5, 4, 1, 0] 11 (w' := put3 v150 (v0.heap.size) (.bool (ngB q)) (.slice X149 m149 d149) (.int .i64 (M : Int))) rfl ha (fun o ho hg => ⟨(wanted_none hg), e_store ho (ha.ev (i := 10) (v := .pointer (some ⟨v0.heap.size, 0, none⟩)) (by simp)) (ha.ev (i := 63) (v := .agg #[.bool (ngB q), .slice X149 m149 d149, .int .i64 (M : Int)]) (by simp)) (St.at_ (g := v0.heap.size) (x0 := .bool false) (x1 := .slice none 0 0) (x2 := .int .i64 0) E (by simp))⟩) (SBL E2 (by simp)) ?_; intro a ha
            replace E := E2; clear E2
            generalize hW : put3 v150 _ _ _ _ = v151 at E ⊢; clear hW
            have hSw := SBL E (by simp)
            refine line_end0 rq8R (show ∀ i, i < 12 → i ∈ [11, 10, 7, 6, 8, 3, 2, 9, 5, 4, 1, 0] by decide) ?_
            exact ⟨rfl, v137.heap.size, v0.heap.size, X137, m137, d137, X149, m149, d149, ha.sub (by simp), by omega, by omega, Lib.hid ((E.out).sub (by simp) (by simp))⟩
        ·
          have lt152_0 := (St.at_ (x0 := .bool false) (x1 := .slice none 0 0) (x2 := .int .i64 0) (g := v0.heap.size) E (by simp)).lt
          have lt152_1 := (St.at_ (x0 := (.bool (ngB y1))) (x1 := (.slice A5 n5 c5)) (x2 := (.int .i64 (S : Int))) (g := g7) E (by simp)).lt
          have lt152_2 := (St.at_ (x0 := (.bool (ngB i))) (x1 := (.slice A6 n6 c6)) (x2 := (.int .i64 (S : Int))) (g := g8) E (by simp)).lt
          have lt152_3 := (St.at_ (x0 := .bool false) (x1 := .slice none 0 0) (x2 := .int .i64 0) (g := (w.heap.size + 1)) E (by simp)).lt
          have lt152_4 := (St.at_ (x0 := (.bool (ngB i))) (x1 := (.slice A n c)) (x2 := (.int .i64 (s : Int))) (g := w.heap.size) E (by simp)).lt
          refine turn_op0 rq8R 6 0 [2, 9, 5, 4, 1, 0] 8 9 (v := .pointer (some ⟨v136.heap.size, 0, none⟩)) (w' := v136.alloc (.cells #[.bool false, .slice none 0 0, .int .i64 0] 25)) rfl (by decide) ha (fun o ho hg => ⟨(wanted_none hg), e_alloc ho⟩) (by simp) (SBL (Lib.hid (St.alloc E.out _)) (by simp)) ?_; intro a ha
          replace E := Lib.hid (St.lay (t := 25) (x0 := .bool false) (x1 := .slice none 0 0) (x2 := .int .i64 0) (g := v136.heap.size) E.out rfl)
          generalize hW : World.alloc v136 _ = v152 at E ⊢; clear hW
          have hSw := SBL E (by simp)
          refine line_all rq8R 7 0 [8, 2, 9, 5, 4, 1, 0] [3] (by decide) (rq8B _ (by decide)) (by simp) ?_
          intro j hj; simp only [List.mem_cons, List.not_mem_nil, or_false] at hj
          subst hj
          refine turn_call0 rq8R 7 0 [8, 2, 9, 5, 4, 1, 0] 3 59 (args := #[.agg #[.bool (ngB p0), .slice X136 m136 d136, .int .i64 (M : Int)]]) rfl (by decide) ha (fun o ho hg => ⟨(wanted_none hg), e_call (by kernel_rfl) ho rfl (by have q0 := ha.ev (i := 58) (v := .agg #[.bool (ngB p0), .slice X136 m136 d136, .int .i64 (M : Int)]) (by simp); simp only [List.map_toArray, List.map_cons, List.map_nil, ev_const, q0])⟩) (by simp) ?_
          refine (refabs_is5 (i := p0) (s := M) (St.got E (A := X136) (n := m136) (c := d136) (a := (p0).natAbs) (by simp)) (by omega) (by omega) HP.out).mono ?_; rintro e v153 ⟨X153, m153, d153, rfl, h, hb⟩
          have q153 : m153 ≤ 4500 := len_le h LP.out
          replace E := Lib.hid (St.push E.out hb h)
          clear h hb
          have hSw := SBL E (by simp); refine ⟨_, rfl, hSw, ?_⟩; intro a ha
          refine line_all rq8R 8 0 [3, 8, 2, 9, 5, 4, 1, 0] [6] (by decide) (rq8B _ (by decide)) (by simp) ?_
          intro j hj; simp only [List.mem_cons, List.not_mem_nil, or_false] at hj
          subst hj
          refine turn_call0 rq8R 8 0 [3, 8, 2, 9, 5, 4, 1, 0] 6 62 (args := #[.agg #[(.bool (ngB i)), (.slice A6 n6 c6), (.int .i64 (S : Int))], .agg #[(.bool (ngB i)), (.slice A n c), (.int .i64 (s : Int))]]) rfl (by decide) ha (fun o ho hg => ⟨(wanted_none hg), e_call (by kernel_rfl) ho rfl (by have q0 := ha.ev (i := 60) (v := .agg #[(.bool (ngB i)), (.slice A6 n6 c6), (.int .i64 (S : Int))]) (by simp); have q1 := ha.ev (i := 61) (v := .agg #[(.bool (ngB i)), (.slice A n c), (.int .i64 (s : Int))]) (by simp); simp only [List.map_toArray, List.map_cons, List.map_nil, ev_const, q0, q1])⟩) (by simp) ?_
          refine (refsub_isB (i := y2) (s := S) (j := i) (t := s) HB2.out.symm rfl (St.got E (A := A6) (n := n6) (c := c6) (a := (y2).natAbs) (by simp)) (St.got E (A := A) (n := n) (c := c) (a := (i).natAbs) (by simp)) (by omega) (by omega) (by omega) (by omega) HM2.out HQ0.out).mono ?_; rintro e v154 ⟨X154, m154, d154, rfl, h, hb⟩
          have q154 : m154 ≤ 4500 := len_le h LQ0.out
          replace E := Lib.hid (St.push E.out hb h)
          clear h hb
          have hSw := SBL E (by simp); refine ⟨_, rfl, hSw, ?_⟩; intro a ha
          refine line_all rq8R 9 0 [6, 3, 8, 2, 9, 5, 4, 1, 0] [7] (by decide) (rq8B _ (by decide)) (by simp) ?_
          intro j hj; simp only [List.mem_cons, List.not_mem_nil, or_false] at hj
          subst hj
          refine turn_call0 rq8R 9 0 [6, 3, 8, 2, 9, 5, 4, 1, 0] 7 63 (args := #[.agg #[.bool (ngB q0), .slice X154 m154 d154, .int .i64 (M : Int)]]) rfl (by decide) ha (fun o ho hg => ⟨(wanted_none hg), e_call (by kernel_rfl) ho rfl (by have q0 := ha.ev (i := 62) (v := .agg #[.bool (ngB q0), .slice X154 m154 d154, .int .i64 (M : Int)]) (by simp); simp only [List.map_toArray, List.map_cons, List.map_nil, ev_const, q0])⟩) (by simp) ?_
          refine (refabs_is5 (i := q0) (s := M) (St.got E (A := X154) (n := m154) (c := d154) (a := (q0).natAbs) (by simp)) (by omega) (by omega) HQ.out).mono ?_; rintro e v155 ⟨X155, m155, d155, rfl, h, hb⟩
          have q155 : m155 ≤ 4500 := len_le h LQ.out
          replace E := Lib.hid (St.push E.out hb h)
          clear h hb
          have hSw := SBL E (by simp); refine ⟨_, rfl, hSw, ?_⟩; intro a ha
          refine line_all rq8R 10 0 [7, 6, 3, 8, 2, 9, 5, 4, 1, 0] [10] (by decide) (rq8B _ (by decide)) (by simp) ?_
          intro j hj; simp only [List.mem_cons, List.not_mem_nil, or_false] at hj
          subst hj
          have E2 := Lib.hid (St.store E.out (g := v136.heap.size) (x0 := .bool false) (x1 := .slice none 0 0) (x2 := .int .i64 0) (by simp) (noLimb_bool _) (noLimb_slice _ _ _) (noLimb_int _) [(v0.heap.size, .bool false, .slice none 0 0, .int .i64 0), (g7, (.bool (ngB y1)), (.slice A5 n5 c5), (.int .i64 (S : Int))), (g8, (.bool (ngB i)), (.slice A6 n6 c6), (.int .i64 (S : Int))), ((w.heap.size + 1), .bool false, .slice none 0 0, .int .i64 0), (w.heap.size, (.bool (ngB i)), (.slice A n c), (.int .i64 (s : Int)))] (by simp <;> omega) (.bool (ngB p)) (.slice X153 m153 d153) (.int .i64 (M : Int)))
          refine turn_store rq8R 10 0 [7, 6, 3, 8, 2, 9, 5, 4, 1, 0] 10 (w' := put3 v155 (v136.heap.size) (.bool (ngB p)) (.slice X153 m153 d153) (.int .i64 (M : Int))) rfl ha (fun o ho hg => ⟨(wanted_none hg), e_store ho (ha.ev (i := 9) (v := .pointer (some ⟨v136.heap.size, 0, none⟩)) (by simp)) (ha.ev (i := 59) (v := .agg #[.bool (ngB p), .slice X153 m153 d153, .int .i64 (M : Int)]) (by simp)) (St.at_ (g := v136.heap.size) (x0 := .bool false) (x1 := .slice none 0 0) (x2 := .int .i64 0) E (by simp))⟩) (SBL E2 (by simp)) ?_; intro a ha
          replace E := E2; clear E2
          generalize hW : put3 v155 _ _ _ _ = v156 at E ⊢; clear hW
          have hSw := SBL E (by simp)
          refine line_all rq8R 11 0 [10, 7, 6, 3, 8, 2, 9, 5, 4, 1, 0] [11] (by decide) (rq8B _ (by decide)) (by simp) ?_
          intro j hj; simp only [List.mem_cons, List.not_mem_nil, or_false] at hj
          subst hj
          have E2 := Lib.hid (St.store E.out (g := v0.heap.size) (x0 := .bool false) (x1 := .slice none 0 0) (x2 := .int .i64 0) (by simp) (noLimb_bool _) (noLimb_slice _ _ _) (noLimb_int _) [(v136.heap.size, (.bool (ngB p)), (.slice X153 m153 d153), (.int .i64 (M : Int))), (g7, (.bool (ngB y1)), (.slice A5 n5 c5), (.int .i64 (S : Int))), (g8, (.bool (ngB i)), (.slice A6 n6 c6), (.int .i64 (S : Int))), ((w.heap.size + 1), .bool false, .slice none 0 0, .int .i64 0), (w.heap.size, (.bool (ngB i)), (.slice A n c), (.int .i64 (s : Int)))] (by simp <;> omega) (.bool (ngB q)) (.slice X155 m155 d155) (.int .i64 (M : Int)))
          refine turn_store rq8R 11 0 [10, 7, 6, 3, 8, 2, 9, 5, 4, 1, 0] 11 (w' := put3 v156 (v0.heap.size) (.bool (ngB q)) (.slice X155 m155 d155) (.int .i64 (M : Int))) rfl ha (fun o ho hg => ⟨(wanted_none hg), e_store ho (ha.ev (i := 10) (v := .pointer (some ⟨v0.heap.size, 0, none⟩)) (by simp)) (ha.ev (i := 63) (v := .agg #[.bool (ngB q), .slice X155 m155 d155, .int .i64 (M : Int)]) (by simp)) (St.at_ (g := v0.heap.size) (x0 := .bool false) (x1 := .slice none 0 0) (x2 := .int .i64 0) E (by simp))⟩) (SBL E2 (by simp)) ?_; intro a ha
          replace E := E2; clear E2
          generalize hW : put3 v156 _ _ _ _ = v157 at E ⊢; clear hW
          have hSw := SBL E (by simp)
          refine line_end0 rq8R (show ∀ i, i < 12 → i ∈ [11, 10, 7, 6, 3, 8, 2, 9, 5, 4, 1, 0] by decide) ?_
          exact ⟨rfl, v136.heap.size, v0.heap.size, X153, m153, d153, X155, m155, d155, ha.sub (by simp), by omega, by omega, Lib.hid ((E.out).sub (by simp) (by simp))⟩
      ·
        have lt158_0 := (St.at_ (x0 := .bool false) (x1 := .slice none 0 0) (x2 := .int .i64 0) (g := v0.heap.size) E (by simp)).lt
        have lt158_1 := (St.at_ (x0 := (.bool (ngB y1))) (x1 := (.slice A5 n5 c5)) (x2 := (.int .i64 (S : Int))) (g := g7) E (by simp)).lt
        have lt158_2 := (St.at_ (x0 := (.bool (ngB i))) (x1 := (.slice A6 n6 c6)) (x2 := (.int .i64 (S : Int))) (g := g8) E (by simp)).lt
        have lt158_3 := (St.at_ (x0 := .bool false) (x1 := .slice none 0 0) (x2 := .int .i64 0) (g := (w.heap.size + 1)) E (by simp)).lt
        have lt158_4 := (St.at_ (x0 := (.bool (ngB i))) (x1 := (.slice A n c)) (x2 := (.int .i64 (s : Int))) (g := w.heap.size) E (by simp)).lt
        refine turn_op0 rq8R 5 0 [9, 5, 4, 1, 0] 8 9 (v := .pointer (some ⟨v135.heap.size, 0, none⟩)) (w' := v135.alloc (.cells #[.bool false, .slice none 0 0, .int .i64 0] 25)) rfl (by decide) ha (fun o ho hg => ⟨(wanted_none hg), e_alloc ho⟩) (by simp) (SBL (Lib.hid (St.alloc E.out _)) (by simp)) ?_; intro a ha
        replace E := Lib.hid (St.lay (t := 25) (x0 := .bool false) (x1 := .slice none 0 0) (x2 := .int .i64 0) (g := v135.heap.size) E.out rfl)
        generalize hW : World.alloc v135 _ = v158 at E ⊢; clear hW
        have hSw := SBL E (by simp)
        refine line_all rq8R 6 0 [8, 9, 5, 4, 1, 0] [2] (by decide) (rq8B _ (by decide)) (by simp) ?_
        intro j hj; simp only [List.mem_cons, List.not_mem_nil, or_false] at hj
        subst hj
        refine turn_call0 rq8R 6 0 [8, 9, 5, 4, 1, 0] 2 58 (args := #[.agg #[(.bool (ngB i)), (.slice A n c), (.int .i64 (s : Int))], .agg #[(.bool (ngB y1)), (.slice A5 n5 c5), (.int .i64 (S : Int))]]) rfl (by decide) ha (fun o ho hg => ⟨(wanted_none hg), e_call (by kernel_rfl) ho rfl (by have q0 := ha.ev (i := 56) (v := .agg #[(.bool (ngB i)), (.slice A n c), (.int .i64 (s : Int))]) (by simp); have q1 := ha.ev (i := 57) (v := .agg #[(.bool (ngB y1)), (.slice A5 n5 c5), (.int .i64 (S : Int))]) (by simp); simp only [List.map_toArray, List.map_cons, List.map_nil, ev_const, q0, q1])⟩) (by simp) ?_
        refine (refsub_isB (i := i) (s := s) (j := y1) (t := S) rfl rfl (St.got E (A := A) (n := n) (c := c) (a := (i).natAbs) (by simp)) (St.got E (A := A5) (n := n5) (c := c5) (a := (y1).natAbs) (by simp)) (by omega) (by omega) (by omega) (by omega) HM1.out HP0.out).mono ?_; rintro e v159 ⟨X159, m159, d159, rfl, h, hb⟩
        have q159 : m159 ≤ 4500 := len_le h LP0.out
        replace E := Lib.hid (St.push E.out hb h)
        clear h hb
        have hSw := SBL E (by simp); refine ⟨_, rfl, hSw, ?_⟩; intro a ha
        refine line_all rq8R 7 0 [2, 8, 9, 5, 4, 1, 0] [3] (by decide) (rq8B _ (by decide)) (by simp) ?_
        intro j hj; simp only [List.mem_cons, List.not_mem_nil, or_false] at hj
        subst hj
        refine turn_call0 rq8R 7 0 [2, 8, 9, 5, 4, 1, 0] 3 59 (args := #[.agg #[.bool (ngB p0), .slice X159 m159 d159, .int .i64 (M : Int)]]) rfl (by decide) ha (fun o ho hg => ⟨(wanted_none hg), e_call (by kernel_rfl) ho rfl (by have q0 := ha.ev (i := 58) (v := .agg #[.bool (ngB p0), .slice X159 m159 d159, .int .i64 (M : Int)]) (by simp); simp only [List.map_toArray, List.map_cons, List.map_nil, ev_const, q0])⟩) (by simp) ?_
        refine (refabs_is5 (i := p0) (s := M) (St.got E (A := X159) (n := m159) (c := d159) (a := (p0).natAbs) (by simp)) (by omega) (by omega) HP.out).mono ?_; rintro e v160 ⟨X160, m160, d160, rfl, h, hb⟩
        have q160 : m160 ≤ 4500 := len_le h LP.out
        replace E := Lib.hid (St.push E.out hb h)
        clear h hb
        have hSw := SBL E (by simp); refine ⟨_, rfl, hSw, ?_⟩; intro a ha
        refine line_all rq8R 8 0 [3, 2, 8, 9, 5, 4, 1, 0] [6] (by decide) (rq8B _ (by decide)) (by simp) ?_
        intro j hj; simp only [List.mem_cons, List.not_mem_nil, or_false] at hj
        subst hj
        refine turn_call0 rq8R 8 0 [3, 2, 8, 9, 5, 4, 1, 0] 6 62 (args := #[.agg #[(.bool (ngB i)), (.slice A6 n6 c6), (.int .i64 (S : Int))], .agg #[(.bool (ngB i)), (.slice A n c), (.int .i64 (s : Int))]]) rfl (by decide) ha (fun o ho hg => ⟨(wanted_none hg), e_call (by kernel_rfl) ho rfl (by have q0 := ha.ev (i := 60) (v := .agg #[(.bool (ngB i)), (.slice A6 n6 c6), (.int .i64 (S : Int))]) (by simp); have q1 := ha.ev (i := 61) (v := .agg #[(.bool (ngB i)), (.slice A n c), (.int .i64 (s : Int))]) (by simp); simp only [List.map_toArray, List.map_cons, List.map_nil, ev_const, q0, q1])⟩) (by simp) ?_
        refine (refsub_isB (i := y2) (s := S) (j := i) (t := s) HB2.out.symm rfl (St.got E (A := A6) (n := n6) (c := c6) (a := (y2).natAbs) (by simp)) (St.got E (A := A) (n := n) (c := c) (a := (i).natAbs) (by simp)) (by omega) (by omega) (by omega) (by omega) HM2.out HQ0.out).mono ?_; rintro e v161 ⟨X161, m161, d161, rfl, h, hb⟩
        have q161 : m161 ≤ 4500 := len_le h LQ0.out
        replace E := Lib.hid (St.push E.out hb h)
        clear h hb
        have hSw := SBL E (by simp); refine ⟨_, rfl, hSw, ?_⟩; intro a ha
        refine line_all rq8R 9 0 [6, 3, 2, 8, 9, 5, 4, 1, 0] [7] (by decide) (rq8B _ (by decide)) (by simp) ?_
        intro j hj; simp only [List.mem_cons, List.not_mem_nil, or_false] at hj
        subst hj
        refine turn_call0 rq8R 9 0 [6, 3, 2, 8, 9, 5, 4, 1, 0] 7 63 (args := #[.agg #[.bool (ngB q0), .slice X161 m161 d161, .int .i64 (M : Int)]]) rfl (by decide) ha (fun o ho hg => ⟨(wanted_none hg), e_call (by kernel_rfl) ho rfl (by have q0 := ha.ev (i := 62) (v := .agg #[.bool (ngB q0), .slice X161 m161 d161, .int .i64 (M : Int)]) (by simp); simp only [List.map_toArray, List.map_cons, List.map_nil, ev_const, q0])⟩) (by simp) ?_
        refine (refabs_is5 (i := q0) (s := M) (St.got E (A := X161) (n := m161) (c := d161) (a := (q0).natAbs) (by simp)) (by omega) (by omega) HQ.out).mono ?_; rintro e v162 ⟨X162, m162, d162, rfl, h, hb⟩
        have q162 : m162 ≤ 4500 := len_le h LQ.out
        replace E := Lib.hid (St.push E.out hb h)
        clear h hb
        have hSw := SBL E (by simp); refine ⟨_, rfl, hSw, ?_⟩; intro a ha
        refine line_all rq8R 10 0 [7, 6, 3, 2, 8, 9, 5, 4, 1, 0] [10] (by decide) (rq8B _ (by decide)) (by simp) ?_
        intro j hj; simp only [List.mem_cons, List.not_mem_nil, or_false] at hj
        subst hj
        have E2 := Lib.hid (St.store E.out (g := v135.heap.size) (x0 := .bool false) (x1 := .slice none 0 0) (x2 := .int .i64 0) (by simp) (noLimb_bool _) (noLimb_slice _ _ _) (noLimb_int _) [(v0.heap.size, .bool false, .slice none 0 0, .int .i64 0), (g7, (.bool (ngB y1)), (.slice A5 n5 c5), (.int .i64 (S : Int))), (g8, (.bool (ngB i)), (.slice A6 n6 c6), (.int .i64 (S : Int))), ((w.heap.size + 1), .bool false, .slice none 0 0, .int .i64 0), (w.heap.size, (.bool (ngB i)), (.slice A n c), (.int .i64 (s : Int)))] (by simp <;> omega) (.bool (ngB p)) (.slice X160 m160 d160) (.int .i64 (M : Int)))
        refine turn_store rq8R 10 0 [7, 6, 3, 2, 8, 9, 5, 4, 1, 0] 10 (w' := put3 v162 (v135.heap.size) (.bool (ngB p)) (.slice X160 m160 d160) (.int .i64 (M : Int))) rfl ha (fun o ho hg => ⟨(wanted_none hg), e_store ho (ha.ev (i := 9) (v := .pointer (some ⟨v135.heap.size, 0, none⟩)) (by simp)) (ha.ev (i := 59) (v := .agg #[.bool (ngB p), .slice X160 m160 d160, .int .i64 (M : Int)]) (by simp)) (St.at_ (g := v135.heap.size) (x0 := .bool false) (x1 := .slice none 0 0) (x2 := .int .i64 0) E (by simp))⟩) (SBL E2 (by simp)) ?_; intro a ha
        replace E := E2; clear E2
        generalize hW : put3 v162 _ _ _ _ = v163 at E ⊢; clear hW
        have hSw := SBL E (by simp)
        refine line_all rq8R 11 0 [10, 7, 6, 3, 2, 8, 9, 5, 4, 1, 0] [11] (by decide) (rq8B _ (by decide)) (by simp) ?_
        intro j hj; simp only [List.mem_cons, List.not_mem_nil, or_false] at hj
        subst hj
        have E2 := Lib.hid (St.store E.out (g := v0.heap.size) (x0 := .bool false) (x1 := .slice none 0 0) (x2 := .int .i64 0) (by simp) (noLimb_bool _) (noLimb_slice _ _ _) (noLimb_int _) [(v135.heap.size, (.bool (ngB p)), (.slice X160 m160 d160), (.int .i64 (M : Int))), (g7, (.bool (ngB y1)), (.slice A5 n5 c5), (.int .i64 (S : Int))), (g8, (.bool (ngB i)), (.slice A6 n6 c6), (.int .i64 (S : Int))), ((w.heap.size + 1), .bool false, .slice none 0 0, .int .i64 0), (w.heap.size, (.bool (ngB i)), (.slice A n c), (.int .i64 (s : Int)))] (by simp <;> omega) (.bool (ngB q)) (.slice X162 m162 d162) (.int .i64 (M : Int)))
        refine turn_store rq8R 11 0 [10, 7, 6, 3, 2, 8, 9, 5, 4, 1, 0] 11 (w' := put3 v163 (v0.heap.size) (.bool (ngB q)) (.slice X162 m162 d162) (.int .i64 (M : Int))) rfl ha (fun o ho hg => ⟨(wanted_none hg), e_store ho (ha.ev (i := 10) (v := .pointer (some ⟨v0.heap.size, 0, none⟩)) (by simp)) (ha.ev (i := 63) (v := .agg #[.bool (ngB q), .slice X162 m162 d162, .int .i64 (M : Int)]) (by simp)) (St.at_ (g := v0.heap.size) (x0 := .bool false) (x1 := .slice none 0 0) (x2 := .int .i64 0) E (by simp))⟩) (SBL E2 (by simp)) ?_; intro a ha
        replace E := E2; clear E2
        generalize hW : put3 v163 _ _ _ _ = v164 at E ⊢; clear hW
        have hSw := SBL E (by simp)
        refine line_end0 rq8R (show ∀ i, i < 12 → i ∈ [11, 10, 7, 6, 3, 2, 8, 9, 5, 4, 1, 0] by decide) ?_
        exact ⟨rfl, v135.heap.size, v0.heap.size, X160, m160, d160, X162, m162, d162, ha.sub (by simp), by omega, by omega, Lib.hid ((E.out).sub (by simp) (by simp))⟩
  clear E
  rintro a wC ⟨g9, g10, A9, n9, c9, A10, n10, c10, ha, hn9, hn10, E⟩
  simp only [Exit.then]
  refine hK _ _ ?_
  clear hK K
  obtain ⟨us, rfl, hu⟩ := ha.list
  have eu1 : us 1 = .int .i64 (S : Int) := hu (1, .int .i64 (S : Int)) (by simp)
  have eu2 : us 2 = .pointer (some ⟨w.heap.size, 0, none⟩) := hu (2, .pointer (some ⟨w.heap.size, 0, none⟩)) (by simp)
  have eu4 : us 4 = .pointer (some ⟨w.heap.size + 1, 0, none⟩) := hu (4, .pointer (some ⟨w.heap.size + 1, 0, none⟩)) (by simp)
  have eu7 : us 7 = .pointer (some ⟨g7, 0, none⟩) := hu (7, .pointer (some ⟨g7, 0, none⟩)) (by simp)
  have eu8 : us 8 = .pointer (some ⟨g8, 0, none⟩) := hu (8, .pointer (some ⟨g8, 0, none⟩)) (by simp)
  have eu6 : us 6 = .slice A6 n6 c6 := hu (6, .slice A6 n6 c6) (by simp)
  have eu9 : us 9 = .pointer (some ⟨g9, 0, none⟩) := hu (9, .pointer (some ⟨g9, 0, none⟩)) (by simp)
  have eu10 : us 10 = .pointer (some ⟨g10, 0, none⟩) := hu (10, .pointer (some ⟨g10, 0, none⟩)) (by simp)
  rw [show (List.range 79).map us = [us 0, us 1, us 2, us 3, us 4, us 5, us 6, us 7, us 8, us 9, us 10, us 11, us 12, us 13, us 14, us 15, us 16, us 17, us 18, us 19, us 20, us 21, us 22, us 23, us 24, us 25, us 26, us 27, us 28, us 29, us 30, us 31, us 32, us 33, us 34, us 35, us 36, us 37, us 38, us 39, us 40, us 41, us 42, us 43, us 44, us 45, us 46, us 47, us 48, us 49, us 50, us 51, us 52, us 53, us 54, us 55, us 56, us 57, us 58, us 59, us 60, us 61, us 62, us 63, us 64, us 65, us 66, us 67, us 68, us 69, us 70, us 71, us 72, us 73, us 74, us 75, us 76, us 77, us 78] from rfl, eu1, eu2, eu4, eu7, eu8, eu6, eu9, eu10]
  clear hu eu1 eu2 eu4 eu7 eu8 eu6 eu9 eu10
  obtain ⟨u0, u1, u2, uf0, uf1, uf2, ult⟩ := St.at_ (x0 := (.bool (ngB p))) (x1 := (.slice A9 n9 c9)) (x2 := (.int .i64 (M : Int))) (g := g9) E (by simp)
  obtain ⟨x0, x1, x2, xf0, xf1, xf2, xlt⟩ := St.at_ (x0 := (.bool (ngB q))) (x1 := (.slice A10 n10 c10)) (x2 := (.int .i64 (M : Int))) (g := g10) E (by simp)
  go_wp2_with fail
  refine (refCmp5_is (i := p) (s := M) (j := q) (t := M) (St.got E (by simp)) (St.got E (by simp)) (by omega) (by omega) (by omega) (by omega) HZC.out).mono ?_; rintro e w3 ⟨rfl, hb1⟩; replace E := Lib.hid (St.step E.out hb1); clear hb1
  clear u0 u1 u2 uf0 uf1 uf2 ult x0 x1 x2 xf0 xf1 xf2 xlt
  obtain ⟨r0, r1, r2, rf0, rf1, rf2, rlt⟩ := St.at_ (x0 := .bool false) (x1 := .slice none 0 0) (x2 := .int .i64 0) (g := w.heap.size + 1) E (by simp)
  obtain ⟨m0, m1, m2, mf0, mf1, mf2, mlt⟩ := St.at_ (x0 := (.bool (ngB y1))) (x1 := (.slice A5 n5 c5)) (x2 := (.int .i64 (S : Int))) (g := g7) E (by simp)
  obtain ⟨l0, l1, l2, lf0, lf1, lf2, llt⟩ := St.at_ (x0 := (.bool (ngB i))) (x1 := (.slice A6 n6 c6)) (x2 := (.int .i64 (S : Int))) (g := g8) E (by simp)
  have hz1 := HZB.out.1
  have hz2 := HZB.out.2
  rcases (show zc = -1 ∨ zc = 0 ∨ zc = 1 by omega) with hz | hz | hz
  ·
    have HV : Hid (quantZ i s S = y1) := HE.out.2 (.inl (by omega))
    subst hz
    go_wp2_with fail
    have EF := Lib.hid (St.store E.out (g := (w.heap.size + 1)) (x0 := .bool false) (x1 := .slice none 0 0) (x2 := .int .i64 0) (by simp) (noLimb_bool _) (noLimb_slice _ _ _) (noLimb_int _) [] (fun q hq => by cases hq) (.bool (ngB y1)) (.slice A5 n5 c5) (.int .i64 (S : Int)))
    obtain ⟨e0, e1, e2, _, _, _, _⟩ := St.at_ (x0 := .bool (ngB y1)) (x1 := .slice A5 n5 c5) (x2 := .int .i64 (S : Int)) (g := (w.heap.size + 1)) EF (by simp)
    exact bodyPost_ret (v := .agg #[.bool (ngB y1), .slice A5 n5 c5, .int .i64 (S : Int)]) (by simp [results, Try.results13, go_sem, e0, e1, e2]) rfl ⟨A5, n5, c5, by rw [HV.out], by rw [HV.out]; exact St.got EF (by simp), EF.out.bel⟩
  · rcases (show y2.natAbs % 2 = 0 ∨ y2.natAbs % 2 ≠ 0 by omega) with he | he
    ·
      have HV : Hid (quantZ i s S = y2) := HE.out.1 (.inr ⟨by omega, he⟩)
      subst hz; replace he := Lib.hid (decide_eq_true he)
      go_wp2_with fail
      refine (refEven_is (a := y2.natAbs) (St.got E (A := A6) (n := n6) (c := c6) (a := y2.natAbs) (by simp)) he.out).mono ?_; rintro e w4 ⟨rfl, rfl⟩
      go_wp2_with fail
      have EF := Lib.hid (St.store E.out (g := (w.heap.size + 1)) (x0 := .bool false) (x1 := .slice none 0 0) (x2 := .int .i64 0) (by simp) (noLimb_bool _) (noLimb_slice _ _ _) (noLimb_int _) [] (fun q hq => by cases hq) (.bool (ngB i)) (.slice A6 n6 c6) (.int .i64 (S : Int)))
      obtain ⟨e0, e1, e2, _, _, _, _⟩ := St.at_ (x0 := .bool (ngB i)) (x1 := .slice A6 n6 c6) (x2 := .int .i64 (S : Int)) (g := (w.heap.size + 1)) EF (by simp)
      exact bodyPost_ret (v := .agg #[.bool (ngB i), .slice A6 n6 c6, .int .i64 (S : Int)]) (by simp [results, Try.results13, go_sem, e0, e1, e2]) rfl ⟨A6, n6, c6, by rw [HV.out, HB2.out], by rw [HV.out]; exact St.got EF (by simp), EF.out.bel⟩
    ·
      have HV : Hid (quantZ i s S = y1) := HE.out.2 (.inr ⟨by omega, he⟩)
      subst hz; replace he := Lib.hid (decide_eq_false he)
      go_wp2_with fail
      refine (refEven_is (a := y2.natAbs) (St.got E (A := A6) (n := n6) (c := c6) (a := y2.natAbs) (by simp)) he.out).mono ?_; rintro e w4 ⟨rfl, rfl⟩
      go_wp2_with fail
      have EF := Lib.hid (St.store E.out (g := (w.heap.size + 1)) (x0 := .bool false) (x1 := .slice none 0 0) (x2 := .int .i64 0) (by simp) (noLimb_bool _) (noLimb_slice _ _ _) (noLimb_int _) [] (fun q hq => by cases hq) (.bool (ngB y1)) (.slice A5 n5 c5) (.int .i64 (S : Int)))
      obtain ⟨e0, e1, e2, _, _, _, _⟩ := St.at_ (x0 := .bool (ngB y1)) (x1 := .slice A5 n5 c5) (x2 := .int .i64 (S : Int)) (g := (w.heap.size + 1)) EF (by simp)
      exact bodyPost_ret (v := .agg #[.bool (ngB y1), .slice A5 n5 c5, .int .i64 (S : Int)]) (by simp [results, Try.results13, go_sem, e0, e1, e2]) rfl ⟨A5, n5, c5, by rw [HV.out], by rw [HV.out]; exact St.got EF (by simp), EF.out.bel⟩
  ·
    have HV : Hid (quantZ i s S = y2) := HE.out.1 (.inl (by omega))
    subst hz
    go_wp2_with fail
    have EF := Lib.hid (St.store E.out (g := (w.heap.size + 1)) (x0 := .bool false) (x1 := .slice none 0 0) (x2 := .int .i64 0) (by simp) (noLimb_bool _) (noLimb_slice _ _ _) (noLimb_int _) [] (fun q hq => by cases hq) (.bool (ngB i)) (.slice A6 n6 c6) (.int .i64 (S : Int)))
    obtain ⟨e0, e1, e2, _, _, _, _⟩ := St.at_ (x0 := .bool (ngB i)) (x1 := .slice A6 n6 c6) (x2 := .int .i64 (S : Int)) (g := (w.heap.size + 1)) EF (by simp)
    exact bodyPost_ret (v := .agg #[.bool (ngB i), .slice A6 n6 c6, .int .i64 (S : Int)]) (by simp [results, Try.results13, go_sem, e0, e1, e2]) rfl ⟨A6, n6, c6, by rw [HV.out, HB2.out], by rw [HV.out]; exact St.got EF (by simp), EF.out.bel⟩

theorem refquant_is {A : Option Addr} {n c s S : Nat} {i v z : Int} {w : World} (h : Num w w.heap.size A n c i.natAbs) (hn : n ≤ 1000) (hs : s ≤ 1000) (hv : max v 0 = (S : Int)) (hS : S ≤ 1000) (hz : quantZ i s S = z) :
    Calls Try.prog 13 #[.agg #[.bool (ngB i), .slice A n c, .int .i64 (s : Int)], .int .i64 v] w (RetDec w z S) := by
  subst hz; exact refquant_any A n c s S i v w h hn hs hv hS

end Go.Proofs.Ytcnjbmjgambgeaa
