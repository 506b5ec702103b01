/-
 RoundAllocates answers true.
-/
import Derived.Test.YthlhpgphmfnlgaaGreatAllRouDiA
import Derived.Test.YthlhpgphmfnlgaaGreatRouY
set_option maxRecDepth 100000
set_option maxHeartbeats 32000000
set_option linter.unusedVariables false
set_option linter.unusedSimpArgs false
namespace Go.Proofs.YthlhpgphmfnlgaaGreat
open Go.RowKit
theorem allocs_a (b1 : Bool) (A1 : Option Addr) (n1 c1 : Nat) (xs1 : List Nat) (k1 : Int) (A : Option Addr) (n c : Nat) (r : Nat → Rw) (v : Int) (w : World) (h1 : Lim w w.heap.size A1 n1 c1 xs1) (h : Raws w w.heap.size A n c r) (l1 : longB b1 n1 xs1 k1 = true) : Calls Tryz.prog 3 #[.agg #[.bool b1, .slice A1 n1 c1, .int .i64 k1], .slice A n c, .int .i64 v] w (RetVal w (.bool true)) := by
 have hc := h.cap
 have hm := h.room
 unfold maxLen at hm
 have H1 := Lib.hid h1
 have L1 := Lib.hid l1
 clear h1 h l1
 go_enter Tryz.func3, Tryz.ntmps3
 go_wp2_with fail
 generalize hW : World.alloc w _ = W0
 have E0 : St w W0 [] [(w.heap.size, .bool b1, .slice A1 n1 c1, .int .i64 k1)] := by rw [← hW]; exact (St.start w (l := []) (fun q hq => by cases hq)).lay rfl
 have E := Lib.hid E0
 clear hW E0
 refine (long_is (H1.out.on E.out.bel) L1.out).mono ?_; rintro e w1 ⟨rfl, hb⟩; replace E := Lib.hid (St.step E.out hb); clear hb
 go_wp2_with fail
 refine (awake6 _).mono ?_; rintro e w9 ⟨rfl, hb⟩; replace E := Lib.hid (St.step E.out hb); clear hb
 go_wp2_with fail
 go_ret
 exact ⟨rfl, E.out.bel⟩
theorem allocs_b (b1 : Bool) (A1 : Option Addr) (n1 c1 : Nat) (xs1 : List Nat) (k1 : Int) (A : Option Addr) (n c : Nat) (r : Nat → Rw) (v : Int) (w : World) (h1 : Lim w w.heap.size A1 n1 c1 xs1) (h : Raws w w.heap.size A n c r) (l1 : longB b1 n1 xs1 k1 = false) (hn : 12 < n) : Calls Tryz.prog 3 #[.agg #[.bool b1, .slice A1 n1 c1, .int .i64 k1], .slice A n c, .int .i64 v] w (RetVal w (.bool true)) := by
 have hc := h.cap
 have hm := h.room
 unfold maxLen at hm
 have H1 := Lib.hid h1
 have L1 := Lib.hid l1
 clear h1 h l1
 go_enter Tryz.func3, Tryz.ntmps3
 go_wp2_with fail
 generalize hW : World.alloc w _ = W0
 have E0 : St w W0 [] [(w.heap.size, .bool b1, .slice A1 n1 c1, .int .i64 k1)] := by rw [← hW]; exact (St.start w (l := []) (fun q hq => by cases hq)).lay rfl
 have E := Lib.hid E0
 clear hW E0
 refine (long_is (H1.out.on E.out.bel) L1.out).mono ?_; rintro e w1 ⟨rfl, hb⟩; replace E := Lib.hid (St.step E.out hb); clear hb
 go_wp2_with fail
 refine (awake6 _).mono ?_; rintro e w9 ⟨rfl, hb⟩; replace E := Lib.hid (St.step E.out hb); clear hb
 go_wp2_with fail
 go_ret
 exact ⟨rfl, E.out.bel⟩
theorem allocs_c (b1 : Bool) (A1 : Option Addr) (n1 c1 : Nat) (xs1 : List Nat) (k1 : Int) (A : Option Addr) (n c : Nat) (r : Nat → Rw) (v : Int) (w : World) (h1 : Lim w w.heap.size A1 n1 c1 xs1) (h : Raws w w.heap.size A n c r) (l1 : longB b1 n1 xs1 k1 = false) (hn : n ≤ 12) (hv : 30 < v) : Calls Tryz.prog 3 #[.agg #[.bool b1, .slice A1 n1 c1, .int .i64 k1], .slice A n c, .int .i64 v] w (RetVal w (.bool true)) := by
 have hc := h.cap
 have hm := h.room
 unfold maxLen at hm
 have H1 := Lib.hid h1
 have L1 := Lib.hid l1
 clear h1 h l1
 go_enter Tryz.func3, Tryz.ntmps3
 go_wp2_with fail
 generalize hW : World.alloc w _ = W0
 have E0 : St w W0 [] [(w.heap.size, .bool b1, .slice A1 n1 c1, .int .i64 k1)] := by rw [← hW]; exact (St.start w (l := []) (fun q hq => by cases hq)).lay rfl
 have E := Lib.hid E0
 clear hW E0
 refine (long_is (H1.out.on E.out.bel) L1.out).mono ?_; rintro e w1 ⟨rfl, hb⟩; replace E := Lib.hid (St.step E.out hb); clear hb
 go_wp2_with fail
 refine (awake6 _).mono ?_; rintro e w9 ⟨rfl, hb⟩; replace E := Lib.hid (St.step E.out hb); clear hb
 go_wp2_with fail
 go_ret
 exact ⟨rfl, E.out.bel⟩
def alAT : List Row3 := [(some 93, none, .load 25 (.tmp 3)), (some 94, none, .load 25 (.tmp 15)), (some 95, none, .move (.tmp 1)), (some 96, none, .indexAddr 26 (.tmp 95) (.const (.int .i64 0))), (some 97, none, .load 25 (.tmp 96)), (some 98, none, .move (.tmp 2)), (some 99, none, .call { callee := .value (.func 9), args := #[.tmp 93, .tmp 94, .tmp 97, .tmp 98], argTypes := #[25, 25, 25, 3] }), (some 92, none, .move (.tmp 99)), (some 100, none, .extract (.tmp 92) 0), (some 101, none, .extract (.tmp 92) 1), (some 16, none, .alloc 25), (none, none, .store 25 (.tmp 16) (.tmp 100)), (some 17, none, .assign (.tmp 101))]
theorem alARow : (opsAt Tryz.prog 3 22).toList.map row3 = alAT := by kernel_rfl
theorem alASel : Region.noSelect (opsAt Tryz.prog 3 22) = true := by kernel_rfl
theorem alADone : Region.ready .any (opsAt Tryz.prog 3 22) (upto (opsAt Tryz.prog 3 22).size (opsAt Tryz.prog 3 22).size []) = [] := by kernel_rfl
theorem alAstill0 : [(0, [], 0), (0, [0], 1), (0, [1, 0], 2), (0, [2, 1, 0], 3), (0, [3, 2, 1, 0], 4), (0, [4, 3, 2, 1, 0], 5), (0, [6, 5, 4, 3, 2, 1, 0], 7), (0, [7, 6, 5, 4, 3, 2, 1, 0], 8), (0, [8, 7, 6, 5, 4, 3, 2, 1, 0], 9), (0, [11, 10, 9, 8, 7, 6, 5, 4, 3, 2, 1, 0], 12)].all (stillB (opsAt Tryz.prog 3 22)) = true := by kernel_rfl
theorem alAstill1 : [(0, [6, 10, 5, 4, 3, 2, 1, 0], 7), (0, [7, 6, 10, 5, 4, 3, 2, 1, 0], 8), (0, [8, 7, 6, 10, 5, 4, 3, 2, 1, 0], 9), (0, [11, 9, 8, 7, 6, 10, 5, 4, 3, 2, 1, 0], 12)].all (stillB (opsAt Tryz.prog 3 22)) = true := by kernel_rfl
theorem alAready0 : [(0, [5, 4, 3, 2, 1, 0], [6, 10]), (0, [9, 8, 7, 6, 5, 4, 3, 2, 1, 0], [10]), (0, [10, 9, 8, 7, 6, 5, 4, 3, 2, 1, 0], [11]), (0, [10, 5, 4, 3, 2, 1, 0], [6]), (0, [9, 8, 7, 6, 10, 5, 4, 3, 2, 1, 0], [11])].all (readyB (opsAt Tryz.prog 3 22)) = true := by kernel_rfl
theorem alAR : Reg (opsAt Tryz.prog 3 22) alAT [(0, [], 0), (0, [0], 1), (0, [1, 0], 2), (0, [2, 1, 0], 3), (0, [3, 2, 1, 0], 4), (0, [4, 3, 2, 1, 0], 5), (0, [6, 5, 4, 3, 2, 1, 0], 7), (0, [7, 6, 5, 4, 3, 2, 1, 0], 8), (0, [8, 7, 6, 5, 4, 3, 2, 1, 0], 9), (0, [11, 10, 9, 8, 7, 6, 5, 4, 3, 2, 1, 0], 12), (0, [6, 10, 5, 4, 3, 2, 1, 0], 7), (0, [7, 6, 10, 5, 4, 3, 2, 1, 0], 8), (0, [8, 7, 6, 10, 5, 4, 3, 2, 1, 0], 9), (0, [11, 9, 8, 7, 6, 10, 5, 4, 3, 2, 1, 0], 12)] [] := ⟨alARow, alASel, (all_parts alAstill0 (all_parts alAstill1 (fun k h => by cases h))), (fun k h => by cases h), alADone⟩
theorem alAB : ∀ q ∈ ([(0, [5, 4, 3, 2, 1, 0], [6, 10]), (0, [9, 8, 7, 6, 5, 4, 3, 2, 1, 0], [10]), (0, [10, 9, 8, 7, 6, 5, 4, 3, 2, 1, 0], [11]), (0, [10, 5, 4, 3, 2, 1, 0], [6]), (0, [9, 8, 7, 6, 10, 5, 4, 3, 2, 1, 0], [11])] : List Spot4), readyB (opsAt Tryz.prog 3 22) q = true := (all_parts4 alAready0 (fun k h => by cases h))
def alBT : List Row3 := [(some 103, none, .load 25 (.tmp 3)), (some 104, none, .load 25 (.tmp 15)), (some 105, none, .move (.tmp 1)), (some 106, none, .indexAddr 26 (.tmp 105) (.const (.int .i64 0))), (some 107, none, .load 25 (.tmp 106)), (some 108, none, .move (.tmp 2)), (some 109, none, .call { callee := .value (.func 10), args := #[.tmp 103, .tmp 104, .tmp 107, .tmp 108], argTypes := #[25, 25, 25, 3] }), (some 102, none, .move (.tmp 109)), (some 110, none, .extract (.tmp 102) 0), (some 111, none, .extract (.tmp 102) 1), (some 18, none, .alloc 25), (none, none, .store 25 (.tmp 18) (.tmp 110)), (some 19, none, .assign (.tmp 111))]
theorem alBRow : (opsAt Tryz.prog 3 23).toList.map row3 = alBT := by kernel_rfl
theorem alBSel : Region.noSelect (opsAt Tryz.prog 3 23) = true := by kernel_rfl
theorem alBDone : Region.ready .any (opsAt Tryz.prog 3 23) (upto (opsAt Tryz.prog 3 23).size (opsAt Tryz.prog 3 23).size []) = [] := by kernel_rfl
theorem alBstill0 : [(0, [], 0), (0, [0], 1), (0, [1, 0], 2), (0, [2, 1, 0], 3), (0, [3, 2, 1, 0], 4), (0, [4, 3, 2, 1, 0], 5), (0, [6, 5, 4, 3, 2, 1, 0], 7), (0, [7, 6, 5, 4, 3, 2, 1, 0], 8), (0, [8, 7, 6, 5, 4, 3, 2, 1, 0], 9), (0, [11, 10, 9, 8, 7, 6, 5, 4, 3, 2, 1, 0], 12)].all (stillB (opsAt Tryz.prog 3 23)) = true := by kernel_rfl
theorem alBstill1 : [(0, [6, 10, 5, 4, 3, 2, 1, 0], 7), (0, [7, 6, 10, 5, 4, 3, 2, 1, 0], 8), (0, [8, 7, 6, 10, 5, 4, 3, 2, 1, 0], 9), (0, [11, 9, 8, 7, 6, 10, 5, 4, 3, 2, 1, 0], 12)].all (stillB (opsAt Tryz.prog 3 23)) = true := by kernel_rfl
theorem alBready0 : [(0, [5, 4, 3, 2, 1, 0], [6, 10]), (0, [9, 8, 7, 6, 5, 4, 3, 2, 1, 0], [10]), (0, [10, 9, 8, 7, 6, 5, 4, 3, 2, 1, 0], [11]), (0, [10, 5, 4, 3, 2, 1, 0], [6]), (0, [9, 8, 7, 6, 10, 5, 4, 3, 2, 1, 0], [11])].all (readyB (opsAt Tryz.prog 3 23)) = true := by kernel_rfl
theorem alBR : Reg (opsAt Tryz.prog 3 23) alBT [(0, [], 0), (0, [0], 1), (0, [1, 0], 2), (0, [2, 1, 0], 3), (0, [3, 2, 1, 0], 4), (0, [4, 3, 2, 1, 0], 5), (0, [6, 5, 4, 3, 2, 1, 0], 7), (0, [7, 6, 5, 4, 3, 2, 1, 0], 8), (0, [8, 7, 6, 5, 4, 3, 2, 1, 0], 9), (0, [11, 10, 9, 8, 7, 6, 5, 4, 3, 2, 1, 0], 12), (0, [6, 10, 5, 4, 3, 2, 1, 0], 7), (0, [7, 6, 10, 5, 4, 3, 2, 1, 0], 8), (0, [8, 7, 6, 10, 5, 4, 3, 2, 1, 0], 9), (0, [11, 9, 8, 7, 6, 10, 5, 4, 3, 2, 1, 0], 12)] [] := ⟨alBRow, alBSel, (all_parts alBstill0 (all_parts alBstill1 (fun k h => by cases h))), (fun k h => by cases h), alBDone⟩
theorem alBB : ∀ q ∈ ([(0, [5, 4, 3, 2, 1, 0], [6, 10]), (0, [9, 8, 7, 6, 5, 4, 3, 2, 1, 0], [10]), (0, [10, 9, 8, 7, 6, 5, 4, 3, 2, 1, 0], [11]), (0, [10, 5, 4, 3, 2, 1, 0], [6]), (0, [9, 8, 7, 6, 10, 5, 4, 3, 2, 1, 0], [11])] : List Spot4), readyB (opsAt Tryz.prog 3 23) q = true := (all_parts4 alBready0 (fun k h => by cases h))
theorem allocs_main (Aa : Option Addr) (na ca s : Nat) (i : Int) (A : Option Addr) (n c : Nat) (r : Nat → Rw) (v : Int) (w : World) (h1 : Num w w.heap.size Aa na ca i.natAbs) (m1 : na ≤ 12) (t1 : s ≤ 60) (h : Raws w w.heap.size A n c r) (hn : n ≤ 12) (hv : v ≤ 30) : Calls Tryz.prog 3 #[.agg #[.bool (ngB i), .slice Aa na ca, .int .i64 (s : Int)], .slice A n c, .int .i64 v] w (RetVal w (.bool true)) := by
 have hc := h.cap
 have hm := h.room
 unfold maxLen at hm
 obtain ⟨k1, hk1, hgood, hend⟩ := first_bad (fun j => longR r j) n
 replace hend : k1 = n ∨ (k1 < n ∧ longR r k1 = true) := by
   rcases Nat.lt_or_ge k1 n with h2 | h2
   · rcases hend with h3 | h3
     · omega
     · exact .inr ⟨h2, h3⟩
   · exact .inl (by omega)
 obtain ⟨d, hD, hd⟩ := (h.take hk1).decs (fun j hj => hgood j hj)
 obtain ⟨S, hS⟩ : ∃ S : Nat, max v 0 = (S : Int) := ⟨(max v 0).toNat, by omega⟩
 have hS30 : S ≤ 30 := by omega
 have HV := Lib.hid hS
 have HRW := Lib.hid h
 have HD := Lib.hid hD
 have HEND := Lib.hid hend
 have H1 := Lib.hid h1
 have N1 : Hid (longB (ngB i) na (dg i.natAbs) (s : Int) = false) := not_long h1 m1 t1
 clear hgood hd hend h hD hS h1
 go_enter Tryz.func3, Tryz.ntmps3
 go_wp2_with fail
 generalize hW : World.alloc w _ = W0
 have E0 : St w W0 [(Aa, na, ca, (i).natAbs)] [(w.heap.size, (.bool (ngB i)), (.slice Aa na ca), (.int .i64 (s : Int)))] := by rw [← hW]; exact (start_one H1.out).lay rfl
 have E := Lib.hid E0
 clear hW E0
 refine (long_is (St.got E (A := Aa) (n := na) (c := ca) (a := (i).natAbs) (by simp)) N1.out).mono ?_; rintro e w1 ⟨rfl, hb⟩; replace E := Lib.hid (St.step E.out hb); clear hb
 go_wp2_with fail
 go_loopw [38] (fun iv wr => ∃ k : Nat, k ≤ k1 ∧ iv = .int .i64 k ∧ St w wr [(Aa, na, ca, (i).natAbs)] [(w.heap.size, (.bool (ngB i)), (.slice Aa na ca), (.int .i64 (s : Int)))]) (fun iv _ => n + 1 - (intOf iv).toNat)
 case atStart => exact ⟨0, Nat.zero_le _, rfl, E.out⟩
 case round =>
   obtain ⟨k, hkk, rfl, hE⟩ := hrel
   clear E
   have E := Lib.hid hE
   clear hE
   rcases Nat.lt_or_ge k k1 with hlt | hge
   · have hkn : k < n := by omega
     obtain ⟨b, f0, rfl, _, _, _, _⟩ := HRW.out.at_ hkn
     obtain ⟨ik, sk, Ak, nk, ck, hdk, Ck, Nk, mk, tk⟩ := HD.out.spotY hlt
     have NL : Hid (longB (ngB ik) nk (dg ik.natAbs) (sk : Int) = false) := not_long Nk mk tk
     have Ck2 := Ck.on E.out.bel
     obtain ⟨y0, y1, y2, _⟩ := Ck2
     replace E := Lib.hid (E.out.push (Below.refl _ _) (Nk.on E.out.bel))
     clear Ck Nk hdk
     go_wp2_with fail
     replace E := Lib.hid (St.lay (t := 25) (x0 := .bool (ngB ik)) (x1 := .slice Ak nk ck) (x2 := .int .i64 (sk : Int)) (g := wr.heap.size) E.out rfl)
     refine (long_is (St.got E (A := Ak) (n := nk) (c := ck) (a := ik.natAbs) (by simp)) NL.out).mono ?_; rintro e w2 ⟨rfl, hb⟩; replace E := Lib.hid (St.step E.out hb); clear hb
     clear y0 y1 y2
     go_wp2_with fail
     exact ⟨⟨k + 1, by omega, by push_cast; rfl, E.out.sub (by simp) (by simp)⟩, by simp [intOf]; omega⟩
   · obtain rfl : k = k1 := by omega
     rcases HEND.out with hkn | ⟨hkn, hbad⟩
     · subst hkn
       obtain ⟨pa, pb, pc, pd, pe, pf, pg⟩ := St.at_ (x0 := (.bool (ngB i))) (x1 := (.slice Aa na ca)) (x2 := (.int .i64 (s : Int))) (g := w.heap.size) E (by simp)
       go_wp2_with fail
       refine (alloc_both Aa A na ca s k c S i v d _ wr (St.got E (A := Aa) (n := na) (c := ca) (a := (i).natAbs) (by simp)) m1 t1 (HD.out.on E.out.bel) (by omega) HV.out (by omega)).mono ?_
       rintro e w5 ⟨M, er, x, hM, ⟨A5, c5, p5, rfl, h5, hb⟩, href⟩
       have R5 := Lib.hid h5
       have HREF := Lib.hid href
       have HB5 := Lib.hid hb
       replace E := Lib.hid (St.step E.out hb)
       clear h5 href hb
       clear pa pb pc pd pe pf pg
       obtain ⟨pa, pb, pc, pd, pe, pf, pg⟩ := St.at_ (x0 := (.bool (ngB i))) (x1 := (.slice Aa na ca)) (x2 := (.int .i64 (s : Int))) (g := w.heap.size) E (by simp)
       go_wp2_with fail
       refine (HREF.out _ HB5.out).mono ?_
       rintro e w6 ⟨A6, c6, p6, rfl, h6, hb⟩
       replace R5 := Lib.hid (R5.out.on hb)
       have R6 := Lib.hid h6
       replace E := Lib.hid (St.step E.out hb)
       clear h6 hb HREF HB5
       clear pa pb pc pd pe pf pg
       go_wp2_with fail
       go_loopw [72] (fun iv wr => ∃ q : Nat, q ≤ M ∧ iv = .int .i64 q ∧ St w wr [(Aa, na, ca, (i).natAbs)] [(w.heap.size, (.bool (ngB i)), (.slice Aa na ca), (.int .i64 (s : Int)))] ∧ DecsG 300 60 wr wr.heap.size A5 M c5 x p5 ∧ DecsG 300 60 wr wr.heap.size A6 M c6 x p6) (fun iv _ => M + 1 - (intOf iv).toNat)
       case atStart => exact ⟨0, Nat.zero_le _, rfl, E.out, R5.out, R6.out⟩
       case round =>
         clear E R5 R6
         obtain ⟨q, hq, rfl, hE, hr5, hr6⟩ := hrel
         have E := Lib.hid hE
         have R5 := Lib.hid hr5
         have R6 := Lib.hid hr6
         clear hE hr5 hr6
         rcases Nat.lt_or_ge q M with hlt | hge
         ·
           obtain ⟨b5, o5, rfl, _, _⟩ := R5.out.at_ hlt
           obtain ⟨b6, o6, rfl, _, _⟩ := R6.out.at_ hlt
           have N7 := R5.out.num q hlt
           have N8 := R6.out.num q hlt
           obtain ⟨⟨iq, sq⟩, hx⟩ : ∃ y, x q = y := ⟨_, rfl⟩
           obtain ⟨⟨A7, n7, c7⟩, hp5⟩ : ∃ y, p5 q = y := ⟨_, rfl⟩
           obtain ⟨⟨A8, n8, c8⟩, hp6⟩ : ∃ y, p6 q = y := ⟨_, rfl⟩
           rw [hx, hp5] at N7
           rw [hx, hp6] at N8
           have C5 : Hid (∀ v, DecsG 300 60 v v.heap.size (some ⟨b5, o5, none⟩) M c5 x p5 → v.cell? ⟨b5, o5 + q * 3, none⟩ = some (.bool (ngB iq)) ∧ v.cell? ⟨b5, o5 + q * 3 + 1, none⟩ = some (.slice A7 n7 c7) ∧ v.cell? ⟨b5, o5 + q * 3 + 2, none⟩ = some (.int .i64 (sq : Int))) := fun v h => cells_at h hlt hx hp5
           have C6 : Hid (∀ v, DecsG 300 60 v v.heap.size (some ⟨b6, o6, none⟩) M c6 x p6 → v.cell? ⟨b6, o6 + q * 3, none⟩ = some (.bool (ngB iq)) ∧ v.cell? ⟨b6, o6 + q * 3 + 1, none⟩ = some (.slice A8 n8 c8) ∧ v.cell? ⟨b6, o6 + q * 3 + 2, none⟩ = some (.int .i64 (sq : Int))) := fun v h => cells_at h hlt hx hp6
           replace E := Lib.hid ((E.out.push (Below.refl _ _) N7).push (Below.refl _ _) N8)
           have m5 := R5.out.cap
           have r5 := R5.out.room
           have m6 := R6.out.cap
           have r6 := R6.out.room
           unfold maxLen at r5 r6
           have i1 : (0 : Int) ≤ (q : Int) := by omega
           have i2 : (q : Int) < (M : Int) := by omega
           clear N7 N8 hx hp5 hp6
           go_wp2_with fail
           replace E := Lib.hid (St.drew E.out)
           replace R5 := Lib.hid (R5.out.on (Below.refl _ _).drew)
           replace R6 := Lib.hid (R6.out.on (Below.refl _ _).drew)
           go_region_held3 (fun v => (v.cell? ⟨b5, o5 + q * 3, none⟩ = some (.bool (ngB iq)) ∧ v.cell? ⟨b5, o5 + q * 3 + 1, none⟩ = some (.slice A7 n7 c7) ∧ v.cell? ⟨b5, o5 + q * 3 + 2, none⟩ = some (.int .i64 (sq : Int))) ∧ v.cell? ⟨b6, o6 + q * 3, none⟩ = some (.bool (ngB iq)) ∧ v.cell? ⟨b6, o6 + q * 3 + 1, none⟩ = some (.slice A8 n8 c8) ∧ v.cell? ⟨b6, o6 + q * 3 + 2, none⟩ = some (.int .i64 (sq : Int))) (with_reducible exact ⟨C5.out _ R5.out, C6.out _ R6.out⟩)
             ((go_at_call 8; (with_reducible refine (refalike_is5 (i := iq) (s := sq) (j := iq) (t := sq) (St.got E (A := A7) (n := n7) (c := c7) (a := (iq).natAbs) (by simp)) (St.got E (A := A8) (n := n8) (c := c8) (a := (iq).natAbs) (by simp)) (alike_self iq sq)).mono ?_); rintro e w7 ⟨rfl, hb7⟩; replace R5 := Lib.hid (R5.out.on hb7); replace R6 := Lib.hid (R6.out.on hb7); replace E := Lib.hid (St.step E.out hb7); clear hb7))
           go_wp2_with fail
           exact ⟨⟨q + 1, by omega, by push_cast; rfl, E.out.sub (by simp) (by simp), R5.out, R6.out⟩, by simp [intOf]; omega⟩
         · obtain rfl : q = M := by omega
           clear R5 R6
           go_wp2_with fail
           obtain ⟨u8, hu8⟩ : ∃ u8 : World, u8 = wr := ⟨_, rfl⟩
           rw [← hu8] at E ⊢
           have BE : Hid (Below w.heap.size w u8) := E.out.bel
           have BT : Hid (Box u8 w.heap.size (.bool (ngB i)) (.slice Aa na ca) (.int .i64 (s : Int))) := St.at_ E (by simp)
           have HDW := Lib.hid (HD.out.on E.out.bel)
           have hka : A = none → c = 0 := HDW.out.addr
           have E2 : Hid (St u8 u8 [(Aa, na, ca, (i).natAbs)] []) := ⟨Below.refl _ _, (E.out.sub (l' := [(Aa, na, ca, (i).natAbs)]) (bs' := []) (by simp) (by simp)).num, fun q hq => by cases hq⟩
           clear hu8 HD HRW H1 N1 HEND
           refine wp_loop_ghost (fun (R : Nat) (a : Act) (w' : World) => ∃ q : Nat, q ≤ k ∧ R = k - q ∧ Fr 146 a [(1, .slice A k c), (2, .int .i64 v), (3, .pointer (some ⟨w.heap.size, 0, none⟩)), (86, .slice A k c), (87, .int .i64 (k : Int)), (88, .int .i64 (q : Int))] ∧ Hid (St u8 w' [(Aa, na, ca, (i).natAbs)] [])) k ⟨0, Nat.zero_le _, rfl, ⟨rfl, rfl, by intro q hq; simp at hq; rcases hq with rfl | rfl | rfl | rfl | rfl | rfl <;> first | rfl | simp⟩, E2⟩ ?_
           clear E E2 hka
           rintro R a V ⟨q, hq, rfl, ha, E⟩
           obtain ⟨us, rfl, hu⟩ := ha.listY
           have eu1 : us 1 = .slice A k c := hu (1, .slice A k c) (by simp)
           have eu2 : us 2 = .int .i64 v := hu (2, .int .i64 v) (by simp)
           have eu3 : us 3 = .pointer (some ⟨w.heap.size, 0, none⟩) := hu (3, .pointer (some ⟨w.heap.size, 0, none⟩)) (by simp)
           have eu86 : us 86 = .slice A k c := hu (86, .slice A k c) (by simp)
           have eu87 : us 87 = .int .i64 (k : Int) := hu (87, .int .i64 (k : Int)) (by simp)
           have eu88 : us 88 = .int .i64 (q : Int) := hu (88, .int .i64 (q : Int)) (by simp)
           rw [show (List.range 146).map us = [us 0, us 1, us 2, us 3, us 4, us 5, us 6, us 7, us 8, us 9, us 10, us 11, us 12, us 13, us 14, us 15, us 16, us 17, us 18, us 19, us 20, us 21, us 22, us 23, us 24, us 25, us 26, us 27, us 28, us 29, us 30, us 31, us 32, us 33, us 34, us 35, us 36, us 37, us 38, us 39, us 40, us 41, us 42, us 43, us 44, us 45, us 46, us 47, us 48, us 49, us 50, us 51, us 52, us 53, us 54, us 55, us 56, us 57, us 58, us 59, us 60, us 61, us 62, us 63, us 64, us 65, us 66, us 67, us 68, us 69, us 70, us 71, us 72, us 73, us 74, us 75, us 76, us 77, us 78, us 79, us 80, us 81, us 82, us 83, us 84, us 85, us 86, us 87, us 88, us 89, us 90, us 91, us 92, us 93, us 94, us 95, us 96, us 97, us 98, us 99, us 100, us 101, us 102, us 103, us 104, us 105, us 106, us 107, us 108, us 109, us 110, us 111, us 112, us 113, us 114, us 115, us 116, us 117, us 118, us 119, us 120, us 121, us 122, us 123, us 124, us 125, us 126, us 127, us 128, us 129, us 130, us 131, us 132, us 133, us 134, us 135, us 136, us 137, us 138, us 139, us 140, us 141, us 142, us 143, us 144, us 145] from rfl, eu1, eu2, eu3, eu86, eu87, eu88]
           clear hu ha eu1 eu2 eu3 eu86 eu87 eu88
           rcases Nat.lt_or_ge q k with hlt | hge
           ·
             have h0k : 0 < k := by omega
             obtain ⟨b, f0, rfl, _, _, _, _⟩ := HDW.out.at_ hlt
             obtain ⟨iq, sq, Aq, nq, cq, hdq, Cq, Nq, mq, tq⟩ := HDW.out.spotY hlt
             obtain ⟨i0, s0, A0, n0, c0, hd0, C0, N0, m0, t0⟩ := HDW.out.spotY h0k
             have HC0 := Lib.hid C0
             obtain ⟨z, T, er', hz⟩ := share_told i iq i0 s sq s0 S
             have HZ := Lib.hid hz
             obtain ⟨z', T', eo, hmo⟩ := money_both i iq s sq
             have HM := Lib.hid hmo
             have HKC : Hid (k ≤ c) := HDW.out.cap
             have HCM2 : Hid (c ≤ maxLen) := HDW.out.room
             obtain ⟨y0, y1, y2, _⟩ := Cq.on E.out.bel
             replace E := Lib.hid ((E.out.push (Below.refl _ _) (N0.on E.out.bel)).push (Below.refl _ _) (Nq.on E.out.bel))
             have i1 : (0 : Int) ≤ (q : Int) := by omega
             have i2 : (q : Int) < (k : Int) := by omega
             clear hz hmo C0 N0 Nq Cq hdq hd0
             go_wp2_with fail
             replace E := Lib.hid (St.lay (t := 25) (x0 := (.bool (ngB iq))) (x1 := (.slice Aq nq cq)) (x2 := (.int .i64 (sq : Int))) (g := V.heap.size) E.out rfl)
             generalize hW : World.alloc V _ = V2 at E ⊢
             clear hW y0 y1 y2 i1 i2
             rename_i KA hKA KB hKB
             replace E := Lib.hid (St.drew E.out)
             refine wp_cut (fun a' w' => ∃ (g16 : Nat) (A9 : Option Addr) (n9 c9 : Nat), Fr 146 a' [(1, .slice (some ⟨b, f0, none⟩) k c), (2, .int .i64 v), (3, .pointer (some ⟨w.heap.size, 0, none⟩)), (86, .slice (some ⟨b, f0, none⟩) k c), (87, .int .i64 (k : Int)), (88, .int .i64 (q : Int)), (15, .pointer (some ⟨V.heap.size, 0, none⟩)), (16, .pointer (some ⟨g16, 0, none⟩)), (17, .int .i64 er')] ∧ Hid (St u8 w' [(A9, n9, c9, (z).natAbs), (Aq, nq, cq, (iq).natAbs), (A0, n0, c0, (i0).natAbs), (Aa, na, ca, (i).natAbs)] [(g16, (.bool (ngB z)), (.slice A9 n9 c9), (.int .i64 (T : Int))), (V.heap.size, (.bool (ngB iq)), (.slice Aq nq cq), (.int .i64 (sq : Int)))])) ?_ ?_
             ·
               refine line_start (ops := opsAt Tryz.prog 3 22) (S := SX u8 [(V.heap.size, (.bool (ngB iq)), (.slice Aq nq cq), (.int .i64 (sq : Int)))]) (by kernel_rfl) (by kernel_rfl) (SX.of E (by simp)) ?_
               generalize V2.drew = v0 at E ⊢
               have hSw := SX.of (bs' := [(V.heap.size, (.bool (ngB iq)), (.slice Aq nq cq), (.int .i64 (sq : Int)))]) E (by simp)
               generalize hA : Act.mk _ _ = a
               have ha : Fr 146 a [(1, .slice (some ⟨b, f0, none⟩) k c), (2, .int .i64 v), (3, .pointer (some ⟨w.heap.size, 0, none⟩)), (86, .slice (some ⟨b, f0, none⟩) k c), (87, .int .i64 (k : Int)), (88, .int .i64 (q : Int)), (15, .pointer (some ⟨V.heap.size, 0, none⟩))] := by rw [← hA]; exact ⟨rfl, rfl, by intro q hq; simp at hq; rcases hq with rfl | rfl | rfl | rfl | rfl | rfl | rfl <;> rfl⟩
               clear hA
               refine line_ahead alAR 0 0 [] 0 93 (.agg #[(.bool (ngB i)), (.slice Aa na ca), (.int .i64 (s : Int))]) [(1, .slice (some ⟨b, f0, none⟩) k c), (2, .int .i64 v), (3, .pointer (some ⟨w.heap.size, 0, none⟩)), (86, .slice (some ⟨b, f0, none⟩) k c), (87, .int .i64 (k : Int)), (88, .int .i64 (q : Int)), (15, .pointer (some ⟨V.heap.size, 0, none⟩))] rfl (by decide) (by decide) (by decide) ha (fun o ho hg => y_of (wanted_none hg) (fun wx hS => e_load ho (ha.ev (i := 3) (v := .pointer (some ⟨w.heap.size, 0, none⟩)) (by simp)) (BT.out.on hS.2))) (by simp) hSw ?_; intro a ha
               refine line_ahead alAR 1 0 [0] 1 94 (.agg #[(.bool (ngB iq)), (.slice Aq nq cq), (.int .i64 (sq : Int))]) [(93, .agg #[(.bool (ngB i)), (.slice Aa na ca), (.int .i64 (s : Int))]), (1, .slice (some ⟨b, f0, none⟩) k c), (2, .int .i64 v), (3, .pointer (some ⟨w.heap.size, 0, none⟩)), (86, .slice (some ⟨b, f0, none⟩) k c), (87, .int .i64 (k : Int)), (88, .int .i64 (q : Int)), (15, .pointer (some ⟨V.heap.size, 0, none⟩))] rfl (by decide) (by decide) (by decide) ha (fun o ho hg => y_of (wanted_none hg) (fun wx hS => e_load ho (ha.ev (i := 15) (v := .pointer (some ⟨V.heap.size, 0, none⟩)) (by simp)) (hS.at_ (g := V.heap.size) (x0 := (.bool (ngB iq))) (x1 := (.slice Aq nq cq)) (x2 := (.int .i64 (sq : Int))) (by simp)))) (by simp) hSw ?_; intro a ha
               refine line_ahead alAR 2 0 [1, 0] 2 95 (.slice (some ⟨b, f0, none⟩) k c) [(94, .agg #[(.bool (ngB iq)), (.slice Aq nq cq), (.int .i64 (sq : Int))]), (93, .agg #[(.bool (ngB i)), (.slice Aa na ca), (.int .i64 (s : Int))]), (1, .slice (some ⟨b, f0, none⟩) k c), (2, .int .i64 v), (3, .pointer (some ⟨w.heap.size, 0, none⟩)), (86, .slice (some ⟨b, f0, none⟩) k c), (87, .int .i64 (k : Int)), (88, .int .i64 (q : Int)), (15, .pointer (some ⟨V.heap.size, 0, none⟩))] rfl (by decide) (by decide) (by decide) ha (fun o ho hg => y_of (wanted_none hg) (fun wx hS => e_move (.inl ho) (ha.ev (i := 1) (v := .slice (some ⟨b, f0, none⟩) k c) (by simp)))) (by simp) hSw ?_; intro a ha
               refine line_ahead alAR 3 0 [2, 1, 0] 3 96 (.pointer (some ⟨b, f0 + 0 * 3, none⟩)) [(94, .agg #[(.bool (ngB iq)), (.slice Aq nq cq), (.int .i64 (sq : Int))]), (93, .agg #[(.bool (ngB i)), (.slice Aa na ca), (.int .i64 (s : Int))]), (1, .slice (some ⟨b, f0, none⟩) k c), (2, .int .i64 v), (3, .pointer (some ⟨w.heap.size, 0, none⟩)), (86, .slice (some ⟨b, f0, none⟩) k c), (87, .int .i64 (k : Int)), (88, .int .i64 (q : Int)), (15, .pointer (some ⟨V.heap.size, 0, none⟩))] rfl (by decide) (by decide) (by decide) ha (fun o ho hg => y_of (wanted_none hg) (fun wx hS => e_idxY (j := 0) h0k HKC.out HCM2.out ho (ha.ev (i := 95) (v := .slice (some ⟨b, f0, none⟩) k c) (by simp)) rfl)) (by simp) hSw ?_; intro a ha
               refine line_ahead alAR 4 0 [3, 2, 1, 0] 4 97 (.agg #[(.bool (ngB i0)), (.slice A0 n0 c0), (.int .i64 (s0 : Int))]) [(94, .agg #[(.bool (ngB iq)), (.slice Aq nq cq), (.int .i64 (sq : Int))]), (93, .agg #[(.bool (ngB i)), (.slice Aa na ca), (.int .i64 (s : Int))]), (1, .slice (some ⟨b, f0, none⟩) k c), (2, .int .i64 v), (3, .pointer (some ⟨w.heap.size, 0, none⟩)), (86, .slice (some ⟨b, f0, none⟩) k c), (87, .int .i64 (k : Int)), (88, .int .i64 (q : Int)), (15, .pointer (some ⟨V.heap.size, 0, none⟩))] rfl (by decide) (by decide) (by decide) ha (fun o ho hg => y_of (wanted_none hg) (fun wx hS => e_loadY ho (ha.ev (i := 96) (v := .pointer (some ⟨b, f0 + 0 * 3, none⟩)) (by simp)) (HC0.out.on hS.2))) (by simp) hSw ?_; intro a ha
               refine line_ahead alAR 5 0 [4, 3, 2, 1, 0] 5 98 (.int .i64 v) [(97, .agg #[(.bool (ngB i0)), (.slice A0 n0 c0), (.int .i64 (s0 : Int))]), (94, .agg #[(.bool (ngB iq)), (.slice Aq nq cq), (.int .i64 (sq : Int))]), (93, .agg #[(.bool (ngB i)), (.slice Aa na ca), (.int .i64 (s : Int))]), (1, .slice (some ⟨b, f0, none⟩) k c), (2, .int .i64 v), (3, .pointer (some ⟨w.heap.size, 0, none⟩)), (86, .slice (some ⟨b, f0, none⟩) k c), (87, .int .i64 (k : Int)), (88, .int .i64 (q : Int)), (15, .pointer (some ⟨V.heap.size, 0, none⟩))] rfl (by decide) (by decide) (by decide) ha (fun o ho hg => y_of (wanted_none hg) (fun wx hS => e_move (.inl ho) (ha.ev (i := 2) (v := .int .i64 v) (by simp)))) (by simp) hSw ?_; intro a ha
               refine line_all alAR 6 0 [5, 4, 3, 2, 1, 0] [6, 10] (by decide) (alAB _ (by decide)) (by simp) ?_
               intro j hj; simp only [List.mem_cons, List.not_mem_nil, or_false] at hj
               rcases hj with rfl | rfl
               ·
                 refine turn_call alAR 6 0 [5, 4, 3, 2, 1, 0] 6 99 (args := #[.agg #[(.bool (ngB i)), (.slice Aa na ca), (.int .i64 (s : Int))], .agg #[(.bool (ngB iq)), (.slice Aq nq cq), (.int .i64 (sq : Int))], .agg #[(.bool (ngB i0)), (.slice A0 n0 c0), (.int .i64 (s0 : Int))], .int .i64 v]) [(1, .slice (some ⟨b, f0, none⟩) k c), (2, .int .i64 v), (3, .pointer (some ⟨w.heap.size, 0, none⟩)), (86, .slice (some ⟨b, f0, none⟩) k c), (87, .int .i64 (k : Int)), (88, .int .i64 (q : Int)), (15, .pointer (some ⟨V.heap.size, 0, none⟩))] rfl (by decide) ha (fun o ho hg => ⟨(wanted_none hg), e_call (by kernel_rfl) ho rfl (by have q0 := ha.ev (i := 93) (v := .agg #[(.bool (ngB i)), (.slice Aa na ca), (.int .i64 (s : Int))]) (by simp); have q1 := ha.ev (i := 94) (v := .agg #[(.bool (ngB iq)), (.slice Aq nq cq), (.int .i64 (sq : Int))]) (by simp); have q2 := ha.ev (i := 97) (v := .agg #[(.bool (ngB i0)), (.slice A0 n0 c0), (.int .i64 (s0 : Int))]) (by simp); have q3 := ha.ev (i := 98) (v := .int .i64 v) (by simp); simp only [List.map_toArray, List.map_cons, List.map_nil, ev_const, q0, q1, q2, q3])⟩) (by simp) ?_
                 refine (share_any _ _ _ _ _ _ _ _ _ _ _ _ S T i iq i0 v z er' _ (St.got E (A := Aa) (n := na) (c := ca) (a := (i).natAbs) (by simp)) (St.got E (A := Aq) (n := nq) (c := cq) (a := (iq).natAbs) (by simp)) (St.got E (A := A0) (n := n0) (c := c0) (a := (i0).natAbs) (by simp)) m1 mq m0 t1 tq t0 HV.out (by omega) HZ.out).mono ?_; rintro e v1 ⟨X1, m1_, d1, rfl, h, hb⟩
                 replace E := Lib.hid (St.push E.out hb h)
                 clear h hb
                 have hSw := SX.of (bs' := [(V.heap.size, (.bool (ngB iq)), (.slice Aq nq cq), (.int .i64 (sq : Int)))]) E (by simp); refine ⟨_, rfl, hSw, ?_⟩; intro a ha
                 refine line_ahead alAR 7 0 [6, 5, 4, 3, 2, 1, 0] 7 92 (.tuple #[.agg #[.bool (ngB z), .slice X1 m1_ d1, .int .i64 (T : Int)], .int .i64 er']) [(1, .slice (some ⟨b, f0, none⟩) k c), (2, .int .i64 v), (3, .pointer (some ⟨w.heap.size, 0, none⟩)), (86, .slice (some ⟨b, f0, none⟩) k c), (87, .int .i64 (k : Int)), (88, .int .i64 (q : Int)), (15, .pointer (some ⟨V.heap.size, 0, none⟩))] rfl (by decide) (by decide) (by decide) ha (fun o ho hg => y_of (wanted_none hg) (fun wx hS => e_move (.inl ho) (ha.ev (i := 99) (v := .tuple #[.agg #[.bool (ngB z), .slice X1 m1_ d1, .int .i64 (T : Int)], .int .i64 er']) (by simp)))) (by simp) hSw ?_; intro a ha
                 refine line_ahead alAR 8 0 [7, 6, 5, 4, 3, 2, 1, 0] 8 100 (.agg #[.bool (ngB z), .slice X1 m1_ d1, .int .i64 (T : Int)]) [(92, .tuple #[.agg #[.bool (ngB z), .slice X1 m1_ d1, .int .i64 (T : Int)], .int .i64 er']), (1, .slice (some ⟨b, f0, none⟩) k c), (2, .int .i64 v), (3, .pointer (some ⟨w.heap.size, 0, none⟩)), (86, .slice (some ⟨b, f0, none⟩) k c), (87, .int .i64 (k : Int)), (88, .int .i64 (q : Int)), (15, .pointer (some ⟨V.heap.size, 0, none⟩))] rfl (by decide) (by decide) (by decide) ha (fun o ho hg => y_of (wanted_none hg) (fun wx hS => e_extract (k := 0) ho (ha.ev (i := 92) (v := .tuple #[.agg #[.bool (ngB z), .slice X1 m1_ d1, .int .i64 (T : Int)], .int .i64 er']) (by simp)) rfl)) (by simp) hSw ?_; intro a ha
                 refine line_ahead alAR 9 0 [8, 7, 6, 5, 4, 3, 2, 1, 0] 9 101 (.int .i64 er') [(100, .agg #[.bool (ngB z), .slice X1 m1_ d1, .int .i64 (T : Int)]), (1, .slice (some ⟨b, f0, none⟩) k c), (2, .int .i64 v), (3, .pointer (some ⟨w.heap.size, 0, none⟩)), (86, .slice (some ⟨b, f0, none⟩) k c), (87, .int .i64 (k : Int)), (88, .int .i64 (q : Int)), (15, .pointer (some ⟨V.heap.size, 0, none⟩))] rfl (by decide) (by decide) (by decide) ha (fun o ho hg => y_of (wanted_none hg) (fun wx hS => e_extract (k := 1) ho (ha.ev (i := 92) (v := .tuple #[.agg #[.bool (ngB z), .slice X1 m1_ d1, .int .i64 (T : Int)], .int .i64 er']) (by simp)) rfl)) (by simp) hSw ?_; intro a ha
                 refine line_all alAR 10 0 [9, 8, 7, 6, 5, 4, 3, 2, 1, 0] [10] (by decide) (alAB _ (by decide)) (by simp) ?_
                 intro j hj; simp only [List.mem_cons, List.not_mem_nil, or_false] at hj
                 subst hj
                 have lt2_0 := (St.at_ (x0 := (.bool (ngB iq))) (x1 := (.slice Aq nq cq)) (x2 := (.int .i64 (sq : Int))) (g := V.heap.size) E (by simp)).lt
                 refine turn_op alAR 10 0 [9, 8, 7, 6, 5, 4, 3, 2, 1, 0] 10 16 (v := .pointer (some ⟨v1.heap.size, 0, none⟩)) (w' := v1.alloc (.cells #[.bool false, .slice none 0 0, .int .i64 0] 25)) [(101, .int .i64 er'), (100, .agg #[.bool (ngB z), .slice X1 m1_ d1, .int .i64 (T : Int)]), (1, .slice (some ⟨b, f0, none⟩) k c), (2, .int .i64 v), (3, .pointer (some ⟨w.heap.size, 0, none⟩)), (86, .slice (some ⟨b, f0, none⟩) k c), (87, .int .i64 (k : Int)), (88, .int .i64 (q : Int)), (15, .pointer (some ⟨V.heap.size, 0, none⟩))] rfl (by decide) ha (fun o ho hg => ⟨(wanted_none hg), e_alloc ho⟩) (by simp) (SX.of (bs' := [(V.heap.size, (.bool (ngB iq)), (.slice Aq nq cq), (.int .i64 (sq : Int)))]) (Lib.hid (St.alloc E.out _)) (by simp)) ?_; intro a ha
                 replace E := Lib.hid (St.lay (t := 25) (x0 := .bool false) (x1 := .slice none 0 0) (x2 := .int .i64 0) (g := v1.heap.size) E.out rfl)
                 generalize hW : World.alloc v1 _ = v2 at E ⊢; clear hW
                 have hSw := SX.of (bs' := [(V.heap.size, (.bool (ngB iq)), (.slice Aq nq cq), (.int .i64 (sq : Int)))]) E (by simp)
                 refine line_all alAR 11 0 [10, 9, 8, 7, 6, 5, 4, 3, 2, 1, 0] [11] (by decide) (alAB _ (by decide)) (by simp) ?_
                 intro j hj; simp only [List.mem_cons, List.not_mem_nil, or_false] at hj
                 subst hj
                 have E2 := Lib.hid (St.store E.out (g := v1.heap.size) (x0 := .bool false) (x1 := .slice none 0 0) (x2 := .int .i64 0) (by simp) (noLimb_bool _) (noLimb_slice _ _ _) (noLimb_int _) [(V.heap.size, (.bool (ngB iq)), (.slice Aq nq cq), (.int .i64 (sq : Int)))] (by simp <;> omega) (.bool (ngB z)) (.slice X1 m1_ d1) (.int .i64 (T : Int)))
                 refine turn_store alAR 11 0 [10, 9, 8, 7, 6, 5, 4, 3, 2, 1, 0] 11 (w' := put3 v2 (v1.heap.size) (.bool (ngB z)) (.slice X1 m1_ d1) (.int .i64 (T : Int))) rfl ha (fun o ho hg => ⟨(wanted_none hg), e_store ho (ha.ev (i := 16) (v := .pointer (some ⟨v1.heap.size, 0, none⟩)) (by simp)) (ha.ev (i := 100) (v := .agg #[.bool (ngB z), .slice X1 m1_ d1, .int .i64 (T : Int)]) (by simp)) (St.at_ (g := v1.heap.size) (x0 := .bool false) (x1 := .slice none 0 0) (x2 := .int .i64 0) E (by simp))⟩) (SX.of (bs' := [(V.heap.size, (.bool (ngB iq)), (.slice Aq nq cq), (.int .i64 (sq : Int)))]) E2 (by simp)) ?_; intro a ha
                 replace E := E2; clear E2
                 generalize hW : put3 v2 _ _ _ _ = v3 at E ⊢; clear hW
                 have hSw := SX.of (bs' := [(V.heap.size, (.bool (ngB iq)), (.slice Aq nq cq), (.int .i64 (sq : Int)))]) E (by simp)
                 refine line_ahead alAR 12 0 [11, 10, 9, 8, 7, 6, 5, 4, 3, 2, 1, 0] 12 17 (.int .i64 er') [(16, .pointer (some ⟨v1.heap.size, 0, none⟩)), (1, .slice (some ⟨b, f0, none⟩) k c), (2, .int .i64 v), (3, .pointer (some ⟨w.heap.size, 0, none⟩)), (86, .slice (some ⟨b, f0, none⟩) k c), (87, .int .i64 (k : Int)), (88, .int .i64 (q : Int)), (15, .pointer (some ⟨V.heap.size, 0, none⟩))] rfl (by decide) (by decide) (by decide) ha (fun o ho hg => y_of (wanted_none hg) (fun wx hS => e_move (.inr ho) (ha.ev (i := 101) (v := .int .i64 er') (by simp)))) (by simp) hSw ?_; intro a ha
                 refine line_end0 alAR (show ∀ i, i < 13 → i ∈ [12, 11, 10, 9, 8, 7, 6, 5, 4, 3, 2, 1, 0] by decide) ?_
                 exact ⟨rfl, v1.heap.size, X1, m1_, d1, ha.sub (by simp), Lib.hid ((E.out).sub (by simp) (by simp))⟩
               ·
                 have lt4_0 := (St.at_ (x0 := (.bool (ngB iq))) (x1 := (.slice Aq nq cq)) (x2 := (.int .i64 (sq : Int))) (g := V.heap.size) E (by simp)).lt
                 refine turn_op alAR 6 0 [5, 4, 3, 2, 1, 0] 10 16 (v := .pointer (some ⟨v0.heap.size, 0, none⟩)) (w' := v0.alloc (.cells #[.bool false, .slice none 0 0, .int .i64 0] 25)) [(98, .int .i64 v), (97, .agg #[(.bool (ngB i0)), (.slice A0 n0 c0), (.int .i64 (s0 : Int))]), (94, .agg #[(.bool (ngB iq)), (.slice Aq nq cq), (.int .i64 (sq : Int))]), (93, .agg #[(.bool (ngB i)), (.slice Aa na ca), (.int .i64 (s : Int))]), (1, .slice (some ⟨b, f0, none⟩) k c), (2, .int .i64 v), (3, .pointer (some ⟨w.heap.size, 0, none⟩)), (86, .slice (some ⟨b, f0, none⟩) k c), (87, .int .i64 (k : Int)), (88, .int .i64 (q : Int)), (15, .pointer (some ⟨V.heap.size, 0, none⟩))] rfl (by decide) ha (fun o ho hg => ⟨(wanted_none hg), e_alloc ho⟩) (by simp) (SX.of (bs' := [(V.heap.size, (.bool (ngB iq)), (.slice Aq nq cq), (.int .i64 (sq : Int)))]) (Lib.hid (St.alloc E.out _)) (by simp)) ?_; intro a ha
                 replace E := Lib.hid (St.lay (t := 25) (x0 := .bool false) (x1 := .slice none 0 0) (x2 := .int .i64 0) (g := v0.heap.size) E.out rfl)
                 generalize hW : World.alloc v0 _ = v4 at E ⊢; clear hW
                 have hSw := SX.of (bs' := [(V.heap.size, (.bool (ngB iq)), (.slice Aq nq cq), (.int .i64 (sq : Int)))]) E (by simp)
                 refine line_all alAR 7 0 [10, 5, 4, 3, 2, 1, 0] [6] (by decide) (alAB _ (by decide)) (by simp) ?_
                 intro j hj; simp only [List.mem_cons, List.not_mem_nil, or_false] at hj
                 subst hj
                 refine turn_call alAR 7 0 [10, 5, 4, 3, 2, 1, 0] 6 99 (args := #[.agg #[(.bool (ngB i)), (.slice Aa na ca), (.int .i64 (s : Int))], .agg #[(.bool (ngB iq)), (.slice Aq nq cq), (.int .i64 (sq : Int))], .agg #[(.bool (ngB i0)), (.slice A0 n0 c0), (.int .i64 (s0 : Int))], .int .i64 v]) [(16, .pointer (some ⟨v0.heap.size, 0, none⟩)), (1, .slice (some ⟨b, f0, none⟩) k c), (2, .int .i64 v), (3, .pointer (some ⟨w.heap.size, 0, none⟩)), (86, .slice (some ⟨b, f0, none⟩) k c), (87, .int .i64 (k : Int)), (88, .int .i64 (q : Int)), (15, .pointer (some ⟨V.heap.size, 0, none⟩))] rfl (by decide) ha (fun o ho hg => ⟨(wanted_none hg), e_call (by kernel_rfl) ho rfl (by have q0 := ha.ev (i := 93) (v := .agg #[(.bool (ngB i)), (.slice Aa na ca), (.int .i64 (s : Int))]) (by simp); have q1 := ha.ev (i := 94) (v := .agg #[(.bool (ngB iq)), (.slice Aq nq cq), (.int .i64 (sq : Int))]) (by simp); have q2 := ha.ev (i := 97) (v := .agg #[(.bool (ngB i0)), (.slice A0 n0 c0), (.int .i64 (s0 : Int))]) (by simp); have q3 := ha.ev (i := 98) (v := .int .i64 v) (by simp); simp only [List.map_toArray, List.map_cons, List.map_nil, ev_const, q0, q1, q2, q3])⟩) (by simp) ?_
                 refine (share_any _ _ _ _ _ _ _ _ _ _ _ _ S T i iq i0 v z er' _ (St.got E (A := Aa) (n := na) (c := ca) (a := (i).natAbs) (by simp)) (St.got E (A := Aq) (n := nq) (c := cq) (a := (iq).natAbs) (by simp)) (St.got E (A := A0) (n := n0) (c := c0) (a := (i0).natAbs) (by simp)) m1 mq m0 t1 tq t0 HV.out (by omega) HZ.out).mono ?_; rintro e v5 ⟨X5, m5_, d5, rfl, h, hb⟩
                 replace E := Lib.hid (St.push E.out hb h)
                 clear h hb
                 have hSw := SX.of (bs' := [(V.heap.size, (.bool (ngB iq)), (.slice Aq nq cq), (.int .i64 (sq : Int)))]) E (by simp); refine ⟨_, rfl, hSw, ?_⟩; intro a ha
                 refine line_ahead alAR 8 0 [6, 10, 5, 4, 3, 2, 1, 0] 7 92 (.tuple #[.agg #[.bool (ngB z), .slice X5 m5_ d5, .int .i64 (T : Int)], .int .i64 er']) [(16, .pointer (some ⟨v0.heap.size, 0, none⟩)), (1, .slice (some ⟨b, f0, none⟩) k c), (2, .int .i64 v), (3, .pointer (some ⟨w.heap.size, 0, none⟩)), (86, .slice (some ⟨b, f0, none⟩) k c), (87, .int .i64 (k : Int)), (88, .int .i64 (q : Int)), (15, .pointer (some ⟨V.heap.size, 0, none⟩))] rfl (by decide) (by decide) (by decide) ha (fun o ho hg => y_of (wanted_none hg) (fun wx hS => e_move (.inl ho) (ha.ev (i := 99) (v := .tuple #[.agg #[.bool (ngB z), .slice X5 m5_ d5, .int .i64 (T : Int)], .int .i64 er']) (by simp)))) (by simp) hSw ?_; intro a ha
                 refine line_ahead alAR 9 0 [7, 6, 10, 5, 4, 3, 2, 1, 0] 8 100 (.agg #[.bool (ngB z), .slice X5 m5_ d5, .int .i64 (T : Int)]) [(92, .tuple #[.agg #[.bool (ngB z), .slice X5 m5_ d5, .int .i64 (T : Int)], .int .i64 er']), (16, .pointer (some ⟨v0.heap.size, 0, none⟩)), (1, .slice (some ⟨b, f0, none⟩) k c), (2, .int .i64 v), (3, .pointer (some ⟨w.heap.size, 0, none⟩)), (86, .slice (some ⟨b, f0, none⟩) k c), (87, .int .i64 (k : Int)), (88, .int .i64 (q : Int)), (15, .pointer (some ⟨V.heap.size, 0, none⟩))] rfl (by decide) (by decide) (by decide) ha (fun o ho hg => y_of (wanted_none hg) (fun wx hS => e_extract (k := 0) ho (ha.ev (i := 92) (v := .tuple #[.agg #[.bool (ngB z), .slice X5 m5_ d5, .int .i64 (T : Int)], .int .i64 er']) (by simp)) rfl)) (by simp) hSw ?_; intro a ha
                 refine line_ahead alAR 10 0 [8, 7, 6, 10, 5, 4, 3, 2, 1, 0] 9 101 (.int .i64 er') [(100, .agg #[.bool (ngB z), .slice X5 m5_ d5, .int .i64 (T : Int)]), (16, .pointer (some ⟨v0.heap.size, 0, none⟩)), (1, .slice (some ⟨b, f0, none⟩) k c), (2, .int .i64 v), (3, .pointer (some ⟨w.heap.size, 0, none⟩)), (86, .slice (some ⟨b, f0, none⟩) k c), (87, .int .i64 (k : Int)), (88, .int .i64 (q : Int)), (15, .pointer (some ⟨V.heap.size, 0, none⟩))] rfl (by decide) (by decide) (by decide) ha (fun o ho hg => y_of (wanted_none hg) (fun wx hS => e_extract (k := 1) ho (ha.ev (i := 92) (v := .tuple #[.agg #[.bool (ngB z), .slice X5 m5_ d5, .int .i64 (T : Int)], .int .i64 er']) (by simp)) rfl)) (by simp) hSw ?_; intro a ha
                 refine line_all alAR 11 0 [9, 8, 7, 6, 10, 5, 4, 3, 2, 1, 0] [11] (by decide) (alAB _ (by decide)) (by simp) ?_
                 intro j hj; simp only [List.mem_cons, List.not_mem_nil, or_false] at hj
                 subst hj
                 have E2 := Lib.hid (St.store E.out (g := v0.heap.size) (x0 := .bool false) (x1 := .slice none 0 0) (x2 := .int .i64 0) (by simp) (noLimb_bool _) (noLimb_slice _ _ _) (noLimb_int _) [(V.heap.size, (.bool (ngB iq)), (.slice Aq nq cq), (.int .i64 (sq : Int)))] (by simp <;> omega) (.bool (ngB z)) (.slice X5 m5_ d5) (.int .i64 (T : Int)))
                 refine turn_store alAR 11 0 [9, 8, 7, 6, 10, 5, 4, 3, 2, 1, 0] 11 (w' := put3 v5 (v0.heap.size) (.bool (ngB z)) (.slice X5 m5_ d5) (.int .i64 (T : Int))) rfl ha (fun o ho hg => ⟨(wanted_none hg), e_store ho (ha.ev (i := 16) (v := .pointer (some ⟨v0.heap.size, 0, none⟩)) (by simp)) (ha.ev (i := 100) (v := .agg #[.bool (ngB z), .slice X5 m5_ d5, .int .i64 (T : Int)]) (by simp)) (St.at_ (g := v0.heap.size) (x0 := .bool false) (x1 := .slice none 0 0) (x2 := .int .i64 0) E (by simp))⟩) (SX.of (bs' := [(V.heap.size, (.bool (ngB iq)), (.slice Aq nq cq), (.int .i64 (sq : Int)))]) E2 (by simp)) ?_; intro a ha
                 replace E := E2; clear E2
                 generalize hW : put3 v5 _ _ _ _ = v6 at E ⊢; clear hW
                 have hSw := SX.of (bs' := [(V.heap.size, (.bool (ngB iq)), (.slice Aq nq cq), (.int .i64 (sq : Int)))]) E (by simp)
                 refine line_ahead alAR 12 0 [11, 9, 8, 7, 6, 10, 5, 4, 3, 2, 1, 0] 12 17 (.int .i64 er') [(16, .pointer (some ⟨v0.heap.size, 0, none⟩)), (1, .slice (some ⟨b, f0, none⟩) k c), (2, .int .i64 v), (3, .pointer (some ⟨w.heap.size, 0, none⟩)), (86, .slice (some ⟨b, f0, none⟩) k c), (87, .int .i64 (k : Int)), (88, .int .i64 (q : Int)), (15, .pointer (some ⟨V.heap.size, 0, none⟩))] rfl (by decide) (by decide) (by decide) ha (fun o ho hg => y_of (wanted_none hg) (fun wx hS => e_move (.inr ho) (ha.ev (i := 101) (v := .int .i64 er') (by simp)))) (by simp) hSw ?_; intro a ha
                 refine line_end0 alAR (show ∀ i, i < 13 → i ∈ [12, 11, 9, 8, 7, 6, 10, 5, 4, 3, 2, 1, 0] by decide) ?_
                 exact ⟨rfl, v0.heap.size, X5, m5_, d5, ha.sub (by simp), Lib.hid ((E.out).sub (by simp) (by simp))⟩
             clear E
             rintro a wN ⟨g16, A9, n9, c9, ha, E⟩
             simp only [Exit.then]
             refine hKB _ _ ?_
             clear hKB KB
             refine wp_seq_k (fun KB hKB => ?_)
             replace E := Lib.hid (St.drew E.out)
             refine wp_cut (fun a' w' => ∃ (g18 : Nat) (A10 : Option Addr) (n10 c10 : Nat), Fr 146 a' [(1, .slice (some ⟨b, f0, none⟩) k c), (2, .int .i64 v), (3, .pointer (some ⟨w.heap.size, 0, none⟩)), (86, .slice (some ⟨b, f0, none⟩) k c), (87, .int .i64 (k : Int)), (88, .int .i64 (q : Int)), (15, .pointer (some ⟨V.heap.size, 0, none⟩)), (16, .pointer (some ⟨g16, 0, none⟩)), (17, .int .i64 er'), (18, .pointer (some ⟨g18, 0, none⟩)), (19, .int .i64 er')] ∧ Hid (St u8 w' [(A10, n10, c10, (z).natAbs), (A9, n9, c9, (z).natAbs), (Aq, nq, cq, (iq).natAbs), (A0, n0, c0, (i0).natAbs), (Aa, na, ca, (i).natAbs)] [(g18, (.bool (ngB z)), (.slice A10 n10 c10), (.int .i64 (T : Int))), (g16, (.bool (ngB z)), (.slice A9 n9 c9), (.int .i64 (T : Int))), (V.heap.size, (.bool (ngB iq)), (.slice Aq nq cq), (.int .i64 (sq : Int)))])) ?_ ?_
             ·
               refine line_start (ops := opsAt Tryz.prog 3 23) (S := SX u8 [(V.heap.size, (.bool (ngB iq)), (.slice Aq nq cq), (.int .i64 (sq : Int)))]) (by kernel_rfl) (by kernel_rfl) (SX.of E (by simp)) ?_
               generalize wN.drew = v0 at E ⊢
               have hSw := SX.of (bs' := [(V.heap.size, (.bool (ngB iq)), (.slice Aq nq cq), (.int .i64 (sq : Int)))]) E (by simp)
               skip
               refine line_ahead alBR 0 0 [] 0 103 (.agg #[(.bool (ngB i)), (.slice Aa na ca), (.int .i64 (s : Int))]) [(1, .slice (some ⟨b, f0, none⟩) k c), (2, .int .i64 v), (3, .pointer (some ⟨w.heap.size, 0, none⟩)), (86, .slice (some ⟨b, f0, none⟩) k c), (87, .int .i64 (k : Int)), (88, .int .i64 (q : Int)), (15, .pointer (some ⟨V.heap.size, 0, none⟩)), (16, .pointer (some ⟨g16, 0, none⟩)), (17, .int .i64 er')] rfl (by decide) (by decide) (by decide) ha (fun o ho hg => y_of (wanted_none hg) (fun wx hS => e_load ho (ha.ev (i := 3) (v := .pointer (some ⟨w.heap.size, 0, none⟩)) (by simp)) (BT.out.on hS.2))) (by simp) hSw ?_; intro a ha
               refine line_ahead alBR 1 0 [0] 1 104 (.agg #[(.bool (ngB iq)), (.slice Aq nq cq), (.int .i64 (sq : Int))]) [(103, .agg #[(.bool (ngB i)), (.slice Aa na ca), (.int .i64 (s : Int))]), (1, .slice (some ⟨b, f0, none⟩) k c), (2, .int .i64 v), (3, .pointer (some ⟨w.heap.size, 0, none⟩)), (86, .slice (some ⟨b, f0, none⟩) k c), (87, .int .i64 (k : Int)), (88, .int .i64 (q : Int)), (15, .pointer (some ⟨V.heap.size, 0, none⟩)), (16, .pointer (some ⟨g16, 0, none⟩)), (17, .int .i64 er')] rfl (by decide) (by decide) (by decide) ha (fun o ho hg => y_of (wanted_none hg) (fun wx hS => e_load ho (ha.ev (i := 15) (v := .pointer (some ⟨V.heap.size, 0, none⟩)) (by simp)) (hS.at_ (g := V.heap.size) (x0 := (.bool (ngB iq))) (x1 := (.slice Aq nq cq)) (x2 := (.int .i64 (sq : Int))) (by simp)))) (by simp) hSw ?_; intro a ha
               refine line_ahead alBR 2 0 [1, 0] 2 105 (.slice (some ⟨b, f0, none⟩) k c) [(104, .agg #[(.bool (ngB iq)), (.slice Aq nq cq), (.int .i64 (sq : Int))]), (103, .agg #[(.bool (ngB i)), (.slice Aa na ca), (.int .i64 (s : Int))]), (1, .slice (some ⟨b, f0, none⟩) k c), (2, .int .i64 v), (3, .pointer (some ⟨w.heap.size, 0, none⟩)), (86, .slice (some ⟨b, f0, none⟩) k c), (87, .int .i64 (k : Int)), (88, .int .i64 (q : Int)), (15, .pointer (some ⟨V.heap.size, 0, none⟩)), (16, .pointer (some ⟨g16, 0, none⟩)), (17, .int .i64 er')] rfl (by decide) (by decide) (by decide) ha (fun o ho hg => y_of (wanted_none hg) (fun wx hS => e_move (.inl ho) (ha.ev (i := 1) (v := .slice (some ⟨b, f0, none⟩) k c) (by simp)))) (by simp) hSw ?_; intro a ha
               refine line_ahead alBR 3 0 [2, 1, 0] 3 106 (.pointer (some ⟨b, f0 + 0 * 3, none⟩)) [(104, .agg #[(.bool (ngB iq)), (.slice Aq nq cq), (.int .i64 (sq : Int))]), (103, .agg #[(.bool (ngB i)), (.slice Aa na ca), (.int .i64 (s : Int))]), (1, .slice (some ⟨b, f0, none⟩) k c), (2, .int .i64 v), (3, .pointer (some ⟨w.heap.size, 0, none⟩)), (86, .slice (some ⟨b, f0, none⟩) k c), (87, .int .i64 (k : Int)), (88, .int .i64 (q : Int)), (15, .pointer (some ⟨V.heap.size, 0, none⟩)), (16, .pointer (some ⟨g16, 0, none⟩)), (17, .int .i64 er')] rfl (by decide) (by decide) (by decide) ha (fun o ho hg => y_of (wanted_none hg) (fun wx hS => e_idxY (j := 0) h0k HKC.out HCM2.out ho (ha.ev (i := 105) (v := .slice (some ⟨b, f0, none⟩) k c) (by simp)) rfl)) (by simp) hSw ?_; intro a ha
               refine line_ahead alBR 4 0 [3, 2, 1, 0] 4 107 (.agg #[(.bool (ngB i0)), (.slice A0 n0 c0), (.int .i64 (s0 : Int))]) [(104, .agg #[(.bool (ngB iq)), (.slice Aq nq cq), (.int .i64 (sq : Int))]), (103, .agg #[(.bool (ngB i)), (.slice Aa na ca), (.int .i64 (s : Int))]), (1, .slice (some ⟨b, f0, none⟩) k c), (2, .int .i64 v), (3, .pointer (some ⟨w.heap.size, 0, none⟩)), (86, .slice (some ⟨b, f0, none⟩) k c), (87, .int .i64 (k : Int)), (88, .int .i64 (q : Int)), (15, .pointer (some ⟨V.heap.size, 0, none⟩)), (16, .pointer (some ⟨g16, 0, none⟩)), (17, .int .i64 er')] rfl (by decide) (by decide) (by decide) ha (fun o ho hg => y_of (wanted_none hg) (fun wx hS => e_loadY ho (ha.ev (i := 106) (v := .pointer (some ⟨b, f0 + 0 * 3, none⟩)) (by simp)) (HC0.out.on hS.2))) (by simp) hSw ?_; intro a ha
               refine line_ahead alBR 5 0 [4, 3, 2, 1, 0] 5 108 (.int .i64 v) [(107, .agg #[(.bool (ngB i0)), (.slice A0 n0 c0), (.int .i64 (s0 : Int))]), (104, .agg #[(.bool (ngB iq)), (.slice Aq nq cq), (.int .i64 (sq : Int))]), (103, .agg #[(.bool (ngB i)), (.slice Aa na ca), (.int .i64 (s : Int))]), (1, .slice (some ⟨b, f0, none⟩) k c), (2, .int .i64 v), (3, .pointer (some ⟨w.heap.size, 0, none⟩)), (86, .slice (some ⟨b, f0, none⟩) k c), (87, .int .i64 (k : Int)), (88, .int .i64 (q : Int)), (15, .pointer (some ⟨V.heap.size, 0, none⟩)), (16, .pointer (some ⟨g16, 0, none⟩)), (17, .int .i64 er')] rfl (by decide) (by decide) (by decide) ha (fun o ho hg => y_of (wanted_none hg) (fun wx hS => e_move (.inl ho) (ha.ev (i := 2) (v := .int .i64 v) (by simp)))) (by simp) hSw ?_; intro a ha
               refine line_all alBR 6 0 [5, 4, 3, 2, 1, 0] [6, 10] (by decide) (alBB _ (by decide)) (by simp) ?_
               intro j hj; simp only [List.mem_cons, List.not_mem_nil, or_false] at hj
               rcases hj with rfl | rfl
               ·
                 refine turn_call alBR 6 0 [5, 4, 3, 2, 1, 0] 6 109 (args := #[.agg #[(.bool (ngB i)), (.slice Aa na ca), (.int .i64 (s : Int))], .agg #[(.bool (ngB iq)), (.slice Aq nq cq), (.int .i64 (sq : Int))], .agg #[(.bool (ngB i0)), (.slice A0 n0 c0), (.int .i64 (s0 : Int))], .int .i64 v]) [(1, .slice (some ⟨b, f0, none⟩) k c), (2, .int .i64 v), (3, .pointer (some ⟨w.heap.size, 0, none⟩)), (86, .slice (some ⟨b, f0, none⟩) k c), (87, .int .i64 (k : Int)), (88, .int .i64 (q : Int)), (15, .pointer (some ⟨V.heap.size, 0, none⟩)), (16, .pointer (some ⟨g16, 0, none⟩)), (17, .int .i64 er')] rfl (by decide) ha (fun o ho hg => ⟨(wanted_none hg), e_call (by kernel_rfl) ho rfl (by have q0 := ha.ev (i := 103) (v := .agg #[(.bool (ngB i)), (.slice Aa na ca), (.int .i64 (s : Int))]) (by simp); have q1 := ha.ev (i := 104) (v := .agg #[(.bool (ngB iq)), (.slice Aq nq cq), (.int .i64 (sq : Int))]) (by simp); have q2 := ha.ev (i := 107) (v := .agg #[(.bool (ngB i0)), (.slice A0 n0 c0), (.int .i64 (s0 : Int))]) (by simp); have q3 := ha.ev (i := 108) (v := .int .i64 v) (by simp); simp only [List.map_toArray, List.map_cons, List.map_nil, ev_const, q0, q1, q2, q3])⟩) (by simp) ?_
                 refine (refshare_any _ _ _ _ _ _ _ _ _ _ _ _ S T i iq i0 v z er' _ (St.got E (A := Aa) (n := na) (c := ca) (a := (i).natAbs) (by simp)) (St.got E (A := Aq) (n := nq) (c := cq) (a := (iq).natAbs) (by simp)) (St.got E (A := A0) (n := n0) (c := c0) (a := (i0).natAbs) (by simp)) m1 mq m0 t1 tq t0 HV.out (by omega) HZ.out).mono ?_; rintro e v1 ⟨X1, m1_, d1, rfl, h, hb⟩
                 replace E := Lib.hid (St.push E.out hb h)
                 clear h hb
                 have hSw := SX.of (bs' := [(V.heap.size, (.bool (ngB iq)), (.slice Aq nq cq), (.int .i64 (sq : Int)))]) E (by simp); refine ⟨_, rfl, hSw, ?_⟩; intro a ha
                 refine line_ahead alBR 7 0 [6, 5, 4, 3, 2, 1, 0] 7 102 (.tuple #[.agg #[.bool (ngB z), .slice X1 m1_ d1, .int .i64 (T : Int)], .int .i64 er']) [(1, .slice (some ⟨b, f0, none⟩) k c), (2, .int .i64 v), (3, .pointer (some ⟨w.heap.size, 0, none⟩)), (86, .slice (some ⟨b, f0, none⟩) k c), (87, .int .i64 (k : Int)), (88, .int .i64 (q : Int)), (15, .pointer (some ⟨V.heap.size, 0, none⟩)), (16, .pointer (some ⟨g16, 0, none⟩)), (17, .int .i64 er')] rfl (by decide) (by decide) (by decide) ha (fun o ho hg => y_of (wanted_none hg) (fun wx hS => e_move (.inl ho) (ha.ev (i := 109) (v := .tuple #[.agg #[.bool (ngB z), .slice X1 m1_ d1, .int .i64 (T : Int)], .int .i64 er']) (by simp)))) (by simp) hSw ?_; intro a ha
                 refine line_ahead alBR 8 0 [7, 6, 5, 4, 3, 2, 1, 0] 8 110 (.agg #[.bool (ngB z), .slice X1 m1_ d1, .int .i64 (T : Int)]) [(102, .tuple #[.agg #[.bool (ngB z), .slice X1 m1_ d1, .int .i64 (T : Int)], .int .i64 er']), (1, .slice (some ⟨b, f0, none⟩) k c), (2, .int .i64 v), (3, .pointer (some ⟨w.heap.size, 0, none⟩)), (86, .slice (some ⟨b, f0, none⟩) k c), (87, .int .i64 (k : Int)), (88, .int .i64 (q : Int)), (15, .pointer (some ⟨V.heap.size, 0, none⟩)), (16, .pointer (some ⟨g16, 0, none⟩)), (17, .int .i64 er')] rfl (by decide) (by decide) (by decide) ha (fun o ho hg => y_of (wanted_none hg) (fun wx hS => e_extract (k := 0) ho (ha.ev (i := 102) (v := .tuple #[.agg #[.bool (ngB z), .slice X1 m1_ d1, .int .i64 (T : Int)], .int .i64 er']) (by simp)) rfl)) (by simp) hSw ?_; intro a ha
                 refine line_ahead alBR 9 0 [8, 7, 6, 5, 4, 3, 2, 1, 0] 9 111 (.int .i64 er') [(110, .agg #[.bool (ngB z), .slice X1 m1_ d1, .int .i64 (T : Int)]), (1, .slice (some ⟨b, f0, none⟩) k c), (2, .int .i64 v), (3, .pointer (some ⟨w.heap.size, 0, none⟩)), (86, .slice (some ⟨b, f0, none⟩) k c), (87, .int .i64 (k : Int)), (88, .int .i64 (q : Int)), (15, .pointer (some ⟨V.heap.size, 0, none⟩)), (16, .pointer (some ⟨g16, 0, none⟩)), (17, .int .i64 er')] rfl (by decide) (by decide) (by decide) ha (fun o ho hg => y_of (wanted_none hg) (fun wx hS => e_extract (k := 1) ho (ha.ev (i := 102) (v := .tuple #[.agg #[.bool (ngB z), .slice X1 m1_ d1, .int .i64 (T : Int)], .int .i64 er']) (by simp)) rfl)) (by simp) hSw ?_; intro a ha
                 refine line_all alBR 10 0 [9, 8, 7, 6, 5, 4, 3, 2, 1, 0] [10] (by decide) (alBB _ (by decide)) (by simp) ?_
                 intro j hj; simp only [List.mem_cons, List.not_mem_nil, or_false] at hj
                 subst hj
                 have lt2_0 := (St.at_ (x0 := (.bool (ngB z))) (x1 := (.slice A9 n9 c9)) (x2 := (.int .i64 (T : Int))) (g := g16) E (by simp)).lt
                 have lt2_1 := (St.at_ (x0 := (.bool (ngB iq))) (x1 := (.slice Aq nq cq)) (x2 := (.int .i64 (sq : Int))) (g := V.heap.size) E (by simp)).lt
                 refine turn_op alBR 10 0 [9, 8, 7, 6, 5, 4, 3, 2, 1, 0] 10 18 (v := .pointer (some ⟨v1.heap.size, 0, none⟩)) (w' := v1.alloc (.cells #[.bool false, .slice none 0 0, .int .i64 0] 25)) [(111, .int .i64 er'), (110, .agg #[.bool (ngB z), .slice X1 m1_ d1, .int .i64 (T : Int)]), (1, .slice (some ⟨b, f0, none⟩) k c), (2, .int .i64 v), (3, .pointer (some ⟨w.heap.size, 0, none⟩)), (86, .slice (some ⟨b, f0, none⟩) k c), (87, .int .i64 (k : Int)), (88, .int .i64 (q : Int)), (15, .pointer (some ⟨V.heap.size, 0, none⟩)), (16, .pointer (some ⟨g16, 0, none⟩)), (17, .int .i64 er')] rfl (by decide) ha (fun o ho hg => ⟨(wanted_none hg), e_alloc ho⟩) (by simp) (SX.of (bs' := [(V.heap.size, (.bool (ngB iq)), (.slice Aq nq cq), (.int .i64 (sq : Int)))]) (Lib.hid (St.alloc E.out _)) (by simp)) ?_; intro a ha
                 replace E := Lib.hid (St.lay (t := 25) (x0 := .bool false) (x1 := .slice none 0 0) (x2 := .int .i64 0) (g := v1.heap.size) E.out rfl)
                 generalize hW : World.alloc v1 _ = v2 at E ⊢; clear hW
                 have hSw := SX.of (bs' := [(V.heap.size, (.bool (ngB iq)), (.slice Aq nq cq), (.int .i64 (sq : Int)))]) E (by simp)
                 refine line_all alBR 11 0 [10, 9, 8, 7, 6, 5, 4, 3, 2, 1, 0] [11] (by decide) (alBB _ (by decide)) (by simp) ?_
                 intro j hj; simp only [List.mem_cons, List.not_mem_nil, or_false] at hj
                 subst hj
                 have E2 := Lib.hid (St.store E.out (g := v1.heap.size) (x0 := .bool false) (x1 := .slice none 0 0) (x2 := .int .i64 0) (by simp) (noLimb_bool _) (noLimb_slice _ _ _) (noLimb_int _) [(g16, (.bool (ngB z)), (.slice A9 n9 c9), (.int .i64 (T : Int))), (V.heap.size, (.bool (ngB iq)), (.slice Aq nq cq), (.int .i64 (sq : Int)))] (by simp <;> omega) (.bool (ngB z)) (.slice X1 m1_ d1) (.int .i64 (T : Int)))
                 refine turn_store alBR 11 0 [10, 9, 8, 7, 6, 5, 4, 3, 2, 1, 0] 11 (w' := put3 v2 (v1.heap.size) (.bool (ngB z)) (.slice X1 m1_ d1) (.int .i64 (T : Int))) rfl ha (fun o ho hg => ⟨(wanted_none hg), e_store ho (ha.ev (i := 18) (v := .pointer (some ⟨v1.heap.size, 0, none⟩)) (by simp)) (ha.ev (i := 110) (v := .agg #[.bool (ngB z), .slice X1 m1_ d1, .int .i64 (T : Int)]) (by simp)) (St.at_ (g := v1.heap.size) (x0 := .bool false) (x1 := .slice none 0 0) (x2 := .int .i64 0) E (by simp))⟩) (SX.of (bs' := [(V.heap.size, (.bool (ngB iq)), (.slice Aq nq cq), (.int .i64 (sq : Int)))]) E2 (by simp)) ?_; intro a ha
                 replace E := E2; clear E2
                 generalize hW : put3 v2 _ _ _ _ = v3 at E ⊢; clear hW
                 have hSw := SX.of (bs' := [(V.heap.size, (.bool (ngB iq)), (.slice Aq nq cq), (.int .i64 (sq : Int)))]) E (by simp)
                 refine line_ahead alBR 12 0 [11, 10, 9, 8, 7, 6, 5, 4, 3, 2, 1, 0] 12 19 (.int .i64 er') [(18, .pointer (some ⟨v1.heap.size, 0, none⟩)), (1, .slice (some ⟨b, f0, none⟩) k c), (2, .int .i64 v), (3, .pointer (some ⟨w.heap.size, 0, none⟩)), (86, .slice (some ⟨b, f0, none⟩) k c), (87, .int .i64 (k : Int)), (88, .int .i64 (q : Int)), (15, .pointer (some ⟨V.heap.size, 0, none⟩)), (16, .pointer (some ⟨g16, 0, none⟩)), (17, .int .i64 er')] rfl (by decide) (by decide) (by decide) ha (fun o ho hg => y_of (wanted_none hg) (fun wx hS => e_move (.inr ho) (ha.ev (i := 111) (v := .int .i64 er') (by simp)))) (by simp) hSw ?_; intro a ha
                 refine line_end0 alBR (show ∀ i, i < 13 → i ∈ [12, 11, 10, 9, 8, 7, 6, 5, 4, 3, 2, 1, 0] by decide) ?_
                 exact ⟨rfl, v1.heap.size, X1, m1_, d1, ha.sub (by simp), Lib.hid ((E.out).sub (by simp) (by simp))⟩
               ·
                 have lt4_0 := (St.at_ (x0 := (.bool (ngB z))) (x1 := (.slice A9 n9 c9)) (x2 := (.int .i64 (T : Int))) (g := g16) E (by simp)).lt
                 have lt4_1 := (St.at_ (x0 := (.bool (ngB iq))) (x1 := (.slice Aq nq cq)) (x2 := (.int .i64 (sq : Int))) (g := V.heap.size) E (by simp)).lt
                 refine turn_op alBR 6 0 [5, 4, 3, 2, 1, 0] 10 18 (v := .pointer (some ⟨v0.heap.size, 0, none⟩)) (w' := v0.alloc (.cells #[.bool false, .slice none 0 0, .int .i64 0] 25)) [(108, .int .i64 v), (107, .agg #[(.bool (ngB i0)), (.slice A0 n0 c0), (.int .i64 (s0 : Int))]), (104, .agg #[(.bool (ngB iq)), (.slice Aq nq cq), (.int .i64 (sq : Int))]), (103, .agg #[(.bool (ngB i)), (.slice Aa na ca), (.int .i64 (s : Int))]), (1, .slice (some ⟨b, f0, none⟩) k c), (2, .int .i64 v), (3, .pointer (some ⟨w.heap.size, 0, none⟩)), (86, .slice (some ⟨b, f0, none⟩) k c), (87, .int .i64 (k : Int)), (88, .int .i64 (q : Int)), (15, .pointer (some ⟨V.heap.size, 0, none⟩)), (16, .pointer (some ⟨g16, 0, none⟩)), (17, .int .i64 er')] rfl (by decide) ha (fun o ho hg => ⟨(wanted_none hg), e_alloc ho⟩) (by simp) (SX.of (bs' := [(V.heap.size, (.bool (ngB iq)), (.slice Aq nq cq), (.int .i64 (sq : Int)))]) (Lib.hid (St.alloc E.out _)) (by simp)) ?_; intro a ha
                 replace E := Lib.hid (St.lay (t := 25) (x0 := .bool false) (x1 := .slice none 0 0) (x2 := .int .i64 0) (g := v0.heap.size) E.out rfl)
                 generalize hW : World.alloc v0 _ = v4 at E ⊢; clear hW
                 have hSw := SX.of (bs' := [(V.heap.size, (.bool (ngB iq)), (.slice Aq nq cq), (.int .i64 (sq : Int)))]) E (by simp)
                 refine line_all alBR 7 0 [10, 5, 4, 3, 2, 1, 0] [6] (by decide) (alBB _ (by decide)) (by simp) ?_
                 intro j hj; simp only [List.mem_cons, List.not_mem_nil, or_false] at hj
                 subst hj
                 refine turn_call alBR 7 0 [10, 5, 4, 3, 2, 1, 0] 6 109 (args := #[.agg #[(.bool (ngB i)), (.slice Aa na ca), (.int .i64 (s : Int))], .agg #[(.bool (ngB iq)), (.slice Aq nq cq), (.int .i64 (sq : Int))], .agg #[(.bool (ngB i0)), (.slice A0 n0 c0), (.int .i64 (s0 : Int))], .int .i64 v]) [(18, .pointer (some ⟨v0.heap.size, 0, none⟩)), (1, .slice (some ⟨b, f0, none⟩) k c), (2, .int .i64 v), (3, .pointer (some ⟨w.heap.size, 0, none⟩)), (86, .slice (some ⟨b, f0, none⟩) k c), (87, .int .i64 (k : Int)), (88, .int .i64 (q : Int)), (15, .pointer (some ⟨V.heap.size, 0, none⟩)), (16, .pointer (some ⟨g16, 0, none⟩)), (17, .int .i64 er')] rfl (by decide) ha (fun o ho hg => ⟨(wanted_none hg), e_call (by kernel_rfl) ho rfl (by have q0 := ha.ev (i := 103) (v := .agg #[(.bool (ngB i)), (.slice Aa na ca), (.int .i64 (s : Int))]) (by simp); have q1 := ha.ev (i := 104) (v := .agg #[(.bool (ngB iq)), (.slice Aq nq cq), (.int .i64 (sq : Int))]) (by simp); have q2 := ha.ev (i := 107) (v := .agg #[(.bool (ngB i0)), (.slice A0 n0 c0), (.int .i64 (s0 : Int))]) (by simp); have q3 := ha.ev (i := 108) (v := .int .i64 v) (by simp); simp only [List.map_toArray, List.map_cons, List.map_nil, ev_const, q0, q1, q2, q3])⟩) (by simp) ?_
                 refine (refshare_any _ _ _ _ _ _ _ _ _ _ _ _ S T i iq i0 v z er' _ (St.got E (A := Aa) (n := na) (c := ca) (a := (i).natAbs) (by simp)) (St.got E (A := Aq) (n := nq) (c := cq) (a := (iq).natAbs) (by simp)) (St.got E (A := A0) (n := n0) (c := c0) (a := (i0).natAbs) (by simp)) m1 mq m0 t1 tq t0 HV.out (by omega) HZ.out).mono ?_; rintro e v5 ⟨X5, m5_, d5, rfl, h, hb⟩
                 replace E := Lib.hid (St.push E.out hb h)
                 clear h hb
                 have hSw := SX.of (bs' := [(V.heap.size, (.bool (ngB iq)), (.slice Aq nq cq), (.int .i64 (sq : Int)))]) E (by simp); refine ⟨_, rfl, hSw, ?_⟩; intro a ha
                 refine line_ahead alBR 8 0 [6, 10, 5, 4, 3, 2, 1, 0] 7 102 (.tuple #[.agg #[.bool (ngB z), .slice X5 m5_ d5, .int .i64 (T : Int)], .int .i64 er']) [(18, .pointer (some ⟨v0.heap.size, 0, none⟩)), (1, .slice (some ⟨b, f0, none⟩) k c), (2, .int .i64 v), (3, .pointer (some ⟨w.heap.size, 0, none⟩)), (86, .slice (some ⟨b, f0, none⟩) k c), (87, .int .i64 (k : Int)), (88, .int .i64 (q : Int)), (15, .pointer (some ⟨V.heap.size, 0, none⟩)), (16, .pointer (some ⟨g16, 0, none⟩)), (17, .int .i64 er')] rfl (by decide) (by decide) (by decide) ha (fun o ho hg => y_of (wanted_none hg) (fun wx hS => e_move (.inl ho) (ha.ev (i := 109) (v := .tuple #[.agg #[.bool (ngB z), .slice X5 m5_ d5, .int .i64 (T : Int)], .int .i64 er']) (by simp)))) (by simp) hSw ?_; intro a ha
                 refine line_ahead alBR 9 0 [7, 6, 10, 5, 4, 3, 2, 1, 0] 8 110 (.agg #[.bool (ngB z), .slice X5 m5_ d5, .int .i64 (T : Int)]) [(102, .tuple #[.agg #[.bool (ngB z), .slice X5 m5_ d5, .int .i64 (T : Int)], .int .i64 er']), (18, .pointer (some ⟨v0.heap.size, 0, none⟩)), (1, .slice (some ⟨b, f0, none⟩) k c), (2, .int .i64 v), (3, .pointer (some ⟨w.heap.size, 0, none⟩)), (86, .slice (some ⟨b, f0, none⟩) k c), (87, .int .i64 (k : Int)), (88, .int .i64 (q : Int)), (15, .pointer (some ⟨V.heap.size, 0, none⟩)), (16, .pointer (some ⟨g16, 0, none⟩)), (17, .int .i64 er')] rfl (by decide) (by decide) (by decide) ha (fun o ho hg => y_of (wanted_none hg) (fun wx hS => e_extract (k := 0) ho (ha.ev (i := 102) (v := .tuple #[.agg #[.bool (ngB z), .slice X5 m5_ d5, .int .i64 (T : Int)], .int .i64 er']) (by simp)) rfl)) (by simp) hSw ?_; intro a ha
                 refine line_ahead alBR 10 0 [8, 7, 6, 10, 5, 4, 3, 2, 1, 0] 9 111 (.int .i64 er') [(110, .agg #[.bool (ngB z), .slice X5 m5_ d5, .int .i64 (T : Int)]), (18, .pointer (some ⟨v0.heap.size, 0, none⟩)), (1, .slice (some ⟨b, f0, none⟩) k c), (2, .int .i64 v), (3, .pointer (some ⟨w.heap.size, 0, none⟩)), (86, .slice (some ⟨b, f0, none⟩) k c), (87, .int .i64 (k : Int)), (88, .int .i64 (q : Int)), (15, .pointer (some ⟨V.heap.size, 0, none⟩)), (16, .pointer (some ⟨g16, 0, none⟩)), (17, .int .i64 er')] rfl (by decide) (by decide) (by decide) ha (fun o ho hg => y_of (wanted_none hg) (fun wx hS => e_extract (k := 1) ho (ha.ev (i := 102) (v := .tuple #[.agg #[.bool (ngB z), .slice X5 m5_ d5, .int .i64 (T : Int)], .int .i64 er']) (by simp)) rfl)) (by simp) hSw ?_; intro a ha
                 refine line_all alBR 11 0 [9, 8, 7, 6, 10, 5, 4, 3, 2, 1, 0] [11] (by decide) (alBB _ (by decide)) (by simp) ?_
                 intro j hj; simp only [List.mem_cons, List.not_mem_nil, or_false] at hj
                 subst hj
                 have E2 := Lib.hid (St.store E.out (g := v0.heap.size) (x0 := .bool false) (x1 := .slice none 0 0) (x2 := .int .i64 0) (by simp) (noLimb_bool _) (noLimb_slice _ _ _) (noLimb_int _) [(g16, (.bool (ngB z)), (.slice A9 n9 c9), (.int .i64 (T : Int))), (V.heap.size, (.bool (ngB iq)), (.slice Aq nq cq), (.int .i64 (sq : Int)))] (by simp <;> omega) (.bool (ngB z)) (.slice X5 m5_ d5) (.int .i64 (T : Int)))
                 refine turn_store alBR 11 0 [9, 8, 7, 6, 10, 5, 4, 3, 2, 1, 0] 11 (w' := put3 v5 (v0.heap.size) (.bool (ngB z)) (.slice X5 m5_ d5) (.int .i64 (T : Int))) rfl ha (fun o ho hg => ⟨(wanted_none hg), e_store ho (ha.ev (i := 18) (v := .pointer (some ⟨v0.heap.size, 0, none⟩)) (by simp)) (ha.ev (i := 110) (v := .agg #[.bool (ngB z), .slice X5 m5_ d5, .int .i64 (T : Int)]) (by simp)) (St.at_ (g := v0.heap.size) (x0 := .bool false) (x1 := .slice none 0 0) (x2 := .int .i64 0) E (by simp))⟩) (SX.of (bs' := [(V.heap.size, (.bool (ngB iq)), (.slice Aq nq cq), (.int .i64 (sq : Int)))]) E2 (by simp)) ?_; intro a ha
                 replace E := E2; clear E2
                 generalize hW : put3 v5 _ _ _ _ = v6 at E ⊢; clear hW
                 have hSw := SX.of (bs' := [(V.heap.size, (.bool (ngB iq)), (.slice Aq nq cq), (.int .i64 (sq : Int)))]) E (by simp)
                 refine line_ahead alBR 12 0 [11, 9, 8, 7, 6, 10, 5, 4, 3, 2, 1, 0] 12 19 (.int .i64 er') [(18, .pointer (some ⟨v0.heap.size, 0, none⟩)), (1, .slice (some ⟨b, f0, none⟩) k c), (2, .int .i64 v), (3, .pointer (some ⟨w.heap.size, 0, none⟩)), (86, .slice (some ⟨b, f0, none⟩) k c), (87, .int .i64 (k : Int)), (88, .int .i64 (q : Int)), (15, .pointer (some ⟨V.heap.size, 0, none⟩)), (16, .pointer (some ⟨g16, 0, none⟩)), (17, .int .i64 er')] rfl (by decide) (by decide) (by decide) ha (fun o ho hg => y_of (wanted_none hg) (fun wx hS => e_move (.inr ho) (ha.ev (i := 111) (v := .int .i64 er') (by simp)))) (by simp) hSw ?_; intro a ha
                 refine line_end0 alBR (show ∀ i, i < 13 → i ∈ [12, 11, 9, 8, 7, 6, 10, 5, 4, 3, 2, 1, 0] by decide) ?_
                 exact ⟨rfl, v0.heap.size, X5, m5_, d5, ha.sub (by simp), Lib.hid ((E.out).sub (by simp) (by simp))⟩
             clear E
             rintro a wM ⟨g18, A10, n10, c10, ha, E⟩
             simp only [Exit.then]
             refine hKB _ _ ?_
             clear hKB KB
             obtain ⟨us, rfl, hu⟩ := ha.listY
             have eu1 : us 1 = .slice (some ⟨b, f0, none⟩) k c := hu (1, .slice (some ⟨b, f0, none⟩) k c) (by simp)
             have eu2 : us 2 = .int .i64 v := hu (2, .int .i64 v) (by simp)
             have eu3 : us 3 = .pointer (some ⟨w.heap.size, 0, none⟩) := hu (3, .pointer (some ⟨w.heap.size, 0, none⟩)) (by simp)
             have eu86 : us 86 = .slice (some ⟨b, f0, none⟩) k c := hu (86, .slice (some ⟨b, f0, none⟩) k c) (by simp)
             have eu87 : us 87 = .int .i64 (k : Int) := hu (87, .int .i64 (k : Int)) (by simp)
             have eu88 : us 88 = .int .i64 (q : Int) := hu (88, .int .i64 (q : Int)) (by simp)
             have eu15 : us 15 = .pointer (some ⟨V.heap.size, 0, none⟩) := hu (15, .pointer (some ⟨V.heap.size, 0, none⟩)) (by simp)
             have eu16 : us 16 = .pointer (some ⟨g16, 0, none⟩) := hu (16, .pointer (some ⟨g16, 0, none⟩)) (by simp)
             have eu17 : us 17 = .int .i64 er' := hu (17, .int .i64 er') (by simp)
             have eu18 : us 18 = .pointer (some ⟨g18, 0, none⟩) := hu (18, .pointer (some ⟨g18, 0, none⟩)) (by simp)
             have eu19 : us 19 = .int .i64 er' := hu (19, .int .i64 er') (by simp)
             rw [show (List.range 146).map us = [us 0, us 1, us 2, us 3, us 4, us 5, us 6, us 7, us 8, us 9, us 10, us 11, us 12, us 13, us 14, us 15, us 16, us 17, us 18, us 19, us 20, us 21, us 22, us 23, us 24, us 25, us 26, us 27, us 28, us 29, us 30, us 31, us 32, us 33, us 34, us 35, us 36, us 37, us 38, us 39, us 40, us 41, us 42, us 43, us 44, us 45, us 46, us 47, us 48, us 49, us 50, us 51, us 52, us 53, us 54, us 55, us 56, us 57, us 58, us 59, us 60, us 61, us 62, us 63, us 64, us 65, us 66, us 67, us 68, us 69, us 70, us 71, us 72, us 73, us 74, us 75, us 76, us 77, us 78, us 79, us 80, us 81, us 82, us 83, us 84, us 85, us 86, us 87, us 88, us 89, us 90, us 91, us 92, us 93, us 94, us 95, us 96, us 97, us 98, us 99, us 100, us 101, us 102, us 103, us 104, us 105, us 106, us 107, us 108, us 109, us 110, us 111, us 112, us 113, us 114, us 115, us 116, us 117, us 118, us 119, us 120, us 121, us 122, us 123, us 124, us 125, us 126, us 127, us 128, us 129, us 130, us 131, us 132, us 133, us 134, us 135, us 136, us 137, us 138, us 139, us 140, us 141, us 142, us 143, us 144, us 145] from rfl, eu1, eu2, eu3, eu86, eu87, eu88, eu15, eu16, eu17, eu18, eu19]
             clear hu ha eu1 eu2 eu3 eu86 eu87 eu88 eu15 eu16 eu17 eu18 eu19
             obtain ⟨ta, tb, tc, td, te, tf, tg⟩ := BT.out.on E.out.bel
             obtain ⟨ya, yb, yc, yd, ye, yf, yg⟩ := St.at_ (x0 := (.bool (ngB iq))) (x1 := (.slice Aq nq cq)) (x2 := (.int .i64 (sq : Int))) (g := V.heap.size) E (by simp)
             go_wp2_with fail
             refine (HM.out _ _ _ _ _ _ _ (St.got E (A := Aa) (n := na) (c := ca) (a := (i).natAbs) (by simp)) (St.got E (A := Aq) (n := nq) (c := cq) (a := (iq).natAbs) (by simp)) m1 mq t1 tq).1.mono ?_; rintro e w20 ⟨A11, n11, c11, rfl, h, hb⟩
             replace E := Lib.hid (St.push E.out hb h)
             clear h hb
             clear ta tb tc td te tf tg ya yb yc yd ye yf yg
             obtain ⟨ta, tb, tc, td, te, tf, tg⟩ := BT.out.on E.out.bel
             obtain ⟨ya, yb, yc, yd, ye, yf, yg⟩ := St.at_ (x0 := (.bool (ngB iq))) (x1 := (.slice Aq nq cq)) (x2 := (.int .i64 (sq : Int))) (g := V.heap.size) E (by simp)
             go_wp2_with fail
             replace E := Lib.hid (St.lay (t := 25) (x0 := (.bool (ngB z'))) (x1 := (.slice A11 n11 c11)) (x2 := (.int .i64 (T' : Int))) (g := w20.heap.size) E.out rfl)
             generalize hW : World.alloc w20 _ = U1 at E ⊢
             clear hW
             clear ta tb tc td te tf tg ya yb yc yd ye yf yg
             refine (HM.out _ _ _ _ _ _ _ (St.got E (A := Aa) (n := na) (c := ca) (a := (i).natAbs) (by simp)) (St.got E (A := Aq) (n := nq) (c := cq) (a := (iq).natAbs) (by simp)) m1 mq t1 tq).2.mono ?_; rintro e w21 ⟨A12, n12, c12, rfl, h, hb⟩
             replace E := Lib.hid (St.push E.out hb h)
             clear h hb
             obtain ⟨fa, fb, fc, fd, fe, ff, fg⟩ := St.at_ (x0 := (.bool (ngB z))) (x1 := (.slice A9 n9 c9)) (x2 := (.int .i64 (T : Int))) (g := g16) E (by simp)
             obtain ⟨ga, gb, gc, gd, ge, gf, gg⟩ := St.at_ (x0 := (.bool (ngB z))) (x1 := (.slice A10 n10 c10)) (x2 := (.int .i64 (T : Int))) (g := g18) E (by simp)
             go_wp2_with fail
             replace E := Lib.hid (St.lay (t := 25) (x0 := (.bool (ngB z'))) (x1 := (.slice A12 n12 c12)) (x2 := (.int .i64 (T' : Int))) (g := w21.heap.size) E.out rfl)
             generalize hW : World.alloc w21 _ = U2 at E ⊢
             clear hW
             clear fa fb fc fd fe ff fg ga gb gc gd ge gf gg
             refine (refalike_is5 (i := z) (s := T) (j := z) (t := T) (St.got E (A := A9) (n := n9) (c := c9) (a := (z).natAbs) (by simp)) (St.got E (A := A10) (n := n10) (c := c10) (a := (z).natAbs) (by simp)) (alike_self z T)).mono ?_; rintro e w22 ⟨rfl, hb⟩; replace E := Lib.hid (St.step E.out hb); clear hb
             obtain ⟨fa, fb, fc, fd, fe, ff, fg⟩ := St.at_ (x0 := (.bool (ngB z'))) (x1 := (.slice A11 n11 c11)) (x2 := (.int .i64 (T' : Int))) (g := w20.heap.size) E (by simp)
             obtain ⟨ga, gb, gc, gd, ge, gf, gg⟩ := St.at_ (x0 := (.bool (ngB z'))) (x1 := (.slice A12 n12 c12)) (x2 := (.int .i64 (T' : Int))) (g := w21.heap.size) E (by simp)
             go_wp2_with fail
             clear fa fb fc fd fe ff fg ga gb gc gd ge gf gg
             refine (refalike_is5 (i := z') (s := T') (j := z') (t := T') (St.got E (A := A11) (n := n11) (c := c11) (a := (z').natAbs) (by simp)) (St.got E (A := A12) (n := n12) (c := c12) (a := (z').natAbs) (by simp)) (alike_self z' T')).mono ?_; rintro e w23 ⟨rfl, hb⟩; replace E := Lib.hid (St.step E.out hb); clear hb
             go_wp2_with fail
             skip
             exact ⟨k - (q + 1), by omega, q + 1, by omega, rfl, ⟨rfl, rfl, by intro q hq; simp at hq; rcases hq with rfl | rfl | rfl | rfl | rfl | rfl <;> first | rfl | simp⟩, Lib.hid (E.out.sub (l' := [(Aa, na, ca, (i).natAbs)]) (bs' := []) (by simp) (by simp))⟩
           ·
             obtain rfl : q = k := by omega
             go_wp2_with fail
             refine (awake6 _).mono ?_; rintro e w9 ⟨rfl, hb⟩; replace E := Lib.hid (St.step E.out hb); clear hb
             go_wp2_with fail
             go_ret
             exact ⟨rfl, BE.out.trans (E.out.bel.mono BE.out.size)⟩
     ·
       obtain ⟨b, f0, rfl, _, y0, y1, y2⟩ := (HRW.out.on E.out.bel).at_ hkn
       have LK := HRW.out.lim k hkn
       unfold longR at hbad
       obtain ⟨⟨bb, Ar, nr, cr, xr, kr⟩, hrk⟩ : ∃ q, r k = q := ⟨_, rfl⟩
       rw [hrk] at y0 y1 y2 LK hbad
       have HLK := Lib.hid LK
       simp only at y0 y1 y2 HLK hbad
       clear LK hrk
       have HL := Lib.hid hbad
       clear hbad
       go_wp2_with fail
       replace E := Lib.hid (St.lay (t := 25) (x0 := .bool bb) (x1 := .slice Ar nr cr) (x2 := .int .i64 kr) (g := wr.heap.size) E.out rfl)
       refine (long_is (HLK.out.on E.out.bel) HL.out).mono ?_; rintro e w2 ⟨rfl, hb⟩; replace E := Lib.hid (St.step E.out hb); clear hb
       clear y0 y1 y2
       go_wp2_with fail
       refine (awake6 _).mono ?_; rintro e w9 ⟨rfl, hb⟩; replace E := Lib.hid (St.step E.out hb); clear hb
       go_wp2_with fail
       go_ret
       exact ⟨rfl, E.out.bel⟩
theorem allocs6_law (b1 : Bool) (A1 : Option Addr) (n1 c1 : Nat) (xs1 : List Nat) (k1 : Int) (A : Option Addr) (n c : Nat) (r : Nat → Rw) (v : Int) (w : World) (h1 : Lim w w.heap.size A1 n1 c1 xs1) (h : Raws w w.heap.size A n c r) {P Q : Prop} (_ : P) (_ : Q) : Calls Tryz.prog 3 #[.agg #[.bool b1, .slice A1 n1 c1, .int .i64 k1], .slice A n c, .int .i64 v] w (RetVal w (.bool true)) := by
 cases l1 : longB b1 n1 xs1 k1 with
 | true => exact allocs_a b1 A1 n1 c1 xs1 k1 A n c r v w h1 h l1
 | false =>
   rcases Nat.lt_or_ge 12 n with hn | hn
   · exact allocs_b b1 A1 n1 c1 xs1 k1 A n c r v w h1 h l1 hn
   · by_cases hv : 30 < v
     · exact allocs_c b1 A1 n1 c1 xs1 k1 A n c r v w h1 h l1 hn hv
     · obtain ⟨i, s, rfl, rfl, rfl, m1, t1⟩ := of_long l1 h1
       exact allocs_main A1 n1 c1 s i A n c r v w h1 m1 t1 h hn (by omega)
end Go.Proofs.YthlhpgphmfnlgaaGreat
