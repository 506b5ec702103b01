/-
  DectextSays answers true.
-/
import Derived.Test.YtllcjahekckbfaaGreatDoorTxtTz
import Derived.Test.YtllcjahekckbfaaGreatDoorTxtJ
set_option linter.unusedVariables false
set_option linter.unusedSimpArgs false
namespace Go.Proofs.YtllcjahekckbfaaGreatDoor
open Go.RowKit

theorem bhd_rst (l : List Nat) : bhd (rst l) = bhd l := by
  cases l with
  | nil => rfl
  | cons c l =>
    unfold rst
    split
    · rename_i h
      have hc : c ≠ 46 := by
        rcases h with h | h
        · injection h with h; omega
        · injection h with h; omega
      rw [bhd_cons_ne _ hc]; rfl
    · rfl
theorem dgB_frm {l : List Nat} (h : frmB l = true) : digs (digsOf l) := by
  unfold frmB at h
  exact dgB_iff.1 (Bool.and_eq_true_iff.1 h).2
theorem numD_bounds {s : ByteArray} (hs : s.size ≤ 200) (h : frmB (rst (codes s)) = true) : nd (numD (codes s)).natAbs ≤ 201 ∧ (dg (numD (codes s)).natAbs).length ≤ 200 ∧ (bhd (rst (codes s))).length ≤ 200 := by
  have h1 := dgB_frm h
  have h2 : (numD (codes s)).natAbs = pv (digsOf (rst (codes s))) := abs_sgn _ _
  have h3 := digsOf_len (rst (codes s))
  have h4 := rst_len (codes s)
  have h5 := codes_len s
  have h6 := ahd_bhd_len (rst (codes s))
  have h7 := pv_lt h1
  have h8 := pv_len h1
  rw [h2]
  refine ⟨?_, by omega, by omega⟩
  exact nd_le_of_lt 200 (Nat.lt_of_lt_of_le h7 (Nat.pow_le_pow_right (by omega) (by omega)))

/-- What Parse answers, told in one: the number, the digits behind the point, the error. -/
def intD (l : List Nat) : Int := if rst l = [] then 0 else if frmB (rst l) then numD l else 0
def lenD (l : List Nat) : Nat := if rst l = [] then 0 else if frmB (rst l) then (bhd (rst l)).length else 0
def codeD (l : List Nat) : Int := if rst l = [] then 2 else if frmB (rst l) then 0 else 3
def RetRd (W : World) (i : Int) (k : Nat) (z : Int) (e : Ending) (w' : World) : Prop :=
  ∃ A n c, e = .returned (.tuple #[.agg #[.bool (ngB i), .slice A n c, .int .i64 (k : Int)], .int .i64 z]) ∧ Num w' w'.heap.size A n c i.natAbs ∧ Below W.heap.size W w'
theorem num_zero (w : World) : Num w w.heap.size none 0 0 (0 : Int).natAbs := by
  show Num w w.heap.size none 0 0 0
  rw [Num, dg_zero]; exact Lim.nil
theorem rd_of {W : World} {l : List Nat} {e : Ending} {w' : World} (h : RetRead W l e w') : RetRd W (intD l) (lenD l) (codeD l) e w' := by
  unfold intD lenD codeD
  rcases h with ⟨h1, he, hb⟩ | ⟨h1, h2, he, hb⟩ | ⟨h1, h2, A, n, c, he, hn, hb⟩
  · rw [if_pos h1, if_pos h1, if_pos h1]
    exact ⟨none, 0, 0, he, num_zero _, hb⟩
  · rw [if_neg h1, if_neg h1, if_neg h1, h2]
    exact ⟨none, 0, 0, he, num_zero _, hb⟩
  · rw [if_neg h1, if_neg h1, if_neg h1, h2]
    exact ⟨A, n, c, he, hn, hb⟩
theorem intD_len {s : ByteArray} (hs : s.size ≤ 200) : (dg (intD (codes s)).natAbs).length ≤ 200 := by
  have h0 : (dg (0 : Int).natAbs).length ≤ 200 := by show (dg 0).length ≤ 200; rw [dg_zero]; decide
  unfold intD
  split
  · exact h0
  · split
    · rename_i h; exact (numD_bounds hs h).2.1
    · exact h0
section
variable {w : World} {s : ByteArray} {i z : Int} {k : Nat}
theorem rd_is (hs : s.size ≤ 200) (hm : MaxLen w) (hi : intD (codes s) = i) (hk : lenD (codes s) = k) (hz : codeD (codes s) = z) : Calls Tryz.prog 6 #[.string s] w (RetRd w i k z) := by
  subst hi; subst hk; subst hz
  exact (read_any s w (by omega) hm).mono fun e w' h => rd_of h
theorem refrd_is (hs : s.size ≤ 200) (hi : intD (codes s) = i) (hk : lenD (codes s) = k) (hz : codeD (codes s) = z) : Calls Tryz.prog 7 #[.string s] w (RetRd w i k z) := by
  subst hi; subst hk; subst hz
  exact (refRead_any s w (by omega)).mono fun e w' h => rd_of h
theorem refscale_is (hs : s.size ≤ 1000000) (hk : (bhd (codes s)).length = k) : Calls Tryz.prog 16 #[.string s] w (RetVal w (.int .i64 (k : Int))) := by
  subst hk; exact refScale7_any s w hs
variable {A : Option Addr} {n c t : Nat} {x : ByteArray}
theorem reftext_is (h : Num w w.heap.size A n c i.natAbs) (hn : n ≤ 1000) (ht : t ≤ 1000) (hx : str (txtD i t) = x) : Calls Tryz.prog 9 #[.agg #[.bool (ngB i), .slice A n c, .int .i64 (t : Int)]] w (RetVal w (.string x)) := by
  subst hx; exact refText7_any A n c t i w h hn ht
theorem refcommas_is (h : Num w w.heap.size A n c i.natAbs) (hn : n ≤ 1000) (ht : t ≤ 1000) (hx : str (comD i t) = x) : Calls Tryz.prog 13 #[.agg #[.bool (ngB i), .slice A n c, .int .i64 (t : Int)]] w (RetVal w (.string x)) := by
  subst hx; exact refCommas_any A n c t i w h hn ht
theorem refplain_is (h : Num w w.heap.size A n c i.natAbs) (hn : n ≤ 1000) (ht : t ≤ 1000) (hx : str (txtD (stripI i t 0) (t - stripK i t 0)) = x) : Calls Tryz.prog 11 #[.agg #[.bool (ngB i), .slice A n c, .int .i64 (t : Int)]] w (RetVal w (.string x)) := by
  subst hx; exact refPlain_any A n c t i w h hn ht
end

set_option maxHeartbeats 2000000 in
set_option maxRecDepth 100000 in
theorem says_long7 (w : World) (hm : MaxLen w) (b1 : Bool) (A1 : Option Addr) (n1 c1 : Nat) (xs1 : List Nat) (k1 : Int) (h1 : Lim w w.heap.size A1 n1 c1 xs1) (s : ByteArray) (l1 : longB b1 n1 xs1 k1 = true) : Calls Tryz.prog 3 #[.agg #[.bool b1, .slice A1 n1 c1, .int .i64 k1], .string s] w (RetVal w (.bool true)) := by
  have H1 := Lib.hid h1
  have L1 := Lib.hid l1
  have HM := Lib.hid hm
  clear h1 l1 hm
  go_enter Tryz.func3, Tryz.ntmps3
  go_wp2_with fail
  generalize hW : World.alloc w _ = W0
  have E0 : St w W0 [] [(w.heap.size, .bool b1, .slice A1 n1 c1, .int .i64 k1)] := by rw [← hW]; exact (St.start w (l := []) (fun q hq => by cases hq)).lay rfl
  have E := Lib.hid E0
  clear hW E0
  refine (long_is (H1.out.on E.out.bel) L1.out).mono ?_; rintro e w1 ⟨rfl, hb⟩; replace E := Lib.hid (St.step E.out hb); clear hb
  go_wp2_with fail
  refine (awake7 _ (HM.out.on E.out.bel)).mono ?_; rintro e w9 ⟨rfl, hb⟩; replace E := Lib.hid (St.step E.out hb); clear hb
  go_wp2_with fail
  go_ret
  exact ⟨rfl, E.out.bel⟩

set_option maxHeartbeats 2000000 in
set_option maxRecDepth 100000 in
theorem says_far7 (w : World) (hm : MaxLen w) (Aa : Option Addr) (na ca s0 : Nat) (i : Int) (h1 : Num w w.heap.size Aa na ca i.natAbs) (m1 : na ≤ 12) (t1 : s0 ≤ 60) (s : ByteArray) (hs : decide (200 < (s.size : Int)) = true) (hmx : s.size ≤ maxLen) : Calls Tryz.prog 3 #[.agg #[.bool (ngB i), .slice Aa na ca, .int .i64 (s0 : Int)], .string s] w (RetVal w (.bool true)) := by
  unfold maxLen at hmx
  have N1 : Hid (longB (ngB i) na (dg i.natAbs) (s0 : Int) = false) := not_long h1 m1 t1
  have H1 := Lib.hid h1
  have HM := Lib.hid hm
  clear h1 hm
  go_enter Tryz.func3, Tryz.ntmps3
  go_wp2_with fail
  generalize hW : World.alloc w _ = W0
  have E0 : St w W0 [(Aa, na, ca, (i).natAbs)] [(w.heap.size, (.bool (ngB i)), (.slice Aa na ca), (.int .i64 (s0 : Int)))] := by rw [← hW]; exact (St.start w (l := [(Aa, na, ca, (i).natAbs)]) (by simp; exact H1.out)).lay rfl
  have E := Lib.hid E0
  clear hW E0
  refine (long_is (St.got E (A := Aa) (n := na) (c := ca) (a := (i).natAbs) (by simp)) N1.out).mono ?_; rintro e w1 ⟨rfl, hb⟩; replace E := Lib.hid (St.step E.out hb); clear hb
  go_wp2_with fail
  refine (awake7 _ (HM.out.on E.out.bel)).mono ?_; rintro e w9 ⟨rfl, hb⟩; replace E := Lib.hid (St.step E.out hb); clear hb
  go_wp2_with fail
  go_ret
  exact ⟨rfl, E.out.bel⟩

def syAT : List Row3 := [(some 27, none, .load 25 (.tmp 2)), (some 28, none, .call { callee := .value (.func 8), args := #[.tmp 27], argTypes := #[25] }), (some 29, none, .load 25 (.tmp 2)), (some 30, none, .call { callee := .value (.func 9), args := #[.tmp 29], argTypes := #[25] }), (some 31, none, .binOp .eql 9 (.tmp 28) (.tmp 30) 9), (some 32, none, .move (.tmp 31)), (some 33, some (5, true), .load 25 (.tmp 2)), (some 34, some (5, true), .call { callee := .value (.func 10), args := #[.tmp 33], argTypes := #[25] }), (some 35, some (5, true), .load 25 (.tmp 2)), (some 36, some (5, true), .call { callee := .value (.func 11), args := #[.tmp 35], argTypes := #[25] }), (some 37, some (5, true), .binOp .eql 9 (.tmp 34) (.tmp 36) 9), (some 38, none, .pick (.tmp 32) (.tmp 37) (.const (.bool false))), (some 39, none, .move (.tmp 38)), (some 40, some (12, true), .load 25 (.tmp 2)), (some 41, some (12, true), .call { callee := .value (.func 12), args := #[.tmp 40], argTypes := #[25] }), (some 42, some (12, true), .load 25 (.tmp 2)), (some 43, some (12, true), .call { callee := .value (.func 13), args := #[.tmp 42], argTypes := #[25] }), (some 44, some (12, true), .binOp .eql 9 (.tmp 41) (.tmp 43) 9), (some 45, none, .pick (.tmp 39) (.tmp 44) (.const (.bool false))), (some 46, none, .move (.tmp 45)), (some 47, some (19, true), .load 25 (.tmp 5)), (some 48, some (19, true), .load 25 (.tmp 7)), (some 49, some (19, true), .call { callee := .value (.func 14), args := #[.tmp 47, .tmp 48], argTypes := #[25, 25] }), (some 50, none, .pick (.tmp 46) (.tmp 49) (.const (.bool false))), (some 51, none, .move (.tmp 50)), (some 52, some (24, true), .move (.tmp 6)), (some 53, some (24, true), .move (.tmp 8)), (some 54, some (24, true), .binOp .eql 28 (.tmp 52) (.tmp 53) 28), (some 55, none, .pick (.tmp 51) (.tmp 54) (.const (.bool false))), (some 56, none, .move (.tmp 55)), (some 57, some (29, true), .move (.tmp 1)), (some 58, some (29, true), .call { callee := .value (.func 15), args := #[.tmp 57], argTypes := #[9] }), (some 59, some (29, true), .move (.tmp 1)), (some 60, some (29, true), .call { callee := .value (.func 16), args := #[.tmp 59], argTypes := #[9] }), (some 61, some (29, true), .binOp .eql 3 (.tmp 58) (.tmp 60) 3), (some 62, none, .pick (.tmp 56) (.tmp 61) (.const (.bool false))), (some 63, none, .move (.tmp 62)), (some 64, some (36, true), .call { callee := .value (.func 5), args := #[], argTypes := #[] }), (some 65, none, .pick (.tmp 63) (.tmp 64) (.const (.bool false))), (some 4, none, .assign (.tmp 65))]
set_option maxRecDepth 100000 in
theorem syARow : (opsAt Tryz.prog 3 5).toList.map row3 = syAT := by kernel_rfl
theorem syASel : Region.noSelect (opsAt Tryz.prog 3 5) = true := by kernel_rfl
theorem syADone : Region.ready .any (opsAt Tryz.prog 3 5) (upto (opsAt Tryz.prog 3 5).size (opsAt Tryz.prog 3 5).size []) = [] := by kernel_rfl
theorem syAstill0 : [(0, [], 0), (1, [], 2), (4, [], 4), (5, [], 5), (6, [], 6), (7, [], 8), (10, [], 10), (11, [], 11), (12, [], 12), (13, [], 13)].all (stillB (opsAt Tryz.prog 3 5)) = true := by kernel_rfl
theorem syAstill1 : [(14, [], 15), (17, [], 17), (18, [], 18), (19, [], 19), (20, [], 20), (21, [], 21), (23, [], 23), (24, [], 24), (25, [], 25), (26, [], 26)].all (stillB (opsAt Tryz.prog 3 5)) = true := by kernel_rfl
theorem syAstill2 : [(27, [], 27), (28, [], 28), (29, [], 29), (30, [], 30), (31, [], 32), (34, [], 34), (35, [], 35), (36, [], 36), (38, [], 38), (39, [], 39)].all (stillB (opsAt Tryz.prog 3 5)) = true := by kernel_rfl
theorem syAsole0 : [(1, [2], 1), (3, [], 3), (7, [8], 7), (9, [], 9), (14, [15], 14), (16, [], 16), (22, [], 22), (31, [32], 31), (33, [], 33), (37, [], 37)].all (soleB (opsAt Tryz.prog 3 5)) = true := by kernel_rfl
theorem syAR : Reg (opsAt Tryz.prog 3 5) syAT [(0, [], 0), (1, [], 2), (4, [], 4), (5, [], 5), (6, [], 6), (7, [], 8), (10, [], 10), (11, [], 11), (12, [], 12), (13, [], 13), (14, [], 15), (17, [], 17), (18, [], 18), (19, [], 19), (20, [], 20), (21, [], 21), (23, [], 23), (24, [], 24), (25, [], 25), (26, [], 26), (27, [], 27), (28, [], 28), (29, [], 29), (30, [], 30), (31, [], 32), (34, [], 34), (35, [], 35), (36, [], 36), (38, [], 38), (39, [], 39)] [(1, [2], 1), (3, [], 3), (7, [8], 7), (9, [], 9), (14, [15], 14), (16, [], 16), (22, [], 22), (31, [32], 31), (33, [], 33), (37, [], 37)] := ⟨syARow, syASel, (all_parts syAstill0 (all_parts syAstill1 (all_parts syAstill2 (fun k h => by cases h)))), (all_parts syAsole0 (fun k h => by cases h)), syADone⟩

set_option maxHeartbeats 8000000 in
set_option maxRecDepth 100000 in
theorem says_main7 (w : World) (hm : MaxLen w) (Aa : Option Addr) (na ca s0 : Nat) (i : Int) (h1 : Num w w.heap.size Aa na ca i.natAbs) (m1 : na ≤ 12) (t1 : s0 ≤ 60) (s : ByteArray) (hs : s.size ≤ 200) : Calls Tryz.prog 3 #[.agg #[.bool (ngB i), .slice Aa na ca, .int .i64 (s0 : Int)], .string s] w (RetVal w (.bool true)) := by
  have N1 : Hid (longB (ngB i) na (dg i.natAbs) (s0 : Int) = false) := not_long h1 m1 t1
  have b200 : decide (200 < (s.size : Int)) = false := decide_eq_false (by omega)
  have hsm : (s.size : Int) ≤ 200 := by omega
  have LZ0 := intD_len hs
  obtain ⟨zi, hzi⟩ : ∃ z, intD (codes s) = z := ⟨_, rfl⟩
  obtain ⟨zk, hzk⟩ : ∃ z, lenD (codes s) = z := ⟨_, rfl⟩
  obtain ⟨zc, hzc⟩ : ∃ z, codeD (codes s) = z := ⟨_, rfl⟩
  obtain ⟨k9, hk9⟩ : ∃ z, (bhd (codes s)).length = z := ⟨_, rfl⟩
  rw [hzi] at LZ0
  have LZ := Lib.hid LZ0
  obtain ⟨S1, hS1⟩ : ∃ S, str (txtD i s0) = S := ⟨_, rfl⟩
  obtain ⟨S2, hS2⟩ : ∃ S, str (comD i s0) = S := ⟨_, rfl⟩
  obtain ⟨S3, hS3⟩ : ∃ S, str (txtD (stripI i s0 0) (s0 - stripK i s0 0)) = S := ⟨_, rfl⟩
  have G1 := Lib.hid hS1
  have G2 := Lib.hid hS2
  have G3 := Lib.hid hS3
  have HZI := Lib.hid hzi
  have HZK := Lib.hid hzk
  have HZC := Lib.hid hzc
  have HK9 := Lib.hid hk9
  have FA : Hid (alikeB zi zk zi zk = true) := alike_yes rfl rfl
  have DZ : Hid ((zc == zc) = true) := (by show _ = _; simp)
  have DK : Hid (((k9 : Int) == (k9 : Int)) = true) := (by show _ = _; simp)
  have H1 := Lib.hid h1
  have HM := Lib.hid hm
  clear h1 hm hS1 hS2 hS3 hzi hzk hzc hk9 LZ0
  go_enter Tryz.func3, Tryz.ntmps3
  go_wp2_with fail
  generalize hW : World.alloc w _ = W0
  have E0 : St w W0 [(Aa, na, ca, (i).natAbs)] [(w.heap.size, (.bool (ngB i)), (.slice Aa na ca), (.int .i64 (s0 : Int)))] := by rw [← hW]; exact (St.start w (l := [(Aa, na, ca, (i).natAbs)]) (by simp; exact H1.out)).lay rfl
  have E := Lib.hid E0
  clear hW E0
  refine (long_is (St.got E (A := Aa) (n := na) (c := ca) (a := (i).natAbs) (by simp)) N1.out).mono ?_; rintro e w1 ⟨rfl, hb⟩
  replace E := Lib.hid (St.step E.out hb)
  clear hb
  go_wp2_with fail
  refine (rd_is (s := s) (i := zi) (k := zk) (z := zc) hs (HM.out.on E.out.bel) HZI.out HZK.out HZC.out).mono ?_; rintro e w2 ⟨A2, n2, c2, rfl, h, hb⟩
  have b2 : n2 ≤ 200 := len_le h LZ.out
  replace E := Lib.hid (St.push E.out hb h)
  clear h hb
  go_wp2_with fail
  replace E := Lib.hid (St.lay (t := 25) (x0 := (.bool (ngB zi))) (x1 := (.slice A2 n2 c2)) (x2 := (.int .i64 (zk : Int))) (g := w2.heap.size) E.out rfl)
  generalize hW2 : World.alloc w2 _ = W1 at E ⊢
  clear hW2
  refine (refrd_is (s := s) (i := zi) (k := zk) (z := zc) hs HZI.out HZK.out HZC.out).mono ?_; rintro e w3 ⟨A3, n3, c3, rfl, h, hb⟩
  have b3 : n3 ≤ 200 := len_le h LZ.out
  replace E := Lib.hid (St.push E.out hb h)
  clear h hb
  go_wp2_with fail
  replace E := Lib.hid (St.lay (t := 25) (x0 := (.bool (ngB zi))) (x1 := (.slice A3 n3 c3)) (x2 := (.int .i64 (zk : Int))) (g := w3.heap.size) E.out rfl)
  generalize hW2 : World.alloc w3 _ = W2 at E ⊢
  clear hW2
  replace E := Lib.hid (St.drew E.out)
  rename_i K hK
  refine line_start (ops := opsAt Tryz.prog 3 5) (S := SB [(w3.heap.size, (.bool (ngB zi)), (.slice A3 n3 c3), (.int .i64 (zk : Int))), (w2.heap.size, (.bool (ngB zi)), (.slice A2 n2 c2), (.int .i64 (zk : Int))), (w.heap.size, (.bool (ngB i)), (.slice Aa na ca), (.int .i64 (s0 : Int)))]) (by kernel_rfl) (by kernel_rfl) (St.sb E) ?_
  have hSw := St.sb E
  generalize hA : Act.mk _ _ = a
  have ha : Fr 66 a [(2, .pointer (some ⟨w.heap.size, 0, none⟩)), (5, .pointer (some ⟨w2.heap.size, 0, none⟩)), (7, .pointer (some ⟨w3.heap.size, 0, none⟩)), (1, .string s), (6, .int .i64 zc), (8, .int .i64 zc)] := by rw [← hA]; exact ⟨rfl, rfl, by intro q hq; simp at hq; rcases hq with rfl | rfl | rfl | rfl | rfl | rfl <;> rfl⟩
  clear hA
  refine line_still syAR 0 0 [] 27 (.agg #[(.bool (ngB i)), (.slice Aa na ca), (.int .i64 (s0 : Int))]) [(2, .pointer (some ⟨w.heap.size, 0, none⟩)), (5, .pointer (some ⟨w2.heap.size, 0, none⟩)), (7, .pointer (some ⟨w3.heap.size, 0, none⟩)), (1, .string s), (6, .int .i64 zc), (8, .int .i64 zc)] rfl (by decide) (by decide) (by decide) ha (fun o ho hg => y_of (wanted_none hg) (fun wx hS => e_load ho (ha.ev (i := 2) (v := .pointer (some ⟨w.heap.size, 0, none⟩)) (by simp)) (hS.at_ (g := w.heap.size) (x0 := (.bool (ngB i))) (x1 := (.slice Aa na ca)) (x2 := (.int .i64 (s0 : Int))) (by simp)))) (by simp) hSw ?_; intro a ha
  refine line_ahead syAR 1 1 [] 2 29 (.agg #[(.bool (ngB i)), (.slice Aa na ca), (.int .i64 (s0 : Int))]) [(27, .agg #[(.bool (ngB i)), (.slice Aa na ca), (.int .i64 (s0 : Int))]), (2, .pointer (some ⟨w.heap.size, 0, none⟩)), (5, .pointer (some ⟨w2.heap.size, 0, none⟩)), (7, .pointer (some ⟨w3.heap.size, 0, none⟩)), (1, .string s), (6, .int .i64 zc), (8, .int .i64 zc)] rfl (by decide) (by decide) (by decide) ha (fun o ho hg => y_of (wanted_none hg) (fun wx hS => e_load ho (ha.ev (i := 2) (v := .pointer (some ⟨w.heap.size, 0, none⟩)) (by simp)) (hS.at_ (g := w.heap.size) (x0 := (.bool (ngB i))) (x1 := (.slice Aa na ca)) (x2 := (.int .i64 (s0 : Int))) (by simp)))) (by simp) hSw ?_; intro a ha
  refine line_call syAR 2 1 [2] 28 (args := #[.agg #[(.bool (ngB i)), (.slice Aa na ca), (.int .i64 (s0 : Int))]]) [(29, .agg #[(.bool (ngB i)), (.slice Aa na ca), (.int .i64 (s0 : Int))]), (2, .pointer (some ⟨w.heap.size, 0, none⟩)), (5, .pointer (some ⟨w2.heap.size, 0, none⟩)), (7, .pointer (some ⟨w3.heap.size, 0, none⟩)), (1, .string s), (6, .int .i64 zc), (8, .int .i64 zc)] rfl (by decide) (by decide) (by decide) ha (fun o ho hg => ⟨(wanted_none hg), e_call (by kernel_rfl) ho rfl (by have q0 := ha.ev (i := 27) (v := .agg #[(.bool (ngB i)), (.slice Aa na ca), (.int .i64 (s0 : Int))]) (by simp); simp only [List.map_toArray, List.map_cons, List.map_nil, ev_const, q0])⟩) (by simp) ?_
  refine (dtext_is (i := i) (t := s0) (St.got E (A := Aa) (n := na) (c := ca) (a := (i).natAbs) (by simp)) (by omega) (by omega) G1.out).mono ?_; rintro e w4 ⟨rfl, hb⟩
  replace E := Lib.hid (St.step E.out hb)
  clear hb
  have hSw := St.sb E; refine ⟨_, rfl, hSw, ?_⟩; intro a ha
  refine line_skip [] (by intro i; simp <;> omega) ?_
  refine line_call syAR 3 3 [] 30 (args := #[.agg #[(.bool (ngB i)), (.slice Aa na ca), (.int .i64 (s0 : Int))]]) [(28, .string S1), (2, .pointer (some ⟨w.heap.size, 0, none⟩)), (5, .pointer (some ⟨w2.heap.size, 0, none⟩)), (7, .pointer (some ⟨w3.heap.size, 0, none⟩)), (1, .string s), (6, .int .i64 zc), (8, .int .i64 zc)] rfl (by decide) (by decide) (by decide) ha (fun o ho hg => ⟨(wanted_none hg), e_call (by kernel_rfl) ho rfl (by have q0 := ha.ev (i := 29) (v := .agg #[(.bool (ngB i)), (.slice Aa na ca), (.int .i64 (s0 : Int))]) (by simp); simp only [List.map_toArray, List.map_cons, List.map_nil, ev_const, q0])⟩) (by simp) ?_
  refine (reftext_is (i := i) (t := s0) (St.got E (A := Aa) (n := na) (c := ca) (a := (i).natAbs) (by simp)) (by omega) (by omega) G1.out).mono ?_; rintro e w5 ⟨rfl, hb⟩
  replace E := Lib.hid (St.step E.out hb)
  clear hb
  have hSw := St.sb E; refine ⟨_, rfl, hSw, ?_⟩; intro a ha
  refine line_still syAR 4 4 [] 31 (.bool true) [(2, .pointer (some ⟨w.heap.size, 0, none⟩)), (5, .pointer (some ⟨w2.heap.size, 0, none⟩)), (7, .pointer (some ⟨w3.heap.size, 0, none⟩)), (1, .string s), (6, .int .i64 zc), (8, .int .i64 zc)] rfl (by decide) (by decide) (by decide) ha (fun o ho hg => y_of (wanted_none hg) (fun wx hS => (e_seql ho (ha.ev (i := 28) (v := .string S1) (by simp)) (ha.ev (i := 30) (v := .string S1) (by simp))) (beq_self_eq_true _))) (by simp) hSw ?_; intro a ha
  refine line_still syAR 5 5 [] 32 (.bool true) [(2, .pointer (some ⟨w.heap.size, 0, none⟩)), (5, .pointer (some ⟨w2.heap.size, 0, none⟩)), (7, .pointer (some ⟨w3.heap.size, 0, none⟩)), (1, .string s), (6, .int .i64 zc), (8, .int .i64 zc)] rfl (by decide) (by decide) (by decide) ha (fun o ho hg => y_of (wanted_none hg) (fun wx hS => e_move (.inl ho) (ha.ev (i := 31) (v := .bool true) (by simp)))) (by simp) hSw ?_; intro a ha
  refine line_still syAR 6 6 [] 33 (.agg #[(.bool (ngB i)), (.slice Aa na ca), (.int .i64 (s0 : Int))]) [(32, .bool true), (2, .pointer (some ⟨w.heap.size, 0, none⟩)), (5, .pointer (some ⟨w2.heap.size, 0, none⟩)), (7, .pointer (some ⟨w3.heap.size, 0, none⟩)), (1, .string s), (6, .int .i64 zc), (8, .int .i64 zc)] rfl (by decide) (by decide) (by decide) ha (fun o ho hg => y_of (syAR.wanted hg rfl ha (d := 32) (by simp)) (fun wx hS => e_load ho (ha.ev (i := 2) (v := .pointer (some ⟨w.heap.size, 0, none⟩)) (by simp)) (hS.at_ (g := w.heap.size) (x0 := (.bool (ngB i))) (x1 := (.slice Aa na ca)) (x2 := (.int .i64 (s0 : Int))) (by simp)))) (by simp) hSw ?_; intro a ha
  refine line_ahead syAR 7 7 [] 8 35 (.agg #[(.bool (ngB i)), (.slice Aa na ca), (.int .i64 (s0 : Int))]) [(33, .agg #[(.bool (ngB i)), (.slice Aa na ca), (.int .i64 (s0 : Int))]), (32, .bool true), (2, .pointer (some ⟨w.heap.size, 0, none⟩)), (5, .pointer (some ⟨w2.heap.size, 0, none⟩)), (7, .pointer (some ⟨w3.heap.size, 0, none⟩)), (1, .string s), (6, .int .i64 zc), (8, .int .i64 zc)] rfl (by decide) (by decide) (by decide) ha (fun o ho hg => y_of (syAR.wanted hg rfl ha (d := 32) (by simp)) (fun wx hS => e_load ho (ha.ev (i := 2) (v := .pointer (some ⟨w.heap.size, 0, none⟩)) (by simp)) (hS.at_ (g := w.heap.size) (x0 := (.bool (ngB i))) (x1 := (.slice Aa na ca)) (x2 := (.int .i64 (s0 : Int))) (by simp)))) (by simp) hSw ?_; intro a ha
  refine line_call syAR 8 7 [8] 34 (args := #[.agg #[(.bool (ngB i)), (.slice Aa na ca), (.int .i64 (s0 : Int))]]) [(35, .agg #[(.bool (ngB i)), (.slice Aa na ca), (.int .i64 (s0 : Int))]), (32, .bool true), (2, .pointer (some ⟨w.heap.size, 0, none⟩)), (5, .pointer (some ⟨w2.heap.size, 0, none⟩)), (7, .pointer (some ⟨w3.heap.size, 0, none⟩)), (1, .string s), (6, .int .i64 zc), (8, .int .i64 zc)] rfl (by decide) (by decide) (by decide) ha (fun o ho hg => ⟨(syAR.wanted hg rfl ha (d := 32) (by simp)), e_call (by kernel_rfl) ho rfl (by have q0 := ha.ev (i := 33) (v := .agg #[(.bool (ngB i)), (.slice Aa na ca), (.int .i64 (s0 : Int))]) (by simp); simp only [List.map_toArray, List.map_cons, List.map_nil, ev_const, q0])⟩) (by simp) ?_
  refine (plain_is (i := i) (t := s0) (St.got E (A := Aa) (n := na) (c := ca) (a := (i).natAbs) (by simp)) (by omega) (by omega) G3.out).mono ?_; rintro e w6 ⟨rfl, hb⟩
  replace E := Lib.hid (St.step E.out hb)
  clear hb
  have hSw := St.sb E; refine ⟨_, rfl, hSw, ?_⟩; intro a ha
  refine line_skip [] (by intro i; simp <;> omega) ?_
  refine line_call syAR 9 9 [] 36 (args := #[.agg #[(.bool (ngB i)), (.slice Aa na ca), (.int .i64 (s0 : Int))]]) [(34, .string S3), (32, .bool true), (2, .pointer (some ⟨w.heap.size, 0, none⟩)), (5, .pointer (some ⟨w2.heap.size, 0, none⟩)), (7, .pointer (some ⟨w3.heap.size, 0, none⟩)), (1, .string s), (6, .int .i64 zc), (8, .int .i64 zc)] rfl (by decide) (by decide) (by decide) ha (fun o ho hg => ⟨(syAR.wanted hg rfl ha (d := 32) (by simp)), e_call (by kernel_rfl) ho rfl (by have q0 := ha.ev (i := 35) (v := .agg #[(.bool (ngB i)), (.slice Aa na ca), (.int .i64 (s0 : Int))]) (by simp); simp only [List.map_toArray, List.map_cons, List.map_nil, ev_const, q0])⟩) (by simp) ?_
  refine (refplain_is (i := i) (t := s0) (St.got E (A := Aa) (n := na) (c := ca) (a := (i).natAbs) (by simp)) (by omega) (by omega) G3.out).mono ?_; rintro e w7 ⟨rfl, hb⟩
  replace E := Lib.hid (St.step E.out hb)
  clear hb
  have hSw := St.sb E; refine ⟨_, rfl, hSw, ?_⟩; intro a ha
  refine line_still syAR 10 10 [] 37 (.bool true) [(32, .bool true), (2, .pointer (some ⟨w.heap.size, 0, none⟩)), (5, .pointer (some ⟨w2.heap.size, 0, none⟩)), (7, .pointer (some ⟨w3.heap.size, 0, none⟩)), (1, .string s), (6, .int .i64 zc), (8, .int .i64 zc)] rfl (by decide) (by decide) (by decide) ha (fun o ho hg => y_of (syAR.wanted hg rfl ha (d := 32) (by simp)) (fun wx hS => (e_seql ho (ha.ev (i := 34) (v := .string S3) (by simp)) (ha.ev (i := 36) (v := .string S3) (by simp))) (beq_self_eq_true _))) (by simp) hSw ?_; intro a ha
  refine line_still syAR 11 11 [] 38 (.bool true) [(2, .pointer (some ⟨w.heap.size, 0, none⟩)), (5, .pointer (some ⟨w2.heap.size, 0, none⟩)), (7, .pointer (some ⟨w3.heap.size, 0, none⟩)), (1, .string s), (6, .int .i64 zc), (8, .int .i64 zc)] rfl (by decide) (by decide) (by decide) ha (fun o ho hg => y_of (wanted_none hg) (fun wx hS => e_pick ho (ha.ev (i := 32) (v := .bool true) (by simp)) (ha.ev (i := 37) (v := .bool true) (by simp)) rfl)) (by simp) hSw ?_; intro a ha
  refine line_still syAR 12 12 [] 39 (.bool true) [(2, .pointer (some ⟨w.heap.size, 0, none⟩)), (5, .pointer (some ⟨w2.heap.size, 0, none⟩)), (7, .pointer (some ⟨w3.heap.size, 0, none⟩)), (1, .string s), (6, .int .i64 zc), (8, .int .i64 zc)] rfl (by decide) (by decide) (by decide) ha (fun o ho hg => y_of (wanted_none hg) (fun wx hS => e_move (.inl ho) (ha.ev (i := 38) (v := .bool true) (by simp)))) (by simp) hSw ?_; intro a ha
  refine line_still syAR 13 13 [] 40 (.agg #[(.bool (ngB i)), (.slice Aa na ca), (.int .i64 (s0 : Int))]) [(39, .bool true), (2, .pointer (some ⟨w.heap.size, 0, none⟩)), (5, .pointer (some ⟨w2.heap.size, 0, none⟩)), (7, .pointer (some ⟨w3.heap.size, 0, none⟩)), (1, .string s), (6, .int .i64 zc), (8, .int .i64 zc)] rfl (by decide) (by decide) (by decide) ha (fun o ho hg => y_of (syAR.wanted hg rfl ha (d := 39) (by simp)) (fun wx hS => e_load ho (ha.ev (i := 2) (v := .pointer (some ⟨w.heap.size, 0, none⟩)) (by simp)) (hS.at_ (g := w.heap.size) (x0 := (.bool (ngB i))) (x1 := (.slice Aa na ca)) (x2 := (.int .i64 (s0 : Int))) (by simp)))) (by simp) hSw ?_; intro a ha
  refine line_ahead syAR 14 14 [] 15 42 (.agg #[(.bool (ngB i)), (.slice Aa na ca), (.int .i64 (s0 : Int))]) [(40, .agg #[(.bool (ngB i)), (.slice Aa na ca), (.int .i64 (s0 : Int))]), (39, .bool true), (5, .pointer (some ⟨w2.heap.size, 0, none⟩)), (7, .pointer (some ⟨w3.heap.size, 0, none⟩)), (1, .string s), (6, .int .i64 zc), (8, .int .i64 zc)] rfl (by decide) (by decide) (by decide) ha (fun o ho hg => y_of (syAR.wanted hg rfl ha (d := 39) (by simp)) (fun wx hS => e_load ho (ha.ev (i := 2) (v := .pointer (some ⟨w.heap.size, 0, none⟩)) (by simp)) (hS.at_ (g := w.heap.size) (x0 := (.bool (ngB i))) (x1 := (.slice Aa na ca)) (x2 := (.int .i64 (s0 : Int))) (by simp)))) (by simp) hSw ?_; intro a ha
  refine line_call syAR 15 14 [15] 41 (args := #[.agg #[(.bool (ngB i)), (.slice Aa na ca), (.int .i64 (s0 : Int))]]) [(42, .agg #[(.bool (ngB i)), (.slice Aa na ca), (.int .i64 (s0 : Int))]), (39, .bool true), (5, .pointer (some ⟨w2.heap.size, 0, none⟩)), (7, .pointer (some ⟨w3.heap.size, 0, none⟩)), (1, .string s), (6, .int .i64 zc), (8, .int .i64 zc)] rfl (by decide) (by decide) (by decide) ha (fun o ho hg => ⟨(syAR.wanted hg rfl ha (d := 39) (by simp)), e_call (by kernel_rfl) ho rfl (by have q0 := ha.ev (i := 40) (v := .agg #[(.bool (ngB i)), (.slice Aa na ca), (.int .i64 (s0 : Int))]) (by simp); simp only [List.map_toArray, List.map_cons, List.map_nil, ev_const, q0])⟩) (by simp) ?_
  refine (commas_is (i := i) (t := s0) (St.got E (A := Aa) (n := na) (c := ca) (a := (i).natAbs) (by simp)) (by omega) (by omega) G2.out).mono ?_; rintro e w8 ⟨rfl, hb⟩
  replace E := Lib.hid (St.step E.out hb)
  clear hb
  have hSw := St.sb E; refine ⟨_, rfl, hSw, ?_⟩; intro a ha
  refine line_skip [] (by intro i; simp <;> omega) ?_
  refine line_call syAR 16 16 [] 43 (args := #[.agg #[(.bool (ngB i)), (.slice Aa na ca), (.int .i64 (s0 : Int))]]) [(41, .string S2), (39, .bool true), (5, .pointer (some ⟨w2.heap.size, 0, none⟩)), (7, .pointer (some ⟨w3.heap.size, 0, none⟩)), (1, .string s), (6, .int .i64 zc), (8, .int .i64 zc)] rfl (by decide) (by decide) (by decide) ha (fun o ho hg => ⟨(syAR.wanted hg rfl ha (d := 39) (by simp)), e_call (by kernel_rfl) ho rfl (by have q0 := ha.ev (i := 42) (v := .agg #[(.bool (ngB i)), (.slice Aa na ca), (.int .i64 (s0 : Int))]) (by simp); simp only [List.map_toArray, List.map_cons, List.map_nil, ev_const, q0])⟩) (by simp) ?_
  refine (refcommas_is (i := i) (t := s0) (St.got E (A := Aa) (n := na) (c := ca) (a := (i).natAbs) (by simp)) (by omega) (by omega) G2.out).mono ?_; rintro e w9 ⟨rfl, hb⟩
  replace E := Lib.hid (St.step E.out hb)
  clear hb
  have hSw := St.sb E; refine ⟨_, rfl, hSw, ?_⟩; intro a ha
  refine line_still syAR 17 17 [] 44 (.bool true) [(39, .bool true), (5, .pointer (some ⟨w2.heap.size, 0, none⟩)), (7, .pointer (some ⟨w3.heap.size, 0, none⟩)), (1, .string s), (6, .int .i64 zc), (8, .int .i64 zc)] rfl (by decide) (by decide) (by decide) ha (fun o ho hg => y_of (syAR.wanted hg rfl ha (d := 39) (by simp)) (fun wx hS => (e_seql ho (ha.ev (i := 41) (v := .string S2) (by simp)) (ha.ev (i := 43) (v := .string S2) (by simp))) (beq_self_eq_true _))) (by simp) hSw ?_; intro a ha
  refine line_still syAR 18 18 [] 45 (.bool true) [(5, .pointer (some ⟨w2.heap.size, 0, none⟩)), (7, .pointer (some ⟨w3.heap.size, 0, none⟩)), (1, .string s), (6, .int .i64 zc), (8, .int .i64 zc)] rfl (by decide) (by decide) (by decide) ha (fun o ho hg => y_of (wanted_none hg) (fun wx hS => e_pick ho (ha.ev (i := 39) (v := .bool true) (by simp)) (ha.ev (i := 44) (v := .bool true) (by simp)) rfl)) (by simp) hSw ?_; intro a ha
  refine line_still syAR 19 19 [] 46 (.bool true) [(5, .pointer (some ⟨w2.heap.size, 0, none⟩)), (7, .pointer (some ⟨w3.heap.size, 0, none⟩)), (1, .string s), (6, .int .i64 zc), (8, .int .i64 zc)] rfl (by decide) (by decide) (by decide) ha (fun o ho hg => y_of (wanted_none hg) (fun wx hS => e_move (.inl ho) (ha.ev (i := 45) (v := .bool true) (by simp)))) (by simp) hSw ?_; intro a ha
  refine line_still syAR 20 20 [] 47 (.agg #[(.bool (ngB zi)), (.slice A2 n2 c2), (.int .i64 (zk : Int))]) [(46, .bool true), (7, .pointer (some ⟨w3.heap.size, 0, none⟩)), (1, .string s), (6, .int .i64 zc), (8, .int .i64 zc)] rfl (by decide) (by decide) (by decide) ha (fun o ho hg => y_of (syAR.wanted hg rfl ha (d := 46) (by simp)) (fun wx hS => e_load ho (ha.ev (i := 5) (v := .pointer (some ⟨w2.heap.size, 0, none⟩)) (by simp)) (hS.at_ (g := w2.heap.size) (x0 := (.bool (ngB zi))) (x1 := (.slice A2 n2 c2)) (x2 := (.int .i64 (zk : Int))) (by simp)))) (by simp) hSw ?_; intro a ha
  refine line_still syAR 21 21 [] 48 (.agg #[(.bool (ngB zi)), (.slice A3 n3 c3), (.int .i64 (zk : Int))]) [(47, .agg #[(.bool (ngB zi)), (.slice A2 n2 c2), (.int .i64 (zk : Int))]), (46, .bool true), (1, .string s), (6, .int .i64 zc), (8, .int .i64 zc)] rfl (by decide) (by decide) (by decide) ha (fun o ho hg => y_of (syAR.wanted hg rfl ha (d := 46) (by simp)) (fun wx hS => e_load ho (ha.ev (i := 7) (v := .pointer (some ⟨w3.heap.size, 0, none⟩)) (by simp)) (hS.at_ (g := w3.heap.size) (x0 := (.bool (ngB zi))) (x1 := (.slice A3 n3 c3)) (x2 := (.int .i64 (zk : Int))) (by simp)))) (by simp) hSw ?_; intro a ha
  refine line_call syAR 22 22 [] 49 (args := #[.agg #[(.bool (ngB zi)), (.slice A2 n2 c2), (.int .i64 (zk : Int))], .agg #[(.bool (ngB zi)), (.slice A3 n3 c3), (.int .i64 (zk : Int))]]) [(46, .bool true), (1, .string s), (6, .int .i64 zc), (8, .int .i64 zc)] rfl (by decide) (by decide) (by decide) ha (fun o ho hg => ⟨(syAR.wanted hg rfl ha (d := 46) (by simp)), e_call (by kernel_rfl) ho rfl (by have q0 := ha.ev (i := 47) (v := .agg #[(.bool (ngB zi)), (.slice A2 n2 c2), (.int .i64 (zk : Int))]) (by simp); have q1 := ha.ev (i := 48) (v := .agg #[(.bool (ngB zi)), (.slice A3 n3 c3), (.int .i64 (zk : Int))]) (by simp); simp only [List.map_toArray, List.map_cons, List.map_nil, ev_const, q0, q1])⟩) (by simp) ?_
  refine (refalike_is5 (i := zi) (j := zi) (s := zk) (t := zk) (St.got E (A := A2) (n := n2) (c := c2) (a := (zi).natAbs) (by simp)) (St.got E (A := A3) (n := n3) (c := c3) (a := (zi).natAbs) (by simp)) FA.out).mono ?_; rintro e w10 ⟨rfl, hb⟩
  replace E := Lib.hid (St.step E.out hb)
  clear hb
  have hSw := St.sb E; refine ⟨_, rfl, hSw, ?_⟩; intro a ha
  refine line_still syAR 23 23 [] 50 (.bool true) [(1, .string s), (6, .int .i64 zc), (8, .int .i64 zc)] rfl (by decide) (by decide) (by decide) ha (fun o ho hg => y_of (wanted_none hg) (fun wx hS => e_pick ho (ha.ev (i := 46) (v := .bool true) (by simp)) (ha.ev (i := 49) (v := .bool true) (by simp)) rfl)) (by simp) hSw ?_; intro a ha
  refine line_still syAR 24 24 [] 51 (.bool true) [(1, .string s), (6, .int .i64 zc), (8, .int .i64 zc)] rfl (by decide) (by decide) (by decide) ha (fun o ho hg => y_of (wanted_none hg) (fun wx hS => e_move (.inl ho) (ha.ev (i := 50) (v := .bool true) (by simp)))) (by simp) hSw ?_; intro a ha
  refine line_still syAR 25 25 [] 52 (.int .i64 zc) [(51, .bool true), (1, .string s), (8, .int .i64 zc)] rfl (by decide) (by decide) (by decide) ha (fun o ho hg => y_of (syAR.wanted hg rfl ha (d := 51) (by simp)) (fun wx hS => e_move (.inl ho) (ha.ev (i := 6) (v := .int .i64 zc) (by simp)))) (by simp) hSw ?_; intro a ha
  refine line_still syAR 26 26 [] 53 (.int .i64 zc) [(52, .int .i64 zc), (51, .bool true), (1, .string s)] rfl (by decide) (by decide) (by decide) ha (fun o ho hg => y_of (syAR.wanted hg rfl ha (d := 51) (by simp)) (fun wx hS => e_move (.inl ho) (ha.ev (i := 8) (v := .int .i64 zc) (by simp)))) (by simp) hSw ?_; intro a ha
  refine line_still syAR 27 27 [] 54 (.bool true) [(51, .bool true), (1, .string s)] rfl (by decide) (by decide) (by decide) ha (fun o ho hg => y_of (syAR.wanted hg rfl ha (d := 51) (by simp)) (fun wx hS => (e_eql ho (ha.ev (i := 52) (v := .int .i64 zc) (by simp)) (ha.ev (i := 53) (v := .int .i64 zc) (by simp))).trans (by rw [DZ.out]))) (by simp) hSw ?_; intro a ha
  refine line_still syAR 28 28 [] 55 (.bool true) [(1, .string s)] rfl (by decide) (by decide) (by decide) ha (fun o ho hg => y_of (wanted_none hg) (fun wx hS => e_pick ho (ha.ev (i := 51) (v := .bool true) (by simp)) (ha.ev (i := 54) (v := .bool true) (by simp)) rfl)) (by simp) hSw ?_; intro a ha
  refine line_still syAR 29 29 [] 56 (.bool true) [(1, .string s)] rfl (by decide) (by decide) (by decide) ha (fun o ho hg => y_of (wanted_none hg) (fun wx hS => e_move (.inl ho) (ha.ev (i := 55) (v := .bool true) (by simp)))) (by simp) hSw ?_; intro a ha
  refine line_still syAR 30 30 [] 57 (.string s) [(56, .bool true), (1, .string s)] rfl (by decide) (by decide) (by decide) ha (fun o ho hg => y_of (syAR.wanted hg rfl ha (d := 56) (by simp)) (fun wx hS => e_move (.inl ho) (ha.ev (i := 1) (v := .string s) (by simp)))) (by simp) hSw ?_; intro a ha
  refine line_ahead syAR 31 31 [] 32 59 (.string s) [(57, .string s), (56, .bool true)] rfl (by decide) (by decide) (by decide) ha (fun o ho hg => y_of (syAR.wanted hg rfl ha (d := 56) (by simp)) (fun wx hS => e_move (.inl ho) (ha.ev (i := 1) (v := .string s) (by simp)))) (by simp) hSw ?_; intro a ha
  refine line_call syAR 32 31 [32] 58 (args := #[.string s]) [(59, .string s), (56, .bool true)] rfl (by decide) (by decide) (by decide) ha (fun o ho hg => ⟨(syAR.wanted hg rfl ha (d := 56) (by simp)), e_call (by kernel_rfl) ho rfl (by have q0 := ha.ev (i := 57) (v := .string s) (by simp); simp only [List.map_toArray, List.map_cons, List.map_nil, ev_const, q0])⟩) (by simp) ?_
  refine (scale_is (s := s) (k := k9) (by omega) (HM.out.on E.out.bel) HK9.out).mono ?_; rintro e w11 ⟨rfl, hb⟩
  replace E := Lib.hid (St.step E.out hb)
  clear hb
  have hSw := St.sb E; refine ⟨_, rfl, hSw, ?_⟩; intro a ha
  refine line_skip [] (by intro i; simp <;> omega) ?_
  refine line_call syAR 33 33 [] 60 (args := #[.string s]) [(58, .int .i64 (k9 : Int)), (56, .bool true)] rfl (by decide) (by decide) (by decide) ha (fun o ho hg => ⟨(syAR.wanted hg rfl ha (d := 56) (by simp)), e_call (by kernel_rfl) ho rfl (by have q0 := ha.ev (i := 59) (v := .string s) (by simp); simp only [List.map_toArray, List.map_cons, List.map_nil, ev_const, q0])⟩) (by simp) ?_
  refine (refscale_is (s := s) (k := k9) (by omega) HK9.out).mono ?_; rintro e w12 ⟨rfl, hb⟩
  replace E := Lib.hid (St.step E.out hb)
  clear hb
  have hSw := St.sb E; refine ⟨_, rfl, hSw, ?_⟩; intro a ha
  refine line_still syAR 34 34 [] 61 (.bool true) [(56, .bool true)] rfl (by decide) (by decide) (by decide) ha (fun o ho hg => y_of (syAR.wanted hg rfl ha (d := 56) (by simp)) (fun wx hS => (e_eql ho (ha.ev (i := 58) (v := .int .i64 (k9 : Int)) (by simp)) (ha.ev (i := 60) (v := .int .i64 (k9 : Int)) (by simp))).trans (by rw [DK.out]))) (by simp) hSw ?_; intro a ha
  refine line_still syAR 35 35 [] 62 (.bool true) [] rfl (by decide) (by decide) (by decide) ha (fun o ho hg => y_of (wanted_none hg) (fun wx hS => e_pick ho (ha.ev (i := 56) (v := .bool true) (by simp)) (ha.ev (i := 61) (v := .bool true) (by simp)) rfl)) (by simp) hSw ?_; intro a ha
  refine line_still syAR 36 36 [] 63 (.bool true) [] rfl (by decide) (by decide) (by decide) ha (fun o ho hg => y_of (wanted_none hg) (fun wx hS => e_move (.inl ho) (ha.ev (i := 62) (v := .bool true) (by simp)))) (by simp) hSw ?_; intro a ha
  refine line_call syAR 37 37 [] 64 (args := #[]) [(63, .bool true)] rfl (by decide) (by decide) (by decide) ha (fun o ho hg => ⟨(syAR.wanted hg rfl ha (d := 63) (by simp)), e_call (by kernel_rfl) ho rfl (by simp only [List.map_toArray, List.map_cons, List.map_nil, ev_const])⟩) (by simp) ?_
  refine (awake7 _ (HM.out.on E.out.bel)).mono ?_; rintro e w13 ⟨rfl, hb⟩
  replace E := Lib.hid (St.step E.out hb)
  clear hb
  have hSw := St.sb E; refine ⟨_, rfl, hSw, ?_⟩; intro a ha
  refine line_still syAR 38 38 [] 65 (.bool true) [] rfl (by decide) (by decide) (by decide) ha (fun o ho hg => y_of (wanted_none hg) (fun wx hS => e_pick ho (ha.ev (i := 63) (v := .bool true) (by simp)) (ha.ev (i := 64) (v := .bool true) (by simp)) rfl)) (by simp) hSw ?_; intro a ha
  refine line_still syAR 39 39 [] 4 (.bool true) [] rfl (by decide) (by decide) (by decide) ha (fun o ho hg => y_of (wanted_none hg) (fun wx hS => e_move (.inr ho) (ha.ev (i := 65) (v := .bool true) (by simp)))) (by simp) hSw ?_; intro a ha
  refine line_end syAR rfl ?_
  simp only [Exit.then]
  refine hK _ _ ?_
  go_wp2
  exact bodyPost_ret (v := .bool true) (by have := ha.2.2 (4, .bool true) (by simp); simp [results, Tryz.results3, go_sem, Array.getD_eq_getD_getElem?, this]) ha.2.1 ⟨rfl, E.out.bel⟩

theorem says7_law (w : World) (hm : MaxLen w) (b1 : Bool) (A1 : Option Addr) (n1 c1 : Nat) (xs1 : List Nat) (k1 : Int) (h1 : Lim w w.heap.size A1 n1 c1 xs1) (s : ByteArray) (hs : s.size ≤ maxLen) : Calls Tryz.prog 3 #[.agg #[.bool b1, .slice A1 n1 c1, .int .i64 k1], .string s] w (RetVal w (.bool true)) := by
  cases l1 : longB b1 n1 xs1 k1 with
  | true => exact says_long7 w hm b1 A1 n1 c1 xs1 k1 h1 s l1
  | false =>
    obtain ⟨i, s0, rfl, rfl, rfl, m1, t1⟩ := of_long l1 h1
    rcases Nat.lt_or_ge 200 s.size with h | h
    · exact says_far7 w hm A1 n1 c1 s0 i h1 m1 t1 s (decide_eq_true (by omega)) hs
    · exact says_main7 w hm A1 n1 c1 s0 i h1 m1 t1 s h

end Go.Proofs.YtllcjahekckbfaaGreatDoor
