/-
  DectextBack answers true.
-/
import Derived.Test.YtllcjahekckbfaaDoorTxtT
import Derived.Test.YtllcjahekckbfaaDoorAllDecG
set_option linter.unusedVariables false
set_option linter.unusedSimpArgs false
namespace Go.Proofs.YtllcjahekckbfaaDoor
open Go.RowKit

theorem Fr.list {N : Nat} {a : Act} {l : List (Nat × Value)} (h : Fr N a l) : ∃ us : Nat → Value, a = ⟨((List.range N).map us).toArray, []⟩ ∧ ∀ q ∈ l, us q.1 = q.2 := by
  obtain ⟨h1, h2, h3⟩ := h
  refine ⟨fun i => a.tmps.getD i undef, ?_, fun q hq => ?_⟩
  · obtain ⟨t, ds⟩ := a
    simp only at h1 h2
    subst h2
    congr 1
    apply Array.ext
    · simp [h1]
    · intro i hi _
      simp [Array.getD_eq_getD_getElem?, Array.getElem?_eq_getElem hi]
  · simp only
    rw [Array.getD_eq_getD_getElem?, h3 q hq]; rfl

theorem told_size7 {i : Int} {k n : Nat} (h : nd i.natAbs ≤ n) (hn : n ≤ 400) (hk : k ≤ 300) : (str (txtD i k)).size ≤ 1000 ∧ (str (comD i k)).size ≤ 1000 := by
  have h2 : (txt (i.natAbs / 10 ^ k)).length ≤ nd i.natAbs := by
    rcases Nat.eq_zero_or_pos (i.natAbs / 10 ^ k) with h0 | h0
    · rw [h0, txt_zero]; exact nd_pos _
    · have := nd_div k h0; show nd _ ≤ nd _; omega
  have h3 := grp_len (txt (i.natAbs / 10 ^ k))
  have h4 := beh_len k i.natAbs
  have h5 := sgT_len i
  rw [str_size, str_size]
  unfold txtD comD
  rw [List.length_append, List.length_append, List.length_append, List.length_append]
  omega
theorem bhd_rst (l : List Nat) : bhd (rst l) = bhd l := by
  cases l with
  | nil => rfl
  | cons c l =>
    unfold rst
    split
    · rename_i h
      have hc : c ≠ 46 := by
        rcases h with h | h
        · injection h with h; omega
        · injection h with h; omega
      rw [bhd_cons_ne _ hc]; rfl
    · rfl
theorem dgB_frm {l : List Nat} (h : frmB l = true) : digs (digsOf l) := by
  unfold frmB at h
  exact dgB_iff.1 (Bool.and_eq_true_iff.1 h).2
theorem numD_bounds {s : ByteArray} (hs : s.size ≤ 200) (h : frmB (rst (codes s)) = true) : nd (numD (codes s)).natAbs ≤ 201 ∧ (dg (numD (codes s)).natAbs).length ≤ 200 ∧ (bhd (rst (codes s))).length ≤ 200 := by
  have h1 := dgB_frm h
  have h2 : (numD (codes s)).natAbs = pv (digsOf (rst (codes s))) := abs_sgn _ _
  have h3 := digsOf_len (rst (codes s))
  have h4 := rst_len (codes s)
  have h5 := codes_len s
  have h6 := ahd_bhd_len (rst (codes s))
  have h7 := pv_lt h1
  have h8 := pv_len h1
  rw [h2]
  refine ⟨?_, by omega, by omega⟩
  exact nd_le_of_lt 200 (Nat.lt_of_lt_of_le h7 (Nat.pow_le_pow_right (by omega) (by omega)))

/-- What Parse answers of any text, told by names. -/
def RetAny (W : World) (i : Int) (k : Nat) (P : Prop) (e : Ending) (w' : World) : Prop := RetErr W 2 e w' ∨ RetErr W 3 e w' ∨ (P ∧ RetDecE W i k e w')
theorem any_read {s : ByteArray} {w : World} (hs : s.size ≤ 200) (hm : MaxLen w) {i : Int} {k : Nat} (hi : i = numD (codes s)) (hk : k = (bhd (rst (codes s))).length) :
    Calls Tryd.prog 7 #[.string s] w (RetAny w i k (nd i.natAbs ≤ 201 ∧ (dg i.natAbs).length ≤ 200 ∧ k ≤ 200 ∧ (bhd (codes s)).length = k)) := by
  subst hi; subst hk
  refine (read_any s w (by omega) hm).mono fun e w' h => ?_
  rcases h with ⟨-, h⟩ | ⟨-, -, h⟩ | ⟨-, h2, h⟩
  · exact .inl h
  · exact .inr (.inl h)
  · obtain ⟨f1, f2, f3⟩ := numD_bounds hs h2
    exact .inr (.inr ⟨⟨f1, f2, f3, by rw [bhd_rst]⟩, h⟩)
theorem num_zero (w : World) : Num w w.heap.size none 0 0 (0 : Int).natAbs := by
  show Num w w.heap.size none 0 0 0
  rw [Num, dg_zero]; exact Lim.nil
theorem alike_zero (w : World) : Calls Tryd.prog 11 #[.agg #[.bool false, .slice none 0 0, .int .i64 0], .agg #[.bool false, .slice none 0 0, .int .i64 0]] w (RetVal w (.bool true)) :=
  alike_is5 (i := 0) (s := 0) (j := 0) (t := 0) (num_zero w) (num_zero w) rfl

set_option maxHeartbeats 2000000 in
set_option maxRecDepth 100000 in
theorem back_long (w : World) (hm : MaxLen w) (b1 : Bool) (A1 : Option Addr) (n1 c1 : Nat) (xs1 : List Nat) (k1 : Int) (h1 : Lim w w.heap.size A1 n1 c1 xs1) (s : ByteArray) (l1 : longB b1 n1 xs1 k1 = true) : Calls Tryd.prog 3 #[.agg #[.bool b1, .slice A1 n1 c1, .int .i64 k1], .string s] w (RetVal w (.bool true)) := by
  have H1 := Lib.hid h1
  have L1 := Lib.hid l1
  have HM := Lib.hid hm
  clear h1 l1 hm
  go_enter Tryd.func3, Tryd.ntmps3
  go_wp2_with fail
  generalize hW : World.alloc w _ = W0
  have E0 : St w W0 [] [(w.heap.size, .bool b1, .slice A1 n1 c1, .int .i64 k1)] := by rw [← hW]; exact (St.start w (l := []) (fun q hq => by cases hq)).lay rfl
  have E := Lib.hid E0
  clear hW E0
  refine (long_is (H1.out.on E.out.bel) L1.out).mono ?_; rintro e w1 ⟨rfl, hb⟩; replace E := Lib.hid (St.step E.out hb); clear hb
  go_wp2_with fail
  refine (awake7 _ (HM.out.on E.out.bel)).mono ?_; rintro e w9 ⟨rfl, hb⟩; replace E := Lib.hid (St.step E.out hb); clear hb
  go_wp2_with fail
  go_ret
  exact ⟨rfl, E.out.bel⟩

set_option maxHeartbeats 2000000 in
set_option maxRecDepth 100000 in
theorem back_far (w : World) (hm : MaxLen w) (Aa : Option Addr) (na ca s0 : Nat) (i : Int) (h1 : Num w w.heap.size Aa na ca i.natAbs) (m1 : na ≤ 12) (t1 : s0 ≤ 60) (s : ByteArray) (hs : decide (200 < (s.size : Int)) = true) (hmx : s.size ≤ maxLen) : Calls Tryd.prog 3 #[.agg #[.bool (ngB i), .slice Aa na ca, .int .i64 (s0 : Int)], .string s] w (RetVal w (.bool true)) := by
  unfold maxLen at hmx
  have N1 : Hid (longB (ngB i) na (dg i.natAbs) (s0 : Int) = false) := not_long h1 m1 t1
  have H1 := Lib.hid h1
  have HM := Lib.hid hm
  clear h1 hm
  go_enter Tryd.func3, Tryd.ntmps3
  go_wp2_with fail
  generalize hW : World.alloc w _ = W0
  have E0 : St w W0 [(Aa, na, ca, (i).natAbs)] [(w.heap.size, (.bool (ngB i)), (.slice Aa na ca), (.int .i64 (s0 : Int)))] := by rw [← hW]; exact (St.start w (l := [(Aa, na, ca, (i).natAbs)]) (by simp; exact H1.out)).lay rfl
  have E := Lib.hid E0
  clear hW E0
  refine (long_is (St.got E (A := Aa) (n := na) (c := ca) (a := (i).natAbs) (by simp)) N1.out).mono ?_; rintro e w1 ⟨rfl, hb⟩; replace E := Lib.hid (St.step E.out hb); clear hb
  go_wp2_with fail
  refine (awake7 _ (HM.out.on E.out.bel)).mono ?_; rintro e w9 ⟨rfl, hb⟩; replace E := Lib.hid (St.step E.out hb); clear hb
  go_wp2_with fail
  go_ret
  exact ⟨rfl, E.out.bel⟩

def bkAT : List Row3 := [(some 41, none, .move (.tmp 6)), (some 42, none, .binOp .neq 28 (.tmp 41) (.const (.int .i64 0)) 28), (some 43, none, .move (.tmp 42)), (some 44, some (2, false), .move (.tmp 8)), (some 45, some (2, false), .binOp .neq 28 (.tmp 44) (.const (.int .i64 0)) 28), (some 46, none, .pick (.tmp 43) (.const (.bool true)) (.tmp 45)), (some 47, none, .move (.tmp 46)), (some 48, some (6, false), .move (.tmp 10)), (some 49, some (6, false), .binOp .neq 28 (.tmp 48) (.const (.int .i64 0)) 28), (some 50, none, .pick (.tmp 47) (.const (.bool true)) (.tmp 49)), (some 51, none, .move (.tmp 50)), (some 52, some (10, false), .load 25 (.tmp 5)), (some 53, some (10, false), .load 25 (.tmp 2)), (some 54, some (10, false), .call { callee := .value (.func 11), args := #[.tmp 52, .tmp 53], argTypes := #[25, 25] }), (some 55, some (10, false), .unOp .not 4 (.tmp 54)), (some 56, none, .pick (.tmp 51) (.const (.bool true)) (.tmp 55)), (some 57, none, .move (.tmp 56)), (some 58, some (16, false), .load 25 (.tmp 7)), (some 59, some (16, false), .load 25 (.tmp 2)), (some 60, some (16, false), .call { callee := .value (.func 11), args := #[.tmp 58, .tmp 59], argTypes := #[25, 25] }), (some 61, some (16, false), .unOp .not 4 (.tmp 60)), (some 62, none, .pick (.tmp 57) (.const (.bool true)) (.tmp 61)), (some 63, none, .move (.tmp 62)), (some 64, some (22, false), .load 25 (.tmp 9)), (some 65, some (22, false), .load 25 (.tmp 2)), (some 66, some (22, false), .call { callee := .value (.func 12), args := #[.tmp 64, .tmp 65], argTypes := #[25, 25] }), (some 67, some (22, false), .unOp .not 4 (.tmp 66)), (some 68, none, .pick (.tmp 63) (.const (.bool true)) (.tmp 67)), (some 69, none, .move (.tmp 68)), (some 70, some (28, false), .load 25 (.tmp 2)), (some 71, some (28, false), .call { callee := .value (.func 8), args := #[.tmp 70], argTypes := #[25] }), (some 72, some (28, false), .call { callee := .value (.func 13), args := #[.tmp 71], argTypes := #[9] }), (some 73, some (28, false), .fieldAddr 25 (.tmp 2) 2), (some 74, some (28, false), .load 3 (.tmp 73)), (some 75, some (28, false), .binOp .neq 3 (.tmp 72) (.tmp 74) 3), (some 76, none, .pick (.tmp 69) (.const (.bool true)) (.tmp 75))]
set_option maxRecDepth 100000 in
theorem bkARow : (opsAt Tryd.prog 3 6).toList.map row3 = bkAT := by kernel_rfl
theorem bkASel : Region.noSelect (opsAt Tryd.prog 3 6) = true := by kernel_rfl
theorem bkADone : Region.ready .any (opsAt Tryd.prog 3 6) (upto (opsAt Tryd.prog 3 6).size (opsAt Tryd.prog 3 6).size []) = [] := by kernel_rfl
theorem bkAstill0 : [(0, [], 0), (1, [], 1), (2, [], 2), (3, [], 3), (4, [], 4), (5, [], 5), (6, [], 6), (7, [], 7), (8, [], 8), (9, [], 9)].all (stillB (opsAt Tryd.prog 3 6)) = true := by kernel_rfl
theorem bkAstill1 : [(10, [], 10), (11, [], 11), (12, [], 12), (14, [], 14), (15, [], 15), (16, [], 16), (17, [], 17), (18, [], 18), (20, [], 20), (21, [], 21)].all (stillB (opsAt Tryd.prog 3 6)) = true := by kernel_rfl
theorem bkAstill2 : [(22, [], 22), (23, [], 23), (24, [], 24), (26, [], 26), (27, [], 27), (28, [], 28), (29, [], 29), (30, [], 32), (30, [32], 33), (34, [], 34)].all (stillB (opsAt Tryd.prog 3 6)) = true := by kernel_rfl
theorem bkAstill3 : [(35, [], 35)].all (stillB (opsAt Tryd.prog 3 6)) = true := by kernel_rfl
theorem bkAsole0 : [(13, [], 13), (19, [], 19), (25, [], 25), (30, [33, 32], 30), (31, [33, 32], 31)].all (soleB (opsAt Tryd.prog 3 6)) = true := by kernel_rfl
theorem bkAR : Reg (opsAt Tryd.prog 3 6) bkAT [(0, [], 0), (1, [], 1), (2, [], 2), (3, [], 3), (4, [], 4), (5, [], 5), (6, [], 6), (7, [], 7), (8, [], 8), (9, [], 9), (10, [], 10), (11, [], 11), (12, [], 12), (14, [], 14), (15, [], 15), (16, [], 16), (17, [], 17), (18, [], 18), (20, [], 20), (21, [], 21), (22, [], 22), (23, [], 23), (24, [], 24), (26, [], 26), (27, [], 27), (28, [], 28), (29, [], 29), (30, [], 32), (30, [32], 33), (34, [], 34), (35, [], 35)] [(13, [], 13), (19, [], 19), (25, [], 25), (30, [33, 32], 30), (31, [33, 32], 31)] := ⟨bkARow, bkASel, (all_parts bkAstill0 (all_parts bkAstill1 (all_parts bkAstill2 (all_parts bkAstill3 (fun k h => by cases h))))), (all_parts bkAsole0 (fun k h => by cases h)), bkADone⟩

def bkBT : List Row3 := [(some 96, none, .move (.tmp 14)), (some 97, none, .binOp .eql 28 (.tmp 96) (.const (.int .i64 0)) 28), (some 98, none, .move (.tmp 97)), (some 99, some (2, true), .load 25 (.tmp 13)), (some 100, some (2, true), .load 25 (.tmp 11)), (some 101, some (2, true), .call { callee := .value (.func 11), args := #[.tmp 99, .tmp 100], argTypes := #[25, 25] }), (some 102, none, .pick (.tmp 98) (.tmp 101) (.const (.bool false))), (some 103, none, .move (.tmp 102)), (some 104, some (7, true), .fieldAddr 25 (.tmp 11) 2), (some 105, some (7, true), .load 3 (.tmp 104)), (some 106, some (7, true), .move (.tmp 1)), (some 107, some (7, true), .call { callee := .value (.func 13), args := #[.tmp 106], argTypes := #[9] }), (some 108, some (7, true), .binOp .eql 3 (.tmp 105) (.tmp 107) 3), (some 109, none, .pick (.tmp 103) (.tmp 108) (.const (.bool false))), (some 110, none, .move (.tmp 109)), (some 111, some (14, true), .load 25 (.tmp 11)), (some 112, some (14, true), .call { callee := .value (.func 14), args := #[.tmp 111], argTypes := #[25] }), (some 113, none, .pick (.tmp 110) (.tmp 112) (.const (.bool false))), (some 114, none, .move (.tmp 113)), (some 115, some (18, true), .call { callee := .value (.func 6), args := #[], argTypes := #[] }), (some 116, none, .pick (.tmp 114) (.tmp 115) (.const (.bool false))), (some 4, none, .assign (.tmp 116))]
set_option maxRecDepth 100000 in
theorem bkBRow : (opsAt Tryd.prog 3 12).toList.map row3 = bkBT := by kernel_rfl
theorem bkBSel : Region.noSelect (opsAt Tryd.prog 3 12) = true := by kernel_rfl
theorem bkBDone : Region.ready .any (opsAt Tryd.prog 3 12) (upto (opsAt Tryd.prog 3 12).size (opsAt Tryd.prog 3 12).size []) = [] := by kernel_rfl
theorem bkBstill0 : [(0, [], 0), (1, [], 1), (2, [], 2), (3, [], 3), (4, [], 4), (6, [], 6), (7, [], 7), (8, [], 8), (9, [], 9), (10, [], 10)].all (stillB (opsAt Tryd.prog 3 12)) = true := by kernel_rfl
theorem bkBstill1 : [(12, [], 12), (13, [], 13), (14, [], 14), (15, [], 15), (17, [], 17), (18, [], 18), (20, [], 20), (21, [], 21)].all (stillB (opsAt Tryd.prog 3 12)) = true := by kernel_rfl
theorem bkBsole0 : [(5, [], 5), (11, [], 11), (16, [], 16), (19, [], 19)].all (soleB (opsAt Tryd.prog 3 12)) = true := by kernel_rfl
theorem bkBR : Reg (opsAt Tryd.prog 3 12) bkBT [(0, [], 0), (1, [], 1), (2, [], 2), (3, [], 3), (4, [], 4), (6, [], 6), (7, [], 7), (8, [], 8), (9, [], 9), (10, [], 10), (12, [], 12), (13, [], 13), (14, [], 14), (15, [], 15), (17, [], 17), (18, [], 18), (20, [], 20), (21, [], 21)] [(5, [], 5), (11, [], 11), (16, [], 16), (19, [], 19)] := ⟨bkBRow, bkBSel, (all_parts bkBstill0 (all_parts bkBstill1 (fun k h => by cases h))), (all_parts bkBsole0 (fun k h => by cases h)), bkBDone⟩

set_option maxHeartbeats 8000000 in
set_option maxRecDepth 100000 in
theorem back_main (w : World) (hm : MaxLen w) (Aa : Option Addr) (na ca s0 : Nat) (i : Int) (h1 : Num w w.heap.size Aa na ca i.natAbs) (m1 : na ≤ 12) (t1 : s0 ≤ 60) (s : ByteArray) (hs : s.size ≤ 200) : Calls Tryd.prog 3 #[.agg #[.bool (ngB i), .slice Aa na ca, .int .i64 (s0 : Int)], .string s] w (RetVal w (.bool true)) := by
  have N1 : Hid (longB (ngB i) na (dg i.natAbs) (s0 : Int) = false) := not_long h1 m1 t1
  have b200 : decide (200 < (s.size : Int)) = false := decide_eq_false (by omega)
  have hsm : (s.size : Int) ≤ 200 := by omega
  have hL : (dg i.natAbs).length ≤ 12 := by have := h1.len; omega
  have LD : Hid ((dg i.natAbs).length ≤ 12) := hL
  have hnd : nd i.natAbs ≤ 109 := by have := nd_le_len (a := i.natAbs) rfl; omega
  obtain ⟨q, hq⟩ : ∃ q, q = stripI i s0 0 := ⟨_, rfl⟩
  obtain ⟨k, hk⟩ : ∃ k, k = s0 - stripK i s0 0 := ⟨_, rfl⟩
  have hk60 : k ≤ 60 := by omega
  have hqa : q.natAbs ≤ i.natAbs := by rw [hq]; unfold stripI; rw [abs_sgn]; exact Nat.div_le_self _ _
  have LQ : Hid ((dg q.natAbs).length ≤ 12) := (by show _ ≤ _; exact Nat.le_trans (dg_len_mono hqa) hL)
  have hqn : nd q.natAbs ≤ 109 := by have := nd_le_len (a := q.natAbs) rfl; have := LQ.out; omega
  have FSQ : Hid ((cmpD q k i s0 == 0) = true) := (by show _ = _; rw [hq, hk]; exact strip_same i s0 0)
  have FQ : Hid (q = stripI i s0 0 ∧ k = s0 - stripK i s0 0) := ⟨hq, hk⟩
  obtain ⟨S1, hS1⟩ : ∃ S, S = str (txtD i s0) := ⟨_, rfl⟩
  obtain ⟨S2, hS2⟩ : ∃ S, S = str (comD i s0) := ⟨_, rfl⟩
  obtain ⟨S3, hS3⟩ : ∃ S, S = str (txtD q k) := ⟨_, rfl⟩
  have Z1 : Hid (S1.size ≤ 1000) := (by show _ ≤ _; rw [hS1]; exact (told_size7 hnd (by omega) (by omega)).1)
  have Z2 : Hid (S2.size ≤ 1000) := (by show _ ≤ _; rw [hS2]; exact (told_size7 hnd (by omega) (by omega)).2)
  have Z3 : Hid (S3.size ≤ 1000) := (by show _ ≤ _; rw [hS3]; exact (told_size7 hqn (by omega) (by omega)).1)
  have hc1 : codes S1 = txtD i s0 := by rw [hS1]; exact codes_str (txtD_lt i s0)
  have FB : Hid ((bhd (codes S1)).length = s0) := (by show _ = _; rw [← bhd_rst, hc1]; have := told (i := i) (s := s0) (.inl rfl); unfold txtD; rw [this.1]; exact this.2.2.2.2)
  have G1 := Lib.hid hS1
  have G2 := Lib.hid hS2
  have G3 : Hid (S3 = str (txtD (stripI i s0 0) (s0 - stripK i s0 0))) := (by show _ = _; rw [hS3, hq, hk])
  have G3b := Lib.hid hS3
  obtain ⟨zi, hzi⟩ : ∃ z, z = numD (codes s) := ⟨_, rfl⟩
  obtain ⟨zk, hzk⟩ : ∃ z, z = (bhd (rst (codes s))).length := ⟨_, rfl⟩
  have HZI := Lib.hid hzi
  have HZK := Lib.hid hzk
  have FA : Hid (alikeB i s0 i s0 = true) := alike_yes rfl rfl
  have D0 : Hid (((s0 : Int) != (s0 : Int)) = false) := (by show _ = _; simp)
  have H1 := Lib.hid h1
  have HM := Lib.hid hm
  clear h1 hm hL hq hk hqa hS1 hS2 hS3 hzi hzk hc1 hnd hqn
  go_enter Tryd.func3, Tryd.ntmps3
  go_wp2_with fail
  generalize hW : World.alloc w _ = W0
  have E0 : St w W0 [(Aa, na, ca, (i).natAbs)] [(w.heap.size, (.bool (ngB i)), (.slice Aa na ca), (.int .i64 (s0 : Int)))] := by rw [← hW]; exact (St.start w (l := [(Aa, na, ca, (i).natAbs)]) (by simp; exact H1.out)).lay rfl
  have E := Lib.hid E0
  clear hW E0
  refine (long_is (St.got E (A := Aa) (n := na) (c := ca) (a := (i).natAbs) (by simp)) N1.out).mono ?_; rintro e w1 ⟨rfl, hb⟩
  replace E := Lib.hid (St.step E.out hb)
  clear hb
  obtain ⟨p0a, p0b, p0c, p0d, p0e, p0f, p0g⟩ := St.at_ (x0 := (.bool (ngB i))) (x1 := (.slice Aa na ca)) (x2 := (.int .i64 (s0 : Int))) (g := w.heap.size) E (by simp)
  go_wp2_with fail
  clear p0a p0b p0c p0d p0e p0f p0g
  refine (dtext_is (i := i) (t := s0) (St.got E (A := Aa) (n := na) (c := ca) (a := (i).natAbs) (by simp)) (by omega) (by omega) G1.out.symm).mono ?_; rintro e w2 ⟨rfl, hb⟩
  replace E := Lib.hid (St.step E.out hb)
  clear hb
  go_wp2_with fail
  refine (read_told (i := i) (k := s0) Z1.out (HM.out.on E.out.bel) (.inl G1.out)).mono ?_; rintro e w3 ⟨A3, n3, c3, rfl, h, hb⟩
  have b3 : n3 ≤ 12 := len_le h LD.out
  replace E := Lib.hid (St.push E.out hb h)
  clear h hb
  obtain ⟨p0a, p0b, p0c, p0d, p0e, p0f, p0g⟩ := St.at_ (x0 := (.bool (ngB i))) (x1 := (.slice Aa na ca)) (x2 := (.int .i64 (s0 : Int))) (g := w.heap.size) E (by simp)
  go_wp2_with fail
  clear p0a p0b p0c p0d p0e p0f p0g
  replace E := Lib.hid (St.lay (t := 25) (x0 := (.bool (ngB i))) (x1 := (.slice A3 n3 c3)) (x2 := (.int .i64 (s0 : Int))) (g := w3.heap.size) E.out rfl)
  generalize hW2 : World.alloc w3 _ = W1 at E ⊢
  clear hW2
  refine (commas_is (i := i) (t := s0) (St.got E (A := Aa) (n := na) (c := ca) (a := (i).natAbs) (by simp)) (by omega) (by omega) G2.out.symm).mono ?_; rintro e w4 ⟨rfl, hb⟩
  replace E := Lib.hid (St.step E.out hb)
  clear hb
  go_wp2_with fail
  refine (read_told (i := i) (k := s0) Z2.out (HM.out.on E.out.bel) (.inr G2.out)).mono ?_; rintro e w5 ⟨A5, n5, c5, rfl, h, hb⟩
  have b5 : n5 ≤ 12 := len_le h LD.out
  replace E := Lib.hid (St.push E.out hb h)
  clear h hb
  obtain ⟨p0a, p0b, p0c, p0d, p0e, p0f, p0g⟩ := St.at_ (x0 := (.bool (ngB i))) (x1 := (.slice A3 n3 c3)) (x2 := (.int .i64 (s0 : Int))) (g := w3.heap.size) E (by simp)
  obtain ⟨p1a, p1b, p1c, p1d, p1e, p1f, p1g⟩ := St.at_ (x0 := (.bool (ngB i))) (x1 := (.slice Aa na ca)) (x2 := (.int .i64 (s0 : Int))) (g := w.heap.size) E (by simp)
  go_wp2_with fail
  clear p0a p0b p0c p0d p0e p0f p0g p1a p1b p1c p1d p1e p1f p1g
  replace E := Lib.hid (St.lay (t := 25) (x0 := (.bool (ngB i))) (x1 := (.slice A5 n5 c5)) (x2 := (.int .i64 (s0 : Int))) (g := w5.heap.size) E.out rfl)
  generalize hW2 : World.alloc w5 _ = W2 at E ⊢
  clear hW2
  refine (plain_is (i := i) (t := s0) (St.got E (A := Aa) (n := na) (c := ca) (a := (i).natAbs) (by simp)) (by omega) (by omega) G3.out.symm).mono ?_; rintro e w6 ⟨rfl, hb⟩
  replace E := Lib.hid (St.step E.out hb)
  clear hb
  go_wp2_with fail
  refine (read_told (i := q) (k := k) Z3.out (HM.out.on E.out.bel) (.inl G3b.out)).mono ?_; rintro e w7 ⟨A7, n7, c7, rfl, h, hb⟩
  have b7 : n7 ≤ 12 := len_le h LQ.out
  replace E := Lib.hid (St.push E.out hb h)
  clear h hb
  go_wp2_with fail
  replace E := Lib.hid (St.lay (t := 25) (x0 := (.bool (ngB q))) (x1 := (.slice A7 n7 c7)) (x2 := (.int .i64 (k : Int))) (g := w7.heap.size) E.out rfl)
  generalize hW2 : World.alloc w7 _ = W3 at E ⊢
  clear hW2
  replace E := Lib.hid (St.drew E.out)
  rename_i K0 hK0 K hK
  refine line_start (ops := opsAt Tryd.prog 3 6) (S := SB [(w7.heap.size, (.bool (ngB q)), (.slice A7 n7 c7), (.int .i64 (k : Int))), (w5.heap.size, (.bool (ngB i)), (.slice A5 n5 c5), (.int .i64 (s0 : Int))), (w3.heap.size, (.bool (ngB i)), (.slice A3 n3 c3), (.int .i64 (s0 : Int))), (w.heap.size, (.bool (ngB i)), (.slice Aa na ca), (.int .i64 (s0 : Int)))]) (by kernel_rfl) (by kernel_rfl) (St.sb E) ?_
  have hSw := St.sb E
  generalize hA : Act.mk _ _ = a
  have ha : Fr 117 a [(2, .pointer (some ⟨w.heap.size, 0, none⟩)), (5, .pointer (some ⟨w3.heap.size, 0, none⟩)), (7, .pointer (some ⟨w5.heap.size, 0, none⟩)), (9, .pointer (some ⟨w7.heap.size, 0, none⟩)), (1, .string s), (6, .int .i64 0), (8, .int .i64 0), (10, .int .i64 0)] := by rw [← hA]; exact ⟨rfl, rfl, by intro q hq; simp at hq; rcases hq with rfl | rfl | rfl | rfl | rfl | rfl | rfl | rfl <;> rfl⟩
  clear hA
  refine line_still bkAR 0 0 [] 41 (.int .i64 0) [(2, .pointer (some ⟨w.heap.size, 0, none⟩)), (5, .pointer (some ⟨w3.heap.size, 0, none⟩)), (7, .pointer (some ⟨w5.heap.size, 0, none⟩)), (9, .pointer (some ⟨w7.heap.size, 0, none⟩)), (1, .string s), (8, .int .i64 0), (10, .int .i64 0)] rfl (by decide) (by decide) (by decide) ha (fun o ho hg => y_of (wanted_none hg) (fun wx hS => e_move (.inl ho) (ha.ev (i := 6) (v := .int .i64 0) (by simp)))) (by simp) hSw ?_; intro a ha
  refine line_still bkAR 1 1 [] 42 (.bool false) [(2, .pointer (some ⟨w.heap.size, 0, none⟩)), (5, .pointer (some ⟨w3.heap.size, 0, none⟩)), (7, .pointer (some ⟨w5.heap.size, 0, none⟩)), (9, .pointer (some ⟨w7.heap.size, 0, none⟩)), (1, .string s), (8, .int .i64 0), (10, .int .i64 0)] rfl (by decide) (by decide) (by decide) ha (fun o ho hg => y_of (wanted_none hg) (fun wx hS => e_neq ho (ha.ev (i := 41) (v := .int .i64 0) (by simp)) rfl)) (by simp) hSw ?_; intro a ha
  refine line_still bkAR 2 2 [] 43 (.bool false) [(2, .pointer (some ⟨w.heap.size, 0, none⟩)), (5, .pointer (some ⟨w3.heap.size, 0, none⟩)), (7, .pointer (some ⟨w5.heap.size, 0, none⟩)), (9, .pointer (some ⟨w7.heap.size, 0, none⟩)), (1, .string s), (8, .int .i64 0), (10, .int .i64 0)] rfl (by decide) (by decide) (by decide) ha (fun o ho hg => y_of (wanted_none hg) (fun wx hS => e_move (.inl ho) (ha.ev (i := 42) (v := .bool false) (by simp)))) (by simp) hSw ?_; intro a ha
  refine line_still bkAR 3 3 [] 44 (.int .i64 0) [(43, .bool false), (2, .pointer (some ⟨w.heap.size, 0, none⟩)), (5, .pointer (some ⟨w3.heap.size, 0, none⟩)), (7, .pointer (some ⟨w5.heap.size, 0, none⟩)), (9, .pointer (some ⟨w7.heap.size, 0, none⟩)), (1, .string s), (10, .int .i64 0)] rfl (by decide) (by decide) (by decide) ha (fun o ho hg => y_of (bkAR.wanted hg rfl ha (d := 43) (by simp)) (fun wx hS => e_move (.inl ho) (ha.ev (i := 8) (v := .int .i64 0) (by simp)))) (by simp) hSw ?_; intro a ha
  refine line_still bkAR 4 4 [] 45 (.bool false) [(43, .bool false), (2, .pointer (some ⟨w.heap.size, 0, none⟩)), (5, .pointer (some ⟨w3.heap.size, 0, none⟩)), (7, .pointer (some ⟨w5.heap.size, 0, none⟩)), (9, .pointer (some ⟨w7.heap.size, 0, none⟩)), (1, .string s), (10, .int .i64 0)] rfl (by decide) (by decide) (by decide) ha (fun o ho hg => y_of (bkAR.wanted hg rfl ha (d := 43) (by simp)) (fun wx hS => e_neq ho (ha.ev (i := 44) (v := .int .i64 0) (by simp)) rfl)) (by simp) hSw ?_; intro a ha
  refine line_still bkAR 5 5 [] 46 (.bool false) [(2, .pointer (some ⟨w.heap.size, 0, none⟩)), (5, .pointer (some ⟨w3.heap.size, 0, none⟩)), (7, .pointer (some ⟨w5.heap.size, 0, none⟩)), (9, .pointer (some ⟨w7.heap.size, 0, none⟩)), (1, .string s), (10, .int .i64 0)] rfl (by decide) (by decide) (by decide) ha (fun o ho hg => y_of (wanted_none hg) (fun wx hS => e_pick ho (ha.ev (i := 43) (v := .bool false) (by simp)) rfl (ha.ev (i := 45) (v := .bool false) (by simp)))) (by simp) hSw ?_; intro a ha
  refine line_still bkAR 6 6 [] 47 (.bool false) [(2, .pointer (some ⟨w.heap.size, 0, none⟩)), (5, .pointer (some ⟨w3.heap.size, 0, none⟩)), (7, .pointer (some ⟨w5.heap.size, 0, none⟩)), (9, .pointer (some ⟨w7.heap.size, 0, none⟩)), (1, .string s), (10, .int .i64 0)] rfl (by decide) (by decide) (by decide) ha (fun o ho hg => y_of (wanted_none hg) (fun wx hS => e_move (.inl ho) (ha.ev (i := 46) (v := .bool false) (by simp)))) (by simp) hSw ?_; intro a ha
  refine line_still bkAR 7 7 [] 48 (.int .i64 0) [(47, .bool false), (2, .pointer (some ⟨w.heap.size, 0, none⟩)), (5, .pointer (some ⟨w3.heap.size, 0, none⟩)), (7, .pointer (some ⟨w5.heap.size, 0, none⟩)), (9, .pointer (some ⟨w7.heap.size, 0, none⟩)), (1, .string s)] rfl (by decide) (by decide) (by decide) ha (fun o ho hg => y_of (bkAR.wanted hg rfl ha (d := 47) (by simp)) (fun wx hS => e_move (.inl ho) (ha.ev (i := 10) (v := .int .i64 0) (by simp)))) (by simp) hSw ?_; intro a ha
  refine line_still bkAR 8 8 [] 49 (.bool false) [(47, .bool false), (2, .pointer (some ⟨w.heap.size, 0, none⟩)), (5, .pointer (some ⟨w3.heap.size, 0, none⟩)), (7, .pointer (some ⟨w5.heap.size, 0, none⟩)), (9, .pointer (some ⟨w7.heap.size, 0, none⟩)), (1, .string s)] rfl (by decide) (by decide) (by decide) ha (fun o ho hg => y_of (bkAR.wanted hg rfl ha (d := 47) (by simp)) (fun wx hS => e_neq ho (ha.ev (i := 48) (v := .int .i64 0) (by simp)) rfl)) (by simp) hSw ?_; intro a ha
  refine line_still bkAR 9 9 [] 50 (.bool false) [(2, .pointer (some ⟨w.heap.size, 0, none⟩)), (5, .pointer (some ⟨w3.heap.size, 0, none⟩)), (7, .pointer (some ⟨w5.heap.size, 0, none⟩)), (9, .pointer (some ⟨w7.heap.size, 0, none⟩)), (1, .string s)] rfl (by decide) (by decide) (by decide) ha (fun o ho hg => y_of (wanted_none hg) (fun wx hS => e_pick ho (ha.ev (i := 47) (v := .bool false) (by simp)) rfl (ha.ev (i := 49) (v := .bool false) (by simp)))) (by simp) hSw ?_; intro a ha
  refine line_still bkAR 10 10 [] 51 (.bool false) [(2, .pointer (some ⟨w.heap.size, 0, none⟩)), (5, .pointer (some ⟨w3.heap.size, 0, none⟩)), (7, .pointer (some ⟨w5.heap.size, 0, none⟩)), (9, .pointer (some ⟨w7.heap.size, 0, none⟩)), (1, .string s)] rfl (by decide) (by decide) (by decide) ha (fun o ho hg => y_of (wanted_none hg) (fun wx hS => e_move (.inl ho) (ha.ev (i := 50) (v := .bool false) (by simp)))) (by simp) hSw ?_; intro a ha
  refine line_still bkAR 11 11 [] 52 (.agg #[(.bool (ngB i)), (.slice A3 n3 c3), (.int .i64 (s0 : Int))]) [(51, .bool false), (2, .pointer (some ⟨w.heap.size, 0, none⟩)), (7, .pointer (some ⟨w5.heap.size, 0, none⟩)), (9, .pointer (some ⟨w7.heap.size, 0, none⟩)), (1, .string s)] rfl (by decide) (by decide) (by decide) ha (fun o ho hg => y_of (bkAR.wanted hg rfl ha (d := 51) (by simp)) (fun wx hS => e_load ho (ha.ev (i := 5) (v := .pointer (some ⟨w3.heap.size, 0, none⟩)) (by simp)) (hS.at_ (g := w3.heap.size) (x0 := (.bool (ngB i))) (x1 := (.slice A3 n3 c3)) (x2 := (.int .i64 (s0 : Int))) (by simp)))) (by simp) hSw ?_; intro a ha
  refine line_still bkAR 12 12 [] 53 (.agg #[(.bool (ngB i)), (.slice Aa na ca), (.int .i64 (s0 : Int))]) [(52, .agg #[(.bool (ngB i)), (.slice A3 n3 c3), (.int .i64 (s0 : Int))]), (51, .bool false), (2, .pointer (some ⟨w.heap.size, 0, none⟩)), (7, .pointer (some ⟨w5.heap.size, 0, none⟩)), (9, .pointer (some ⟨w7.heap.size, 0, none⟩)), (1, .string s)] rfl (by decide) (by decide) (by decide) ha (fun o ho hg => y_of (bkAR.wanted hg rfl ha (d := 51) (by simp)) (fun wx hS => e_load ho (ha.ev (i := 2) (v := .pointer (some ⟨w.heap.size, 0, none⟩)) (by simp)) (hS.at_ (g := w.heap.size) (x0 := (.bool (ngB i))) (x1 := (.slice Aa na ca)) (x2 := (.int .i64 (s0 : Int))) (by simp)))) (by simp) hSw ?_; intro a ha
  refine line_call bkAR 13 13 [] 54 (args := #[.agg #[(.bool (ngB i)), (.slice A3 n3 c3), (.int .i64 (s0 : Int))], .agg #[(.bool (ngB i)), (.slice Aa na ca), (.int .i64 (s0 : Int))]]) [(51, .bool false), (2, .pointer (some ⟨w.heap.size, 0, none⟩)), (7, .pointer (some ⟨w5.heap.size, 0, none⟩)), (9, .pointer (some ⟨w7.heap.size, 0, none⟩)), (1, .string s)] rfl (by decide) (by decide) (by decide) ha (fun o ho hg => ⟨(bkAR.wanted hg rfl ha (d := 51) (by simp)), e_call (by kernel_rfl) ho rfl (by have q0 := ha.ev (i := 52) (v := .agg #[(.bool (ngB i)), (.slice A3 n3 c3), (.int .i64 (s0 : Int))]) (by simp); have q1 := ha.ev (i := 53) (v := .agg #[(.bool (ngB i)), (.slice Aa na ca), (.int .i64 (s0 : Int))]) (by simp); simp only [List.map_toArray, List.map_cons, List.map_nil, ev_const, q0, q1])⟩) (by simp) ?_
  refine (alike_is5 (i := i) (j := i) (s := s0) (t := s0) (St.got E (A := A3) (n := n3) (c := c3) (a := (i).natAbs) (by simp)) (St.got E (A := Aa) (n := na) (c := ca) (a := (i).natAbs) (by simp)) FA.out).mono ?_; rintro e w8 ⟨rfl, hb⟩
  replace E := Lib.hid (St.step E.out hb)
  clear hb
  have hSw := St.sb E; refine ⟨_, rfl, hSw, ?_⟩; intro a ha
  refine line_still bkAR 14 14 [] 55 (.bool false) [(51, .bool false), (2, .pointer (some ⟨w.heap.size, 0, none⟩)), (7, .pointer (some ⟨w5.heap.size, 0, none⟩)), (9, .pointer (some ⟨w7.heap.size, 0, none⟩)), (1, .string s)] rfl (by decide) (by decide) (by decide) ha (fun o ho hg => y_of (bkAR.wanted hg rfl ha (d := 51) (by simp)) (fun wx hS => e_not ho (ha.ev (i := 54) (v := .bool true) (by simp)))) (by simp) hSw ?_; intro a ha
  refine line_still bkAR 15 15 [] 56 (.bool false) [(2, .pointer (some ⟨w.heap.size, 0, none⟩)), (7, .pointer (some ⟨w5.heap.size, 0, none⟩)), (9, .pointer (some ⟨w7.heap.size, 0, none⟩)), (1, .string s)] rfl (by decide) (by decide) (by decide) ha (fun o ho hg => y_of (wanted_none hg) (fun wx hS => e_pick ho (ha.ev (i := 51) (v := .bool false) (by simp)) rfl (ha.ev (i := 55) (v := .bool false) (by simp)))) (by simp) hSw ?_; intro a ha
  refine line_still bkAR 16 16 [] 57 (.bool false) [(2, .pointer (some ⟨w.heap.size, 0, none⟩)), (7, .pointer (some ⟨w5.heap.size, 0, none⟩)), (9, .pointer (some ⟨w7.heap.size, 0, none⟩)), (1, .string s)] rfl (by decide) (by decide) (by decide) ha (fun o ho hg => y_of (wanted_none hg) (fun wx hS => e_move (.inl ho) (ha.ev (i := 56) (v := .bool false) (by simp)))) (by simp) hSw ?_; intro a ha
  refine line_still bkAR 17 17 [] 58 (.agg #[(.bool (ngB i)), (.slice A5 n5 c5), (.int .i64 (s0 : Int))]) [(57, .bool false), (2, .pointer (some ⟨w.heap.size, 0, none⟩)), (9, .pointer (some ⟨w7.heap.size, 0, none⟩)), (1, .string s)] rfl (by decide) (by decide) (by decide) ha (fun o ho hg => y_of (bkAR.wanted hg rfl ha (d := 57) (by simp)) (fun wx hS => e_load ho (ha.ev (i := 7) (v := .pointer (some ⟨w5.heap.size, 0, none⟩)) (by simp)) (hS.at_ (g := w5.heap.size) (x0 := (.bool (ngB i))) (x1 := (.slice A5 n5 c5)) (x2 := (.int .i64 (s0 : Int))) (by simp)))) (by simp) hSw ?_; intro a ha
  refine line_still bkAR 18 18 [] 59 (.agg #[(.bool (ngB i)), (.slice Aa na ca), (.int .i64 (s0 : Int))]) [(58, .agg #[(.bool (ngB i)), (.slice A5 n5 c5), (.int .i64 (s0 : Int))]), (57, .bool false), (2, .pointer (some ⟨w.heap.size, 0, none⟩)), (9, .pointer (some ⟨w7.heap.size, 0, none⟩)), (1, .string s)] rfl (by decide) (by decide) (by decide) ha (fun o ho hg => y_of (bkAR.wanted hg rfl ha (d := 57) (by simp)) (fun wx hS => e_load ho (ha.ev (i := 2) (v := .pointer (some ⟨w.heap.size, 0, none⟩)) (by simp)) (hS.at_ (g := w.heap.size) (x0 := (.bool (ngB i))) (x1 := (.slice Aa na ca)) (x2 := (.int .i64 (s0 : Int))) (by simp)))) (by simp) hSw ?_; intro a ha
  refine line_call bkAR 19 19 [] 60 (args := #[.agg #[(.bool (ngB i)), (.slice A5 n5 c5), (.int .i64 (s0 : Int))], .agg #[(.bool (ngB i)), (.slice Aa na ca), (.int .i64 (s0 : Int))]]) [(57, .bool false), (2, .pointer (some ⟨w.heap.size, 0, none⟩)), (9, .pointer (some ⟨w7.heap.size, 0, none⟩)), (1, .string s)] rfl (by decide) (by decide) (by decide) ha (fun o ho hg => ⟨(bkAR.wanted hg rfl ha (d := 57) (by simp)), e_call (by kernel_rfl) ho rfl (by have q0 := ha.ev (i := 58) (v := .agg #[(.bool (ngB i)), (.slice A5 n5 c5), (.int .i64 (s0 : Int))]) (by simp); have q1 := ha.ev (i := 59) (v := .agg #[(.bool (ngB i)), (.slice Aa na ca), (.int .i64 (s0 : Int))]) (by simp); simp only [List.map_toArray, List.map_cons, List.map_nil, ev_const, q0, q1])⟩) (by simp) ?_
  refine (alike_is5 (i := i) (j := i) (s := s0) (t := s0) (St.got E (A := A5) (n := n5) (c := c5) (a := (i).natAbs) (by simp)) (St.got E (A := Aa) (n := na) (c := ca) (a := (i).natAbs) (by simp)) FA.out).mono ?_; rintro e w9 ⟨rfl, hb⟩
  replace E := Lib.hid (St.step E.out hb)
  clear hb
  have hSw := St.sb E; refine ⟨_, rfl, hSw, ?_⟩; intro a ha
  refine line_still bkAR 20 20 [] 61 (.bool false) [(57, .bool false), (2, .pointer (some ⟨w.heap.size, 0, none⟩)), (9, .pointer (some ⟨w7.heap.size, 0, none⟩)), (1, .string s)] rfl (by decide) (by decide) (by decide) ha (fun o ho hg => y_of (bkAR.wanted hg rfl ha (d := 57) (by simp)) (fun wx hS => e_not ho (ha.ev (i := 60) (v := .bool true) (by simp)))) (by simp) hSw ?_; intro a ha
  refine line_still bkAR 21 21 [] 62 (.bool false) [(2, .pointer (some ⟨w.heap.size, 0, none⟩)), (9, .pointer (some ⟨w7.heap.size, 0, none⟩)), (1, .string s)] rfl (by decide) (by decide) (by decide) ha (fun o ho hg => y_of (wanted_none hg) (fun wx hS => e_pick ho (ha.ev (i := 57) (v := .bool false) (by simp)) rfl (ha.ev (i := 61) (v := .bool false) (by simp)))) (by simp) hSw ?_; intro a ha
  refine line_still bkAR 22 22 [] 63 (.bool false) [(2, .pointer (some ⟨w.heap.size, 0, none⟩)), (9, .pointer (some ⟨w7.heap.size, 0, none⟩)), (1, .string s)] rfl (by decide) (by decide) (by decide) ha (fun o ho hg => y_of (wanted_none hg) (fun wx hS => e_move (.inl ho) (ha.ev (i := 62) (v := .bool false) (by simp)))) (by simp) hSw ?_; intro a ha
  refine line_still bkAR 23 23 [] 64 (.agg #[(.bool (ngB q)), (.slice A7 n7 c7), (.int .i64 (k : Int))]) [(63, .bool false), (2, .pointer (some ⟨w.heap.size, 0, none⟩)), (1, .string s)] rfl (by decide) (by decide) (by decide) ha (fun o ho hg => y_of (bkAR.wanted hg rfl ha (d := 63) (by simp)) (fun wx hS => e_load ho (ha.ev (i := 9) (v := .pointer (some ⟨w7.heap.size, 0, none⟩)) (by simp)) (hS.at_ (g := w7.heap.size) (x0 := (.bool (ngB q))) (x1 := (.slice A7 n7 c7)) (x2 := (.int .i64 (k : Int))) (by simp)))) (by simp) hSw ?_; intro a ha
  refine line_still bkAR 24 24 [] 65 (.agg #[(.bool (ngB i)), (.slice Aa na ca), (.int .i64 (s0 : Int))]) [(64, .agg #[(.bool (ngB q)), (.slice A7 n7 c7), (.int .i64 (k : Int))]), (63, .bool false), (2, .pointer (some ⟨w.heap.size, 0, none⟩)), (1, .string s)] rfl (by decide) (by decide) (by decide) ha (fun o ho hg => y_of (bkAR.wanted hg rfl ha (d := 63) (by simp)) (fun wx hS => e_load ho (ha.ev (i := 2) (v := .pointer (some ⟨w.heap.size, 0, none⟩)) (by simp)) (hS.at_ (g := w.heap.size) (x0 := (.bool (ngB i))) (x1 := (.slice Aa na ca)) (x2 := (.int .i64 (s0 : Int))) (by simp)))) (by simp) hSw ?_; intro a ha
  refine line_call bkAR 25 25 [] 66 (args := #[.agg #[(.bool (ngB q)), (.slice A7 n7 c7), (.int .i64 (k : Int))], .agg #[(.bool (ngB i)), (.slice Aa na ca), (.int .i64 (s0 : Int))]]) [(63, .bool false), (2, .pointer (some ⟨w.heap.size, 0, none⟩)), (1, .string s)] rfl (by decide) (by decide) (by decide) ha (fun o ho hg => ⟨(bkAR.wanted hg rfl ha (d := 63) (by simp)), e_call (by kernel_rfl) ho rfl (by have q0 := ha.ev (i := 64) (v := .agg #[(.bool (ngB q)), (.slice A7 n7 c7), (.int .i64 (k : Int))]) (by simp); have q1 := ha.ev (i := 65) (v := .agg #[(.bool (ngB i)), (.slice Aa na ca), (.int .i64 (s0 : Int))]) (by simp); simp only [List.map_toArray, List.map_cons, List.map_nil, ev_const, q0, q1])⟩) (by simp) ?_
  refine (same_is5 (i := q) (s := k) (j := i) (t := s0) (St.got E (A := A7) (n := n7) (c := c7) (a := (q).natAbs) (by simp)) (St.got E (A := Aa) (n := na) (c := ca) (a := (i).natAbs) (by simp)) (by omega) (by omega) (by omega) (by omega) FSQ.out).mono ?_; rintro e w10 ⟨rfl, hb⟩
  replace E := Lib.hid (St.step E.out hb)
  clear hb
  have hSw := St.sb E; refine ⟨_, rfl, hSw, ?_⟩; intro a ha
  refine line_still bkAR 26 26 [] 67 (.bool false) [(63, .bool false), (2, .pointer (some ⟨w.heap.size, 0, none⟩)), (1, .string s)] rfl (by decide) (by decide) (by decide) ha (fun o ho hg => y_of (bkAR.wanted hg rfl ha (d := 63) (by simp)) (fun wx hS => e_not ho (ha.ev (i := 66) (v := .bool true) (by simp)))) (by simp) hSw ?_; intro a ha
  refine line_still bkAR 27 27 [] 68 (.bool false) [(2, .pointer (some ⟨w.heap.size, 0, none⟩)), (1, .string s)] rfl (by decide) (by decide) (by decide) ha (fun o ho hg => y_of (wanted_none hg) (fun wx hS => e_pick ho (ha.ev (i := 63) (v := .bool false) (by simp)) rfl (ha.ev (i := 67) (v := .bool false) (by simp)))) (by simp) hSw ?_; intro a ha
  refine line_still bkAR 28 28 [] 69 (.bool false) [(2, .pointer (some ⟨w.heap.size, 0, none⟩)), (1, .string s)] rfl (by decide) (by decide) (by decide) ha (fun o ho hg => y_of (wanted_none hg) (fun wx hS => e_move (.inl ho) (ha.ev (i := 68) (v := .bool false) (by simp)))) (by simp) hSw ?_; intro a ha
  refine line_still bkAR 29 29 [] 70 (.agg #[(.bool (ngB i)), (.slice Aa na ca), (.int .i64 (s0 : Int))]) [(69, .bool false), (2, .pointer (some ⟨w.heap.size, 0, none⟩)), (1, .string s)] rfl (by decide) (by decide) (by decide) ha (fun o ho hg => y_of (bkAR.wanted hg rfl ha (d := 69) (by simp)) (fun wx hS => e_load ho (ha.ev (i := 2) (v := .pointer (some ⟨w.heap.size, 0, none⟩)) (by simp)) (hS.at_ (g := w.heap.size) (x0 := (.bool (ngB i))) (x1 := (.slice Aa na ca)) (x2 := (.int .i64 (s0 : Int))) (by simp)))) (by simp) hSw ?_; intro a ha
  refine line_ahead bkAR 30 30 [] 32 73 (.pointer (some ⟨w.heap.size, 2, none⟩)) [(70, .agg #[(.bool (ngB i)), (.slice Aa na ca), (.int .i64 (s0 : Int))]), (69, .bool false), (2, .pointer (some ⟨w.heap.size, 0, none⟩)), (1, .string s)] rfl (by decide) (by decide) (by decide) ha (fun o ho hg => y_of (bkAR.wanted hg rfl ha (d := 69) (by simp)) (fun wx hS => e_field 2 (by simp) ho (ha.ev (i := 2) (v := .pointer (some ⟨w.heap.size, 0, none⟩)) (by simp)))) (by simp) hSw ?_; intro a ha
  refine line_ahead bkAR 31 30 [32] 33 74 ((.int .i64 (s0 : Int))) [(70, .agg #[(.bool (ngB i)), (.slice Aa na ca), (.int .i64 (s0 : Int))]), (69, .bool false), (2, .pointer (some ⟨w.heap.size, 0, none⟩)), (1, .string s)] rfl (by decide) (by decide) (by decide) ha (fun o ho hg => y_of (bkAR.wanted hg rfl ha (d := 69) (by simp)) (fun wx hS => e_cell (by simp) ho (ha.ev (i := 73) (v := .pointer (some ⟨w.heap.size, 2, none⟩)) (by simp)) (hS.at_ (g := w.heap.size) (x0 := (.bool (ngB i))) (x1 := (.slice Aa na ca)) (x2 := (.int .i64 (s0 : Int))) (by simp)).c2)) (by simp) hSw ?_; intro a ha
  refine line_call bkAR 32 30 [33, 32] 71 (args := #[.agg #[(.bool (ngB i)), (.slice Aa na ca), (.int .i64 (s0 : Int))]]) [(74, (.int .i64 (s0 : Int))), (69, .bool false), (2, .pointer (some ⟨w.heap.size, 0, none⟩)), (1, .string s)] rfl (by decide) (by decide) (by decide) ha (fun o ho hg => ⟨(bkAR.wanted hg rfl ha (d := 69) (by simp)), e_call (by kernel_rfl) ho rfl (by have q0 := ha.ev (i := 70) (v := .agg #[(.bool (ngB i)), (.slice Aa na ca), (.int .i64 (s0 : Int))]) (by simp); simp only [List.map_toArray, List.map_cons, List.map_nil, ev_const, q0])⟩) (by simp) ?_
  refine (dtext_is (i := i) (t := s0) (St.got E (A := Aa) (n := na) (c := ca) (a := (i).natAbs) (by simp)) (by omega) (by omega) G1.out.symm).mono ?_; rintro e w11 ⟨rfl, hb⟩
  replace E := Lib.hid (St.step E.out hb)
  clear hb
  have hSw := St.sb E; refine ⟨_, rfl, hSw, ?_⟩; intro a ha
  refine line_call bkAR 33 31 [33, 32] 72 (args := #[.string S1]) [(74, (.int .i64 (s0 : Int))), (69, .bool false), (2, .pointer (some ⟨w.heap.size, 0, none⟩)), (1, .string s)] rfl (by decide) (by decide) (by decide) ha (fun o ho hg => ⟨(bkAR.wanted hg rfl ha (d := 69) (by simp)), e_call (by kernel_rfl) ho rfl (by have q0 := ha.ev (i := 71) (v := .string S1) (by simp); simp only [List.map_toArray, List.map_cons, List.map_nil, ev_const, q0])⟩) (by simp) ?_
  refine (scale_is (s := S1) (k := s0) (Nat.le_trans Z1.out (by decide)) (HM.out.on E.out.bel) FB.out).mono ?_; rintro e w12 ⟨rfl, hb⟩
  replace E := Lib.hid (St.step E.out hb)
  clear hb
  have hSw := St.sb E; refine ⟨_, rfl, hSw, ?_⟩; intro a ha
  refine line_skip [33] (by intro i; simp <;> omega) ?_
  refine line_skip [] (by intro i; simp <;> omega) ?_
  refine line_still bkAR 34 34 [] 75 (.bool false) [(69, .bool false), (2, .pointer (some ⟨w.heap.size, 0, none⟩)), (1, .string s)] rfl (by decide) (by decide) (by decide) ha (fun o ho hg => y_of (bkAR.wanted hg rfl ha (d := 69) (by simp)) (fun wx hS => (e_neq ho (ha.ev (i := 72) (v := .int .i64 (s0 : Int)) (by simp)) (ha.ev (i := 74) (v := (.int .i64 (s0 : Int))) (by simp))).trans (by rw [D0.out]))) (by simp) hSw ?_; intro a ha
  refine line_still bkAR 35 35 [] 76 (.bool false) [(2, .pointer (some ⟨w.heap.size, 0, none⟩)), (1, .string s)] rfl (by decide) (by decide) (by decide) ha (fun o ho hg => y_of (wanted_none hg) (fun wx hS => e_pick ho (ha.ev (i := 69) (v := .bool false) (by simp)) rfl (ha.ev (i := 75) (v := .bool false) (by simp)))) (by simp) hSw ?_; intro a ha
  refine line_end bkAR rfl ?_
  simp only [Exit.then]
  refine hK _ _ ?_
  refine wp_cond_false (ha.ev (by simp)) ?_
  refine wp_skip ?_
  simp only [Exit.then]
  refine hK0 _ _ ?_
  clear hK hK0 K K0
  replace E : Hid (St w w12 [(Aa, na, ca, (i).natAbs)] [(w.heap.size, (.bool (ngB i)), (.slice Aa na ca), (.int .i64 (s0 : Int)))]) := Lib.hid (E.out.sub (by simp) (by simp))
  obtain ⟨us, rfl, hu⟩ := ha.list
  have eu1 : us 1 = .string s := hu (1, .string s) (by simp)
  have eu2 : us 2 = .pointer (some ⟨w.heap.size, 0, none⟩) := hu (2, .pointer (some ⟨w.heap.size, 0, none⟩)) (by simp)
  rw [show (List.range 117).map us = [us 0, us 1, us 2, us 3, us 4, us 5, us 6, us 7, us 8, us 9, us 10, us 11, us 12, us 13, us 14, us 15, us 16, us 17, us 18, us 19, us 20, us 21, us 22, us 23, us 24, us 25, us 26, us 27, us 28, us 29, us 30, us 31, us 32, us 33, us 34, us 35, us 36, us 37, us 38, us 39, us 40, us 41, us 42, us 43, us 44, us 45, us 46, us 47, us 48, us 49, us 50, us 51, us 52, us 53, us 54, us 55, us 56, us 57, us 58, us 59, us 60, us 61, us 62, us 63, us 64, us 65, us 66, us 67, us 68, us 69, us 70, us 71, us 72, us 73, us 74, us 75, us 76, us 77, us 78, us 79, us 80, us 81, us 82, us 83, us 84, us 85, us 86, us 87, us 88, us 89, us 90, us 91, us 92, us 93, us 94, us 95, us 96, us 97, us 98, us 99, us 100, us 101, us 102, us 103, us 104, us 105, us 106, us 107, us 108, us 109, us 110, us 111, us 112, us 113, us 114, us 115, us 116] from rfl, eu1, eu2]
  clear hu ha eu1 eu2
  go_wp2_with fail
  refine (any_read (by omega) (HM.out.on E.out.bel) HZI.out HZK.out).mono ?_; rintro e V (⟨rfl, hb⟩ | ⟨rfl, hb⟩ | ⟨⟨f1, f2, f3, f4⟩, Az, nz, cz, rfl, h, hb⟩)
  ·
    replace E := Lib.hid ((St.step E.out hb).alloc (.cells #[.bool false, .slice none 0 0, .int .i64 0] 25))
    clear hb
    go_wp2_with fail
    refine (alike_zero _).mono ?_; rintro e V1 ⟨rfl, hb⟩; replace E := Lib.hid (St.step E.out hb); clear hb
    go_wp2_with fail
    refine (awake7 _ (HM.out.on E.out.bel)).mono ?_; rintro e V2 ⟨rfl, hb⟩; replace E := Lib.hid (St.step E.out hb); clear hb
    go_wp2_with fail
    go_ret
    exact ⟨rfl, E.out.bel⟩
  ·
    replace E := Lib.hid ((St.step E.out hb).alloc (.cells #[.bool false, .slice none 0 0, .int .i64 0] 25))
    clear hb
    go_wp2_with fail
    refine (alike_zero _).mono ?_; rintro e V1 ⟨rfl, hb⟩; replace E := Lib.hid (St.step E.out hb); clear hb
    go_wp2_with fail
    refine (awake7 _ (HM.out.on E.out.bel)).mono ?_; rintro e V2 ⟨rfl, hb⟩; replace E := Lib.hid (St.step E.out hb); clear hb
    go_wp2_with fail
    go_ret
    exact ⟨rfl, E.out.bel⟩
  ·
    have LZ := Lib.hid f2
    have bz : nz ≤ 200 := len_le h LZ.out
    have FK := Lib.hid f4
    obtain ⟨S4, hS4⟩ : ∃ S, S = str (txtD zi zk) := ⟨_, rfl⟩
    have Z4 : Hid (S4.size ≤ 1000) := (by show _ ≤ _; rw [hS4]; exact (told_size7 f1 (by omega) (by omega)).1)
    have G4 := Lib.hid hS4
    clear f1 f2 f4 hS4
    have FAZ : Hid (alikeB zi zk zi zk = true) := alike_yes rfl rfl
    have D1 : Hid (((zk : Int) == (zk : Int)) = true) := (by show _ = _; simp)
    replace E := Lib.hid (St.push E.out hb h); clear h hb
    go_wp2_with fail
    replace E := Lib.hid (St.lay (t := 25) (x0 := (.bool (ngB zi))) (x1 := (.slice Az nz cz)) (x2 := (.int .i64 (zk : Int))) (g := V.heap.size) E.out rfl)
    generalize hW2 : World.alloc V _ = V1 at E ⊢
    clear hW2
    refine (dtext_is (i := zi) (t := zk) (St.got E (A := Az) (n := nz) (c := cz) (a := (zi).natAbs) (by simp)) (by omega) (by omega) G4.out.symm).mono ?_; rintro e w13 ⟨rfl, hb⟩
    replace E := Lib.hid (St.step E.out hb)
    clear hb
    go_wp2_with fail
    refine (read_told (i := zi) (k := zk) Z4.out (HM.out.on E.out.bel) (.inl G4.out)).mono ?_; rintro e w14 ⟨A14, n14, c14, rfl, h, hb⟩
    have b14 : n14 ≤ 200 := len_le h LZ.out
    replace E := Lib.hid (St.push E.out hb h)
    clear h hb
    go_wp2_with fail
    replace E := Lib.hid (St.lay (t := 25) (x0 := (.bool (ngB zi))) (x1 := (.slice A14 n14 c14)) (x2 := (.int .i64 (zk : Int))) (g := w14.heap.size) E.out rfl)
    generalize hW2 : World.alloc w14 _ = V2 at E ⊢
    clear hW2
    replace E := Lib.hid (St.drew E.out)
    rename_i K hK
    refine line_start (ops := opsAt Tryd.prog 3 12) (S := SB [(w14.heap.size, (.bool (ngB zi)), (.slice A14 n14 c14), (.int .i64 (zk : Int))), (V.heap.size, (.bool (ngB zi)), (.slice Az nz cz), (.int .i64 (zk : Int))), (w.heap.size, (.bool (ngB i)), (.slice Aa na ca), (.int .i64 (s0 : Int)))]) (by kernel_rfl) (by kernel_rfl) (St.sb E) ?_
    have hSw := St.sb E
    generalize hA : Act.mk _ _ = a
    have ha : Fr 117 a [(11, .pointer (some ⟨V.heap.size, 0, none⟩)), (13, .pointer (some ⟨w14.heap.size, 0, none⟩)), (1, .string s), (14, .int .i64 0)] := by rw [← hA]; exact ⟨rfl, rfl, by intro q hq; simp at hq; rcases hq with rfl | rfl | rfl | rfl <;> rfl⟩
    clear hA
    refine line_still bkBR 0 0 [] 96 (.int .i64 0) [(11, .pointer (some ⟨V.heap.size, 0, none⟩)), (13, .pointer (some ⟨w14.heap.size, 0, none⟩)), (1, .string s)] rfl (by decide) (by decide) (by decide) ha (fun o ho hg => y_of (wanted_none hg) (fun wx hS => e_move (.inl ho) (ha.ev (i := 14) (v := .int .i64 0) (by simp)))) (by simp) hSw ?_; intro a ha
    refine line_still bkBR 1 1 [] 97 (.bool true) [(11, .pointer (some ⟨V.heap.size, 0, none⟩)), (13, .pointer (some ⟨w14.heap.size, 0, none⟩)), (1, .string s)] rfl (by decide) (by decide) (by decide) ha (fun o ho hg => y_of (wanted_none hg) (fun wx hS => e_eql ho (ha.ev (i := 96) (v := .int .i64 0) (by simp)) rfl)) (by simp) hSw ?_; intro a ha
    refine line_still bkBR 2 2 [] 98 (.bool true) [(11, .pointer (some ⟨V.heap.size, 0, none⟩)), (13, .pointer (some ⟨w14.heap.size, 0, none⟩)), (1, .string s)] rfl (by decide) (by decide) (by decide) ha (fun o ho hg => y_of (wanted_none hg) (fun wx hS => e_move (.inl ho) (ha.ev (i := 97) (v := .bool true) (by simp)))) (by simp) hSw ?_; intro a ha
    refine line_still bkBR 3 3 [] 99 (.agg #[(.bool (ngB zi)), (.slice A14 n14 c14), (.int .i64 (zk : Int))]) [(98, .bool true), (11, .pointer (some ⟨V.heap.size, 0, none⟩)), (1, .string s)] rfl (by decide) (by decide) (by decide) ha (fun o ho hg => y_of (bkBR.wanted hg rfl ha (d := 98) (by simp)) (fun wx hS => e_load ho (ha.ev (i := 13) (v := .pointer (some ⟨w14.heap.size, 0, none⟩)) (by simp)) (hS.at_ (g := w14.heap.size) (x0 := (.bool (ngB zi))) (x1 := (.slice A14 n14 c14)) (x2 := (.int .i64 (zk : Int))) (by simp)))) (by simp) hSw ?_; intro a ha
    refine line_still bkBR 4 4 [] 100 (.agg #[(.bool (ngB zi)), (.slice Az nz cz), (.int .i64 (zk : Int))]) [(99, .agg #[(.bool (ngB zi)), (.slice A14 n14 c14), (.int .i64 (zk : Int))]), (98, .bool true), (11, .pointer (some ⟨V.heap.size, 0, none⟩)), (1, .string s)] rfl (by decide) (by decide) (by decide) ha (fun o ho hg => y_of (bkBR.wanted hg rfl ha (d := 98) (by simp)) (fun wx hS => e_load ho (ha.ev (i := 11) (v := .pointer (some ⟨V.heap.size, 0, none⟩)) (by simp)) (hS.at_ (g := V.heap.size) (x0 := (.bool (ngB zi))) (x1 := (.slice Az nz cz)) (x2 := (.int .i64 (zk : Int))) (by simp)))) (by simp) hSw ?_; intro a ha
    refine line_call bkBR 5 5 [] 101 (args := #[.agg #[(.bool (ngB zi)), (.slice A14 n14 c14), (.int .i64 (zk : Int))], .agg #[(.bool (ngB zi)), (.slice Az nz cz), (.int .i64 (zk : Int))]]) [(98, .bool true), (11, .pointer (some ⟨V.heap.size, 0, none⟩)), (1, .string s)] rfl (by decide) (by decide) (by decide) ha (fun o ho hg => ⟨(bkBR.wanted hg rfl ha (d := 98) (by simp)), e_call (by kernel_rfl) ho rfl (by have q0 := ha.ev (i := 99) (v := .agg #[(.bool (ngB zi)), (.slice A14 n14 c14), (.int .i64 (zk : Int))]) (by simp); have q1 := ha.ev (i := 100) (v := .agg #[(.bool (ngB zi)), (.slice Az nz cz), (.int .i64 (zk : Int))]) (by simp); simp only [List.map_toArray, List.map_cons, List.map_nil, ev_const, q0, q1])⟩) (by simp) ?_
    refine (alike_is5 (i := zi) (j := zi) (s := zk) (t := zk) (St.got E (A := A14) (n := n14) (c := c14) (a := (zi).natAbs) (by simp)) (St.got E (A := Az) (n := nz) (c := cz) (a := (zi).natAbs) (by simp)) FAZ.out).mono ?_; rintro e w15 ⟨rfl, hb⟩
    replace E := Lib.hid (St.step E.out hb)
    clear hb
    have hSw := St.sb E; refine ⟨_, rfl, hSw, ?_⟩; intro a ha
    refine line_still bkBR 6 6 [] 102 (.bool true) [(11, .pointer (some ⟨V.heap.size, 0, none⟩)), (1, .string s)] rfl (by decide) (by decide) (by decide) ha (fun o ho hg => y_of (wanted_none hg) (fun wx hS => e_pick ho (ha.ev (i := 98) (v := .bool true) (by simp)) (ha.ev (i := 101) (v := .bool true) (by simp)) rfl)) (by simp) hSw ?_; intro a ha
    refine line_still bkBR 7 7 [] 103 (.bool true) [(11, .pointer (some ⟨V.heap.size, 0, none⟩)), (1, .string s)] rfl (by decide) (by decide) (by decide) ha (fun o ho hg => y_of (wanted_none hg) (fun wx hS => e_move (.inl ho) (ha.ev (i := 102) (v := .bool true) (by simp)))) (by simp) hSw ?_; intro a ha
    refine line_still bkBR 8 8 [] 104 (.pointer (some ⟨V.heap.size, 2, none⟩)) [(103, .bool true), (11, .pointer (some ⟨V.heap.size, 0, none⟩)), (1, .string s)] rfl (by decide) (by decide) (by decide) ha (fun o ho hg => y_of (bkBR.wanted hg rfl ha (d := 103) (by simp)) (fun wx hS => e_field 2 (by simp) ho (ha.ev (i := 11) (v := .pointer (some ⟨V.heap.size, 0, none⟩)) (by simp)))) (by simp) hSw ?_; intro a ha
    refine line_still bkBR 9 9 [] 105 ((.int .i64 (zk : Int))) [(103, .bool true), (11, .pointer (some ⟨V.heap.size, 0, none⟩)), (1, .string s)] rfl (by decide) (by decide) (by decide) ha (fun o ho hg => y_of (bkBR.wanted hg rfl ha (d := 103) (by simp)) (fun wx hS => e_cell (by simp) ho (ha.ev (i := 104) (v := .pointer (some ⟨V.heap.size, 2, none⟩)) (by simp)) (hS.at_ (g := V.heap.size) (x0 := (.bool (ngB zi))) (x1 := (.slice Az nz cz)) (x2 := (.int .i64 (zk : Int))) (by simp)).c2)) (by simp) hSw ?_; intro a ha
    refine line_still bkBR 10 10 [] 106 (.string s) [(105, (.int .i64 (zk : Int))), (103, .bool true), (11, .pointer (some ⟨V.heap.size, 0, none⟩))] rfl (by decide) (by decide) (by decide) ha (fun o ho hg => y_of (bkBR.wanted hg rfl ha (d := 103) (by simp)) (fun wx hS => e_move (.inl ho) (ha.ev (i := 1) (v := .string s) (by simp)))) (by simp) hSw ?_; intro a ha
    refine line_call bkBR 11 11 [] 107 (args := #[.string s]) [(105, (.int .i64 (zk : Int))), (103, .bool true), (11, .pointer (some ⟨V.heap.size, 0, none⟩))] rfl (by decide) (by decide) (by decide) ha (fun o ho hg => ⟨(bkBR.wanted hg rfl ha (d := 103) (by simp)), e_call (by kernel_rfl) ho rfl (by have q0 := ha.ev (i := 106) (v := .string s) (by simp); simp only [List.map_toArray, List.map_cons, List.map_nil, ev_const, q0])⟩) (by simp) ?_
    refine (scale_is (s := s) (k := zk) (by omega) (HM.out.on E.out.bel) FK.out).mono ?_; rintro e w16 ⟨rfl, hb⟩
    replace E := Lib.hid (St.step E.out hb)
    clear hb
    have hSw := St.sb E; refine ⟨_, rfl, hSw, ?_⟩; intro a ha
    refine line_still bkBR 12 12 [] 108 (.bool true) [(103, .bool true), (11, .pointer (some ⟨V.heap.size, 0, none⟩))] rfl (by decide) (by decide) (by decide) ha (fun o ho hg => y_of (bkBR.wanted hg rfl ha (d := 103) (by simp)) (fun wx hS => (e_eql ho (ha.ev (i := 105) (v := (.int .i64 (zk : Int))) (by simp)) (ha.ev (i := 107) (v := .int .i64 (zk : Int)) (by simp))).trans (by rw [D1.out]))) (by simp) hSw ?_; intro a ha
    refine line_still bkBR 13 13 [] 109 (.bool true) [(11, .pointer (some ⟨V.heap.size, 0, none⟩))] rfl (by decide) (by decide) (by decide) ha (fun o ho hg => y_of (wanted_none hg) (fun wx hS => e_pick ho (ha.ev (i := 103) (v := .bool true) (by simp)) (ha.ev (i := 108) (v := .bool true) (by simp)) rfl)) (by simp) hSw ?_; intro a ha
    refine line_still bkBR 14 14 [] 110 (.bool true) [(11, .pointer (some ⟨V.heap.size, 0, none⟩))] rfl (by decide) (by decide) (by decide) ha (fun o ho hg => y_of (wanted_none hg) (fun wx hS => e_move (.inl ho) (ha.ev (i := 109) (v := .bool true) (by simp)))) (by simp) hSw ?_; intro a ha
    refine line_still bkBR 15 15 [] 111 (.agg #[(.bool (ngB zi)), (.slice Az nz cz), (.int .i64 (zk : Int))]) [(110, .bool true)] rfl (by decide) (by decide) (by decide) ha (fun o ho hg => y_of (bkBR.wanted hg rfl ha (d := 110) (by simp)) (fun wx hS => e_load ho (ha.ev (i := 11) (v := .pointer (some ⟨V.heap.size, 0, none⟩)) (by simp)) (hS.at_ (g := V.heap.size) (x0 := (.bool (ngB zi))) (x1 := (.slice Az nz cz)) (x2 := (.int .i64 (zk : Int))) (by simp)))) (by simp) hSw ?_; intro a ha
    refine line_call bkBR 16 16 [] 112 (args := #[.agg #[(.bool (ngB zi)), (.slice Az nz cz), (.int .i64 (zk : Int))]]) [(110, .bool true)] rfl (by decide) (by decide) (by decide) ha (fun o ho hg => ⟨(bkBR.wanted hg rfl ha (d := 110) (by simp)), e_call (by kernel_rfl) ho rfl (by have q0 := ha.ev (i := 111) (v := .agg #[(.bool (ngB zi)), (.slice Az nz cz), (.int .i64 (zk : Int))]) (by simp); simp only [List.map_toArray, List.map_cons, List.map_nil, ev_const, q0])⟩) (by simp) ?_
    refine (right_is5 (i := zi) (s := zk) (St.got E (A := Az) (n := nz) (c := cz) (a := (zi).natAbs) (by simp))).mono ?_; rintro e w17 ⟨rfl, hb⟩
    replace E := Lib.hid (St.step E.out hb)
    clear hb
    have hSw := St.sb E; refine ⟨_, rfl, hSw, ?_⟩; intro a ha
    refine line_still bkBR 17 17 [] 113 (.bool true) [] rfl (by decide) (by decide) (by decide) ha (fun o ho hg => y_of (wanted_none hg) (fun wx hS => e_pick ho (ha.ev (i := 110) (v := .bool true) (by simp)) (ha.ev (i := 112) (v := .bool true) (by simp)) rfl)) (by simp) hSw ?_; intro a ha
    refine line_still bkBR 18 18 [] 114 (.bool true) [] rfl (by decide) (by decide) (by decide) ha (fun o ho hg => y_of (wanted_none hg) (fun wx hS => e_move (.inl ho) (ha.ev (i := 113) (v := .bool true) (by simp)))) (by simp) hSw ?_; intro a ha
    refine line_call bkBR 19 19 [] 115 (args := #[]) [(114, .bool true)] rfl (by decide) (by decide) (by decide) ha (fun o ho hg => ⟨(bkBR.wanted hg rfl ha (d := 114) (by simp)), e_call (by kernel_rfl) ho rfl (by simp only [List.map_toArray, List.map_cons, List.map_nil, ev_const])⟩) (by simp) ?_
    refine (awake7 _ (HM.out.on E.out.bel)).mono ?_; rintro e w18 ⟨rfl, hb⟩
    replace E := Lib.hid (St.step E.out hb)
    clear hb
    have hSw := St.sb E; refine ⟨_, rfl, hSw, ?_⟩; intro a ha
    refine line_still bkBR 20 20 [] 116 (.bool true) [] rfl (by decide) (by decide) (by decide) ha (fun o ho hg => y_of (wanted_none hg) (fun wx hS => e_pick ho (ha.ev (i := 114) (v := .bool true) (by simp)) (ha.ev (i := 115) (v := .bool true) (by simp)) rfl)) (by simp) hSw ?_; intro a ha
    refine line_still bkBR 21 21 [] 4 (.bool true) [] rfl (by decide) (by decide) (by decide) ha (fun o ho hg => y_of (wanted_none hg) (fun wx hS => e_move (.inr ho) (ha.ev (i := 116) (v := .bool true) (by simp)))) (by simp) hSw ?_; intro a ha
    refine line_end bkBR rfl ?_
    simp only [Exit.then]
    refine hK _ _ ?_
    go_wp2
    exact bodyPost_ret (v := .bool true) (by have := ha.2.2 (4, .bool true) (by simp); simp [results, Tryd.results3, go_sem, Array.getD_eq_getD_getElem?, this]) ha.2.1 ⟨rfl, E.out.bel⟩

theorem back7_law (w : World) (hm : MaxLen w) (b1 : Bool) (A1 : Option Addr) (n1 c1 : Nat) (xs1 : List Nat) (k1 : Int) (h1 : Lim w w.heap.size A1 n1 c1 xs1) (s : ByteArray) (hs : s.size ≤ maxLen) : Calls Tryd.prog 3 #[.agg #[.bool b1, .slice A1 n1 c1, .int .i64 k1], .string s] w (RetVal w (.bool true)) := by
  cases l1 : longB b1 n1 xs1 k1 with
  | true => exact back_long w hm b1 A1 n1 c1 xs1 k1 h1 s l1
  | false =>
    obtain ⟨i, s0, rfl, rfl, rfl, m1, t1⟩ := of_long l1 h1
    rcases Nat.lt_or_ge 200 s.size with h | h
    · exact back_far w hm A1 n1 c1 s0 i h1 m1 t1 s (decide_eq_true (by omega)) hs
    · exact back_main w hm A1 n1 c1 s0 i h1 m1 t1 s h

end Go.Proofs.YtllcjahekckbfaaDoor
