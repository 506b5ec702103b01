/-
 The contract of the document's Allocate, where it allocates.
-/
import Derived.Test.YthlhpgphmfnlgaaGreatRouDh
import Derived.Test.YthlhpgphmfnlgaaGreatAllDecF
import Derived.Test.YthlhpgphmfnlgaaGreatRouS
import Derived.Test.YthlhpgphmfnlgaaGreatAllDecD
set_option maxRecDepth 100000
set_option maxHeartbeats 32000000
set_option linter.unusedVariables false
set_option linter.unusedSimpArgs false
namespace Go.Proofs.YthlhpgphmfnlgaaGreat
open Go.RowKit
def RetAllocK (W : World) (b : Bool) (z S : Nat) (d : Nat → Int × Nat) (m : Nat) (zs : List Nat) (K : Nat) (e : Ending) (w' : World) : Prop :=
 ∃ g c l, e = .returned (.tuple #[.slice (some ⟨g, 0, none⟩) m c, .int .i64 0]) ∧ l.length = m ∧ m ≤ c ∧ c ≤ maxLen ∧ RowQ w' g l ∧ (∀ j, j < m → dOf l j = (sgn b (shareN z d m zs K j), S)) ∧ (∀ j, j < m → Num w' w'.heap.size (pOf l j).1 (pOf l j).2.1 (pOf l j).2.2 (shareN z d m zs K j)) ∧ Below W.heap.size W w'
def rfBT : List Row3 := [(some 90, none, .move (.tmp 12)), (some 91, none, .move (.tmp 20)), (some 92, none, .indexAddr 26 (.tmp 90) (.tmp 91)), (some 93, none, .load 25 (.tmp 92)), (some 94, none, .move (.tmp 12)), (some 95, none, .move (.tmp 19)), (some 96, none, .indexAddr 26 (.tmp 94) (.tmp 95)), (some 97, none, .load 25 (.tmp 96)), (some 98, none, .call { callee := .value (.func 35), args := #[.tmp 93, .tmp 97], argTypes := #[25, 25] }), (some 99, none, .binOp .gtr 3 (.tmp 98) (.const (.int .i64 0)) 3)]
theorem rfBRow : (opsAt Tryz.prog 7 26).toList.map row3 = rfBT := by kernel_rfl
theorem rfBSel : Region.noSelect (opsAt Tryz.prog 7 26) = true := by kernel_rfl
theorem rfBDone : Region.ready .any (opsAt Tryz.prog 7 26) (upto (opsAt Tryz.prog 7 26).size (opsAt Tryz.prog 7 26).size []) = [] := by kernel_rfl
theorem rfBstill0 : [(0, [], 0), (1, [], 1), (2, [], 2), (3, [], 3), (4, [], 4), (5, [], 5), (6, [], 6), (7, [], 7), (9, [], 9)].all (stillB (opsAt Tryz.prog 7 26)) = true := by kernel_rfl
theorem rfBsole0 : [(8, [], 8)].all (soleB (opsAt Tryz.prog 7 26)) = true := by kernel_rfl
theorem rfBR : Reg (opsAt Tryz.prog 7 26) rfBT [(0, [], 0), (1, [], 1), (2, [], 2), (3, [], 3), (4, [], 4), (5, [], 5), (6, [], 6), (7, [], 7), (9, [], 9)] [(8, [], 8)] := ⟨rfBRow, rfBSel, (all_parts rfBstill0 (fun k h => by cases h)), (all_parts rfBsole0 (fun k h => by cases h)), rfBDone⟩
def rfCT : List Row3 := [(some 102, none, .move (.tmp 11)), (some 103, none, .move (.tmp 19)), (some 104, none, .move (.tmp 12)), (some 105, none, .move (.tmp 19)), (some 106, none, .move (.tmp 11)), (some 107, none, .move (.tmp 19)), (some 108, none, .indexAddr 26 (.tmp 106) (.tmp 107)), (some 109, none, .load 25 (.tmp 108)), (some 110, none, .move (.tmp 2)), (some 111, none, .call { callee := .value (.func 37), args := #[.tmp 110], argTypes := #[3] }), (some 112, none, .call { callee := .value (.func 32), args := #[.tmp 109, .tmp 111], argTypes := #[25, 25] }), (some 113, none, .call { callee := .value (.func 38), args := #[.const (.int .i64 (-1)), .const (.int .i64 0)], argTypes := #[3, 3] }), (some 114, none, .indexAddr 26 (.tmp 102) (.tmp 103)), (none, none, .store 25 (.tmp 114) (.tmp 112)), (some 115, none, .indexAddr 26 (.tmp 104) (.tmp 105)), (none, none, .store 25 (.tmp 115) (.tmp 113))]
theorem rfCRow : (opsAt Tryz.prog 7 29).toList.map row3 = rfCT := by kernel_rfl
theorem rfCSel : Region.noSelect (opsAt Tryz.prog 7 29) = true := by kernel_rfl
theorem rfCDone : Region.ready .any (opsAt Tryz.prog 7 29) (upto (opsAt Tryz.prog 7 29).size (opsAt Tryz.prog 7 29).size []) = [] := by kernel_rfl
theorem rfCstill0 : [(0, [], 0), (0, [0], 1), (0, [1, 0], 2), (0, [2, 1, 0], 3), (0, [3, 2, 1, 0], 4), (0, [4, 3, 2, 1, 0], 5), (0, [5, 4, 3, 2, 1, 0], 6), (0, [6, 5, 4, 3, 2, 1, 0], 8), (0, [11, 10, 9, 7, 8, 6, 5, 4, 3, 2, 1, 0], 12), (0, [13, 12, 11, 10, 9, 7, 8, 6, 5, 4, 3, 2, 1, 0], 14)].all (stillB (opsAt Tryz.prog 7 29)) = true := by kernel_rfl
theorem rfCstill1 : [(0, [11, 10, 7, 9, 8, 6, 5, 4, 3, 2, 1, 0], 12), (0, [13, 12, 11, 10, 7, 9, 8, 6, 5, 4, 3, 2, 1, 0], 14)].all (stillB (opsAt Tryz.prog 7 29)) = true := by kernel_rfl
theorem rfCready0 : [(0, [8, 6, 5, 4, 3, 2, 1, 0], [7, 9]), (0, [7, 8, 6, 5, 4, 3, 2, 1, 0], [9]), (0, [9, 7, 8, 6, 5, 4, 3, 2, 1, 0], [10]), (0, [10, 9, 7, 8, 6, 5, 4, 3, 2, 1, 0], [11]), (0, [12, 11, 10, 9, 7, 8, 6, 5, 4, 3, 2, 1, 0], [13]), (0, [14, 13, 12, 11, 10, 9, 7, 8, 6, 5, 4, 3, 2, 1, 0], [15]), (0, [9, 8, 6, 5, 4, 3, 2, 1, 0], [7]), (0, [7, 9, 8, 6, 5, 4, 3, 2, 1, 0], [10]), (0, [10, 7, 9, 8, 6, 5, 4, 3, 2, 1, 0], [11]), (0, [12, 11, 10, 7, 9, 8, 6, 5, 4, 3, 2, 1, 0], [13])].all (readyB (opsAt Tryz.prog 7 29)) = true := by kernel_rfl
theorem rfCready1 : [(0, [14, 13, 12, 11, 10, 7, 9, 8, 6, 5, 4, 3, 2, 1, 0], [15])].all (readyB (opsAt Tryz.prog 7 29)) = true := by kernel_rfl
theorem rfCR : Reg (opsAt Tryz.prog 7 29) rfCT [(0, [], 0), (0, [0], 1), (0, [1, 0], 2), (0, [2, 1, 0], 3), (0, [3, 2, 1, 0], 4), (0, [4, 3, 2, 1, 0], 5), (0, [5, 4, 3, 2, 1, 0], 6), (0, [6, 5, 4, 3, 2, 1, 0], 8), (0, [11, 10, 9, 7, 8, 6, 5, 4, 3, 2, 1, 0], 12), (0, [13, 12, 11, 10, 9, 7, 8, 6, 5, 4, 3, 2, 1, 0], 14), (0, [11, 10, 7, 9, 8, 6, 5, 4, 3, 2, 1, 0], 12), (0, [13, 12, 11, 10, 7, 9, 8, 6, 5, 4, 3, 2, 1, 0], 14)] [] := ⟨rfCRow, rfCSel, (all_parts rfCstill0 (all_parts rfCstill1 (fun k h => by cases h))), (fun k h => by cases h), rfCDone⟩
theorem rfCB : ∀ q ∈ ([(0, [8, 6, 5, 4, 3, 2, 1, 0], [7, 9]), (0, [7, 8, 6, 5, 4, 3, 2, 1, 0], [9]), (0, [9, 7, 8, 6, 5, 4, 3, 2, 1, 0], [10]), (0, [10, 9, 7, 8, 6, 5, 4, 3, 2, 1, 0], [11]), (0, [12, 11, 10, 9, 7, 8, 6, 5, 4, 3, 2, 1, 0], [13]), (0, [14, 13, 12, 11, 10, 9, 7, 8, 6, 5, 4, 3, 2, 1, 0], [15]), (0, [9, 8, 6, 5, 4, 3, 2, 1, 0], [7]), (0, [7, 9, 8, 6, 5, 4, 3, 2, 1, 0], [10]), (0, [10, 7, 9, 8, 6, 5, 4, 3, 2, 1, 0], [11]), (0, [12, 11, 10, 7, 9, 8, 6, 5, 4, 3, 2, 1, 0], [13]), (0, [14, 13, 12, 11, 10, 7, 9, 8, 6, 5, 4, 3, 2, 1, 0], [15])] : List Spot4), readyB (opsAt Tryz.prog 7 29) q = true := (all_parts4 rfCready0 (all_parts4 rfCready1 (fun k h => by cases h)))
def rfDT : List Row3 := [(some 116, none, .load 25 (.tmp 13)), (some 117, none, .move (.tmp 2)), (some 118, none, .call { callee := .value (.func 37), args := #[.tmp 117], argTypes := #[3] }), (some 119, none, .call { callee := .value (.func 32), args := #[.tmp 116, .tmp 118], argTypes := #[25, 25] }), (none, none, .store 25 (.tmp 13) (.tmp 119))]
theorem rfDRow : (opsAt Tryz.prog 7 30).toList.map row3 = rfDT := by kernel_rfl
theorem rfDSel : Region.noSelect (opsAt Tryz.prog 7 30) = true := by kernel_rfl
theorem rfDDone : Region.ready .any (opsAt Tryz.prog 7 30) (upto (opsAt Tryz.prog 7 30).size (opsAt Tryz.prog 7 30).size []) = [] := by kernel_rfl
theorem rfDstill0 : [(0, [], 1)].all (stillB (opsAt Tryz.prog 7 30)) = true := by kernel_rfl
theorem rfDready0 : [(0, [1], [0, 2]), (0, [0, 1], [2]), (0, [2, 0, 1], [3]), (0, [3, 2, 0, 1], [4]), (0, [2, 1], [0]), (0, [0, 2, 1], [3]), (0, [3, 0, 2, 1], [4])].all (readyB (opsAt Tryz.prog 7 30)) = true := by kernel_rfl
theorem rfDR : Reg (opsAt Tryz.prog 7 30) rfDT [(0, [], 1)] [] := ⟨rfDRow, rfDSel, (all_parts rfDstill0 (fun k h => by cases h)), (fun k h => by cases h), rfDDone⟩
theorem rfDB : ∀ q ∈ ([(0, [1], [0, 2]), (0, [0, 1], [2]), (0, [2, 0, 1], [3]), (0, [3, 2, 0, 1], [4]), (0, [2, 1], [0]), (0, [0, 2, 1], [3]), (0, [3, 0, 2, 1], [4])] : List Spot4), readyB (opsAt Tryz.prog 7 30) q = true := (all_parts4 rfDready0 (fun k h => by cases h))
theorem refalloc_any (A A1 : Option Addr) (n c s m c1 S : Nat) (i v : Int) (d : Nat → Int × Nat) (p : Nat → Option Addr × Nat × Nat) (zs : List Nat) (K : Nat) (w : World) (h : Num w w.heap.size A n c i.natAbs) (hn : n ≤ 12) (hs : s ≤ 60) (hD : Decs w w.heap.size A1 m c1 d p) (hm : m ≤ 12) (hv : max v 0 = (S : Int)) (hS : S ≤ 60)
   (hneg : ∀ j, j < m → 0 ≤ (d j).1) (hpos : ∃ j, j < m ∧ 0 < (d j).1) (hex : exactB i s S = true) (hL : Left (quantZ i s S).natAbs d m zs K) :
   Calls Tryz.prog 7 #[.agg #[.bool (ngB i), .slice A n c, .int .i64 (s : Int)], .slice A1 m c1, .int .i64 v] w (RetAllocK w (ngB i) (quantZ i s S).natAbs S d m zs K) := by
 have hW0 := whole_pos hneg hpos
 have hm0 : 0 < m := by obtain ⟨j, hj, -⟩ := hpos; omega
 have hc := hD.cap
 have hr := hD.room
 unfold maxLen at hr
 obtain ⟨z, hz⟩ : ∃ z, (quantZ i s S).natAbs = z := ⟨_, rfl⟩
 have HZL : Hid ((dg z).length ≤ 300) := by
   show _ ≤ _
   have z1 : Sz i s 108 := Sz.of_len (by have := h.len; omega : (dg i.natAbs).length ≤ 12)
   have z2 := (z1.quant S).len
   rw [hz] at z2
   omega
 rw [hz] at hL ⊢
 have HQZ := Lib.hid hz
 have H := Lib.hid h
 have HD := Lib.hid hD
 have HNEG := Lib.hid hneg
 have HPOS := Lib.hid hpos
 have HW := Lib.hid hW0
 have HV := Lib.hid hv
 have HEX := Lib.hid hex
 have LF := Lib.hid hL
 have HS1 : Hid (∀ k, k ≤ m → sumS d k ≤ 60 ∧ (dg (sumI d k).natAbs).length ≤ 170) := fun k hk => hD.short.sum hk (by omega)
 clear h hD hneg hpos hW0 hv hex hL hz
 go_enter Tryz.func7, Tryz.ntmps7
 go_wp2_with fail
 generalize hW : World.alloc (World.alloc w _) _ = W0
 have E0 : St w W0 [(A, n, c, (i).natAbs)] [((w.heap.size + 1), .bool false, .slice none 0 0, .int .i64 0), (w.heap.size, (.bool (ngB i)), (.slice A n c), (.int .i64 (s : Int)))] := by rw [← hW]; exact ((start_one H.out).lay rfl).lay (by simp)
 have E := Lib.hid (St.push E0 (Below.refl _ _) (num_none _ _))
 clear hW E0
 go_loopw [25] (fun iv wr => ∃ (k : Nat) (Aw : Option Addr) (nw cw : Nat), k ≤ m ∧ iv = .int .i64 k ∧ St w wr [(Aw, nw, cw, (sumI d k).natAbs), (A, n, c, (i).natAbs)] [((w.heap.size + 1), .bool (ngB (sumI d k)), .slice Aw nw cw, .int .i64 (sumS d k : Int)), (w.heap.size, (.bool (ngB i)), (.slice A n c), (.int .i64 (s : Int)))]) (fun iv _ => m + 1 - (intOf iv).toNat)
 case atStart => exact ⟨0, none, 0, 0, Nat.zero_le _, rfl, E.out⟩
 case round =>
   obtain ⟨k, Aw, nw, cw, hkk, rfl, hE⟩ := hrel
   clear E
   have E := Lib.hid hE
   clear hE
   have hs60 := (HS1.out k hkk).1
   have hw170 : nw ≤ 170 := len_le (E.out.num (Aw, nw, cw, (sumI d k).natAbs) (by simp)) (HS1.out k hkk).2
   rcases Nat.lt_or_ge k m with hlt | hge
   ·
     obtain ⟨b, f0, rfl, _, _, _, _⟩ := HD.out.at_ hlt
     have DSP : ∃ i s A m e, d k = (i, s) ∧ Cel w b (f0 + k * 3) (.bool (ngB i)) (.slice A m e) (.int .i64 (s : Int)) ∧ Num w w.heap.size A m e i.natAbs ∧ m ≤ 12 ∧ s ≤ 60 := ⟨(d k).1, (d k).2, (p k).1, (p k).2.1, (p k).2.2, rfl, HD.out.cel hlt, HD.out.num k hlt, by have h1 := (HD.out.num k hlt).len; have h2 := (HD.out.short k hlt).1; omega, (HD.out.short k hlt).2⟩
     obtain ⟨ik, sk, Ak, nk, ck, hdk, Ck, Nk, mk, tk⟩ := DSP
     have hik : 0 ≤ ik := by have h2 := HNEG.out k hlt; rw [hdk] at h2; exact h2
     obtain ⟨a, rfl⟩ : ∃ a : Nat, ik = (a : Int) := ⟨ik.toNat, by omega⟩
     have Ck2 := Ck.on E.out.bel
     rw [ng_nat] at Ck2
     obtain ⟨y0, y1, y2, _⟩ := Ck2
     replace E := Lib.hid (E.out.push (Below.refl _ _) (Nk.on E.out.bel))
     obtain ⟨I1, hI1⟩ : ∃ I1, sumI d (k + 1) = I1 := ⟨_, rfl⟩
     obtain ⟨S1, hS1⟩ : ∃ S1, sumS d (k + 1) = S1 := ⟨_, rfl⟩
     have HX : Hid (addZ (sumI d k) (sumS d k) (a : Int) sk = I1) := by
       show _ = _
       rw [← hI1]; show _ = addZ (sumI d k) (sumS d k) (d k).1 (d k).2
       rw [hdk]
     have HM : Hid (max (sumS d k) sk = S1) := by
       show _ = _
       rw [← hS1]; show _ = max (sumS d k) (d k).2
       rw [hdk]
     have HI1 := Lib.hid hI1
     have HS2 := Lib.hid hS1
     obtain ⟨I0, hI0⟩ : ∃ I0, sumI d k = I0 := ⟨_, rfl⟩
     obtain ⟨S0, hS0⟩ : ∃ S0, sumS d k = S0 := ⟨_, rfl⟩
     rw [hI0, hS0] at E HX
     rw [hS0] at HM hs60
     clear Ck Nk hdk hI1 hS1 hI0 hS0
     obtain ⟨q0, q1, q2, qf0, qf1, qf2, qlt⟩ := St.at_ (x0 := .bool (ngB I0)) (x1 := .slice Aw nw cw) (x2 := .int .i64 (S0 : Int)) (g := (w.heap.size + 1)) E (by simp)
     go_wp2_with fail
     replace E := Lib.hid (St.lay (t := 25) (x0 := .bool false) (x1 := .slice Ak nk ck) (x2 := .int .i64 (sk : Int)) (g := wr.heap.size) E.out rfl)
     clear y0 y1 y2 q0 q1 q2 qf0 qf1 qf2 qlt
     have AD := refadd_is5 (i := I0) (s := S0) (j := (a : Int)) (t := sk) (St.got E (A := Aw) (n := nw) (c := cw) (a := I0.natAbs) (by simp)) (St.got E (A := Ak) (n := nk) (c := ck) (a := (a : Int).natAbs) (by simp)) (by omega) (by omega) (by omega) (by omega) HM.out HX.out
     rw [ng_nat] at AD
     refine AD.mono ?_; clear AD; rintro e w3 ⟨A3, n3, c3, rfl, h3, hb⟩
     replace E := Lib.hid (St.push E.out hb h3)
     clear h3 hb
     obtain ⟨q0, q1, q2, qf0, qf1, qf2, qlt⟩ := St.at_ (x0 := .bool (ngB I0)) (x1 := .slice Aw nw cw) (x2 := .int .i64 (S0 : Int)) (g := (w.heap.size + 1)) E (by simp)
     go_wp2_with fail
     replace E := Lib.hid (St.store E.out (g := (w.heap.size + 1)) (x0 := .bool (ngB I0)) (x1 := .slice Aw nw cw) (x2 := .int .i64 (S0 : Int)) (by simp) (noLimb_bool _) (noLimb_slice _ _ _) (noLimb_int _) [(w.heap.size, (.bool (ngB i)), (.slice A n c), (.int .i64 (s : Int)))] (by simp <;> omega) (.bool (ngB I1)) (.slice A3 n3 c3) (.int .i64 (S1 : Int)))
     clear q0 q1 q2 qf0 qf1 qf2 qlt
     go_roundw
     case rel =>
       refine ⟨k + 1, A3, n3, c3, by omega, by go_num, ?_⟩
       rw [HI1.out, HS2.out]
       exact E.out.sub (by simp) (by simp)
     case measure => simp [intOf]; omega
   ·
     obtain rfl : k = m := by omega
     obtain ⟨P, hP⟩ : ∃ P, sumI d k = P := ⟨_, rfl⟩
     obtain ⟨u, hu⟩ : ∃ u, sumS d k = u := ⟨_, rfl⟩
     have HPL : Hid ((dg P.natAbs).length ≤ 170) := by show _ ≤ _; rw [← hP]; exact (HS1.out k (Nat.le_refl _)).2
     have hP0 : 0 < P := by
       have h1 := sum_above HNEG.out HPOS.out
       rw [hP] at h1
       exact Int.sign_eq_one_iff_pos.1 h1
     rw [hP, hu] at E
     rw [hu] at hs60
     have HP := Lib.hid hP
     have HU := Lib.hid hu
     clear hP hu
     have hnw0 : ((nw : Int) == 0) = false := by
       have h1 := (num_pos_iff (E.out.num (Aw, nw, cw, P.natAbs) (by simp))).2 (show 0 < P.natAbs by omega)
       have h2 : 0 < nw := h1
       simp; omega
     obtain ⟨pa, pb, pc, pd, pe, pf, pg⟩ := St.at_ (x0 := (.bool (ngB i))) (x1 := (.slice A n c)) (x2 := (.int .i64 (s : Int))) (g := w.heap.size) E (by simp)
     obtain ⟨qa, qb, qc, qd, qe, qf, qg⟩ := St.at_ (x0 := (.bool (ngB P))) (x1 := (.slice Aw nw cw)) (x2 := (.int .i64 (u : Int))) (g := (w.heap.size + 1)) E (by simp)
     go_wp2_with fail
     refine (refexact_is (St.got E (A := A) (n := n) (c := c) (a := (i).natAbs) (by simp)) (by omega) (by omega) HV.out (by omega) HEX.out).mono ?_; rintro e w4 ⟨rfl, hb⟩; replace E := Lib.hid (St.step E.out hb); clear hb
     clear pa pb pc pd pe pf pg qa qb qc qd qe qf qg
     clear hnw0
     have LTS : Hid (w.heap.size + 1 < w4.heap.size) := (St.at_ (x0 := (.bool (ngB P))) (x1 := (.slice Aw nw cw)) (x2 := (.int .i64 (u : Int))) (g := (w.heap.size + 1)) E (by simp)).lt
     go_wp2_with fail
     replace E := Lib.hid (St.lay (t := 25) (x0 := .bool false) (x1 := .slice none 0 0) (x2 := .int .i64 0) (g := w4.heap.size) (St.push E.out (Below.refl _ _) (num_none _ _)) rfl)
     generalize hW2 : World.alloc w4 _ = W2 at E ⊢
     clear hW2
     replace E : Hid (RS w W2 _ _ (.slice none 0 0) (.slice none 0 0) [] []) := Lib.hid (RS.start E.out)
     obtain ⟨qn, hqn⟩ : ∃ qn : Nat → Nat, qn = fun t => z * partP d k t / wholeW d k := ⟨_, rfl⟩
     obtain ⟨dq, hdq⟩ : ∃ dq : Nat → Int × Nat, dq = fun t => (((qn t : Nat) : Int), S) := ⟨_, rfl⟩
     obtain ⟨dr, hdr⟩ : ∃ dr : Nat → Int × Nat, dr = fun t => (downR i (d t).1 P s (d t).2 u S, max (s + (d t).2) (S + u)) := ⟨_, rfl⟩
     have HQN := Lib.hid hqn
     have HDQ := Lib.hid hdq
     have HDR := Lib.hid hdr
     have SUM : Hid (∀ j, j ≤ k → sumS dq j ≤ S ∧ (dg (sumI dq j).natAbs).length ≤ 300 ∧ sumI dq j = ((sumN qn j : Nat) : Int) ∧ (0 < j → sumS dq j = S)) := by
       intro j hj
       have e := sum_same (d := dq) (x := qn) (S := S) (m := j) (fun t _ => by rw [hdq])
       refine ⟨e.2.2, ?_, e.1, e.2.1⟩
       rw [e.1, Int.natAbs_natCast]
       refine Nat.le_trans (dg_len_mono ?_) HZL.out
       have h1 := LF.out.2.1
       rw [show sumN (fun j => z * partP d k j / wholeW d k) k = sumN qn k by rw [hqn]] at h1
       have h2 := sumN_upto (f := qn) hj
       omega
     have QL : Hid (∀ j, j < k → (dg (qn j)).length ≤ 300) := by
       intro j hj
       refine Nat.le_trans (dg_len_mono ?_) HZL.out
       have h1 := LF.out.2.1
       rw [show sumN (fun j => z * partP d k j / wholeW d k) k = sumN qn k by rw [hqn]] at h1
       have h2 := sumN_ge (f := qn) hj
       omega
     have HREF : Hid (∀ j, j < k → downN i (d j).1 P s (d j).2 u S = qn j) := by
       intro j hj
       have e := down_share HEX.out HNEG.out HW.out hj
       rw [HP.out, HU.out, HQZ.out] at e
       rw [e, hqn]
     have RLN : Hid (∀ j, j < k → (dg (dr j).1.natAbs).length ≤ 60000) := by
       intro j hj
       rw [hdr]
       show (dg (subZ _ _ _ _).natAbs).length ≤ 60000
       have s1 := HD.out.short j hj
       have z1 : Sz i s 108 := Sz.of_len (n := 12) (by have := H.out.len; omega)
       have z2 : Sz (d j).1 (d j).2 108 := Sz.of_len (n := 12) s1.1
       have z3 : Sz ((i * (d j).1).natAbs : Int) (s + (d j).2) 216 := (z1.mul z2).abs
       have z4 : Sz ((downN i (d j).1 P s (d j).2 u S : Nat) : Int) S 2700 := Sz.of_len (n := 300) (by rw [Int.natAbs_natCast, HREF.out j hj]; exact QL.out j hj)
       have z5 : Sz P u 1530 := Sz.of_len (n := 170) HPL.out
       have z6 := (z3.sub (z4.mul z5)).len
       have h60 := s1.2
       omega
     clear hqn hdq hdr
     refine wp_loop_ghost (fun (R : Nat) (a : Act) (w' : World) => ∃ (j : Nat) (A4 : Option Addr) (c4 : Nat) (A5 : Option Addr) (c5 : Nat) (l4 l5 : List DQ) (As : Option Addr) (ns cs : Nat), j ≤ k ∧ R = k - j ∧ l4.length = j ∧ l5.length = j ∧ (∀ t, t < j → dOf l4 t = dq t) ∧ (∀ t, t < j → dOf l5 t = dr t) ∧ Fr 137 a [(1, .slice A1 k c1), (2, .int .i64 v), (3, .pointer (some ⟨w.heap.size, 0, none⟩)), (8, .pointer (some ⟨w.heap.size + 1, 0, none⟩)), (11, .slice A4 j c4), (12, .slice A5 j c5), (13, .pointer (some ⟨w4.heap.size, 0, none⟩)), (46, .slice A1 k c1), (47, .int .i64 (k : Int)), (48, .int .i64 (j : Int))] ∧ Hid (RS w w' [(As, ns, cs, (sumI dq j).natAbs), (Aw, nw, cw, (P).natAbs), (A, n, c, (i).natAbs)] [(w4.heap.size, .bool (ngB (sumI dq j)), .slice As ns cs, .int .i64 (sumS dq j : Int)), ((w.heap.size + 1), (.bool (ngB P)), (.slice Aw nw cw), (.int .i64 (u : Int))), (w.heap.size, (.bool (ngB i)), (.slice A n c), (.int .i64 (s : Int)))] (.slice A4 j c4) (.slice A5 j c5) l4 l5)) k ⟨0, none, 0, none, 0, [], [], none, 0, 0, Nat.zero_le _, rfl, rfl, rfl, fun t h => absurd h (Nat.not_lt_zero _), fun t h => absurd h (Nat.not_lt_zero _), ⟨rfl, rfl, by intro q hq; simp at hq; rcases hq with rfl | rfl | rfl | rfl | rfl | rfl | rfl | rfl | rfl | rfl <;> first | rfl | simp⟩, E⟩ ?_
     clear E
     rintro R a V ⟨j, A4, c4, A5, c5, l4, l5, As, ns, cs, hjk, rfl, hl4, hl5, hd4, hd5, ha, E⟩
     have L4 := Lib.hid hl4; have L5 := Lib.hid hl5; have D4 := Lib.hid hd4; have D5 := Lib.hid hd5; clear hl4 hl5 hd4 hd5
     obtain ⟨us, rfl, hu⟩ := ha.listZ
     have eu1 : us 1 = .slice A1 k c1 := hu (1, .slice A1 k c1) (by simp)
     have eu2 : us 2 = .int .i64 v := hu (2, .int .i64 v) (by simp)
     have eu3 : us 3 = .pointer (some ⟨w.heap.size, 0, none⟩) := hu (3, .pointer (some ⟨w.heap.size, 0, none⟩)) (by simp)
     have eu8 : us 8 = .pointer (some ⟨w.heap.size + 1, 0, none⟩) := hu (8, .pointer (some ⟨w.heap.size + 1, 0, none⟩)) (by simp)
     have eu11 : us 11 = .slice A4 j c4 := hu (11, .slice A4 j c4) (by simp)
     have eu12 : us 12 = .slice A5 j c5 := hu (12, .slice A5 j c5) (by simp)
     have eu13 : us 13 = .pointer (some ⟨w4.heap.size, 0, none⟩) := hu (13, .pointer (some ⟨w4.heap.size, 0, none⟩)) (by simp)
     have eu46 : us 46 = .slice A1 k c1 := hu (46, .slice A1 k c1) (by simp)
     have eu47 : us 47 = .int .i64 (k : Int) := hu (47, .int .i64 (k : Int)) (by simp)
     have eu48 : us 48 = .int .i64 (j : Int) := hu (48, .int .i64 (j : Int)) (by simp)
     rw [show (List.range 137).map us = [us 0, us 1, us 2, us 3, us 4, us 5, us 6, us 7, us 8, us 9, us 10, us 11, us 12, us 13, us 14, us 15, us 16, us 17, us 18, us 19, us 20, us 21, us 22, us 23, us 24, us 25, us 26, us 27, us 28, us 29, us 30, us 31, us 32, us 33, us 34, us 35, us 36, us 37, us 38, us 39, us 40, us 41, us 42, us 43, us 44, us 45, us 46, us 47, us 48, us 49, us 50, us 51, us 52, us 53, us 54, us 55, us 56, us 57, us 58, us 59, us 60, us 61, us 62, us 63, us 64, us 65, us 66, us 67, us 68, us 69, us 70, us 71, us 72, us 73, us 74, us 75, us 76, us 77, us 78, us 79, us 80, us 81, us 82, us 83, us 84, us 85, us 86, us 87, us 88, us 89, us 90, us 91, us 92, us 93, us 94, us 95, us 96, us 97, us 98, us 99, us 100, us 101, us 102, us 103, us 104, us 105, us 106, us 107, us 108, us 109, us 110, us 111, us 112, us 113, us 114, us 115, us 116, us 117, us 118, us 119, us 120, us 121, us 122, us 123, us 124, us 125, us 126, us 127, us 128, us 129, us 130, us 131, us 132, us 133, us 134, us 135, us 136] from rfl, eu1, eu2, eu3, eu8, eu11, eu12, eu13, eu46, eu47, eu48]
     clear hu ha eu1 eu2 eu3 eu8 eu11 eu12 eu13 eu46 eu47 eu48
     rcases Nat.lt_or_ge j k with hlt | hge
     ·
       obtain ⟨b, f0, rfl, _, _, _, _⟩ := HD.out.at_ hlt
       have DSP : ∃ i s A m e, d j = (i, s) ∧ Cel w b (f0 + j * 3) (.bool (ngB i)) (.slice A m e) (.int .i64 (s : Int)) ∧ Num w w.heap.size A m e i.natAbs ∧ m ≤ 12 ∧ s ≤ 60 := ⟨(d j).1, (d j).2, (p j).1, (p j).2.1, (p j).2.2, rfl, HD.out.cel hlt, HD.out.num j hlt, by have h1 := (HD.out.num j hlt).len; have h2 := (HD.out.short j hlt).1; omega, (HD.out.short j hlt).2⟩
       obtain ⟨iq, sq, Ak, nk, ck, hdk, Ck, Nk, mk, tk⟩ := DSP
       obtain ⟨y0, y1, y2, _⟩ := Ck.on E.out.st.bel
       obtain ⟨q, hq⟩ : ∃ q, qn j = q := ⟨_, rfl⟩
       obtain ⟨r, hr⟩ : ∃ r, downR i iq P s sq u S = r := ⟨_, rfl⟩
       obtain ⟨M, hM⟩ : ∃ M, max (s + sq) (S + u) = M := ⟨_, rfl⟩
       have HQ : Hid (downN i iq P s sq u S = q) := by
         show _ = _
         have e := HREF.out j hlt
         rw [hdk] at e
         rw [← hq]; exact e
       have HR := Lib.hid hr
       have HM := Lib.hid hM
       have hqL : (dg q).length ≤ 300 := by rw [← hq]; exact QL.out j hlt
       have HQL : Hid ((dg (q : Int).natAbs).length ≤ 300) := by show _ ≤ _; rw [Int.natAbs_natCast]; exact hqL
       have DQJ : Hid (dq j = ((q : Int), S)) := by show _ = _; rw [HDQ.out, ← hq]
       have DRJ : Hid (dr j = (r, M)) := by
         show _ = _
         rw [HDR.out]; show (downR i (d j).1 P s (d j).2 u S, max (s + (d j).2) (S + u)) = _
         rw [hdk, hr, hM]
       obtain ⟨I1, hI1⟩ : ∃ I1, sumI dq (j + 1) = I1 := ⟨_, rfl⟩
       obtain ⟨S1, hS1⟩ : ∃ S1, sumS dq (j + 1) = S1 := ⟨_, rfl⟩
       have HX : Hid (addZ (sumI dq j) (sumS dq j) (q : Int) S = I1) := by
         show _ = _
         rw [← hI1]; show _ = addZ (sumI dq j) (sumS dq j) (dq j).1 (dq j).2
         rw [DQJ.out]
       have HMS : Hid (max (sumS dq j) S = S1) := by
         show _ = _
         rw [← hS1]; show _ = max (sumS dq j) (dq j).2
         rw [DQJ.out]
       have HI1 := Lib.hid hI1
       have HS2 := Lib.hid hS1
       have hsS := (SUM.out j hjk).1
       have HI0L : Hid ((dg (sumI dq j).natAbs).length ≤ 300) := (SUM.out j hjk).2.1
       have HI1L : Hid ((dg I1.natAbs).length ≤ 300) := by show _ ≤ _; rw [← hI1]; exact (SUM.out (j + 1) hlt).2.1
       obtain ⟨I0, hI0⟩ : ∃ I0, sumI dq j = I0 := ⟨_, rfl⟩
       obtain ⟨S0, hS0⟩ : ∃ S0, sumS dq j = S0 := ⟨_, rfl⟩
       rw [hI0, hS0] at E HX
       rw [hS0] at HMS hsS
       rw [hI0] at HI0L
       have hns : ns ≤ 300 := len_le (E.out.st.num (As, ns, cs, I0.natAbs) (by simp)) HI0L.out
       replace E := Lib.hid (E.out.push (Below.refl _ _) (Nk.on E.out.st.bel))
       clear Ck Nk hdk hI1 hS1 hI0 hS0 hr hM hq hqL
       obtain ⟨pa, pb, pc, pd, pe, pf, pg⟩ := St.at_ (x0 := (.bool (ngB i))) (x1 := (.slice A n c)) (x2 := (.int .i64 (s : Int))) (g := w.heap.size) (Lib.hid E.out.st) (by simp)
       obtain ⟨qa, qb, qc, qd, qe, qf, qg⟩ := St.at_ (x0 := (.bool (ngB P))) (x1 := (.slice Aw nw cw)) (x2 := (.int .i64 (u : Int))) (g := (w.heap.size + 1)) (Lib.hid E.out.st) (by simp)
       go_wp2_with fail
       replace E := Lib.hid (RS.lay (t := 25) (x0 := (.bool (ngB iq))) (x1 := (.slice Ak nk ck)) (x2 := (.int .i64 (sq : Int))) (k := V.heap.size) E.out rfl)
       clear y0 y1 y2
       clear pa pb pc pd pe pf pg qa qb qc qd qe qf qg
       have DW := down_any A Ak Aw n c nk ck nw cw s sq u S i iq P v _ (St.got (Lib.hid E.out.st) (A := A) (n := n) (c := c) (a := (i).natAbs) (by simp)) (St.got (Lib.hid E.out.st) (A := Ak) (n := nk) (c := ck) (a := (iq).natAbs) (by simp)) (St.got (Lib.hid E.out.st) (A := Aw) (n := nw) (c := cw) (a := (P).natAbs) (by simp)) hn mk hw170 hs tk hs60 HV.out hS hP0
       rw [HQ.out, HR.out, HM.out] at DW
       refine DW.mono ?_; clear DW; rintro e w7 ⟨Aq, nq, cq, Ar, nr, cr, rfl, h7, h8, hb⟩
       have h7' : Num w7 w7.heap.size Aq nq cq (q : Int).natAbs := by rw [Int.natAbs_natCast]; exact h7
       have hnq : nq ≤ 300 := len_le h7' HQL.out
       replace E := Lib.hid (RS.push (RS.push E.out hb h7') (Below.refl _ _) h8)
       clear h7 h7' h8 hb
       have LG : Hid (w.heap.size < w.heap.size + 1 ∧ w.heap.size + 1 < w4.heap.size ∧ w4.heap.size < w7.heap.size ∧ w7.heap.size < w7.heap.size + 1) := ⟨by omega, LTS.out, (St.at_ (x0 := .bool (ngB I0)) (x1 := .slice As ns cs) (x2 := .int .i64 (S0 : Int)) (g := w4.heap.size) (Lib.hid E.out.st) (by simp)).lt, by omega⟩
       go_wp2_with fail
       replace E := Lib.hid (RS.lay (t := 25) (x0 := .bool false) (x1 := (.slice Aq nq cq)) (x2 := (.int .i64 (S : Int))) (k := w7.heap.size) E.out rfl)
       replace E := Lib.hid (RS.lay (t := 25) (x0 := (.bool (ngB r))) (x1 := (.slice Ar nr cr)) (x2 := (.int .i64 (M : Int))) (k := (w7.heap.size + 1)) E.out (by simp))
       generalize hW : World.alloc (World.alloc w7 _) _ = W8 at E ⊢
       clear hW
       replace E : Hid (RS w W8 [(Ar, nr, cr, (r).natAbs), (Aq, nq, cq, ((q : Int)).natAbs), (As, ns, cs, (I0).natAbs), (Aw, nw, cw, (P).natAbs), (A, n, c, (i).natAbs)] [((w7.heap.size + 1), (.bool (ngB r)), (.slice Ar nr cr), (.int .i64 (M : Int))), (w7.heap.size, (.bool false), (.slice Aq nq cq), (.int .i64 (S : Int))), (w4.heap.size, (.bool (ngB I0)), (.slice As ns cs), (.int .i64 (S0 : Int))), ((w.heap.size + 1), (.bool (ngB P)), (.slice Aw nw cw), (.int .i64 (u : Int))), (w.heap.size, (.bool (ngB i)), (.slice A n c), (.int .i64 (s : Int)))] (.slice A4 j c4) (.slice A5 j c5) l4 l5) := Lib.hid (E.out.sub (by simp) (by simp))
       rename_i KA hKA KB hKB
       refine wp_cut (R17 w A (some ⟨b, f0, none⟩) A4 A5 Aq Ar As Aw n c s c1 c4 c5 nq cq nr cr ns cs nw cw q S M S0 S1 u k j w.heap.size (w.heap.size + 1) w4.heap.size w7.heap.size (w7.heap.size + 1) i v r I0 I1 P l4 l5) (r17_any w W8 A (some ⟨b, f0, none⟩) A4 A5 Aq Ar As Aw n c s c1 c4 c5 nq cq nr cr ns cs nw cw q S M S0 S1 u k j w.heap.size (w.heap.size + 1) w4.heap.size w7.heap.size (w7.heap.size + 1) i v r I0 I1 P l4 l5 _ (by kernel_rfl) L4 L5 (by omega) hS hsS hns hnq HX HMS HI1L LG ⟨rfl, rfl, by intro q hq; simp at hq; rcases hq with rfl | rfl | rfl | rfl | rfl | rfl | rfl | rfl | rfl | rfl | rfl | rfl <;> rfl⟩ E) ?_
       clear E
       rintro a wN ⟨g4, c4', g5, c5', A9, n9, c9, ha, hbd, E⟩
       simp only [Exit.inBlock, Exit.then]
       refine hKB _ _ ?_
       clear hKB
       obtain ⟨us, rfl, hu⟩ := ha.listZ
       have eu1 : us 1 = .slice (some ⟨b, f0, none⟩) k c1 := hu (1, .slice (some ⟨b, f0, none⟩) k c1) (by simp)
       have eu2 : us 2 = .int .i64 v := hu (2, .int .i64 v) (by simp)
       have eu3 : us 3 = .pointer (some ⟨w.heap.size, 0, none⟩) := hu (3, .pointer (some ⟨w.heap.size, 0, none⟩)) (by simp)
       have eu8 : us 8 = .pointer (some ⟨w.heap.size + 1, 0, none⟩) := hu (8, .pointer (some ⟨w.heap.size + 1, 0, none⟩)) (by simp)
       have eu11 : us 11 = .slice (some ⟨g4, 0, none⟩) (l4.length + 1) c4' := hu (11, .slice (some ⟨g4, 0, none⟩) (l4.length + 1) c4') (by simp)
       have eu12 : us 12 = .slice (some ⟨g5, 0, none⟩) (l5.length + 1) c5' := hu (12, .slice (some ⟨g5, 0, none⟩) (l5.length + 1) c5') (by simp)
       have eu13 : us 13 = .pointer (some ⟨w4.heap.size, 0, none⟩) := hu (13, .pointer (some ⟨w4.heap.size, 0, none⟩)) (by simp)
       have eu46 : us 46 = .slice (some ⟨b, f0, none⟩) k c1 := hu (46, .slice (some ⟨b, f0, none⟩) k c1) (by simp)
       have eu47 : us 47 = .int .i64 (k : Int) := hu (47, .int .i64 (k : Int)) (by simp)
       have eu48 : us 48 = .int .i64 (j : Int) := hu (48, .int .i64 (j : Int)) (by simp)
       rw [show (List.range 137).map us = [us 0, us 1, us 2, us 3, us 4, us 5, us 6, us 7, us 8, us 9, us 10, us 11, us 12, us 13, us 14, us 15, us 16, us 17, us 18, us 19, us 20, us 21, us 22, us 23, us 24, us 25, us 26, us 27, us 28, us 29, us 30, us 31, us 32, us 33, us 34, us 35, us 36, us 37, us 38, us 39, us 40, us 41, us 42, us 43, us 44, us 45, us 46, us 47, us 48, us 49, us 50, us 51, us 52, us 53, us 54, us 55, us 56, us 57, us 58, us 59, us 60, us 61, us 62, us 63, us 64, us 65, us 66, us 67, us 68, us 69, us 70, us 71, us 72, us 73, us 74, us 75, us 76, us 77, us 78, us 79, us 80, us 81, us 82, us 83, us 84, us 85, us 86, us 87, us 88, us 89, us 90, us 91, us 92, us 93, us 94, us 95, us 96, us 97, us 98, us 99, us 100, us 101, us 102, us 103, us 104, us 105, us 106, us 107, us 108, us 109, us 110, us 111, us 112, us 113, us 114, us 115, us 116, us 117, us 118, us 119, us 120, us 121, us 122, us 123, us 124, us 125, us 126, us 127, us 128, us 129, us 130, us 131, us 132, us 133, us 134, us 135, us 136] from rfl, eu1, eu2, eu3, eu8, eu11, eu12, eu13, eu46, eu47, eu48]
       clear hu ha eu1 eu2 eu3 eu8 eu11 eu12 eu13 eu46 eu47 eu48
       go_wp2_with fail
       refine ⟨k - (j + 1), by omega, j + 1, some ⟨g4, 0, none⟩, c4', some ⟨g5, 0, none⟩, c5', l4 ++ [(((q : Int), S), (Aq, nq, cq))], l5 ++ [((r, M), (Ar, nr, cr))], A9, n9, c9, by omega, rfl, by rw [List.length_append, L4.out]; rfl, by rw [List.length_append, L5.out]; rfl, fun t ht => ?_, fun t ht => ?_, ?_, ?_⟩
       · rw [dOf_push (by rw [L4.out]; exact ht), L4.out]
         split
         · rename_i h; exact D4.out t h
         · obtain rfl : t = j := by omega
           exact DQJ.out.symm
       · rw [dOf_push (by rw [L5.out]; exact ht), L5.out]
         split
         · rename_i h; exact D5.out t h
         · obtain rfl : t = j := by omega
           exact DRJ.out.symm
       · rw [← L4.out]
         have e : l5.length = l4.length := by rw [L4.out, L5.out]
         rw [e]
         exact ⟨rfl, rfl, by intro q hq; simp at hq; rcases hq with rfl | rfl | rfl | rfl | rfl | rfl | rfl | rfl | rfl | rfl <;> first | rfl | simp⟩
       · rw [HI1.out, HS2.out, ← L4.out]
         have e : l5.length = l4.length := by rw [L4.out, L5.out]
         rw [e] at E
         exact E
     ·
       obtain rfl : j = k := by omega
       obtain ⟨g, g', rfl, rfl, hmc, hcm, hmc2, hcm2, hRZ⟩ := E.out.rz L4.out L5.out hm0
       clear E
       have E := Lib.hid hRZ
       clear hRZ
       have HMC := Lib.hid hcm
       have HMC2 := Lib.hid hcm2
       have hcm' := hcm
       have hcm2' := hcm2
       unfold maxLen at hcm' hcm2'
       obtain ⟨F0, hF0⟩ : ∃ F0, sumN qn j = F0 := ⟨_, rfl⟩
       have hFK : F0 + K = z := by
         have h1 := LF.out.2.1
         rw [show sumN (fun t => z * partP d j t / wholeW d j) j = sumN qn j by rw [HQN.out], hF0] at h1
         exact h1
       have hKm := LF.out.2.2.1
       obtain ⟨-, -, e3, e4⟩ := SUM.out j (Nat.le_refl _)
       rw [e3, e4 hm0, hF0] at E
       have HTZ : Hid (z * 10 ^ s = i.natAbs * 10 ^ S) := by
         show _ = _
         have e := quant_whole HEX.out
         rw [HQZ.out] at e; exact e
       obtain ⟨MM, hMM⟩ : ∃ MM : Nat, MM = 200 := ⟨_, rfl⟩
       have HSH : Hid (∀ t, t < j → (d t).2 ≤ 60) := fun t ht => (HD.out.short t ht).2
       have hM1 : sumS (shS d) j ≤ 60 := by
         have h2 : Short (shS d) j := fun t ht => ⟨Nat.le_trans (dg_len_mono (stripI_abs_le _ _ _)) (HD.out.short t ht).1, Nat.le_trans (Nat.sub_le _ _) (HD.out.short t ht).2⟩
         exact (h2.sum (Nat.le_refl j) (by omega)).1
       have HFR : Hid (∀ t, t < j → up (dr t).1 (dr t).2 MM = ((restN z d j t * 10 ^ (MM - (S + sumS (shS d) j)) : Nat) : Int)) := fun t ht => by
         have h60 := HSH.out t ht
         have e := down_rest (MM := MM) HEX.out HNEG.out HW.out ht (by omega) (by rw [HU.out]; omega) (by omega)
         rw [HP.out, HU.out, HQZ.out] at e
         rw [HDR.out]
         exact e
       have HSRT : Hid (Srt (fun t => up (dr t).1 (dr t).2 MM) zs j) := srt_like LF.out.1 fun a b ha hb => by
         rw [HFR.out a ha, HFR.out b hb]
         have hC : (0 : Int) < ((10 ^ (MM - (S + sumS (shS d) j)) : Nat) : Int) := by have := ten_pos (MM - (S + sumS (shS d) j)); omega
         rw [Int.natCast_mul, Int.natCast_mul]
         constructor
         · intro h1; exact Int.mul_lt_mul_of_pos_right h1 hC
         · intro h1; exact Int.lt_of_mul_lt_mul_right h1 (Int.le_of_lt hC)
       have HNG : Hid (∀ t, t < j → up (-1) 0 MM < up (dr t).1 (dr t).2 MM) := fun t ht => by
         rw [HFR.out t ht]
         have h1 : up (-1) 0 MM < 0 := by unfold up; have := ten_pos (MM - 0); omega
         omega
       have HAM : Hid (∀ t, t < j → am (curR (up (-1) 0 MM) (fun t => up (dr t).1 (dr t).2 MM) zs t) j = gd zs t) := fun t ht => am_cur HSRT.out HNG.out ht
       have HCB : Hid (∀ t a, a < j → (curD dr zs t a).2 ≤ 120 ∧ (dg (curD dr zs t a).1.natAbs).length ≤ 60000) := fun t a ha => by
         refine curD_all (Q := fun e => e.2 ≤ 120 ∧ (dg e.1.natAbs).length ≤ 60000) ⟨by decide, ?_⟩ ?_ t
         · have e : (dg ((-1 : Int), 0).1.natAbs).length ≤ 1 := dg_len_le (by decide)
           omega
         · have h60 := HSH.out a ha
           refine ⟨by rw [HDR.out]; show max (s + (d a).2) (S + u) ≤ 120; omega, ?_⟩
           exact RLN.out a ha
       have hMM2 : 120 ≤ MM := by omega
       clear hMM e3 e4 hF0
       go_wp2_with fail
       have HDL0 : ∀ a, a < j → dOf l4 a = (((shareN z d j zs 0 a : Nat) : Int), S) := fun a ha => by
         rw [D4.out a ha, HDQ.out]
         show (((qn a : Nat) : Int), S) = (((z * partP d j a / wholeW d j : Nat) : Int), S)
         rw [HQN.out]
       have HDR0 : ∀ a, a < j → dOf l5 a = curD dr zs 0 a := fun a ha => D5.out a ha
       refine wp_loop_ghost (fun (R : Nat) (a : Act) (w' : World) => ∃ (t : Nat) (l l' : List DQ) (As : Option Addr) (ns cs : Nat), t ≤ K ∧ R = K - t ∧ l.length = j ∧ l'.length = j ∧ (∀ a, a < j → dOf l a = (((shareN z d j zs t a : Nat) : Int), S)) ∧ (∀ a, a < j → dOf l' a = curD dr zs t a) ∧ Fr 137 a [(1, .slice A1 j c1), (2, .int .i64 v), (3, .pointer (some ⟨w.heap.size, 0, none⟩)), (11, .slice (some ⟨g, 0, none⟩) j c4), (12, .slice (some ⟨g', 0, none⟩) j c5), (13, .pointer (some ⟨w4.heap.size, 0, none⟩)), (18, .int .i64 (t : Int))] ∧ Hid (RZ w w' [(As, ns, cs, ((F0 + t : Nat) : Int).natAbs), (A, n, c, (i).natAbs)] [(w4.heap.size, .bool (ngB ((F0 + t : Nat) : Int)), .slice As ns cs, .int .i64 (S : Int)), (w.heap.size, (.bool (ngB i)), (.slice A n c), (.int .i64 (s : Int)))] g l g' l')) K ⟨0, l4, l5, As, ns, cs, Nat.zero_le _, rfl, L4.out, L5.out, HDL0, HDR0, ⟨rfl, rfl, by intro q hq; simp at hq; rcases hq with rfl | rfl | rfl | rfl | rfl | rfl | rfl <;> first | rfl | simp⟩, Lib.hid (E.out.sub (by simp) (by simp))⟩ ?_
       clear E HDL0 HDR0 D4 D5 L4 L5
       rintro R a V ⟨t, l, l', As, ns, cs, htK, rfl, hll, hll', hdl, hdl', ha, E⟩
       have HLL := Lib.hid hll; have HLL2 := Lib.hid hll'; have HDL := Lib.hid hdl; have HDL2 := Lib.hid hdl'; clear hll hll' hdl hdl'
       obtain ⟨us, rfl, hu⟩ := ha.listZ
       have eu1 : us 1 = .slice A1 j c1 := hu (1, .slice A1 j c1) (by simp)
       have eu2 : us 2 = .int .i64 v := hu (2, .int .i64 v) (by simp)
       have eu3 : us 3 = .pointer (some ⟨w.heap.size, 0, none⟩) := hu (3, .pointer (some ⟨w.heap.size, 0, none⟩)) (by simp)
       have eu11 : us 11 = .slice (some ⟨g, 0, none⟩) j c4 := hu (11, .slice (some ⟨g, 0, none⟩) j c4) (by simp)
       have eu12 : us 12 = .slice (some ⟨g', 0, none⟩) j c5 := hu (12, .slice (some ⟨g', 0, none⟩) j c5) (by simp)
       have eu13 : us 13 = .pointer (some ⟨w4.heap.size, 0, none⟩) := hu (13, .pointer (some ⟨w4.heap.size, 0, none⟩)) (by simp)
       have eu18 : us 18 = .int .i64 (t : Int) := hu (18, .int .i64 (t : Int)) (by simp)
       rw [show (List.range 137).map us = [us 0, us 1, us 2, us 3, us 4, us 5, us 6, us 7, us 8, us 9, us 10, us 11, us 12, us 13, us 14, us 15, us 16, us 17, us 18, us 19, us 20, us 21, us 22, us 23, us 24, us 25, us 26, us 27, us 28, us 29, us 30, us 31, us 32, us 33, us 34, us 35, us 36, us 37, us 38, us 39, us 40, us 41, us 42, us 43, us 44, us 45, us 46, us 47, us 48, us 49, us 50, us 51, us 52, us 53, us 54, us 55, us 56, us 57, us 58, us 59, us 60, us 61, us 62, us 63, us 64, us 65, us 66, us 67, us 68, us 69, us 70, us 71, us 72, us 73, us 74, us 75, us 76, us 77, us 78, us 79, us 80, us 81, us 82, us 83, us 84, us 85, us 86, us 87, us 88, us 89, us 90, us 91, us 92, us 93, us 94, us 95, us 96, us 97, us 98, us 99, us 100, us 101, us 102, us 103, us 104, us 105, us 106, us 107, us 108, us 109, us 110, us 111, us 112, us 113, us 114, us 115, us 116, us 117, us 118, us 119, us 120, us 121, us 122, us 123, us 124, us 125, us 126, us 127, us 128, us 129, us 130, us 131, us 132, us 133, us 134, us 135, us 136] from rfl, eu1, eu2, eu3, eu11, eu12, eu13, eu18]
       clear hu ha eu1 eu2 eu3 eu11 eu12 eu13 eu18
       obtain ⟨Fk, hFk⟩ : ∃ Fk : Int, ((F0 + t : Nat) : Int) = Fk := ⟨_, rfl⟩
       rw [hFk] at E
       have HFk := Lib.hid hFk
       have FL : Hid ((dg Fk.natAbs).length ≤ 300) := by
         show _ ≤ _
         rw [← hFk, Int.natAbs_natCast]
         exact Nat.le_trans (dg_len_mono (show F0 + t ≤ z by omega)) HZL.out
       have hns : ns ≤ 300 := len_le (E.out.st.num (As, ns, cs, Fk.natAbs) (by simp)) FL.out
       clear hFk
       obtain ⟨ia, hia⟩ : ∃ ia : Int, (i.natAbs : Int) = ia := ⟨_, rfl⟩
       obtain ⟨zc, hzc⟩ : ∃ zc, cmpD Fk S ia s = zc := ⟨_, rfl⟩
       have HZC := Lib.hid hzc
       have DT : Hid (decide (zc < 0) = decide (t < K)) := by
         show _ = _
         have e := cmp_total (x := F0 + t) HTZ.out
         rw [HFk.out, hia, hzc] at e
         rcases Nat.lt_or_ge t K with h1 | h1
         · rw [e.1 (by omega), decide_eq_true h1]; decide
         · have h2 : decide (t < K) = false := decide_eq_false (by omega)
           rw [e.2 (by omega), h2]; decide
       clear hzc
       have HIA := Lib.hid hia
       have hIAL : Hid ((dg ia.natAbs).length ≤ 12) := by show _ ≤ _; rw [← hia, Int.natAbs_natCast]; have := H.out.len; omega
       clear hia
       have htj : (t : Int) < (j : Int) := by omega
       go_wp2_with fail
       replace E := Lib.hid (E.out.step (Below.refl _ _).drew)
       go_region_held3 (fun v => v.cell? ⟨w4.heap.size, 0, none⟩ = some (.bool (ngB Fk)) ∧ v.cell? ⟨w4.heap.size, 1, none⟩ = some (.slice As ns cs) ∧ v.cell? ⟨w4.heap.size, 2, none⟩ = some (.int .i64 (S : Int)) ∧ v.cell? ⟨w.heap.size, 0, none⟩ = some (.bool (ngB i)) ∧ v.cell? ⟨w.heap.size, 1, none⟩ = some (.slice A n c) ∧ v.cell? ⟨w.heap.size, 2, none⟩ = some (.int .i64 (s : Int))) (first | (have X0 := St.at_ (x0 := (.bool (ngB Fk))) (x1 := (.slice As ns cs)) (x2 := (.int .i64 (S : Int))) (g := w4.heap.size) (Lib.hid E.out.st) (by simp); have X1 := St.at_ (x0 := (.bool (ngB i))) (x1 := (.slice A n c)) (x2 := (.int .i64 (s : Int))) (g := w.heap.size) (Lib.hid E.out.st) (by simp); with_reducible exact ⟨X0.c0, X0.c1, X0.c2, X1.c0, X1.c1, X1.c2⟩))
         (first | (go_at_call 36; (with_reducible refine (refabs_is5 (i := i) (s := s) (St.got (Lib.hid E.out.st) (A := A) (n := n) (c := c) (a := (i).natAbs) (by simp)) (by omega) (by omega) HIA.out).mono ?_); rintro e w8 ⟨A8, n8, c8, rfl, h8, hb8⟩; have b8 : n8 ≤ 12 := len_le h8 hIAL.out; replace E := Lib.hid (RZ.push E.out hb8 h8); clear h8 hb8) | (go_at_call 35; (with_reducible refine (refCmp5_is (i := Fk) (s := S) (j := ia) (t := s) (St.got (Lib.hid E.out.st) (A := As) (n := ns) (c := cs) (a := (Fk).natAbs) (by simp)) (St.got (Lib.hid E.out.st) (A := A8) (n := n8) (c := c8) (a := ia.natAbs) (by simp)) (by omega) (by omega) (by omega) (by omega) HZC.out).mono ?_); rintro e w9 ⟨rfl, hb9⟩; replace E := Lib.hid (RZ.step E.out hb9); clear hb9))
       replace E : Hid (RZ w w9 [(As, ns, cs, (Fk).natAbs), (A, n, c, (i).natAbs)] [(w4.heap.size, (.bool (ngB Fk)), (.slice As ns cs), (.int .i64 (S : Int))), (w.heap.size, (.bool (ngB i)), (.slice A n c), (.int .i64 (s : Int)))] g l g' l') := Lib.hid (E.out.sub (by simp) (by simp))
       clear htj hIAL
       rcases Nat.lt_or_ge t K with hltK | hgeK
       ·
         have hdt : decide (zc < 0) = true := by rw [DT.out, decide_eq_true hltK]
         have hz0 : zc < 0 := of_decide_eq_true hdt
         obtain ⟨gg, hgg⟩ : ∃ gg : Nat → Int, gg = curR (up (-1) 0 MM) (fun a => up (dr a).1 (dr a).2 MM) zs t := ⟨_, rfl⟩
         have HGG : Hid (∀ a, up (curD dr zs t a).1 (curD dr zs t a).2 MM = gg a) := fun a => by rw [hgg]; exact curD_up t
         have HTOP : Hid (am gg j = gd zs t) := by show _ = _; rw [hgg]; exact HAM.out t (by omega)
         have HAL : Hid (∀ q, q ≤ j → am gg q < j) := fun q hq => by
           rcases Nat.eq_zero_or_pos q with h0 | h0
           · subst h0; exact hm0
           · have := am_lt gg h0; omega
         have HM200 : Hid (120 ≤ MM) := hMM2
         clear hgg
         go_wp2_with fail
         rename_i K2 hK2 K1 hK1
         refine wp_loop_ghost (fun (R : Nat) (a : Act) (w' : World) => ∃ (q : Nat), q ≤ j ∧ R = j - q ∧ Fr 137 a [(1, .slice A1 j c1), (2, .int .i64 v), (3, .pointer (some ⟨w.heap.size, 0, none⟩)), (11, .slice (some ⟨g, 0, none⟩) j c4), (12, .slice (some ⟨g', 0, none⟩) j c5), (13, .pointer (some ⟨w4.heap.size, 0, none⟩)), (18, .int .i64 (t : Int)), (19, .int .i64 ((am gg q : Nat) : Int)), (86, .int .i64 (j : Int)), (87, .int .i64 (q : Int))] ∧ Hid (RZ w w' [(As, ns, cs, (Fk).natAbs), (A, n, c, (i).natAbs)] [(w4.heap.size, (.bool (ngB Fk)), (.slice As ns cs), (.int .i64 (S : Int))), (w.heap.size, (.bool (ngB i)), (.slice A n c), (.int .i64 (s : Int)))] g l g' l')) j ⟨0, Nat.zero_le _, rfl, ⟨rfl, rfl, by intro q hq; simp at hq; rcases hq with rfl | rfl | rfl | rfl | rfl | rfl | rfl | rfl | rfl | rfl <;> first | rfl | simp⟩, E⟩ ?_
         clear E hdt hz0 HZC DT
         rintro R4 a4 V4 ⟨q, hqj, rfl, ha, E⟩
         obtain ⟨us, rfl, hu⟩ := ha.listZ
         have eu1 : us 1 = .slice A1 j c1 := hu (1, .slice A1 j c1) (by simp)
         have eu2 : us 2 = .int .i64 v := hu (2, .int .i64 v) (by simp)
         have eu3 : us 3 = .pointer (some ⟨w.heap.size, 0, none⟩) := hu (3, .pointer (some ⟨w.heap.size, 0, none⟩)) (by simp)
         have eu11 : us 11 = .slice (some ⟨g, 0, none⟩) j c4 := hu (11, .slice (some ⟨g, 0, none⟩) j c4) (by simp)
         have eu12 : us 12 = .slice (some ⟨g', 0, none⟩) j c5 := hu (12, .slice (some ⟨g', 0, none⟩) j c5) (by simp)
         have eu13 : us 13 = .pointer (some ⟨w4.heap.size, 0, none⟩) := hu (13, .pointer (some ⟨w4.heap.size, 0, none⟩)) (by simp)
         have eu18 : us 18 = .int .i64 (t : Int) := hu (18, .int .i64 (t : Int)) (by simp)
         have eu19 : us 19 = .int .i64 ((am gg q : Nat) : Int) := hu (19, .int .i64 ((am gg q : Nat) : Int)) (by simp)
         have eu86 : us 86 = .int .i64 (j : Int) := hu (86, .int .i64 (j : Int)) (by simp)
         have eu87 : us 87 = .int .i64 (q : Int) := hu (87, .int .i64 (q : Int)) (by simp)
         rw [show (List.range 137).map us = [us 0, us 1, us 2, us 3, us 4, us 5, us 6, us 7, us 8, us 9, us 10, us 11, us 12, us 13, us 14, us 15, us 16, us 17, us 18, us 19, us 20, us 21, us 22, us 23, us 24, us 25, us 26, us 27, us 28, us 29, us 30, us 31, us 32, us 33, us 34, us 35, us 36, us 37, us 38, us 39, us 40, us 41, us 42, us 43, us 44, us 45, us 46, us 47, us 48, us 49, us 50, us 51, us 52, us 53, us 54, us 55, us 56, us 57, us 58, us 59, us 60, us 61, us 62, us 63, us 64, us 65, us 66, us 67, us 68, us 69, us 70, us 71, us 72, us 73, us 74, us 75, us 76, us 77, us 78, us 79, us 80, us 81, us 82, us 83, us 84, us 85, us 86, us 87, us 88, us 89, us 90, us 91, us 92, us 93, us 94, us 95, us 96, us 97, us 98, us 99, us 100, us 101, us 102, us 103, us 104, us 105, us 106, us 107, us 108, us 109, us 110, us 111, us 112, us 113, us 114, us 115, us 116, us 117, us 118, us 119, us 120, us 121, us 122, us 123, us 124, us 125, us 126, us 127, us 128, us 129, us 130, us 131, us 132, us 133, us 134, us 135, us 136] from rfl, eu1, eu2, eu3, eu11, eu12, eu13, eu18, eu19, eu86, eu87]
         clear hu ha eu1 eu2 eu3 eu11 eu12 eu13 eu18 eu19 eu86 eu87
         rcases Nat.lt_or_ge q j with hltq | hgeq
         ·
           obtain ⟨p0, hp0⟩ : ∃ p0, am gg q = p0 := ⟨_, rfl⟩
           have hpj : p0 < j := by rw [← hp0]; exact HAL.out q hqj
           rw [hp0]
           have HP0 := Lib.hid hp0
           have hql : q < l'.length := by rw [HLL2.out]; exact hltq
           have hpl : p0 < l'.length := by rw [HLL2.out]; exact hpj
           obtain ⟨iA, sA, hA1⟩ : ∃ iA sA, dOf l' q = (iA, sA) := ⟨_, _, rfl⟩
           obtain ⟨iB, sB, hB1⟩ : ∃ iB sB, dOf l' p0 = (iB, sB) := ⟨_, _, rfl⟩
           obtain ⟨AA, nA, cA, hA2⟩ : ∃ Ap np cp, pOf l' q = (Ap, np, cp) := ⟨_, _, _, rfl⟩
           obtain ⟨AB, nB, cB, hB2⟩ : ∃ Ap np cp, pOf l' p0 = (Ap, np, cp) := ⟨_, _, _, rfl⟩
           have eA := HDL2.out q hltq
           have eB := HDL2.out p0 hpj
           rw [hA1] at eA
           rw [hB1] at eB
           have bA := HCB.out t q hltq
           have bB := HCB.out t p0 hpj
           have gA := HGG.out q
           have gB := HGG.out p0
           rw [← eA] at bA gA
           rw [← eB] at bB gB
           simp only at bA bB gA gB
           have NA := E.out.num' q hql
           have NB := E.out.num' p0 hpl
           rw [hA1, hA2] at NA
           rw [hB1, hB2] at NB
           have hnA : nA ≤ 60000 := len_le NA bA.2
           have hnB : nB ≤ 60000 := len_le NB bB.2
           have hsA := bA.1
           have hsB := bB.1
           obtain ⟨zz, hzz⟩ : ∃ zz, cmpD iA sA iB sB = zz := ⟨_, rfl⟩
           have HZZ := Lib.hid hzz
           obtain ⟨b4, hb4⟩ : ∃ b4, decide (gg p0 < gg q) = b4 := ⟨_, rfl⟩
           have DB : Hid (decide (0 < zz) = b4) := by
             show _ = _
             have hM2 := HM200.out
             rw [← hzz, cmp_over (M := MM) (by omega) (by omega), gA, gB, hb4]
           have HB4 := Lib.hid hb4
           have CA : Hid (∀ v, RowQ v g' l' → Cel v g' (0 + q * 3) (.bool (ngB iA)) (.slice AA nA cA) (.int .i64 (sA : Int))) := fun v h => h.celY hql hA1 hA2
           have CB : Hid (∀ v, RowQ v g' l' → Cel v g' (0 + p0 * 3) (.bool (ngB iB)) (.slice AB nB cB) (.int .i64 (sB : Int))) := fun v h => h.celY hpl hB1 hB2
           replace E := Lib.hid ((E.out.push (Below.refl _ _) NB).push (Below.refl _ _) NA)
           clear hA1 hB1 hA2 hB2 eA eB bA bB gA gB NA NB hzz hb4 hp0
           go_wp2_with fail
           rename_i KB hKB
           replace E := Lib.hid (E.out.step (Below.refl _ _).drew)
           refine line_start (ops := opsAt Tryz.prog 7 26) (S := SR [] g' l') (by kernel_rfl) (by kernel_rfl) ((show SR [] g' l' _ from ⟨fun q hq => absurd hq List.not_mem_nil, E.out.row'⟩)) ?_
           have hSw := (show SR [] g' l' _ from ⟨fun q hq => absurd hq List.not_mem_nil, E.out.row'⟩)
           generalize hA : Act.mk _ _ = a
           have ha : Fr 137 a [(1, .slice A1 j c1), (2, .int .i64 v), (3, .pointer (some ⟨w.heap.size, 0, none⟩)), (11, .slice (some ⟨g, 0, none⟩) j c4), (12, .slice (some ⟨g', 0, none⟩) j c5), (13, .pointer (some ⟨w4.heap.size, 0, none⟩)), (18, .int .i64 (t : Int)), (19, .int .i64 (p0 : Int)), (86, .int .i64 (j : Int)), (87, .int .i64 (q : Int)), (20, .int .i64 (q : Int))] := by rw [← hA]; exact ⟨rfl, rfl, by intro q hq; simp at hq; rcases hq with rfl | rfl | rfl | rfl | rfl | rfl | rfl | rfl | rfl | rfl | rfl <;> rfl⟩
           clear hA
           refine line_still rfBR 0 0 [] 90 (.slice (some ⟨g', 0, none⟩) j c5) [(1, .slice A1 j c1), (2, .int .i64 v), (3, .pointer (some ⟨w.heap.size, 0, none⟩)), (11, .slice (some ⟨g, 0, none⟩) j c4), (12, .slice (some ⟨g', 0, none⟩) j c5), (13, .pointer (some ⟨w4.heap.size, 0, none⟩)), (18, .int .i64 (t : Int)), (19, .int .i64 (p0 : Int)), (86, .int .i64 (j : Int)), (87, .int .i64 (q : Int)), (20, .int .i64 (q : Int))] rfl (by decide) (by decide) (by decide) ha (fun o ho hg => y_of (wanted_none hg) (fun wx hS => e_move (.inl ho) (ha.ev (i := 12) (v := .slice (some ⟨g', 0, none⟩) j c5) (by simp)))) (by simp) hSw ?_; intro a ha
           refine line_still rfBR 1 1 [] 91 (.int .i64 (q : Int)) [(90, .slice (some ⟨g', 0, none⟩) j c5), (1, .slice A1 j c1), (2, .int .i64 v), (3, .pointer (some ⟨w.heap.size, 0, none⟩)), (11, .slice (some ⟨g, 0, none⟩) j c4), (12, .slice (some ⟨g', 0, none⟩) j c5), (13, .pointer (some ⟨w4.heap.size, 0, none⟩)), (18, .int .i64 (t : Int)), (19, .int .i64 (p0 : Int)), (86, .int .i64 (j : Int)), (87, .int .i64 (q : Int)), (20, .int .i64 (q : Int))] rfl (by decide) (by decide) (by decide) ha (fun o ho hg => y_of (wanted_none hg) (fun wx hS => e_move (.inl ho) (ha.ev (i := 20) (v := .int .i64 (q : Int)) (by simp)))) (by simp) hSw ?_; intro a ha
           refine line_still rfBR 2 2 [] 92 (.pointer (some ⟨g', 0 + q * 3, none⟩)) [(1, .slice A1 j c1), (2, .int .i64 v), (3, .pointer (some ⟨w.heap.size, 0, none⟩)), (11, .slice (some ⟨g, 0, none⟩) j c4), (12, .slice (some ⟨g', 0, none⟩) j c5), (13, .pointer (some ⟨w4.heap.size, 0, none⟩)), (18, .int .i64 (t : Int)), (19, .int .i64 (p0 : Int)), (86, .int .i64 (j : Int)), (87, .int .i64 (q : Int)), (20, .int .i64 (q : Int))] rfl (by decide) (by decide) (by decide) ha (fun o ho hg => y_of (wanted_none hg) (fun wx hS => e_idxZ hltq hmc2 HMC2.out ho (ha.ev (i := 90) (v := .slice (some ⟨g', 0, none⟩) j c5) (by simp)) (ha.ev (i := 91) (v := .int .i64 (q : Int)) (by simp)))) (by simp) hSw ?_; intro a ha
           refine line_still rfBR 3 3 [] 93 (.agg #[(.bool (ngB iA)), (.slice AA nA cA), (.int .i64 (sA : Int))]) [(1, .slice A1 j c1), (2, .int .i64 v), (3, .pointer (some ⟨w.heap.size, 0, none⟩)), (11, .slice (some ⟨g, 0, none⟩) j c4), (12, .slice (some ⟨g', 0, none⟩) j c5), (13, .pointer (some ⟨w4.heap.size, 0, none⟩)), (18, .int .i64 (t : Int)), (19, .int .i64 (p0 : Int)), (86, .int .i64 (j : Int)), (87, .int .i64 (q : Int)), (20, .int .i64 (q : Int))] rfl (by decide) (by decide) (by decide) ha (fun o ho hg => y_of (wanted_none hg) (fun wx hS => e_loadZ ho (ha.ev (i := 92) (v := .pointer (some ⟨g', 0 + q * 3, none⟩)) (by simp)) (CA.out _ hS.2))) (by simp) hSw ?_; intro a ha
           refine line_still rfBR 4 4 [] 94 (.slice (some ⟨g', 0, none⟩) j c5) [(93, .agg #[(.bool (ngB iA)), (.slice AA nA cA), (.int .i64 (sA : Int))]), (1, .slice A1 j c1), (2, .int .i64 v), (3, .pointer (some ⟨w.heap.size, 0, none⟩)), (11, .slice (some ⟨g, 0, none⟩) j c4), (12, .slice (some ⟨g', 0, none⟩) j c5), (13, .pointer (some ⟨w4.heap.size, 0, none⟩)), (18, .int .i64 (t : Int)), (19, .int .i64 (p0 : Int)), (86, .int .i64 (j : Int)), (87, .int .i64 (q : Int)), (20, .int .i64 (q : Int))] rfl (by decide) (by decide) (by decide) ha (fun o ho hg => y_of (wanted_none hg) (fun wx hS => e_move (.inl ho) (ha.ev (i := 12) (v := .slice (some ⟨g', 0, none⟩) j c5) (by simp)))) (by simp) hSw ?_; intro a ha
           refine line_still rfBR 5 5 [] 95 (.int .i64 (p0 : Int)) [(94, .slice (some ⟨g', 0, none⟩) j c5), (93, .agg #[(.bool (ngB iA)), (.slice AA nA cA), (.int .i64 (sA : Int))]), (1, .slice A1 j c1), (2, .int .i64 v), (3, .pointer (some ⟨w.heap.size, 0, none⟩)), (11, .slice (some ⟨g, 0, none⟩) j c4), (12, .slice (some ⟨g', 0, none⟩) j c5), (13, .pointer (some ⟨w4.heap.size, 0, none⟩)), (18, .int .i64 (t : Int)), (19, .int .i64 (p0 : Int)), (86, .int .i64 (j : Int)), (87, .int .i64 (q : Int)), (20, .int .i64 (q : Int))] rfl (by decide) (by decide) (by decide) ha (fun o ho hg => y_of (wanted_none hg) (fun wx hS => e_move (.inl ho) (ha.ev (i := 19) (v := .int .i64 (p0 : Int)) (by simp)))) (by simp) hSw ?_; intro a ha
           refine line_still rfBR 6 6 [] 96 (.pointer (some ⟨g', 0 + p0 * 3, none⟩)) [(93, .agg #[(.bool (ngB iA)), (.slice AA nA cA), (.int .i64 (sA : Int))]), (1, .slice A1 j c1), (2, .int .i64 v), (3, .pointer (some ⟨w.heap.size, 0, none⟩)), (11, .slice (some ⟨g, 0, none⟩) j c4), (12, .slice (some ⟨g', 0, none⟩) j c5), (13, .pointer (some ⟨w4.heap.size, 0, none⟩)), (18, .int .i64 (t : Int)), (19, .int .i64 (p0 : Int)), (86, .int .i64 (j : Int)), (87, .int .i64 (q : Int)), (20, .int .i64 (q : Int))] rfl (by decide) (by decide) (by decide) ha (fun o ho hg => y_of (wanted_none hg) (fun wx hS => e_idxZ hpj hmc2 HMC2.out ho (ha.ev (i := 94) (v := .slice (some ⟨g', 0, none⟩) j c5) (by simp)) (ha.ev (i := 95) (v := .int .i64 (p0 : Int)) (by simp)))) (by simp) hSw ?_; intro a ha
           refine line_still rfBR 7 7 [] 97 (.agg #[(.bool (ngB iB)), (.slice AB nB cB), (.int .i64 (sB : Int))]) [(93, .agg #[(.bool (ngB iA)), (.slice AA nA cA), (.int .i64 (sA : Int))]), (1, .slice A1 j c1), (2, .int .i64 v), (3, .pointer (some ⟨w.heap.size, 0, none⟩)), (11, .slice (some ⟨g, 0, none⟩) j c4), (12, .slice (some ⟨g', 0, none⟩) j c5), (13, .pointer (some ⟨w4.heap.size, 0, none⟩)), (18, .int .i64 (t : Int)), (19, .int .i64 (p0 : Int)), (86, .int .i64 (j : Int)), (87, .int .i64 (q : Int)), (20, .int .i64 (q : Int))] rfl (by decide) (by decide) (by decide) ha (fun o ho hg => y_of (wanted_none hg) (fun wx hS => e_loadZ ho (ha.ev (i := 96) (v := .pointer (some ⟨g', 0 + p0 * 3, none⟩)) (by simp)) (CB.out _ hS.2))) (by simp) hSw ?_; intro a ha
           refine line_call rfBR 8 8 [] 98 (args := #[.agg #[(.bool (ngB iA)), (.slice AA nA cA), (.int .i64 (sA : Int))], .agg #[(.bool (ngB iB)), (.slice AB nB cB), (.int .i64 (sB : Int))]]) [(1, .slice A1 j c1), (2, .int .i64 v), (3, .pointer (some ⟨w.heap.size, 0, none⟩)), (11, .slice (some ⟨g, 0, none⟩) j c4), (12, .slice (some ⟨g', 0, none⟩) j c5), (13, .pointer (some ⟨w4.heap.size, 0, none⟩)), (18, .int .i64 (t : Int)), (19, .int .i64 (p0 : Int)), (86, .int .i64 (j : Int)), (87, .int .i64 (q : Int)), (20, .int .i64 (q : Int))] rfl (by decide) (by decide) (by decide) ha (fun o ho hg => ⟨(wanted_none hg), e_call (by kernel_rfl) ho rfl (by have q0 := ha.ev (i := 93) (v := .agg #[(.bool (ngB iA)), (.slice AA nA cA), (.int .i64 (sA : Int))]) (by simp); have q1 := ha.ev (i := 97) (v := .agg #[(.bool (ngB iB)), (.slice AB nB cB), (.int .i64 (sB : Int))]) (by simp); simp only [List.map_toArray, List.map_cons, List.map_nil, ev_const, q0, q1])⟩) (by simp) ?_
           refine (refCmp5_is (i := iA) (s := sA) (j := iB) (t := sB) (St.got (Lib.hid E.out.st) (A := AA) (n := nA) (c := cA) (a := (iA).natAbs) (by simp)) (St.got (Lib.hid E.out.st) (A := AB) (n := nB) (c := cB) (a := (iB).natAbs) (by simp)) (by omega) (by omega) (by omega) (by omega) HZZ.out).mono ?_; rintro e w81 ⟨rfl, hb⟩
           replace E := Lib.hid (RZ.step E.out hb)
           clear hb
           have hSw := (show SR [] g' l' _ from ⟨fun q hq => absurd hq List.not_mem_nil, E.out.row'⟩); refine ⟨_, rfl, hSw, ?_⟩; intro a ha
           refine line_still rfBR 9 9 [] 99 (.bool b4) [(1, .slice A1 j c1), (2, .int .i64 v), (3, .pointer (some ⟨w.heap.size, 0, none⟩)), (11, .slice (some ⟨g, 0, none⟩) j c4), (12, .slice (some ⟨g', 0, none⟩) j c5), (13, .pointer (some ⟨w4.heap.size, 0, none⟩)), (18, .int .i64 (t : Int)), (19, .int .i64 (p0 : Int)), (86, .int .i64 (j : Int)), (87, .int .i64 (q : Int)), (20, .int .i64 (q : Int))] rfl (by decide) (by decide) (by decide) ha (fun o ho hg => y_of (wanted_none hg) (fun wx hS => (e_gtr ho (ha.ev (i := 98) (v := .int .i64 zz) (by simp)) rfl).trans (by rw [DB.out]))) (by simp) hSw ?_; intro a ha
           refine line_end rfBR rfl ?_
           simp only [Exit.inBlock, Exit.then]
           refine hKB _ _ ?_
           clear hKB
           replace E := Lib.hid (E.out.sub (ns' := [(As, ns, cs, (Fk).natAbs), (A, n, c, (i).natAbs)]) (bs' := [(w4.heap.size, (.bool (ngB Fk)), (.slice As ns cs), (.int .i64 (S : Int))), (w.heap.size, (.bool (ngB i)), (.slice A n c), (.int .i64 (s : Int)))]) (by simp) (by simp))
           obtain ⟨us, rfl, hu⟩ := ha.listZ
           have eu1 : us 1 = .slice A1 j c1 := hu (1, .slice A1 j c1) (by simp)
           have eu2 : us 2 = .int .i64 v := hu (2, .int .i64 v) (by simp)
           have eu3 : us 3 = .pointer (some ⟨w.heap.size, 0, none⟩) := hu (3, .pointer (some ⟨w.heap.size, 0, none⟩)) (by simp)
           have eu11 : us 11 = .slice (some ⟨g, 0, none⟩) j c4 := hu (11, .slice (some ⟨g, 0, none⟩) j c4) (by simp)
           have eu12 : us 12 = .slice (some ⟨g', 0, none⟩) j c5 := hu (12, .slice (some ⟨g', 0, none⟩) j c5) (by simp)
           have eu13 : us 13 = .pointer (some ⟨w4.heap.size, 0, none⟩) := hu (13, .pointer (some ⟨w4.heap.size, 0, none⟩)) (by simp)
           have eu18 : us 18 = .int .i64 (t : Int) := hu (18, .int .i64 (t : Int)) (by simp)
           have eu19 : us 19 = .int .i64 (p0 : Int) := hu (19, .int .i64 (p0 : Int)) (by simp)
           have eu86 : us 86 = .int .i64 (j : Int) := hu (86, .int .i64 (j : Int)) (by simp)
           have eu87 : us 87 = .int .i64 (q : Int) := hu (87, .int .i64 (q : Int)) (by simp)
           have eu20 : us 20 = .int .i64 (q : Int) := hu (20, .int .i64 (q : Int)) (by simp)
           have eu99 : us 99 = .bool b4 := hu (99, .bool b4) (by simp)
           rw [show (List.range 137).map us = [us 0, us 1, us 2, us 3, us 4, us 5, us 6, us 7, us 8, us 9, us 10, us 11, us 12, us 13, us 14, us 15, us 16, us 17, us 18, us 19, us 20, us 21, us 22, us 23, us 24, us 25, us 26, us 27, us 28, us 29, us 30, us 31, us 32, us 33, us 34, us 35, us 36, us 37, us 38, us 39, us 40, us 41, us 42, us 43, us 44, us 45, us 46, us 47, us 48, us 49, us 50, us 51, us 52, us 53, us 54, us 55, us 56, us 57, us 58, us 59, us 60, us 61, us 62, us 63, us 64, us 65, us 66, us 67, us 68, us 69, us 70, us 71, us 72, us 73, us 74, us 75, us 76, us 77, us 78, us 79, us 80, us 81, us 82, us 83, us 84, us 85, us 86, us 87, us 88, us 89, us 90, us 91, us 92, us 93, us 94, us 95, us 96, us 97, us 98, us 99, us 100, us 101, us 102, us 103, us 104, us 105, us 106, us 107, us 108, us 109, us 110, us 111, us 112, us 113, us 114, us 115, us 116, us 117, us 118, us 119, us 120, us 121, us 122, us 123, us 124, us 125, us 126, us 127, us 128, us 129, us 130, us 131, us 132, us 133, us 134, us 135, us 136] from rfl, eu1, eu2, eu3, eu11, eu12, eu13, eu18, eu19, eu86, eu87, eu20, eu99]
           clear hu ha eu1 eu2 eu3 eu11 eu12 eu13 eu18 eu19 eu86 eu87 eu20 eu99
           cases b4 with
           | true =>
             go_wp2_with fail
             refine ⟨j - (q + 1), by omega, q + 1, by omega, rfl, ?_, E⟩
             have e : am gg (q + 1) = q := by show (if gg (am gg q) < gg q then q else am gg q) = q; rw [HP0.out, if_pos (of_decide_eq_true HB4.out)]
             rw [e]
             exact ⟨rfl, rfl, by intro q hq; simp at hq; rcases hq with rfl | rfl | rfl | rfl | rfl | rfl | rfl | rfl | rfl | rfl <;> first | rfl | simp⟩
           | false =>
             go_wp2_with fail
             refine ⟨j - (q + 1), by omega, q + 1, by omega, rfl, ?_, E⟩
             have e : am gg (q + 1) = p0 := by show (if gg (am gg q) < gg q then q else am gg q) = p0; rw [HP0.out, if_neg (of_decide_eq_false HB4.out)]
             rw [e]
             exact ⟨rfl, rfl, by intro q hq; simp at hq; rcases hq with rfl | rfl | rfl | rfl | rfl | rfl | rfl | rfl | rfl | rfl <;> first | rfl | simp⟩
         ·
           obtain rfl : q = j := by omega
           rw [HTOP.out]
           obtain ⟨p1, hp1⟩ : ∃ p1, gd zs t = p1 := ⟨_, rfl⟩
           have hpj : p1 < q := by rw [← hp1]; exact LF.out.1.1 t (by omega)
           rw [hp1]
           have HP1 := Lib.hid hp1
           have hpl : p1 < l.length := by rw [HLL.out]; exact hpj
           have hpl2 : p1 < l'.length := by rw [HLL2.out]; exact hpj
           obtain ⟨x, hx⟩ : ∃ x, shareN z d q zs t p1 = x := ⟨_, rfl⟩
           have DX : dOf l p1 = ((x : Int), S) := by rw [HDL.out p1 hpj, hx]
           obtain ⟨Ap, np, cp, PX⟩ : ∃ Ap np cp, pOf l p1 = (Ap, np, cp) := ⟨_, _, _, rfl⟩
           have NX := E.out.num p1 hpl
           rw [DX, PX] at NX
           have hxz : x ≤ z := by rw [← hx]; exact share_le LF.out (by omega) hpj
           have hxL : (dg ((x : Int), S).1.natAbs).length ≤ 300 := by rw [Int.natAbs_natCast]; exact Nat.le_trans (dg_len_mono hxz) HZL.out
           have hnp : np ≤ 300 := len_le NX hxL
           have HXX := Lib.hid hx
           have CX : Hid (∀ v, RowQ v g l → Cel v g (0 + p1 * 3) (.bool (ngB (x : Int))) (.slice Ap np cp) (.int .i64 (S : Int))) := fun v h => h.celY hpl DX PX
           obtain ⟨X1, hX1⟩ : ∃ X1 : Int, X1 = ((x + 1 : Nat) : Int) := ⟨_, rfl⟩
           obtain ⟨F1, hF1⟩ : ∃ F1 : Int, F1 = ((F0 + (t + 1) : Nat) : Int) := ⟨_, rfl⟩
           have FX : Hid (addZ (x : Int) S 1 S = X1) := by show _ = _; rw [hX1]; exact add_unit
           have FS : Hid (addZ Fk S 1 S = F1) := by show _ = _; rw [← HFk.out, hF1]; exact add_unit
           have FM : Hid (max S S = S) := Nat.max_self S
           have O1 : Hid ((dg (1 : Int).natAbs).length ≤ 1) := (by show _ ≤ _; exact dg_len_le (by decide))
           have HX1 := Lib.hid hX1
           have HF1 := Lib.hid hF1
           replace E := Lib.hid (E.out.push (Below.refl _ _) NX)
           clear DX PX NX hx hX1 hF1 hxL hp1
           go_wp2_with fail
           rename_i KB hKB
           replace E := Lib.hid (E.out.step (Below.refl _ _).drew)
           refine wp_cut (fun a' w' => ∃ (Ax : Option Addr) (nx cx : Nat) (Az : Option Addr) (nz cz : Nat), Fr 137 a' [(1, .slice A1 q c1), (2, .int .i64 v), (3, .pointer (some ⟨w.heap.size, 0, none⟩)), (11, .slice (some ⟨g, 0, none⟩) q c4), (12, .slice (some ⟨g', 0, none⟩) q c5), (13, .pointer (some ⟨w4.heap.size, 0, none⟩)), (18, .int .i64 (t : Int))] ∧ Hid (RZ w w' [(As, ns, cs, (Fk).natAbs), (A, n, c, (i).natAbs)] [(w4.heap.size, (.bool (ngB Fk)), (.slice As ns cs), (.int .i64 (S : Int))), (w.heap.size, (.bool (ngB i)), (.slice A n c), (.int .i64 (s : Int)))] g (l.set p1 ((X1, S), (Ax, nx, cx))) g' (l'.set p1 ((-1, 0), (Az, nz, cz))))) ?_ ?_
           ·
             refine line_start (ops := opsAt Tryz.prog 7 29) (S := SB [(w4.heap.size, (.bool (ngB Fk)), (.slice As ns cs), (.int .i64 (S : Int))), (w.heap.size, (.bool (ngB i)), (.slice A n c), (.int .i64 (s : Int)))]) (by kernel_rfl) (by kernel_rfl) (St.sbOf (Lib.hid E.out.st) (by simp)) ?_
             generalize V4.drew = v0 at E ⊢
             have hSw := St.sbOf (bs' := [(w4.heap.size, (.bool (ngB Fk)), (.slice As ns cs), (.int .i64 (S : Int))), (w.heap.size, (.bool (ngB i)), (.slice A n c), (.int .i64 (s : Int)))]) (Lib.hid E.out.st) (by simp)
             generalize hA : Act.mk _ _ = a
             have ha : Fr 137 a [(1, .slice A1 q c1), (2, .int .i64 v), (3, .pointer (some ⟨w.heap.size, 0, none⟩)), (11, .slice (some ⟨g, 0, none⟩) q c4), (12, .slice (some ⟨g', 0, none⟩) q c5), (13, .pointer (some ⟨w4.heap.size, 0, none⟩)), (18, .int .i64 (t : Int)), (19, .int .i64 (p1 : Int))] := by rw [← hA]; exact ⟨rfl, rfl, by intro q hq; simp at hq; rcases hq with rfl | rfl | rfl | rfl | rfl | rfl | rfl | rfl <;> rfl⟩
             clear hA
             refine line_ahead rfCR 0 0 [] 0 102 (.slice (some ⟨g, 0, none⟩) q c4) [(1, .slice A1 q c1), (2, .int .i64 v), (3, .pointer (some ⟨w.heap.size, 0, none⟩)), (11, .slice (some ⟨g, 0, none⟩) q c4), (12, .slice (some ⟨g', 0, none⟩) q c5), (13, .pointer (some ⟨w4.heap.size, 0, none⟩)), (18, .int .i64 (t : Int)), (19, .int .i64 (p1 : Int))] rfl (by decide) (by decide) (by decide) ha (fun o ho hg => y_of (wanted_none hg) (fun wx hS => e_move (.inl ho) (ha.ev (i := 11) (v := .slice (some ⟨g, 0, none⟩) q c4) (by simp)))) (by simp) hSw ?_; intro a ha
             refine line_ahead rfCR 1 0 [0] 1 103 (.int .i64 (p1 : Int)) [(102, .slice (some ⟨g, 0, none⟩) q c4), (1, .slice A1 q c1), (2, .int .i64 v), (3, .pointer (some ⟨w.heap.size, 0, none⟩)), (11, .slice (some ⟨g, 0, none⟩) q c4), (12, .slice (some ⟨g', 0, none⟩) q c5), (13, .pointer (some ⟨w4.heap.size, 0, none⟩)), (18, .int .i64 (t : Int)), (19, .int .i64 (p1 : Int))] rfl (by decide) (by decide) (by decide) ha (fun o ho hg => y_of (wanted_none hg) (fun wx hS => e_move (.inl ho) (ha.ev (i := 19) (v := .int .i64 (p1 : Int)) (by simp)))) (by simp) hSw ?_; intro a ha
             refine line_ahead rfCR 2 0 [1, 0] 2 104 (.slice (some ⟨g', 0, none⟩) q c5) [(103, .int .i64 (p1 : Int)), (102, .slice (some ⟨g, 0, none⟩) q c4), (1, .slice A1 q c1), (2, .int .i64 v), (3, .pointer (some ⟨w.heap.size, 0, none⟩)), (11, .slice (some ⟨g, 0, none⟩) q c4), (12, .slice (some ⟨g', 0, none⟩) q c5), (13, .pointer (some ⟨w4.heap.size, 0, none⟩)), (18, .int .i64 (t : Int)), (19, .int .i64 (p1 : Int))] rfl (by decide) (by decide) (by decide) ha (fun o ho hg => y_of (wanted_none hg) (fun wx hS => e_move (.inl ho) (ha.ev (i := 12) (v := .slice (some ⟨g', 0, none⟩) q c5) (by simp)))) (by simp) hSw ?_; intro a ha
             refine line_ahead rfCR 3 0 [2, 1, 0] 3 105 (.int .i64 (p1 : Int)) [(104, .slice (some ⟨g', 0, none⟩) q c5), (103, .int .i64 (p1 : Int)), (102, .slice (some ⟨g, 0, none⟩) q c4), (1, .slice A1 q c1), (2, .int .i64 v), (3, .pointer (some ⟨w.heap.size, 0, none⟩)), (11, .slice (some ⟨g, 0, none⟩) q c4), (12, .slice (some ⟨g', 0, none⟩) q c5), (13, .pointer (some ⟨w4.heap.size, 0, none⟩)), (18, .int .i64 (t : Int)), (19, .int .i64 (p1 : Int))] rfl (by decide) (by decide) (by decide) ha (fun o ho hg => y_of (wanted_none hg) (fun wx hS => e_move (.inl ho) (ha.ev (i := 19) (v := .int .i64 (p1 : Int)) (by simp)))) (by simp) hSw ?_; intro a ha
             refine line_ahead rfCR 4 0 [3, 2, 1, 0] 4 106 (.slice (some ⟨g, 0, none⟩) q c4) [(105, .int .i64 (p1 : Int)), (104, .slice (some ⟨g', 0, none⟩) q c5), (103, .int .i64 (p1 : Int)), (102, .slice (some ⟨g, 0, none⟩) q c4), (1, .slice A1 q c1), (2, .int .i64 v), (3, .pointer (some ⟨w.heap.size, 0, none⟩)), (11, .slice (some ⟨g, 0, none⟩) q c4), (12, .slice (some ⟨g', 0, none⟩) q c5), (13, .pointer (some ⟨w4.heap.size, 0, none⟩)), (18, .int .i64 (t : Int)), (19, .int .i64 (p1 : Int))] rfl (by decide) (by decide) (by decide) ha (fun o ho hg => y_of (wanted_none hg) (fun wx hS => e_move (.inl ho) (ha.ev (i := 11) (v := .slice (some ⟨g, 0, none⟩) q c4) (by simp)))) (by simp) hSw ?_; intro a ha
             refine line_ahead rfCR 5 0 [4, 3, 2, 1, 0] 5 107 (.int .i64 (p1 : Int)) [(106, .slice (some ⟨g, 0, none⟩) q c4), (105, .int .i64 (p1 : Int)), (104, .slice (some ⟨g', 0, none⟩) q c5), (103, .int .i64 (p1 : Int)), (102, .slice (some ⟨g, 0, none⟩) q c4), (1, .slice A1 q c1), (2, .int .i64 v), (3, .pointer (some ⟨w.heap.size, 0, none⟩)), (11, .slice (some ⟨g, 0, none⟩) q c4), (12, .slice (some ⟨g', 0, none⟩) q c5), (13, .pointer (some ⟨w4.heap.size, 0, none⟩)), (18, .int .i64 (t : Int))] rfl (by decide) (by decide) (by decide) ha (fun o ho hg => y_of (wanted_none hg) (fun wx hS => e_move (.inl ho) (ha.ev (i := 19) (v := .int .i64 (p1 : Int)) (by simp)))) (by simp) hSw ?_; intro a ha
             refine line_ahead rfCR 6 0 [5, 4, 3, 2, 1, 0] 6 108 (.pointer (some ⟨g, 0 + p1 * 3, none⟩)) [(105, .int .i64 (p1 : Int)), (104, .slice (some ⟨g', 0, none⟩) q c5), (103, .int .i64 (p1 : Int)), (102, .slice (some ⟨g, 0, none⟩) q c4), (1, .slice A1 q c1), (2, .int .i64 v), (3, .pointer (some ⟨w.heap.size, 0, none⟩)), (11, .slice (some ⟨g, 0, none⟩) q c4), (12, .slice (some ⟨g', 0, none⟩) q c5), (13, .pointer (some ⟨w4.heap.size, 0, none⟩)), (18, .int .i64 (t : Int))] rfl (by decide) (by decide) (by decide) ha (fun o ho hg => y_of (wanted_none hg) (fun wx hS => e_idxZ hpj hmc HMC.out ho (ha.ev (i := 106) (v := .slice (some ⟨g, 0, none⟩) q c4) (by simp)) (ha.ev (i := 107) (v := .int .i64 (p1 : Int)) (by simp)))) (by simp) hSw ?_; intro a ha
             refine line_ahead rfCR 7 0 [6, 5, 4, 3, 2, 1, 0] 8 110 (.int .i64 v) [(108, .pointer (some ⟨g, 0 + p1 * 3, none⟩)), (105, .int .i64 (p1 : Int)), (104, .slice (some ⟨g', 0, none⟩) q c5), (103, .int .i64 (p1 : Int)), (102, .slice (some ⟨g, 0, none⟩) q c4), (1, .slice A1 q c1), (2, .int .i64 v), (3, .pointer (some ⟨w.heap.size, 0, none⟩)), (11, .slice (some ⟨g, 0, none⟩) q c4), (12, .slice (some ⟨g', 0, none⟩) q c5), (13, .pointer (some ⟨w4.heap.size, 0, none⟩)), (18, .int .i64 (t : Int))] rfl (by decide) (by decide) (by decide) ha (fun o ho hg => y_of (wanted_none hg) (fun wx hS => e_move (.inl ho) (ha.ev (i := 2) (v := .int .i64 v) (by simp)))) (by simp) hSw ?_; intro a ha
             refine line_all rfCR 8 0 [8, 6, 5, 4, 3, 2, 1, 0] [7, 9] (by decide) (rfCB _ (by decide)) (by simp) ?_
             intro j hj; simp only [List.mem_cons, List.not_mem_nil, or_false] at hj
             rcases hj with rfl | rfl
             ·
               refine turn_op rfCR 8 0 [8, 6, 5, 4, 3, 2, 1, 0] 7 109 (v := .agg #[(.bool (ngB (x : Int))), (.slice Ap np cp), (.int .i64 (S : Int))]) (w' := v0) [(110, .int .i64 v), (105, .int .i64 (p1 : Int)), (104, .slice (some ⟨g', 0, none⟩) q c5), (103, .int .i64 (p1 : Int)), (102, .slice (some ⟨g, 0, none⟩) q c4), (1, .slice A1 q c1), (2, .int .i64 v), (3, .pointer (some ⟨w.heap.size, 0, none⟩)), (11, .slice (some ⟨g, 0, none⟩) q c4), (12, .slice (some ⟨g', 0, none⟩) q c5), (13, .pointer (some ⟨w4.heap.size, 0, none⟩)), (18, .int .i64 (t : Int))] rfl (by decide) ha (fun o ho hg => ⟨(wanted_none hg), e_loadZ ho (ha.ev (i := 108) (v := .pointer (some ⟨g, 0 + p1 * 3, none⟩)) (by simp)) (CX.out _ E.out.row)⟩) (by simp) hSw ?_; intro a ha
               refine line_all rfCR 9 0 [7, 8, 6, 5, 4, 3, 2, 1, 0] [9] (by decide) (rfCB _ (by decide)) (by simp) ?_
               intro j hj; simp only [List.mem_cons, List.not_mem_nil, or_false] at hj
               subst hj
               refine turn_call rfCR 9 0 [7, 8, 6, 5, 4, 3, 2, 1, 0] 9 111 (args := #[.int .i64 v]) [(109, .agg #[(.bool (ngB (x : Int))), (.slice Ap np cp), (.int .i64 (S : Int))]), (105, .int .i64 (p1 : Int)), (104, .slice (some ⟨g', 0, none⟩) q c5), (103, .int .i64 (p1 : Int)), (102, .slice (some ⟨g, 0, none⟩) q c4), (1, .slice A1 q c1), (2, .int .i64 v), (3, .pointer (some ⟨w.heap.size, 0, none⟩)), (11, .slice (some ⟨g, 0, none⟩) q c4), (12, .slice (some ⟨g', 0, none⟩) q c5), (13, .pointer (some ⟨w4.heap.size, 0, none⟩)), (18, .int .i64 (t : Int))] rfl (by decide) ha (fun o ho hg => ⟨(wanted_none hg), e_call (by kernel_rfl) ho rfl (by have q0 := ha.ev (i := 110) (v := .int .i64 v) (by simp); simp only [List.map_toArray, List.map_cons, List.map_nil, ev_const, q0])⟩) (by simp) ?_
               refine (refunit_is (S := S) _ HV.out (by omega)).mono ?_; rintro e v2 ⟨X2, m2, d2, rfl, h, hb⟩
               have q2 : m2 ≤ 1 := len_le h O1.out
               replace E := Lib.hid (RZ.push E.out hb h)
               clear h hb
               have hSw := St.sbOf (bs' := [(w4.heap.size, (.bool (ngB Fk)), (.slice As ns cs), (.int .i64 (S : Int))), (w.heap.size, (.bool (ngB i)), (.slice A n c), (.int .i64 (s : Int)))]) (Lib.hid E.out.st) (by simp); refine ⟨_, rfl, hSw, ?_⟩; intro a ha
               refine line_all rfCR 10 0 [9, 7, 8, 6, 5, 4, 3, 2, 1, 0] [10] (by decide) (rfCB _ (by decide)) (by simp) ?_
               intro j hj; simp only [List.mem_cons, List.not_mem_nil, or_false] at hj
               subst hj
               refine turn_call rfCR 10 0 [9, 7, 8, 6, 5, 4, 3, 2, 1, 0] 10 112 (args := #[.agg #[(.bool (ngB (x : Int))), (.slice Ap np cp), (.int .i64 (S : Int))], .agg #[.bool (ngB (1 : Int)), .slice X2 m2 d2, .int .i64 (S : Int)]]) [(105, .int .i64 (p1 : Int)), (104, .slice (some ⟨g', 0, none⟩) q c5), (103, .int .i64 (p1 : Int)), (102, .slice (some ⟨g, 0, none⟩) q c4), (1, .slice A1 q c1), (2, .int .i64 v), (3, .pointer (some ⟨w.heap.size, 0, none⟩)), (11, .slice (some ⟨g, 0, none⟩) q c4), (12, .slice (some ⟨g', 0, none⟩) q c5), (13, .pointer (some ⟨w4.heap.size, 0, none⟩)), (18, .int .i64 (t : Int))] rfl (by decide) ha (fun o ho hg => ⟨(wanted_none hg), e_call (by kernel_rfl) ho rfl (by have q0 := ha.ev (i := 109) (v := .agg #[(.bool (ngB (x : Int))), (.slice Ap np cp), (.int .i64 (S : Int))]) (by simp); have q1 := ha.ev (i := 111) (v := .agg #[.bool (ngB (1 : Int)), .slice X2 m2 d2, .int .i64 (S : Int)]) (by simp); simp only [List.map_toArray, List.map_cons, List.map_nil, ev_const, q0, q1])⟩) (by simp) ?_
               refine (refadd_is5 (i := (x : Int)) (s := S) (j := (1 : Int)) (t := S) (St.got (Lib.hid E.out.st) (A := Ap) (n := np) (c := cp) (a := ((x : Int)).natAbs) (by simp)) (St.got (Lib.hid E.out.st) (A := X2) (n := m2) (c := d2) (a := ((1 : Int)).natAbs) (by simp)) (by omega) (by omega) (by omega) (by omega) FM.out FX.out).mono ?_; rintro e v3 ⟨X3, m3, d3, rfl, h, hb⟩
               replace E := Lib.hid (RZ.push E.out hb h)
               clear h hb
               have hSw := St.sbOf (bs' := [(w4.heap.size, (.bool (ngB Fk)), (.slice As ns cs), (.int .i64 (S : Int))), (w.heap.size, (.bool (ngB i)), (.slice A n c), (.int .i64 (s : Int)))]) (Lib.hid E.out.st) (by simp); refine ⟨_, rfl, hSw, ?_⟩; intro a ha
               refine line_all rfCR 11 0 [10, 9, 7, 8, 6, 5, 4, 3, 2, 1, 0] [11] (by decide) (rfCB _ (by decide)) (by simp) ?_
               intro j hj; simp only [List.mem_cons, List.not_mem_nil, or_false] at hj
               subst hj
               refine turn_call rfCR 11 0 [10, 9, 7, 8, 6, 5, 4, 3, 2, 1, 0] 11 113 (args := #[.int .i64 (-1), .int .i64 0]) [(112, .agg #[.bool (ngB X1), .slice X3 m3 d3, .int .i64 (S : Int)]), (105, .int .i64 (p1 : Int)), (104, .slice (some ⟨g', 0, none⟩) q c5), (103, .int .i64 (p1 : Int)), (102, .slice (some ⟨g, 0, none⟩) q c4), (1, .slice A1 q c1), (2, .int .i64 v), (3, .pointer (some ⟨w.heap.size, 0, none⟩)), (11, .slice (some ⟨g, 0, none⟩) q c4), (12, .slice (some ⟨g', 0, none⟩) q c5), (13, .pointer (some ⟨w4.heap.size, 0, none⟩)), (18, .int .i64 (t : Int))] rfl (by decide) ha (fun o ho hg => ⟨(wanted_none hg), e_call (by kernel_rfl) ho rfl (by simp only [List.map_toArray, List.map_cons, List.map_nil, ev_const])⟩) (by simp) ?_
               refine (refmk5_is (i := -1) (s := 0) _ (by decide) (by decide) (by decide)).mono ?_; rintro e v4 ⟨X4, m4, d4, rfl, h, hb⟩
               replace E := Lib.hid (RZ.push E.out hb h)
               clear h hb
               have hSw := St.sbOf (bs' := [(w4.heap.size, (.bool (ngB Fk)), (.slice As ns cs), (.int .i64 (S : Int))), (w.heap.size, (.bool (ngB i)), (.slice A n c), (.int .i64 (s : Int)))]) (Lib.hid E.out.st) (by simp); refine ⟨_, rfl, hSw, ?_⟩; intro a ha
               refine line_ahead rfCR 12 0 [11, 10, 9, 7, 8, 6, 5, 4, 3, 2, 1, 0] 12 114 (.pointer (some ⟨g, 0 + p1 * 3, none⟩)) [(113, .agg #[.bool (ngB (-1 : Int)), .slice X4 m4 d4, .int .i64 (0 : Int)]), (112, .agg #[.bool (ngB X1), .slice X3 m3 d3, .int .i64 (S : Int)]), (105, .int .i64 (p1 : Int)), (104, .slice (some ⟨g', 0, none⟩) q c5), (1, .slice A1 q c1), (2, .int .i64 v), (3, .pointer (some ⟨w.heap.size, 0, none⟩)), (11, .slice (some ⟨g, 0, none⟩) q c4), (12, .slice (some ⟨g', 0, none⟩) q c5), (13, .pointer (some ⟨w4.heap.size, 0, none⟩)), (18, .int .i64 (t : Int))] rfl (by decide) (by decide) (by decide) ha (fun o ho hg => y_of (wanted_none hg) (fun wx hS => e_idxZ hpj hmc HMC.out ho (ha.ev (i := 102) (v := .slice (some ⟨g, 0, none⟩) q c4) (by simp)) (ha.ev (i := 103) (v := .int .i64 (p1 : Int)) (by simp)))) (by simp) hSw ?_; intro a ha
               refine line_all rfCR 13 0 [12, 11, 10, 9, 7, 8, 6, 5, 4, 3, 2, 1, 0] [13] (by decide) (rfCB _ (by decide)) (by simp) ?_
               intro j hj; simp only [List.mem_cons, List.not_mem_nil, or_false] at hj
               subst hj
               have E2 := Lib.hid (RZ.put E.out hpl ((X1, S), (X3, m3, d3)) (St.got (Lib.hid E.out.st) (A := X3) (n := m3) (c := d3) (a := (X1).natAbs) (by simp)))
               refine turn_store rfCR 13 0 [12, 11, 10, 9, 7, 8, 6, 5, 4, 3, 2, 1, 0] 13 (w' := (((v4.setCell ⟨g, p1 * 3, none⟩ (.bool (ngB X1))).setCell ⟨g, p1 * 3 + 1, none⟩ (.slice X3 m3 d3)).setCell ⟨g, p1 * 3 + 2, none⟩ (.int .i64 (S : Int)))) rfl ha (fun o ho hg => ⟨(wanted_none hg), e_storeZ ho (ha.ev (i := 114) (v := .pointer (some ⟨g, 0 + p1 * 3, none⟩)) (by simp)) (ha.ev (i := 112) (v := .agg #[.bool (ngB X1), .slice X3 m3 d3, .int .i64 (S : Int)]) (by simp)) E.out.row hpl⟩) (St.sbOf (bs' := [(w4.heap.size, (.bool (ngB Fk)), (.slice As ns cs), (.int .i64 (S : Int))), (w.heap.size, (.bool (ngB i)), (.slice A n c), (.int .i64 (s : Int)))]) (Lib.hid E2.out.st) (by simp)) ?_; intro a ha
               replace E := E2; clear E2
               generalize hW : (((v4.setCell ⟨g, p1 * 3, none⟩ (.bool (ngB X1))).setCell ⟨g, p1 * 3 + 1, none⟩ (.slice X3 m3 d3)).setCell ⟨g, p1 * 3 + 2, none⟩ (.int .i64 (S : Int))) = v5 at E ⊢; clear hW
               have hSw := St.sbOf (bs' := [(w4.heap.size, (.bool (ngB Fk)), (.slice As ns cs), (.int .i64 (S : Int))), (w.heap.size, (.bool (ngB i)), (.slice A n c), (.int .i64 (s : Int)))]) (Lib.hid E.out.st) (by simp)
               refine line_ahead rfCR 14 0 [13, 12, 11, 10, 9, 7, 8, 6, 5, 4, 3, 2, 1, 0] 14 115 (.pointer (some ⟨g', 0 + p1 * 3, none⟩)) [(113, .agg #[.bool (ngB (-1 : Int)), .slice X4 m4 d4, .int .i64 (0 : Int)]), (1, .slice A1 q c1), (2, .int .i64 v), (3, .pointer (some ⟨w.heap.size, 0, none⟩)), (11, .slice (some ⟨g, 0, none⟩) q c4), (12, .slice (some ⟨g', 0, none⟩) q c5), (13, .pointer (some ⟨w4.heap.size, 0, none⟩)), (18, .int .i64 (t : Int))] rfl (by decide) (by decide) (by decide) ha (fun o ho hg => y_of (wanted_none hg) (fun wx hS => e_idxZ hpj hmc2 HMC2.out ho (ha.ev (i := 104) (v := .slice (some ⟨g', 0, none⟩) q c5) (by simp)) (ha.ev (i := 105) (v := .int .i64 (p1 : Int)) (by simp)))) (by simp) hSw ?_; intro a ha
               refine line_all rfCR 15 0 [14, 13, 12, 11, 10, 9, 7, 8, 6, 5, 4, 3, 2, 1, 0] [15] (by decide) (rfCB _ (by decide)) (by simp) ?_
               intro j hj; simp only [List.mem_cons, List.not_mem_nil, or_false] at hj
               subst hj
               have E2 := Lib.hid (RZ.put E.out.swap hpl2 (((-1 : Int), 0), (X4, m4, d4)) (St.got (Lib.hid E.out.st) (A := X4) (n := m4) (c := d4) (a := ((-1 : Int)).natAbs) (by simp)))
               replace E2 := Lib.hid E2.out.swap
               refine turn_store rfCR 15 0 [14, 13, 12, 11, 10, 9, 7, 8, 6, 5, 4, 3, 2, 1, 0] 15 (w' := (((v5.setCell ⟨g', p1 * 3, none⟩ (.bool (ngB (-1 : Int)))).setCell ⟨g', p1 * 3 + 1, none⟩ (.slice X4 m4 d4)).setCell ⟨g', p1 * 3 + 2, none⟩ (.int .i64 (0 : Int)))) rfl ha (fun o ho hg => ⟨(wanted_none hg), e_storeZ ho (ha.ev (i := 115) (v := .pointer (some ⟨g', 0 + p1 * 3, none⟩)) (by simp)) (ha.ev (i := 113) (v := .agg #[.bool (ngB (-1 : Int)), .slice X4 m4 d4, .int .i64 (0 : Int)]) (by simp)) E.out.swap.row hpl2⟩) (St.sbOf (bs' := [(w4.heap.size, (.bool (ngB Fk)), (.slice As ns cs), (.int .i64 (S : Int))), (w.heap.size, (.bool (ngB i)), (.slice A n c), (.int .i64 (s : Int)))]) (Lib.hid E2.out.st) (by simp)) ?_; intro a ha
               replace E := E2; clear E2
               generalize hW : (((v5.setCell ⟨g', p1 * 3, none⟩ (.bool (ngB (-1 : Int)))).setCell ⟨g', p1 * 3 + 1, none⟩ (.slice X4 m4 d4)).setCell ⟨g', p1 * 3 + 2, none⟩ (.int .i64 (0 : Int))) = v6 at E ⊢; clear hW
               have hSw := St.sbOf (bs' := [(w4.heap.size, (.bool (ngB Fk)), (.slice As ns cs), (.int .i64 (S : Int))), (w.heap.size, (.bool (ngB i)), (.slice A n c), (.int .i64 (s : Int)))]) (Lib.hid E.out.st) (by simp)
               refine line_end0 rfCR (show ∀ i, i < 16 → i ∈ [15, 14, 13, 12, 11, 10, 9, 7, 8, 6, 5, 4, 3, 2, 1, 0] by decide) ?_
               exact ⟨rfl, X3, m3, d3, X4, m4, d4, ha.sub (by simp), Lib.hid (E.out.sub (by simp) (by simp))⟩
             ·
               refine turn_call rfCR 8 0 [8, 6, 5, 4, 3, 2, 1, 0] 9 111 (args := #[.int .i64 v]) [(108, .pointer (some ⟨g, 0 + p1 * 3, none⟩)), (105, .int .i64 (p1 : Int)), (104, .slice (some ⟨g', 0, none⟩) q c5), (103, .int .i64 (p1 : Int)), (102, .slice (some ⟨g, 0, none⟩) q c4), (1, .slice A1 q c1), (2, .int .i64 v), (3, .pointer (some ⟨w.heap.size, 0, none⟩)), (11, .slice (some ⟨g, 0, none⟩) q c4), (12, .slice (some ⟨g', 0, none⟩) q c5), (13, .pointer (some ⟨w4.heap.size, 0, none⟩)), (18, .int .i64 (t : Int))] rfl (by decide) ha (fun o ho hg => ⟨(wanted_none hg), e_call (by kernel_rfl) ho rfl (by have q0 := ha.ev (i := 110) (v := .int .i64 v) (by simp); simp only [List.map_toArray, List.map_cons, List.map_nil, ev_const, q0])⟩) (by simp) ?_
               refine (refunit_is (S := S) _ HV.out (by omega)).mono ?_; rintro e v7 ⟨X7, m7, d7, rfl, h, hb⟩
               have q7 : m7 ≤ 1 := len_le h O1.out
               replace E := Lib.hid (RZ.push E.out hb h)
               clear h hb
               have hSw := St.sbOf (bs' := [(w4.heap.size, (.bool (ngB Fk)), (.slice As ns cs), (.int .i64 (S : Int))), (w.heap.size, (.bool (ngB i)), (.slice A n c), (.int .i64 (s : Int)))]) (Lib.hid E.out.st) (by simp); refine ⟨_, rfl, hSw, ?_⟩; intro a ha
               refine line_all rfCR 9 0 [9, 8, 6, 5, 4, 3, 2, 1, 0] [7] (by decide) (rfCB _ (by decide)) (by simp) ?_
               intro j hj; simp only [List.mem_cons, List.not_mem_nil, or_false] at hj
               subst hj
               refine turn_op rfCR 9 0 [9, 8, 6, 5, 4, 3, 2, 1, 0] 7 109 (v := .agg #[(.bool (ngB (x : Int))), (.slice Ap np cp), (.int .i64 (S : Int))]) (w' := v7) [(111, .agg #[.bool (ngB (1 : Int)), .slice X7 m7 d7, .int .i64 (S : Int)]), (105, .int .i64 (p1 : Int)), (104, .slice (some ⟨g', 0, none⟩) q c5), (103, .int .i64 (p1 : Int)), (102, .slice (some ⟨g, 0, none⟩) q c4), (1, .slice A1 q c1), (2, .int .i64 v), (3, .pointer (some ⟨w.heap.size, 0, none⟩)), (11, .slice (some ⟨g, 0, none⟩) q c4), (12, .slice (some ⟨g', 0, none⟩) q c5), (13, .pointer (some ⟨w4.heap.size, 0, none⟩)), (18, .int .i64 (t : Int))] rfl (by decide) ha (fun o ho hg => ⟨(wanted_none hg), e_loadZ ho (ha.ev (i := 108) (v := .pointer (some ⟨g, 0 + p1 * 3, none⟩)) (by simp)) (CX.out _ E.out.row)⟩) (by simp) hSw ?_; intro a ha
               refine line_all rfCR 10 0 [7, 9, 8, 6, 5, 4, 3, 2, 1, 0] [10] (by decide) (rfCB _ (by decide)) (by simp) ?_
               intro j hj; simp only [List.mem_cons, List.not_mem_nil, or_false] at hj
               subst hj
               refine turn_call rfCR 10 0 [7, 9, 8, 6, 5, 4, 3, 2, 1, 0] 10 112 (args := #[.agg #[(.bool (ngB (x : Int))), (.slice Ap np cp), (.int .i64 (S : Int))], .agg #[.bool (ngB (1 : Int)), .slice X7 m7 d7, .int .i64 (S : Int)]]) [(105, .int .i64 (p1 : Int)), (104, .slice (some ⟨g', 0, none⟩) q c5), (103, .int .i64 (p1 : Int)), (102, .slice (some ⟨g, 0, none⟩) q c4), (1, .slice A1 q c1), (2, .int .i64 v), (3, .pointer (some ⟨w.heap.size, 0, none⟩)), (11, .slice (some ⟨g, 0, none⟩) q c4), (12, .slice (some ⟨g', 0, none⟩) q c5), (13, .pointer (some ⟨w4.heap.size, 0, none⟩)), (18, .int .i64 (t : Int))] rfl (by decide) ha (fun o ho hg => ⟨(wanted_none hg), e_call (by kernel_rfl) ho rfl (by have q0 := ha.ev (i := 109) (v := .agg #[(.bool (ngB (x : Int))), (.slice Ap np cp), (.int .i64 (S : Int))]) (by simp); have q1 := ha.ev (i := 111) (v := .agg #[.bool (ngB (1 : Int)), .slice X7 m7 d7, .int .i64 (S : Int)]) (by simp); simp only [List.map_toArray, List.map_cons, List.map_nil, ev_const, q0, q1])⟩) (by simp) ?_
               refine (refadd_is5 (i := (x : Int)) (s := S) (j := (1 : Int)) (t := S) (St.got (Lib.hid E.out.st) (A := Ap) (n := np) (c := cp) (a := ((x : Int)).natAbs) (by simp)) (St.got (Lib.hid E.out.st) (A := X7) (n := m7) (c := d7) (a := ((1 : Int)).natAbs) (by simp)) (by omega) (by omega) (by omega) (by omega) FM.out FX.out).mono ?_; rintro e v9 ⟨X9, m9, d9, rfl, h, hb⟩
               replace E := Lib.hid (RZ.push E.out hb h)
               clear h hb
               have hSw := St.sbOf (bs' := [(w4.heap.size, (.bool (ngB Fk)), (.slice As ns cs), (.int .i64 (S : Int))), (w.heap.size, (.bool (ngB i)), (.slice A n c), (.int .i64 (s : Int)))]) (Lib.hid E.out.st) (by simp); refine ⟨_, rfl, hSw, ?_⟩; intro a ha
               refine line_all rfCR 11 0 [10, 7, 9, 8, 6, 5, 4, 3, 2, 1, 0] [11] (by decide) (rfCB _ (by decide)) (by simp) ?_
               intro j hj; simp only [List.mem_cons, List.not_mem_nil, or_false] at hj
               subst hj
               refine turn_call rfCR 11 0 [10, 7, 9, 8, 6, 5, 4, 3, 2, 1, 0] 11 113 (args := #[.int .i64 (-1), .int .i64 0]) [(112, .agg #[.bool (ngB X1), .slice X9 m9 d9, .int .i64 (S : Int)]), (105, .int .i64 (p1 : Int)), (104, .slice (some ⟨g', 0, none⟩) q c5), (103, .int .i64 (p1 : Int)), (102, .slice (some ⟨g, 0, none⟩) q c4), (1, .slice A1 q c1), (2, .int .i64 v), (3, .pointer (some ⟨w.heap.size, 0, none⟩)), (11, .slice (some ⟨g, 0, none⟩) q c4), (12, .slice (some ⟨g', 0, none⟩) q c5), (13, .pointer (some ⟨w4.heap.size, 0, none⟩)), (18, .int .i64 (t : Int))] rfl (by decide) ha (fun o ho hg => ⟨(wanted_none hg), e_call (by kernel_rfl) ho rfl (by simp only [List.map_toArray, List.map_cons, List.map_nil, ev_const])⟩) (by simp) ?_
               refine (refmk5_is (i := -1) (s := 0) _ (by decide) (by decide) (by decide)).mono ?_; rintro e v10 ⟨X10, m10, d10, rfl, h, hb⟩
               replace E := Lib.hid (RZ.push E.out hb h)
               clear h hb
               have hSw := St.sbOf (bs' := [(w4.heap.size, (.bool (ngB Fk)), (.slice As ns cs), (.int .i64 (S : Int))), (w.heap.size, (.bool (ngB i)), (.slice A n c), (.int .i64 (s : Int)))]) (Lib.hid E.out.st) (by simp); refine ⟨_, rfl, hSw, ?_⟩; intro a ha
               refine line_ahead rfCR 12 0 [11, 10, 7, 9, 8, 6, 5, 4, 3, 2, 1, 0] 12 114 (.pointer (some ⟨g, 0 + p1 * 3, none⟩)) [(113, .agg #[.bool (ngB (-1 : Int)), .slice X10 m10 d10, .int .i64 (0 : Int)]), (112, .agg #[.bool (ngB X1), .slice X9 m9 d9, .int .i64 (S : Int)]), (105, .int .i64 (p1 : Int)), (104, .slice (some ⟨g', 0, none⟩) q c5), (1, .slice A1 q c1), (2, .int .i64 v), (3, .pointer (some ⟨w.heap.size, 0, none⟩)), (11, .slice (some ⟨g, 0, none⟩) q c4), (12, .slice (some ⟨g', 0, none⟩) q c5), (13, .pointer (some ⟨w4.heap.size, 0, none⟩)), (18, .int .i64 (t : Int))] rfl (by decide) (by decide) (by decide) ha (fun o ho hg => y_of (wanted_none hg) (fun wx hS => e_idxZ hpj hmc HMC.out ho (ha.ev (i := 102) (v := .slice (some ⟨g, 0, none⟩) q c4) (by simp)) (ha.ev (i := 103) (v := .int .i64 (p1 : Int)) (by simp)))) (by simp) hSw ?_; intro a ha
               refine line_all rfCR 13 0 [12, 11, 10, 7, 9, 8, 6, 5, 4, 3, 2, 1, 0] [13] (by decide) (rfCB _ (by decide)) (by simp) ?_
               intro j hj; simp only [List.mem_cons, List.not_mem_nil, or_false] at hj
               subst hj
               have E2 := Lib.hid (RZ.put E.out hpl ((X1, S), (X9, m9, d9)) (St.got (Lib.hid E.out.st) (A := X9) (n := m9) (c := d9) (a := (X1).natAbs) (by simp)))
               refine turn_store rfCR 13 0 [12, 11, 10, 7, 9, 8, 6, 5, 4, 3, 2, 1, 0] 13 (w' := (((v10.setCell ⟨g, p1 * 3, none⟩ (.bool (ngB X1))).setCell ⟨g, p1 * 3 + 1, none⟩ (.slice X9 m9 d9)).setCell ⟨g, p1 * 3 + 2, none⟩ (.int .i64 (S : Int)))) rfl ha (fun o ho hg => ⟨(wanted_none hg), e_storeZ ho (ha.ev (i := 114) (v := .pointer (some ⟨g, 0 + p1 * 3, none⟩)) (by simp)) (ha.ev (i := 112) (v := .agg #[.bool (ngB X1), .slice X9 m9 d9, .int .i64 (S : Int)]) (by simp)) E.out.row hpl⟩) (St.sbOf (bs' := [(w4.heap.size, (.bool (ngB Fk)), (.slice As ns cs), (.int .i64 (S : Int))), (w.heap.size, (.bool (ngB i)), (.slice A n c), (.int .i64 (s : Int)))]) (Lib.hid E2.out.st) (by simp)) ?_; intro a ha
               replace E := E2; clear E2
               generalize hW : (((v10.setCell ⟨g, p1 * 3, none⟩ (.bool (ngB X1))).setCell ⟨g, p1 * 3 + 1, none⟩ (.slice X9 m9 d9)).setCell ⟨g, p1 * 3 + 2, none⟩ (.int .i64 (S : Int))) = v11 at E ⊢; clear hW
               have hSw := St.sbOf (bs' := [(w4.heap.size, (.bool (ngB Fk)), (.slice As ns cs), (.int .i64 (S : Int))), (w.heap.size, (.bool (ngB i)), (.slice A n c), (.int .i64 (s : Int)))]) (Lib.hid E.out.st) (by simp)
               refine line_ahead rfCR 14 0 [13, 12, 11, 10, 7, 9, 8, 6, 5, 4, 3, 2, 1, 0] 14 115 (.pointer (some ⟨g', 0 + p1 * 3, none⟩)) [(113, .agg #[.bool (ngB (-1 : Int)), .slice X10 m10 d10, .int .i64 (0 : Int)]), (1, .slice A1 q c1), (2, .int .i64 v), (3, .pointer (some ⟨w.heap.size, 0, none⟩)), (11, .slice (some ⟨g, 0, none⟩) q c4), (12, .slice (some ⟨g', 0, none⟩) q c5), (13, .pointer (some ⟨w4.heap.size, 0, none⟩)), (18, .int .i64 (t : Int))] rfl (by decide) (by decide) (by decide) ha (fun o ho hg => y_of (wanted_none hg) (fun wx hS => e_idxZ hpj hmc2 HMC2.out ho (ha.ev (i := 104) (v := .slice (some ⟨g', 0, none⟩) q c5) (by simp)) (ha.ev (i := 105) (v := .int .i64 (p1 : Int)) (by simp)))) (by simp) hSw ?_; intro a ha
               refine line_all rfCR 15 0 [14, 13, 12, 11, 10, 7, 9, 8, 6, 5, 4, 3, 2, 1, 0] [15] (by decide) (rfCB _ (by decide)) (by simp) ?_
               intro j hj; simp only [List.mem_cons, List.not_mem_nil, or_false] at hj
               subst hj
               have E2 := Lib.hid (RZ.put E.out.swap hpl2 (((-1 : Int), 0), (X10, m10, d10)) (St.got (Lib.hid E.out.st) (A := X10) (n := m10) (c := d10) (a := ((-1 : Int)).natAbs) (by simp)))
               replace E2 := Lib.hid E2.out.swap
               refine turn_store rfCR 15 0 [14, 13, 12, 11, 10, 7, 9, 8, 6, 5, 4, 3, 2, 1, 0] 15 (w' := (((v11.setCell ⟨g', p1 * 3, none⟩ (.bool (ngB (-1 : Int)))).setCell ⟨g', p1 * 3 + 1, none⟩ (.slice X10 m10 d10)).setCell ⟨g', p1 * 3 + 2, none⟩ (.int .i64 (0 : Int)))) rfl ha (fun o ho hg => ⟨(wanted_none hg), e_storeZ ho (ha.ev (i := 115) (v := .pointer (some ⟨g', 0 + p1 * 3, none⟩)) (by simp)) (ha.ev (i := 113) (v := .agg #[.bool (ngB (-1 : Int)), .slice X10 m10 d10, .int .i64 (0 : Int)]) (by simp)) E.out.swap.row hpl2⟩) (St.sbOf (bs' := [(w4.heap.size, (.bool (ngB Fk)), (.slice As ns cs), (.int .i64 (S : Int))), (w.heap.size, (.bool (ngB i)), (.slice A n c), (.int .i64 (s : Int)))]) (Lib.hid E2.out.st) (by simp)) ?_; intro a ha
               replace E := E2; clear E2
               generalize hW : (((v11.setCell ⟨g', p1 * 3, none⟩ (.bool (ngB (-1 : Int)))).setCell ⟨g', p1 * 3 + 1, none⟩ (.slice X10 m10 d10)).setCell ⟨g', p1 * 3 + 2, none⟩ (.int .i64 (0 : Int))) = v12 at E ⊢; clear hW
               have hSw := St.sbOf (bs' := [(w4.heap.size, (.bool (ngB Fk)), (.slice As ns cs), (.int .i64 (S : Int))), (w.heap.size, (.bool (ngB i)), (.slice A n c), (.int .i64 (s : Int)))]) (Lib.hid E.out.st) (by simp)
               refine line_end0 rfCR (show ∀ i, i < 16 → i ∈ [15, 14, 13, 12, 11, 10, 7, 9, 8, 6, 5, 4, 3, 2, 1, 0] by decide) ?_
               exact ⟨rfl, X9, m9, d9, X10, m10, d10, ha.sub (by simp), Lib.hid (E.out.sub (by simp) (by simp))⟩
           clear E
           rintro a wN ⟨Ax, nx, cx, Az, nz, cz, ha, E⟩
           simp only [Exit.then]
           refine hKB _ _ ?_
           clear hKB KB
           replace E := Lib.hid (E.out.step (Below.refl _ _).drew)
           refine wp_cut (fun a' w' => ∃ (Ay : Option Addr) (ny cy : Nat), Fr 137 a' [(1, .slice A1 q c1), (2, .int .i64 v), (3, .pointer (some ⟨w.heap.size, 0, none⟩)), (11, .slice (some ⟨g, 0, none⟩) q c4), (12, .slice (some ⟨g', 0, none⟩) q c5), (13, .pointer (some ⟨w4.heap.size, 0, none⟩)), (18, .int .i64 (t : Int))] ∧ Hid (RZ w w' [(Ay, ny, cy, (F1).natAbs), (A, n, c, (i).natAbs)] [(w4.heap.size, (.bool (ngB F1)), (.slice Ay ny cy), (.int .i64 (S : Int))), (w.heap.size, (.bool (ngB i)), (.slice A n c), (.int .i64 (s : Int)))] g (l.set p1 ((X1, S), (Ax, nx, cx))) g' (l'.set p1 ((-1, 0), (Az, nz, cz))))) ?_ ?_
           ·
             refine line_start (ops := opsAt Tryz.prog 7 30) (S := SB [(w.heap.size, (.bool (ngB i)), (.slice A n c), (.int .i64 (s : Int)))]) (by kernel_rfl) (by kernel_rfl) (St.sbOf (Lib.hid E.out.st) (by simp)) ?_
             generalize wN.drew = v0 at E ⊢
             have hSw := St.sbOf (bs' := [(w.heap.size, (.bool (ngB i)), (.slice A n c), (.int .i64 (s : Int)))]) (Lib.hid E.out.st) (by simp)
             refine line_ahead rfDR 0 0 [] 1 117 (.int .i64 v) [(1, .slice A1 q c1), (2, .int .i64 v), (3, .pointer (some ⟨w.heap.size, 0, none⟩)), (11, .slice (some ⟨g, 0, none⟩) q c4), (12, .slice (some ⟨g', 0, none⟩) q c5), (13, .pointer (some ⟨w4.heap.size, 0, none⟩)), (18, .int .i64 (t : Int))] rfl (by decide) (by decide) (by decide) ha (fun o ho hg => y_of (wanted_none hg) (fun wx hS => e_move (.inl ho) (ha.ev (i := 2) (v := .int .i64 v) (by simp)))) (by simp) hSw ?_; intro a ha
             refine line_all rfDR 1 0 [1] [0, 2] (by decide) (rfDB _ (by decide)) (by simp) ?_
             intro j hj; simp only [List.mem_cons, List.not_mem_nil, or_false] at hj
             rcases hj with rfl | rfl
             ·
               refine turn_op rfDR 1 0 [1] 0 116 (v := .agg #[(.bool (ngB Fk)), (.slice As ns cs), (.int .i64 (S : Int))]) (w' := v0) [(117, .int .i64 v), (1, .slice A1 q c1), (2, .int .i64 v), (3, .pointer (some ⟨w.heap.size, 0, none⟩)), (11, .slice (some ⟨g, 0, none⟩) q c4), (12, .slice (some ⟨g', 0, none⟩) q c5), (13, .pointer (some ⟨w4.heap.size, 0, none⟩)), (18, .int .i64 (t : Int))] rfl (by decide) ha (fun o ho hg => ⟨(wanted_none hg), e_load ho (ha.ev (i := 13) (v := .pointer (some ⟨w4.heap.size, 0, none⟩)) (by simp)) (St.at_ (g := w4.heap.size) (x0 := (.bool (ngB Fk))) (x1 := (.slice As ns cs)) (x2 := (.int .i64 (S : Int))) (Lib.hid E.out.st) (by simp))⟩) (by simp) hSw ?_; intro a ha
               refine line_all rfDR 2 0 [0, 1] [2] (by decide) (rfDB _ (by decide)) (by simp) ?_
               intro j hj; simp only [List.mem_cons, List.not_mem_nil, or_false] at hj
               subst hj
               refine turn_call rfDR 2 0 [0, 1] 2 118 (args := #[.int .i64 v]) [(116, .agg #[(.bool (ngB Fk)), (.slice As ns cs), (.int .i64 (S : Int))]), (1, .slice A1 q c1), (2, .int .i64 v), (3, .pointer (some ⟨w.heap.size, 0, none⟩)), (11, .slice (some ⟨g, 0, none⟩) q c4), (12, .slice (some ⟨g', 0, none⟩) q c5), (13, .pointer (some ⟨w4.heap.size, 0, none⟩)), (18, .int .i64 (t : Int))] rfl (by decide) ha (fun o ho hg => ⟨(wanted_none hg), e_call (by kernel_rfl) ho rfl (by have q0 := ha.ev (i := 117) (v := .int .i64 v) (by simp); simp only [List.map_toArray, List.map_cons, List.map_nil, ev_const, q0])⟩) (by simp) ?_
               refine (refunit_is (S := S) _ HV.out (by omega)).mono ?_; rintro e v2 ⟨X2, m2, d2, rfl, h, hb⟩
               have q2 : m2 ≤ 1 := len_le h O1.out
               replace E := Lib.hid (RZ.push E.out hb h)
               clear h hb
               have hSw := St.sbOf (bs' := [(w.heap.size, (.bool (ngB i)), (.slice A n c), (.int .i64 (s : Int)))]) (Lib.hid E.out.st) (by simp); refine ⟨_, rfl, hSw, ?_⟩; intro a ha
               refine line_all rfDR 3 0 [2, 0, 1] [3] (by decide) (rfDB _ (by decide)) (by simp) ?_
               intro j hj; simp only [List.mem_cons, List.not_mem_nil, or_false] at hj
               subst hj
               refine turn_call rfDR 3 0 [2, 0, 1] 3 119 (args := #[.agg #[(.bool (ngB Fk)), (.slice As ns cs), (.int .i64 (S : Int))], .agg #[.bool (ngB (1 : Int)), .slice X2 m2 d2, .int .i64 (S : Int)]]) [(1, .slice A1 q c1), (2, .int .i64 v), (3, .pointer (some ⟨w.heap.size, 0, none⟩)), (11, .slice (some ⟨g, 0, none⟩) q c4), (12, .slice (some ⟨g', 0, none⟩) q c5), (13, .pointer (some ⟨w4.heap.size, 0, none⟩)), (18, .int .i64 (t : Int))] rfl (by decide) ha (fun o ho hg => ⟨(wanted_none hg), e_call (by kernel_rfl) ho rfl (by have q0 := ha.ev (i := 116) (v := .agg #[(.bool (ngB Fk)), (.slice As ns cs), (.int .i64 (S : Int))]) (by simp); have q1 := ha.ev (i := 118) (v := .agg #[.bool (ngB (1 : Int)), .slice X2 m2 d2, .int .i64 (S : Int)]) (by simp); simp only [List.map_toArray, List.map_cons, List.map_nil, ev_const, q0, q1])⟩) (by simp) ?_
               refine (refadd_is5 (i := Fk) (s := S) (j := (1 : Int)) (t := S) (St.got (Lib.hid E.out.st) (A := As) (n := ns) (c := cs) (a := (Fk).natAbs) (by simp)) (St.got (Lib.hid E.out.st) (A := X2) (n := m2) (c := d2) (a := ((1 : Int)).natAbs) (by simp)) (by omega) (by omega) (by omega) (by omega) FM.out FS.out).mono ?_; rintro e v3 ⟨X3, m3, d3, rfl, h, hb⟩
               replace E := Lib.hid (RZ.push E.out hb h)
               clear h hb
               have hSw := St.sbOf (bs' := [(w.heap.size, (.bool (ngB i)), (.slice A n c), (.int .i64 (s : Int)))]) (Lib.hid E.out.st) (by simp); refine ⟨_, rfl, hSw, ?_⟩; intro a ha
               refine line_all rfDR 4 0 [3, 2, 0, 1] [4] (by decide) (rfDB _ (by decide)) (by simp) ?_
               intro j hj; simp only [List.mem_cons, List.not_mem_nil, or_false] at hj
               subst hj
               have E2 := Lib.hid (RZ.store E.out (k := w4.heap.size) (x0 := (.bool (ngB Fk))) (x1 := (.slice As ns cs)) (x2 := (.int .i64 (S : Int))) (by simp) (noLimb_bool _) (noLimb_slice _ _ _) (noLimb_int _) [(w.heap.size, (.bool (ngB i)), (.slice A n c), (.int .i64 (s : Int)))] (by have h1 := LTS.out; simp; omega) (.bool (ngB F1)) (.slice X3 m3 d3) (.int .i64 (S : Int)))
               refine turn_store rfDR 4 0 [3, 2, 0, 1] 4 (w' := put3 v3 w4.heap.size (.bool (ngB F1)) (.slice X3 m3 d3) (.int .i64 (S : Int))) rfl ha (fun o ho hg => ⟨(wanted_none hg), e_store ho (ha.ev (i := 13) (v := .pointer (some ⟨w4.heap.size, 0, none⟩)) (by simp)) (ha.ev (i := 119) (v := .agg #[.bool (ngB F1), .slice X3 m3 d3, .int .i64 (S : Int)]) (by simp)) (St.at_ (g := w4.heap.size) (x0 := (.bool (ngB Fk))) (x1 := (.slice As ns cs)) (x2 := (.int .i64 (S : Int))) (Lib.hid E.out.st) (by simp))⟩) (St.sbOf (bs' := [(w.heap.size, (.bool (ngB i)), (.slice A n c), (.int .i64 (s : Int)))]) (Lib.hid E2.out.st) (by simp)) ?_; intro a ha
               replace E := E2; clear E2
               generalize hW : put3 v3 _ _ _ _ = v4 at E ⊢; clear hW
               have hSw := St.sbOf (bs' := [(w.heap.size, (.bool (ngB i)), (.slice A n c), (.int .i64 (s : Int)))]) (Lib.hid E.out.st) (by simp)
               refine line_end0 rfDR (show ∀ i, i < 5 → i ∈ [4, 3, 2, 0, 1] by decide) ?_
               exact ⟨rfl, X3, m3, d3, ha.sub (by simp), Lib.hid (E.out.sub (by simp) (by simp))⟩
             ·
               refine turn_call rfDR 1 0 [1] 2 118 (args := #[.int .i64 v]) [(1, .slice A1 q c1), (2, .int .i64 v), (3, .pointer (some ⟨w.heap.size, 0, none⟩)), (11, .slice (some ⟨g, 0, none⟩) q c4), (12, .slice (some ⟨g', 0, none⟩) q c5), (13, .pointer (some ⟨w4.heap.size, 0, none⟩)), (18, .int .i64 (t : Int))] rfl (by decide) ha (fun o ho hg => ⟨(wanted_none hg), e_call (by kernel_rfl) ho rfl (by have q0 := ha.ev (i := 117) (v := .int .i64 v) (by simp); simp only [List.map_toArray, List.map_cons, List.map_nil, ev_const, q0])⟩) (by simp) ?_
               refine (refunit_is (S := S) _ HV.out (by omega)).mono ?_; rintro e v5 ⟨X5, m5, d5, rfl, h, hb⟩
               have q5 : m5 ≤ 1 := len_le h O1.out
               replace E := Lib.hid (RZ.push E.out hb h)
               clear h hb
               have hSw := St.sbOf (bs' := [(w.heap.size, (.bool (ngB i)), (.slice A n c), (.int .i64 (s : Int)))]) (Lib.hid E.out.st) (by simp); refine ⟨_, rfl, hSw, ?_⟩; intro a ha
               refine line_all rfDR 2 0 [2, 1] [0] (by decide) (rfDB _ (by decide)) (by simp) ?_
               intro j hj; simp only [List.mem_cons, List.not_mem_nil, or_false] at hj
               subst hj
               refine turn_op rfDR 2 0 [2, 1] 0 116 (v := .agg #[(.bool (ngB Fk)), (.slice As ns cs), (.int .i64 (S : Int))]) (w' := v5) [(118, .agg #[.bool (ngB (1 : Int)), .slice X5 m5 d5, .int .i64 (S : Int)]), (1, .slice A1 q c1), (2, .int .i64 v), (3, .pointer (some ⟨w.heap.size, 0, none⟩)), (11, .slice (some ⟨g, 0, none⟩) q c4), (12, .slice (some ⟨g', 0, none⟩) q c5), (13, .pointer (some ⟨w4.heap.size, 0, none⟩)), (18, .int .i64 (t : Int))] rfl (by decide) ha (fun o ho hg => ⟨(wanted_none hg), e_load ho (ha.ev (i := 13) (v := .pointer (some ⟨w4.heap.size, 0, none⟩)) (by simp)) (St.at_ (g := w4.heap.size) (x0 := (.bool (ngB Fk))) (x1 := (.slice As ns cs)) (x2 := (.int .i64 (S : Int))) (Lib.hid E.out.st) (by simp))⟩) (by simp) hSw ?_; intro a ha
               refine line_all rfDR 3 0 [0, 2, 1] [3] (by decide) (rfDB _ (by decide)) (by simp) ?_
               intro j hj; simp only [List.mem_cons, List.not_mem_nil, or_false] at hj
               subst hj
               refine turn_call rfDR 3 0 [0, 2, 1] 3 119 (args := #[.agg #[(.bool (ngB Fk)), (.slice As ns cs), (.int .i64 (S : Int))], .agg #[.bool (ngB (1 : Int)), .slice X5 m5 d5, .int .i64 (S : Int)]]) [(1, .slice A1 q c1), (2, .int .i64 v), (3, .pointer (some ⟨w.heap.size, 0, none⟩)), (11, .slice (some ⟨g, 0, none⟩) q c4), (12, .slice (some ⟨g', 0, none⟩) q c5), (13, .pointer (some ⟨w4.heap.size, 0, none⟩)), (18, .int .i64 (t : Int))] rfl (by decide) ha (fun o ho hg => ⟨(wanted_none hg), e_call (by kernel_rfl) ho rfl (by have q0 := ha.ev (i := 116) (v := .agg #[(.bool (ngB Fk)), (.slice As ns cs), (.int .i64 (S : Int))]) (by simp); have q1 := ha.ev (i := 118) (v := .agg #[.bool (ngB (1 : Int)), .slice X5 m5 d5, .int .i64 (S : Int)]) (by simp); simp only [List.map_toArray, List.map_cons, List.map_nil, ev_const, q0, q1])⟩) (by simp) ?_
               refine (refadd_is5 (i := Fk) (s := S) (j := (1 : Int)) (t := S) (St.got (Lib.hid E.out.st) (A := As) (n := ns) (c := cs) (a := (Fk).natAbs) (by simp)) (St.got (Lib.hid E.out.st) (A := X5) (n := m5) (c := d5) (a := ((1 : Int)).natAbs) (by simp)) (by omega) (by omega) (by omega) (by omega) FM.out FS.out).mono ?_; rintro e v7 ⟨X7, m7, d7, rfl, h, hb⟩
               replace E := Lib.hid (RZ.push E.out hb h)
               clear h hb
               have hSw := St.sbOf (bs' := [(w.heap.size, (.bool (ngB i)), (.slice A n c), (.int .i64 (s : Int)))]) (Lib.hid E.out.st) (by simp); refine ⟨_, rfl, hSw, ?_⟩; intro a ha
               refine line_all rfDR 4 0 [3, 0, 2, 1] [4] (by decide) (rfDB _ (by decide)) (by simp) ?_
               intro j hj; simp only [List.mem_cons, List.not_mem_nil, or_false] at hj
               subst hj
               have E2 := Lib.hid (RZ.store E.out (k := w4.heap.size) (x0 := (.bool (ngB Fk))) (x1 := (.slice As ns cs)) (x2 := (.int .i64 (S : Int))) (by simp) (noLimb_bool _) (noLimb_slice _ _ _) (noLimb_int _) [(w.heap.size, (.bool (ngB i)), (.slice A n c), (.int .i64 (s : Int)))] (by have h1 := LTS.out; simp; omega) (.bool (ngB F1)) (.slice X7 m7 d7) (.int .i64 (S : Int)))
               refine turn_store rfDR 4 0 [3, 0, 2, 1] 4 (w' := put3 v7 w4.heap.size (.bool (ngB F1)) (.slice X7 m7 d7) (.int .i64 (S : Int))) rfl ha (fun o ho hg => ⟨(wanted_none hg), e_store ho (ha.ev (i := 13) (v := .pointer (some ⟨w4.heap.size, 0, none⟩)) (by simp)) (ha.ev (i := 119) (v := .agg #[.bool (ngB F1), .slice X7 m7 d7, .int .i64 (S : Int)]) (by simp)) (St.at_ (g := w4.heap.size) (x0 := (.bool (ngB Fk))) (x1 := (.slice As ns cs)) (x2 := (.int .i64 (S : Int))) (Lib.hid E.out.st) (by simp))⟩) (St.sbOf (bs' := [(w.heap.size, (.bool (ngB i)), (.slice A n c), (.int .i64 (s : Int)))]) (Lib.hid E2.out.st) (by simp)) ?_; intro a ha
               replace E := E2; clear E2
               generalize hW : put3 v7 _ _ _ _ = v8 at E ⊢; clear hW
               have hSw := St.sbOf (bs' := [(w.heap.size, (.bool (ngB i)), (.slice A n c), (.int .i64 (s : Int)))]) (Lib.hid E.out.st) (by simp)
               refine line_end0 rfDR (show ∀ i, i < 5 → i ∈ [4, 3, 0, 2, 1] by decide) ?_
               exact ⟨rfl, X7, m7, d7, ha.sub (by simp), Lib.hid (E.out.sub (by simp) (by simp))⟩
           clear E
           rintro a wM ⟨Ay, ny, cy, ha, E⟩
           simp only [Exit.inBlock, Exit.then]
           refine hK2 _ _ ?_
           obtain ⟨us, rfl, hu⟩ := ha.listZ
           have eu1 : us 1 = .slice A1 q c1 := hu (1, .slice A1 q c1) (by simp)
           have eu2 : us 2 = .int .i64 v := hu (2, .int .i64 v) (by simp)
           have eu3 : us 3 = .pointer (some ⟨w.heap.size, 0, none⟩) := hu (3, .pointer (some ⟨w.heap.size, 0, none⟩)) (by simp)
           have eu11 : us 11 = .slice (some ⟨g, 0, none⟩) q c4 := hu (11, .slice (some ⟨g, 0, none⟩) q c4) (by simp)
           have eu12 : us 12 = .slice (some ⟨g', 0, none⟩) q c5 := hu (12, .slice (some ⟨g', 0, none⟩) q c5) (by simp)
           have eu13 : us 13 = .pointer (some ⟨w4.heap.size, 0, none⟩) := hu (13, .pointer (some ⟨w4.heap.size, 0, none⟩)) (by simp)
           have eu18 : us 18 = .int .i64 (t : Int) := hu (18, .int .i64 (t : Int)) (by simp)
           rw [show (List.range 137).map us = [us 0, us 1, us 2, us 3, us 4, us 5, us 6, us 7, us 8, us 9, us 10, us 11, us 12, us 13, us 14, us 15, us 16, us 17, us 18, us 19, us 20, us 21, us 22, us 23, us 24, us 25, us 26, us 27, us 28, us 29, us 30, us 31, us 32, us 33, us 34, us 35, us 36, us 37, us 38, us 39, us 40, us 41, us 42, us 43, us 44, us 45, us 46, us 47, us 48, us 49, us 50, us 51, us 52, us 53, us 54, us 55, us 56, us 57, us 58, us 59, us 60, us 61, us 62, us 63, us 64, us 65, us 66, us 67, us 68, us 69, us 70, us 71, us 72, us 73, us 74, us 75, us 76, us 77, us 78, us 79, us 80, us 81, us 82, us 83, us 84, us 85, us 86, us 87, us 88, us 89, us 90, us 91, us 92, us 93, us 94, us 95, us 96, us 97, us 98, us 99, us 100, us 101, us 102, us 103, us 104, us 105, us 106, us 107, us 108, us 109, us 110, us 111, us 112, us 113, us 114, us 115, us 116, us 117, us 118, us 119, us 120, us 121, us 122, us 123, us 124, us 125, us 126, us 127, us 128, us 129, us 130, us 131, us 132, us 133, us 134, us 135, us 136] from rfl, eu1, eu2, eu3, eu11, eu12, eu13, eu18]
           clear hu ha eu1 eu2 eu3 eu11 eu12 eu13 eu18
           go_wp2_with fail
           refine ⟨K - (t + 1), by omega, t + 1, l.set p1 ((X1, S), (Ax, nx, cx)), l'.set p1 ((-1, 0), (Az, nz, cz)), Ay, ny, cy, by omega, rfl, by rw [List.length_set]; exact HLL.out, by rw [List.length_set]; exact HLL2.out, fun a ha => ?_, fun a ha => ?_, ⟨rfl, rfl, by intro q hq; simp at hq; rcases hq with rfl | rfl | rfl | rfl | rfl | rfl | rfl <;> first | rfl | simp⟩, by rw [← HF1.out]; exact E⟩
           · rw [dOf_set hpl, share_step, HP1.out]
             by_cases e : a = p1
             · rw [if_pos e, if_pos e, e, HXX.out, HX1.out]
             · rw [if_neg e, if_neg e]; exact HDL.out a ha
           · rw [dOf_set hpl2]
             show _ = (if a = gd zs t then ((-1, 0) : Int × Nat) else curD dr zs t a)
             rw [HP1.out]
             by_cases e : a = p1
             · rw [if_pos e, if_pos e]
             · rw [if_neg e, if_neg e]; exact HDL2.out a ha
       ·
         obtain rfl : t = K := by omega
         have hdt : decide (zc < 0) = false := by rw [DT.out]; exact decide_eq_false (by omega)
         have hz0 : 0 ≤ zc := by have h1 := of_decide_eq_false hdt; omega
         clear hdt
         obtain ⟨p0, p1, p2, pf0, pf1, pf2, plt⟩ := St.at_ (x0 := .bool (ngB i)) (x1 := .slice A n c) (x2 := .int .i64 (s : Int)) (g := w.heap.size) (Lib.hid E.out.st) (by simp)
         go_wp2_with fail
         · rename_i hng
           have HSGN := Lib.hid hng
           clear hng
           clear p0 p1 p2 pf0 pf1 pf2 plt hz0
           replace E : Hid (RZ w w9 [] [] g l g' l') := Lib.hid (E.out.sub (fun q hq => absurd hq List.not_mem_nil) (fun q hq => absurd hq List.not_mem_nil))
           go_loopw [124] (fun iv wr => ∃ (q : Nat) (l2 : List DQ), q ≤ j ∧ iv = .int .i64 q ∧ l2.length = j ∧ (∀ a, a < j → dOf l2 a = (if a < q then -((shareN z d j zs t a : Nat) : Int) else ((shareN z d j zs t a : Nat) : Int), S)) ∧ RZ w wr [] [] g l2 g' l') (fun iv _ => j - (intOf iv).toNat)
           case atStart => exact ⟨0, l, Nat.zero_le _, rfl, HLL.out, fun a ha => by rw [if_neg (by omega)]; exact HDL.out a ha, E.out⟩
           case round =>
             obtain ⟨q, l2, hqm, rfl, hll, hdl, hE⟩ := hrel
             clear E
             have E := Lib.hid hE
             have HLQ := Lib.hid hll
             have HDQ2 := Lib.hid hdl
             clear hE hll hdl
             rcases Nat.lt_or_ge q j with hlt | hge
             · have htl : q < l2.length := by rw [HLQ.out]; exact hlt
               have DT := HDQ2.out q hlt
               rw [if_neg (by omega)] at DT
               obtain ⟨x, hx⟩ : ∃ x, x = shareN z d j zs t q := ⟨_, rfl⟩
               have hxz : shareN z d j zs t q ≤ z := share_le LF.out (Nat.le_refl _) hlt
               rw [← hx] at DT hxz
               obtain ⟨Ap, np, cp, PT⟩ : ∃ Ap np cp, pOf l2 q = (Ap, np, cp) := ⟨_, _, _, rfl⟩
               have NT : Hid (∀ v ns' bs', RZ w v ns' bs' g l2 g' l' → Num v v.heap.size Ap np cp (x : Int).natAbs) := fun v ns' bs' h => by
                 have e := h.num q htl
                 rw [PT, DT] at e; exact e
               have hnp : np ≤ 300 := by
                 have e := (NT.out _ _ _ E.out).len
                 rw [Int.natAbs_natCast] at e
                 have := dg_len_mono hxz
                 have := HZL.out
                 omega
               have HDT := Lib.hid DT
               have HPT := Lib.hid PT
               have HX := Lib.hid hx
               obtain ⟨X1, hX1⟩ : ∃ X1 : Int, -(x : Int) = X1 := ⟨_, rfl⟩
               have HX1 := Lib.hid hX1
               have i1 : (0 : Int) ≤ (q : Int) := by omega
               have i2 : (q : Int) < (j : Int) := by omega
               clear DT PT hx hxz hX1
               obtain ⟨y0, y1, y2⟩ := E.out.row.spot htl HDT.out HPT.out
               go_wp2_with fail
               refine (refneg_is5 (NT.out _ _ _ E.out) (by omega) (by omega) HX1.out).mono ?_
               rintro e v3 ⟨Aa, na, ca, rfl, h3, hb3⟩
               replace E := Lib.hid (RZ.push E.out hb3 h3)
               clear h3 hb3 y0 y1 y2
               obtain ⟨y0, y1, y2⟩ := E.out.row.spot htl HDT.out HPT.out
               obtain ⟨z0, z1, z2⟩ := E.out.row.frees htl
               go_wp2_with fail
               go_roundw
               case rel =>
                 refine ⟨q + 1, l2.set q ((X1, S), (Aa, na, ca)), by omega, by go_num, by rw [List.length_set]; exact HLQ.out, fun a ha => ?_, (E.out.put htl ((X1, S), (Aa, na, ca)) (St.got (Lib.hid E.out.st) (A := Aa) (n := na) (c := ca) (a := X1.natAbs) (by simp))).sub (fun q hq => absurd hq List.not_mem_nil) (fun q hq => absurd hq List.not_mem_nil)⟩
                 rw [dOf_set htl]
                 by_cases e : a = q
                 · rw [if_pos e, if_pos (by omega), e, ← HX.out, HX1.out]
                 · rw [if_neg e, HDQ2.out a ha]
                   by_cases e2 : a < q
                   · rw [if_pos e2, if_pos (by omega)]
                   · rw [if_neg e2, if_neg (by omega)]
               case measure => simp [intOf]; omega
             · obtain rfl : q = j := by omega
               go_wp2_with fail
               go_ret2
               refine ⟨g, c4, l2, rfl, HLQ.out, hmc, HMC.out, E.out.row, fun a ha => ?_, fun a ha => ?_, E.out.st.bel⟩
               · rw [HDQ2.out a ha, HSGN.out, if_pos ha]; rfl
               · have e := E.out.num a (by rw [HLQ.out]; exact ha)
                 rw [HDQ2.out a ha, if_pos ha] at e
                 have e2 : (-((shareN z d q zs t a : Nat) : Int)).natAbs = shareN z d q zs t a := by rw [Int.natAbs_neg, Int.natAbs_natCast]
                 rw [e2] at e
                 exact e
         · rename_i hng
           have HSGN := Lib.hid hng
           clear hng
           go_ret2
           refine ⟨g, c4, l, rfl, HLL.out, hmc, HMC.out, E.out.row, fun a ha => ?_, fun a ha => ?_, E.out.st.bel⟩
           · rw [HDL.out a ha, HSGN.out]; rfl
           · have e := E.out.num a (by rw [HLL.out]; exact ha)
             rw [HDL.out a ha] at e
             exact e
end Go.Proofs.YthlhpgphmfnlgaaGreat
