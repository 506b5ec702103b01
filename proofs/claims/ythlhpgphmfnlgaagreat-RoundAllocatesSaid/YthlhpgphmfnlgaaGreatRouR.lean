/-
 The contract of Allocate, where it allocates.
-/
import Derived.Test.YthlhpgphmfnlgaaGreatRouQ
set_option maxRecDepth 100000
set_option maxHeartbeats 32000000
set_option linter.unusedVariables false
set_option linter.unusedSimpArgs false
namespace Go.Proofs.YthlhpgphmfnlgaaGreat
open Go.RowKit
def shareN (z : Nat) (d : Nat → Int × Nat) (m : Nat) (zs : List Nat) (K : Nat) : Nat → Nat := xtr (fun j => z * partP d m j / wholeW d m) zs K
def restN (z : Nat) (d : Nat → Int × Nat) (m : Nat) (j : Nat) : Nat := z * partP d m j % wholeW d m
def Left (z : Nat) (d : Nat → Int × Nat) (m : Nat) (zs : List Nat) (K : Nat) : Prop :=
 Srt (fun j => ((restN z d m j : Nat) : Int)) zs m ∧ sumN (fun j => z * partP d m j / wholeW d m) m + K = z ∧ K < m ∧ ∀ a, a < K → 0 < restN z d m (gd zs a)
def RetAlloc (W : World) (b : Bool) (z S : Nat) (d : Nat → Int × Nat) (m : Nat) (e : Ending) (w' : World) : Prop :=
 ∃ zs K g c l, Left z d m zs K ∧ e = .returned (.tuple #[.slice (some ⟨g, 0, none⟩) m c, .int .i64 0]) ∧ l.length = m ∧ m ≤ c ∧ c ≤ maxLen ∧ RowQ w' g l ∧ (∀ j, j < m → dOf l j = (sgn b (shareN z d m zs K j), S)) ∧ (∀ j, j < m → Num w' w'.heap.size (pOf l j).1 (pOf l j).2.1 (pOf l j).2.2 (shareN z d m zs K j)) ∧ Below W.heap.size W w'
theorem share_step {z : Nat} {d : Nat → Int × Nat} {m : Nat} {zs : List Nat} {k j : Nat} : shareN z d m zs (k + 1) j = if j = gd zs k then shareN z d m zs k j + 1 else shareN z d m zs k j := rfl
theorem share_sum {z : Nat} {d : Nat → Int × Nat} {m K : Nat} {zs : List Nat} (h : Left z d m zs K) {k : Nat} (hk : k ≤ K) : sumN (shareN z d m zs k) m + (K - k) = z := by
 have h1 := xtr_sum (F := fun j => z * partP d m j / wholeW d m) (m := m) h.1.1 k (by have := h.2.2.1; omega)
 have h2 := h.2.1
 show sumN (xtr _ zs k) m + _ = z
 rw [h1]; omega
theorem share_le {z : Nat} {d : Nat → Int × Nat} {m K : Nat} {zs : List Nat} (h : Left z d m zs K) {k j : Nat} (hk : k ≤ K) (hj : j < m) : shareN z d m zs k j ≤ z := by
 have h1 := share_sum h hk
 have h2 := sumN_ge (f := shareN z d m zs k) hj
 omega
theorem sumN_upto {f : Nat → Nat} {k : Nat} : ∀ {m : Nat}, k ≤ m → sumN f k ≤ sumN f m
 | 0, h => by obtain rfl : k = 0 := by omega
              exact Nat.le_refl _
 | m + 1, h => by
   rcases Nat.lt_or_ge k (m + 1) with h1 | h1
   · have h2 : sumN f k ≤ sumN f m := sumN_upto (m := m) (by omega)
     exact Nat.le_trans h2 (Nat.le_add_right _ _)
   · obtain rfl : k = m + 1 := by omega
     exact Nat.le_refl _
theorem keyed_rests {f : Nat → Nat} {d' : Nat → Int × Nat} {m : Nat} (h : ∀ j, j < m → d' j = (((f j : Nat) : Int), 0)) : Keyed (fun j => ((f j : Nat) : Int)) d' m := by
 intro x y hx hy
 rw [h x hx, h y hy]
 show cmpZ (up _ 0 (max 0 0)) (up _ 0 (max 0 0)) < 0 ↔ ((f y : Nat) : Int) < ((f x : Nat) : Int)
 rw [Nat.max_self, up_same, up_same]
 rcases cmpZ_cases ((f y : Nat) : Int) ((f x : Nat) : Int) with ⟨h1, h2⟩ | ⟨h1, h2⟩ | ⟨h1, h2⟩ <;> rw [h2] <;> constructor <;> intro h3 <;> omega
theorem add_unit {x S : Nat} : addZ (x : Int) S 1 S = ((x + 1 : Nat) : Int) := by
 unfold addZ
 rw [Nat.max_self, up_same, up_same]; omega
theorem cmp_at {x y S : Nat} : (x < y → cmpD (x : Int) S (y : Int) S = -1) ∧ (x = y → cmpD (x : Int) S (y : Int) S = 0) := by
 unfold cmpD
 rw [Nat.max_self, up_same, up_same]
 exact ⟨fun h => cmpZ_lt (by omega), fun h => cmpZ_eq (by omega)⟩
theorem ng_nat (x : Nat) : ngB (x : Int) = false := decide_eq_false (by omega)
theorem alloc_any (A A1 : Option Addr) (n c s m c1 S z : Nat) (i v : Int) (d : Nat → Int × Nat) (p : Nat → Option Addr × Nat × Nat) (w : World) (h : Num w w.heap.size A n c i.natAbs) (hn : n ≤ 1000) (hs : s ≤ 1000) (hD : Decs w w.heap.size A1 m c1 d p) (hm : m ≤ 12) (hv : max v 0 = (S : Int)) (hS : S ≤ 60)
   (hneg : ∀ j, j < m → 0 ≤ (d j).1) (hpos : ∃ j, j < m ∧ 0 < (d j).1) (hex : exactB i s S = true) (hz : quantZ (i.natAbs : Int) s S = (z : Int)) (hzl : (dg z).length ≤ 300) :
   Calls Tryz.prog 6 #[.agg #[.bool (ngB i), .slice A n c, .int .i64 (s : Int)], .slice A1 m c1, .int .i64 v] w (RetAlloc w (ngB i) z S d m) := by
 have hW0 := whole_pos hneg hpos
 have hm0 : 0 < m := by obtain ⟨j, hj, -⟩ := hpos; omega
 have H := Lib.hid h
 have HD := Lib.hid hD
 have HNEG : Hid (¬ ∃ j, j < m ∧ ngB (d j).1 = true) := by
   rintro ⟨j, hj, h1⟩
   have := hneg j hj
   have := of_decide_eq_true h1
   omega
 have HPOS : Hid (∃ j, j < m ∧ decide (0 < (d j).1) = true) := by
   obtain ⟨j, hj, h1⟩ := hpos
   exact ⟨j, hj, decide_eq_true h1⟩
 have HW := Lib.hid hW0
 have HV := Lib.hid hv
 have HEX := Lib.hid hex
 have HZ := Lib.hid hz
 have HZL := Lib.hid hzl
 have HVS : Hid (max (S : Int) 0 = (S : Int)) := by show _ = _; omega
 have HWL : Hid ((dg (wholeW d m)).length ≤ 170) := by
   have h1 := hD.short
   have h2 : Short (shS d) m := fun j hj => ⟨Nat.le_trans (dg_len_mono (stripI_abs_le _ _ _)) (h1 j hj).1, Nat.le_trans (Nat.sub_le _ _) (h1 j hj).2⟩
   exact (h2.sum (Nat.le_refl m) (by omega)).2
 have hc1 := hD.cap
 have hr1 := hD.room
 unfold maxLen at hr1
 clear h hD hneg hpos hW0 hv hex hz hzl
 go_enter Tryz.func6, Tryz.ntmps6
 go_wp2_with fail
 generalize hW : World.alloc w _ = W0
 have E0 : St w W0 [(A, n, c, i.natAbs)] [(w.heap.size, .bool (ngB i), .slice A n c, .int .i64 (s : Int))] := by rw [← hW]; exact (start_one H.out).lay rfl
 have E := Lib.hid E0
 clear hW E0
 refine (some_any 22 ngB by_below 12 60 A1 m c1 d p _ (DecsG.of (HD.out.on E.out.bel))).mono ?_
 rintro e w1 ⟨⟨b, rfl, hb0⟩, hb⟩
 obtain rfl : b = false := by
   cases b with
   | false => rfl
   | true => exact absurd (hb0.1 rfl) HNEG.out
 replace E := Lib.hid (St.step E.out hb)
 clear hb hb0
 go_wp2_with fail
 refine (some_any 23 (fun i => decide (0 < i)) by_above 12 60 A1 m c1 d p _ (DecsG.of (HD.out.on E.out.bel))).mono ?_
 rintro e w2 ⟨⟨b, rfl, hb0⟩, hb⟩
 obtain rfl : b = true := hb0.2 HPOS.out
 replace E := Lib.hid (St.step E.out hb)
 clear hb hb0
 obtain ⟨p0, p1, p2, pf0, pf1, pf2, plt⟩ := St.at_ (x0 := .bool (ngB i)) (x1 := .slice A n c) (x2 := .int .i64 (s : Int)) (g := w.heap.size) E (by simp)
 go_wp2_with fail
 refine (exact_is (St.got E (A := A) (n := n) (c := c) (a := i.natAbs) (by simp)) hn (by omega) HV.out (by omega) HEX.out).mono ?_
 rintro e w3 ⟨rfl, hb⟩
 replace E := Lib.hid (St.step E.out hb)
 clear hb p0 p1 p2 pf0 pf1 pf2 plt
 obtain ⟨p0, p1, p2, pf0, pf1, pf2, plt⟩ := St.at_ (x0 := .bool (ngB i)) (x1 := .slice A n c) (x2 := .int .i64 (s : Int)) (g := w.heap.size) E (by simp)
 go_wp2_with fail
 have hni : (dg i.natAbs).length ≤ 1000 := by have := H.out.len; omega
 have HNI := Lib.hid hni
 clear hni
 refine (abs_is5 (x := (i.natAbs : Int)) (St.got E (A := A) (n := n) (c := c) (a := i.natAbs) (by simp)) (by omega) (by omega) rfl).mono ?_
 rintro e w4 ⟨A2, n2, c2, rfl, h2, hb⟩
 have hn2 : n2 ≤ 1000 := len_le h2 (by rw [Int.natAbs_natCast]; exact HNI.out)
 replace E := Lib.hid (St.push E.out hb h2)
 clear hb h2 p0 p1 p2 pf0 pf1 pf2 plt
 go_wp2_with fail
 refine (quant_is (St.got E (A := A2) (n := n2) (c := c2) (a := ((i.natAbs : Nat) : Int).natAbs) (by simp)) hn2 hs HV.out (by omega) HZ.out).mono ?_
 rintro e w5 ⟨A3, n3, c3, rfl, h3, hb⟩
 have hn3 : n3 ≤ 300 := len_le h3 (by rw [Int.natAbs_natCast]; exact HZL.out)
 replace E := Lib.hid (St.push E.out hb h3)
 replace E : Hid (St w w5 [(A3, n3, c3, ((z : Nat) : Int).natAbs), (A, n, c, i.natAbs)] _) := Lib.hid (E.out.sub (by simp) (fun q hq => hq))
 have L0 : Hid (w.heap.size < w5.heap.size) := (St.at_ (x0 := .bool (ngB i)) (x1 := .slice A n c) (x2 := .int .i64 (s : Int)) (g := w.heap.size) E (by simp)).lt
 clear hb h3 HNI
 go_wp2_with fail
 replace E := Lib.hid (St.lay (t := 25) (x0 := .bool (ngB (z : Int))) (x1 := .slice A3 n3 c3) (x2 := .int .i64 (S : Int)) (g := w5.heap.size) E.out rfl)
 generalize hW2 : World.alloc w5 _ = W2 at E ⊢
 clear hW2
 have L1 : Hid (w.heap.size < W2.heap.size ∧ w5.heap.size < W2.heap.size) := ⟨(St.at_ (x0 := .bool (ngB i)) (x1 := .slice A n c) (x2 := .int .i64 (s : Int)) (g := w.heap.size) E (by simp)).lt, (St.at_ (x0 := .bool (ngB (z : Int))) (x1 := .slice A3 n3 c3) (x2 := .int .i64 (S : Int)) (g := w5.heap.size) E (by simp)).lt⟩
 have hzz : ((z : Nat) : Int).natAbs = z := Int.natAbs_natCast z
 refine (floors_any A3 A1 n3 c3 S m c1 (z : Int) d p _ (St.got E (A := A3) (n := n3) (c := c3) (a := ((z : Nat) : Int).natAbs) (by simp)) (by omega) (by omega) (DecsG.of (HD.out.on E.out.bel)) (by omega) HW.out).mono ?_
 rintro e w6 ⟨A4, c4, A5, c5, l4, l5, base, rfl, hbase, hgr, hl4, hl5, hd4, hd5, hb⟩
 rw [hzz] at hd4 hd5
 obtain ⟨g4, rfl, hg4, R4, -, hc4, hm4⟩ := RowQ.of_own hgr.own4 (by rw [hl4]; exact hm0)
 rw [hl4] at hc4
 have N4 : Hid (∀ j, j < l4.length → Num w6 w6.heap.size (pOf l4 j).1 (pOf l4 j).2.1 (pOf l4 j).2.2 (dOf l4 j).1.natAbs) := fun j hj => (hgr.num (dOf l4 j, pOf l4 j) (.inl (List.mem_of_getElem? (of_at hj)))).1
 have R5 : Hid (DecsG 170 60 w6 w6.heap.size A5 m c5 (dOf l5) (pOf l5)) := by
   have e := own_decs (L := 170) (S := 60) (n := m) (A := A5) (c := c5) hgr.own5 (fun q hq => (hgr.num q (.inr hq)).1) (fun q hq => by
     obtain ⟨j, hj⟩ := List.mem_iff_getElem?.1 hq
     have hjl : j < l5.length := by
       rcases Nat.lt_or_ge j l5.length with h' | h'
       · exact h'
       · rw [List.getElem?_eq_none h'] at hj; cases hj
     have e1 := (of_at hjl).symm.trans hj
     injection e1 with e1
     have e2 := hd5 j (by omega)
     have e3 : q.1 = dOf l5 j := by rw [← e1]
     rw [e3, e2]
     refine ⟨?_, Nat.zero_le _⟩
     show (dg ((_ : Nat) : Int).natAbs).length ≤ 170
     rw [Int.natAbs_natCast]
     exact Nat.le_trans (dg_len_mono (Nat.le_of_lt (Nat.mod_lt _ HW.out))) HWL.out)
   rw [hl5] at e; exact e
 have RR4 := Lib.hid R4
 have HD4 := Lib.hid hd4
 have HK5 : Hid (Keyed (fun j => ((restN z d m j : Nat) : Int)) (dOf l5) m) := keyed_rests hd5
 have HL4 := Lib.hid hl4
 have hgb : W2.heap.size ≤ g4 := Nat.le_trans hbase hg4
 have HGB := Lib.hid hgb
 have HM4 := Lib.hid hm4
 have hm4' := hm4
 unfold maxLen at hm4'
 replace E := Lib.hid (St.step E.out hb)
 clear hb R4 hd4 hd5 hgr hl4 hl5 hbase hg4 hgb hm4 hzz
 go_wp2_with fail
 have SUM : Hid (∀ k, k ≤ m → sumS (dOf l4) k ≤ 60 ∧ (dg (sumI (dOf l4) k).natAbs).length ≤ 300) := by
   intro k hk
   have e := sum_same (d := dOf l4) (x := fun j => z * partP d m j / wholeW d m) (S := S) (m := k) (fun j hj => HD4.out j (by omega))
   refine ⟨by omega, ?_⟩
   rw [e.1, Int.natAbs_natCast]
   refine Nat.le_trans (dg_len_mono ?_) HZL.out
   refine Nat.le_trans (sumN_upto hk) ?_
   have h1 : wholeW d m * sumN (fun j => z * partP d m j / wholeW d m) m ≤ wholeW d m * z := by
     rw [← sumN_mul]
     refine Nat.le_trans (sumN_le (g := fun j => z * partP d m j) fun j _ => Nat.mul_div_le _ _) ?_
     rw [sumN_mul, Nat.mul_comm]
     refine Nat.mul_le_mul_right _ (Nat.le_of_eq (parts_sum fun j hj => ?_))
     refine Decidable.byContradiction fun hng => HNEG.out ⟨j, hj, decide_eq_true (by omega)⟩
   exact Nat.le_of_mul_le_mul_left h1 HW.out
 refine (sumG_any 300 60 300 60 (some ⟨g4, 0, none⟩) m c4 (dOf l4) (pOf l4) w6 (RR4.out.decs HL4.out hc4 HM4.out (fun _ _ => rfl) (fun j hj => N4.out j (by rw [HL4.out]; exact hj)) (fun j hj => by
   rw [HD4.out j hj]
   refine ⟨?_, hS⟩
   show (dg ((_ : Nat) : Int).natAbs).length ≤ 300
   rw [Int.natAbs_natCast]
   have e := SUM.out m (Nat.le_refl m)
   rw [(sum_same (d := dOf l4) (x := fun j => z * partP d m j / wholeW d m) (S := S) (m := m) HD4.out).1, Int.natAbs_natCast] at e
   exact Nat.le_trans (dg_len_mono (sumN_ge (f := fun j => z * partP d m j / wholeW d m) hj)) e.2)) (by omega) (by omega) (by omega) (by omega) SUM.out).mono ?_
 rw [(sum_same (d := dOf l4) (x := fun j => z * partP d m j / wholeW d m) (S := S) (m := m) HD4.out).1, (sum_same (d := dOf l4) (x := fun j => z * partP d m j / wholeW d m) (S := S) (m := m) HD4.out).2.1 hm0]
 rintro e w7 ⟨A6, n6, c6, rfl, h6, hb⟩
 obtain ⟨F0, hF0⟩ : ∃ F0, F0 = sumN (fun j => z * partP d m j / wholeW d m) m := ⟨_, rfl⟩
 rw [← hF0] at h6 ⊢
 have HF0 := Lib.hid hF0
 replace E := Lib.hid (St.push E.out hb h6)
 replace RR4 := Lib.hid (RR4.out.on hb)
 replace N4 : Hid (∀ j, j < l4.length → Num w7 w7.heap.size (pOf l4 j).1 (pOf l4 j).2.1 (pOf l4 j).2.2 (dOf l4 j).1.natAbs) := fun j hj => (N4.out j hj).on hb
 replace R5 := Lib.hid (R5.out.on hb)
 have L2 : Hid (g4 < w7.heap.size) := RR4.out.lt
 have L3 : Hid (w5.heap.size < w7.heap.size ∧ w.heap.size < w7.heap.size) := ⟨(St.at_ (x0 := .bool (ngB (z : Int))) (x1 := .slice A3 n3 c3) (x2 := .int .i64 (S : Int)) (g := w5.heap.size) E (by simp)).lt, (St.at_ (x0 := .bool (ngB i)) (x1 := .slice A n c) (x2 := .int .i64 (s : Int)) (g := w.heap.size) E (by simp)).lt⟩
 clear hb h6 hF0 SUM
 go_wp2_with fail
 replace E := Lib.hid (St.lay (t := 25) (x0 := .bool (ngB (F0 : Int))) (x1 := .slice A6 n6 c6) (x2 := .int .i64 (S : Int)) (g := w7.heap.size) E.out rfl)
 have hba := (Below.refl w7.heap.size w7).alloc (Nat.le_refl _) (.cells #[.bool (ngB (F0 : Int)), .slice A6 n6 c6, .int .i64 (S : Int)] 25)
 replace RR4 := Lib.hid (RR4.out.on hba)
 have N4' := Lib.hid (fun j hj => (N4.out j hj).on hba)
 replace R5 := Lib.hid (R5.out.on hba)
 clear hba N4
 generalize hW3 : World.alloc w7 _ = W3 at E RR4 N4' R5 ⊢
 clear hW3
 refine (most_any _ 170 60 A5 m c5 (dOf l5) (pOf l5) _ R5.out (by omega) (by omega) HK5.out hm0 (by omega)).mono ?_
 rintro e w8 ⟨gz, zs, rfl, hgz, hzs, hzl, hsrt, hb⟩
 obtain ⟨K, hK1, hK2, hK3⟩ := left_out HW.out (parts_sum (d := d) (m := m) fun j hj => Decidable.byContradiction fun hng => HNEG.out ⟨j, hj, decide_eq_true (by omega)⟩) hsrt
 have LF : Hid (Left z d m zs K) := ⟨hsrt, hK1, hK2, hK3⟩
 have HZN := Lib.hid hzl
 have E3 := Lib.hid (St.step E.out hb)
 have EA : AL w w8 [(A6, n6, c6, ((F0 : Nat) : Int).natAbs), (A3, n3, c3, ((z : Nat) : Int).natAbs), (A, n, c, i.natAbs)] [(w7.heap.size, .bool (ngB (F0 : Int)), .slice A6 n6 c6, .int .i64 (S : Int)), (w5.heap.size, .bool (ngB (z : Int)), .slice A3 n3 c3, .int .i64 (S : Int)), (w.heap.size, .bool (ngB i), .slice A n c, .int .i64 (s : Int))] g4 l4 gz zs := by
   refine ⟨E3.out, RR4.out.on hb, fun j hj => (N4'.out j hj).on hb, hzs, ?_, Nat.le_trans (Nat.le_of_lt L1.out.1) HGB.out, fun q hq => ?_⟩
   · have h1 := RR4.out.lt; omega
   · have h1 := RR4.out.lt
     have h2 := (St.at_ (x0 := .bool (ngB (F0 : Int))) (x1 := .slice A6 n6 c6) (x2 := .int .i64 (S : Int)) (g := w7.heap.size) E (by simp)).lt
     have h3 := L1.out
     have h4 := L2.out
     have h5 := HGB.out
     simp only [List.mem_cons, List.not_mem_nil, or_false] at hq
     rcases hq with rfl | rfl | rfl <;> show _ ≠ g4 ∧ _ ≠ gz <;> omega
 replace E := Lib.hid EA
 clear EA E3 hb RR4 N4' R5 HK5 hgz hzs hzl hsrt hK1 hK2 hK3 HD HGB L1 L2 HW HWL HNEG HPOS
 have BGS : Hid (w5.heap.size ≠ w7.heap.size ∧ w.heap.size ≠ w7.heap.size ∧ w.heap.size ≠ w5.heap.size) := by
   have h1 := L0.out
   have h2 := L3.out
   exact ⟨by omega, by omega, by omega⟩
 go_wp2_with fail
 go_loopw [42] (fun iv wr => ∃ (k : Nat) (l : List DQ) (As : Option Addr) (ns cs : Nat), k ≤ K ∧ iv = .int .i64 k ∧ l.length = m ∧ (∀ j, j < m → dOf l j = (((shareN z d m zs k j : Nat) : Int), S)) ∧ AL w wr [(As, ns, cs, ((F0 + k : Nat) : Int).natAbs), (A3, n3, c3, ((z : Nat) : Int).natAbs), (A, n, c, i.natAbs)] [(w7.heap.size, .bool (ngB ((F0 + k : Nat) : Int)), .slice As ns cs, .int .i64 (S : Int)), (w5.heap.size, .bool (ngB (z : Int)), .slice A3 n3 c3, .int .i64 (S : Int)), (w.heap.size, .bool (ngB i), .slice A n c, .int .i64 (s : Int))] g4 l gz zs) (fun iv _ => K + 1 - (intOf iv).toNat)
 case atStart => exact ⟨0, l4, A6, n6, c6, Nat.zero_le _, rfl, HL4.out, HD4.out, E.out⟩
 case round =>
   obtain ⟨k, l, As, ns, cs, hkK, rfl, hll, hdl, hE⟩ := hrel
   clear E
   have E := Lib.hid hE
   have HLL := Lib.hid hll
   have HDL := Lib.hid hdl
   clear hE hll hdl HL4 HD4
   have hkm : k < m := by have := LF.out.2.2.1; omega
   have hc := E.out.zrow.cell (i := k) (by rw [HZN.out]; exact hkm)
   obtain ⟨t, ht⟩ : ∃ t, t = gd zs k := ⟨_, rfl⟩
   have htm : t < m := by rw [ht]; exact LF.out.1.1 k hkm
   rw [← ht] at hc
   have HT := Lib.hid ht
   clear ht
   have hFk : F0 + k ≤ z := by have h1 := LF.out.2.1; rw [← HF0.out] at h1; omega
   have LFk : Hid ((dg ((F0 + k : Nat) : Int).natAbs).length ≤ 300) := by show _ ≤ _; rw [Int.natAbs_natCast]; exact Nat.le_trans (dg_len_mono hFk) HZL.out
   have hns : ns ≤ 300 := len_le (E.out.st.num (As, ns, cs, ((F0 + k : Nat) : Int).natAbs) (by simp)) LFk.out
   have ES := Lib.hid E.out.st
   obtain ⟨p0, p1, p2, pf0, pf1, pf2, plt⟩ := St.at_ (x0 := .bool (ngB ((F0 + k : Nat) : Int))) (x1 := .slice As ns cs) (x2 := .int .i64 (S : Int)) (g := w7.heap.size) ES (by simp)
   obtain ⟨q0, q1, q2, qf0, qf1, qf2, qlt⟩ := St.at_ (x0 := .bool (ngB (z : Int))) (x1 := .slice A3 n3 c3) (x2 := .int .i64 (S : Int)) (g := w5.heap.size) ES (by simp)
   rcases Nat.lt_or_ge k K with hlt | hge
   · have HC : Hid (cmpD ((F0 + k : Nat) : Int) S (z : Int) S = -1) := cmp_at.1 (by have h1 := LF.out.2.1; rw [← HF0.out] at h1; omega)
     go_wp2_with fail
     refine (cmp5_is (St.got ES (A := As) (n := ns) (c := cs) (a := ((F0 + k : Nat) : Int).natAbs) (by simp)) (St.got ES (A := A3) (n := n3) (c := c3) (a := ((z : Nat) : Int).natAbs) (by simp)) (by omega) (by omega) (by omega) (by omega) HC.out).mono ?_
     rintro e v1 ⟨rfl, hb⟩
     replace E := Lib.hid (AL.step E.out hb)
     clear hb p0 p1 p2 pf0 pf1 pf2 plt q0 q1 q2 qf0 qf1 qf2 qlt ES hc
     go_wp2_with fail
     have DT : dOf l t = (((shareN z d m zs k t : Nat) : Int), S) := HDL.out t htm
     obtain ⟨Ap, np, cp, PT⟩ : ∃ Ap np cp, pOf l t = (Ap, np, cp) := ⟨_, _, _, rfl⟩
     have htl : t < l.length := by rw [HLL.out]; exact htm
     have NT : Hid (∀ v, ∀ ns' bs' gz' zs', AL w v ns' bs' g4 l gz' zs' → Num v v.heap.size Ap np cp ((shareN z d m zs k t : Nat) : Int).natAbs) := fun v ns' bs' gz' zs' h => by
       have e := h.num t htl
       rw [PT, DT] at e; exact e
     have hxz : shareN z d m zs k t ≤ z := share_le LF.out hkK htm
     obtain ⟨x, hx⟩ : ∃ x, x = shareN z d m zs k t := ⟨_, rfl⟩
     rw [← hx] at DT NT hxz
     have HX := Lib.hid hx
     have hnp : np ≤ 300 := by
       have e := (NT.out _ _ _ _ _ E.out).len
       rw [Int.natAbs_natCast] at e
       have := dg_len_mono hxz
       have := HZL.out
       omega
     have HDT := Lib.hid DT
     have HPT := Lib.hid PT
     obtain ⟨X1, hX1⟩ : ∃ X1 : Int, X1 = ((x + 1 : Nat) : Int) := ⟨_, rfl⟩
     obtain ⟨F1, hF1⟩ : ∃ F1 : Int, F1 = ((F0 + (k + 1) : Nat) : Int) := ⟨_, rfl⟩
     obtain ⟨Fk, hFk0⟩ : ∃ Fk : Int, Fk = ((F0 + k : Nat) : Int) := ⟨_, rfl⟩
     have FX : Hid (addZ (x : Int) S 1 S = X1) := by show _ = _; rw [hX1]; exact add_unit
     have FS : Hid (addZ Fk S 1 S = F1) := by show _ = _; rw [hFk0, hF1]; exact add_unit
     have FM : Hid (max S S = S) := Nat.max_self S
     have O1 : Hid ((dg (1 : Int).natAbs).length ≤ 1) := (by show _ ≤ _; exact dg_len_le (by decide))
     have i1 : (0 : Int) ≤ (t : Int) := by omega
     have i2 : (t : Int) < (m : Int) := by omega
     have HX1 := Lib.hid hX1
     have HF1 := Lib.hid hF1
     rw [← hFk0] at E LFk
     clear DT PT hx hxz hX1 hF1 hFk0
     obtain ⟨y0, y1, y2⟩ := E.out.row.spot htl HDT.out HPT.out
     have X8 := (St.at_ (x0 := .bool (ngB (z : Int))) (x1 := .slice A3 n3 c3) (x2 := .int .i64 (S : Int)) (g := w5.heap.size) (Lib.hid E.out.st) (by simp)).c2
     replace E := Lib.hid (AL.step E.out (Below.refl _ _).drew)
     go_region_law (first | (go_simp; go_at_call 19; refine (unit_is (S := S) _ HVS.out (by omega)).mono ?_; rintro e v2 ⟨Au, nu, cu, rfl, h2, hb2⟩; have hnu : nu ≤ 1 := len_le h2 O1.out; replace E := Lib.hid (AL.push E.out hb2 h2); clear h2 hb2 y0 y1 y2 X8; obtain ⟨y0, y1, y2⟩ := E.out.row.spot htl HDT.out HPT.out) | (go_simp; go_at_call 29; refine (add_is5 (i := (x : Int)) (s := S) (j := 1) (t := S) (NT.out _ _ _ _ _ E.out) (St.got (Lib.hid E.out.st) (A := Au) (n := nu) (c := cu) (a := (1 : Int).natAbs) (by simp)) (by omega) (by omega) (by omega) (by omega) FM.out FX.out).mono ?_; rintro e v3 ⟨Aa, na, ca, rfl, h3, hb3⟩; replace E := Lib.hid (AL.push E.out hb3 h3); clear h3 hb3 y0 y1 y2; obtain ⟨y0, y1, y2⟩ := E.out.row.spot htl HDT.out HPT.out; obtain ⟨z0, z1, z2⟩ := E.out.row.frees htl))
     all_goals
       replace E := Lib.hid (AL.put E.out htl ((X1, S), (Aa, na, ca)) (St.got (Lib.hid E.out.st) (A := Aa) (n := na) (c := ca) (a := X1.natAbs) (by simp)))
       clear y0 y1 y2 z0 z1 z2
       generalize World.setCell (World.setCell (World.setCell v3 _ _) _ _) _ _ = V4 at E ⊢
       replace E : Hid (AL w V4 [(As, ns, cs, Fk.natAbs), (A3, n3, c3, ((z : Nat) : Int).natAbs), (A, n, c, i.natAbs)] [(w7.heap.size, .bool (ngB Fk), .slice As ns cs, .int .i64 (S : Int)), (w5.heap.size, .bool (ngB (z : Int)), .slice A3 n3 c3, .int .i64 (S : Int)), (w.heap.size, .bool (ngB i), .slice A n c, .int .i64 (s : Int))] g4 (l.set t ((X1, S), (Aa, na, ca))) gz zs) := Lib.hid (E.out.sub (by simp) (fun q hq => hq))
       obtain ⟨p0, p1, p2, pf0, pf1, pf2, plt⟩ := St.at_ (x0 := .bool (ngB Fk)) (x1 := .slice As ns cs) (x2 := .int .i64 (S : Int)) (g := w7.heap.size) (Lib.hid E.out.st) (by simp)
       have X8 := (St.at_ (x0 := .bool (ngB (z : Int))) (x1 := .slice A3 n3 c3) (x2 := .int .i64 (S : Int)) (g := w5.heap.size) (Lib.hid E.out.st) (by simp)).c2
       go_wp2_with fail
       replace E := Lib.hid (AL.step E.out (Below.refl _ _).drew)
       go_region_law (first | (go_simp; go_at_call 19; refine (unit_is (S := S) _ HVS.out (by omega)).mono ?_; rintro e v5 ⟨Av, nv, cv, rfl, h2, hb2⟩; have hnv : nv ≤ 1 := len_le h2 O1.out; replace E := Lib.hid (AL.push E.out hb2 h2); clear h2 hb2 p0 p1 p2 pf0 pf1 pf2 plt X8; obtain ⟨p0, p1, p2, pf0, pf1, pf2, plt⟩ := St.at_ (x0 := .bool (ngB Fk)) (x1 := .slice As ns cs) (x2 := .int .i64 (S : Int)) (g := w7.heap.size) (Lib.hid E.out.st) (by simp)) | (go_simp; go_at_call 29; refine (add_is5 (i := Fk) (s := S) (j := 1) (t := S) (St.got (Lib.hid E.out.st) (A := As) (n := ns) (c := cs) (a := Fk.natAbs) (by simp)) (St.got (Lib.hid E.out.st) (A := Av) (n := nv) (c := cv) (a := (1 : Int).natAbs) (by simp)) (by omega) (by omega) (by omega) (by omega) FM.out FS.out).mono ?_; rintro e v6 ⟨Ab, nb, cb, rfl, h3, hb3⟩; replace E := Lib.hid (AL.push E.out hb3 h3); clear h3 hb3 p0 p1 p2 pf0 pf1 pf2 plt; obtain ⟨p0, p1, p2, pf0, pf1, pf2, plt⟩ := St.at_ (x0 := .bool (ngB Fk)) (x1 := .slice As ns cs) (x2 := .int .i64 (S : Int)) (g := w7.heap.size) (Lib.hid E.out.st) (by simp)))
       all_goals
         replace E := Lib.hid (AL.store E.out (k := w7.heap.size) (x0 := .bool (ngB Fk)) (x1 := .slice As ns cs) (x2 := .int .i64 (S : Int)) (by simp) (noLimb_bool _) (noLimb_slice _ _ _) (noLimb_int _) [(w5.heap.size, .bool (ngB (z : Int)), .slice A3 n3 c3, .int .i64 (S : Int)), (w.heap.size, .bool (ngB i), .slice A n c, .int .i64 (s : Int))] (by have b1 := BGS.out.1; have b2 := BGS.out.2.1; simp <;> omega) (.bool (ngB F1)) (.slice Ab nb cb) (.int .i64 (S : Int)))
         clear p0 p1 p2 pf0 pf1 pf2 plt
         go_wp2_with fail
         go_roundw
         case rel =>
           refine ⟨k + 1, l.set t ((X1, S), (Aa, na, ca)), Ab, nb, cb, by omega, by go_num, by rw [List.length_set]; exact HLL.out, fun j hj => ?_, ?_⟩
           · rw [dOf_set htl, share_step, ← HT.out]
             by_cases e : j = t
             · rw [if_pos e, if_pos e, e, ← HX.out, HX1.out]
             · rw [if_neg e, if_neg e]; exact HDL.out j hj
           · rw [← HF1.out]; exact E.out.sub (by simp) (fun q hq => hq)
         case measure => simp [intOf]; omega
   · obtain rfl : k = K := by omega
     have HC : Hid (cmpD ((F0 + k : Nat) : Int) S (z : Int) S = 0) := cmp_at.2 (by have h1 := LF.out.2.1; rw [← HF0.out] at h1; omega)
     go_wp2_with fail
     refine (cmp5_is (St.got ES (A := As) (n := ns) (c := cs) (a := ((F0 + k : Nat) : Int).natAbs) (by simp)) (St.got ES (A := A3) (n := n3) (c := c3) (a := ((z : Nat) : Int).natAbs) (by simp)) (by omega) (by omega) (by omega) (by omega) HC.out).mono ?_
     rintro e v1 ⟨rfl, hb⟩
     replace E := Lib.hid (AL.step E.out hb)
     clear hb p0 p1 p2 pf0 pf1 pf2 plt q0 q1 q2 qf0 qf1 qf2 qlt ES hc
     obtain ⟨p0, p1, p2, pf0, pf1, pf2, plt⟩ := St.at_ (x0 := .bool (ngB i)) (x1 := .slice A n c) (x2 := .int .i64 (s : Int)) (g := w.heap.size) (Lib.hid E.out.st) (by simp)
     go_wp2_with fail
     refine (isBelow_any A n c s i _ (St.got (Lib.hid E.out.st) (A := A) (n := n) (c := c) (a := i.natAbs) (by simp))).mono ?_
     rintro e v2 ⟨rfl, hb⟩
     replace E := Lib.hid (AL.step E.out hb)
     clear hb p0 p1 p2 pf0 pf1 pf2 plt
     rcases hng : ngB i with _ | _
     · have HNG := Lib.hid hng
       clear hng
       go_wp2_with fail
       go_ret2
       refine ⟨zs, k, g4, c4, l, LF.out, rfl, HLL.out, hc4, HM4.out, E.out.row, fun j hj => ?_, fun j hj => ?_, E.out.st.bel⟩
       · rw [HDL.out j hj, HNG.out]; rfl
       · have e := E.out.num j (by rw [HLL.out]; exact hj)
         rw [HDL.out j hj] at e
         exact e
     · have HNG := Lib.hid hng
       clear hng
       replace E : Hid (AL w v2 [] [] g4 l gz zs) := Lib.hid (E.out.sub (fun q hq => absurd hq List.not_mem_nil) (fun q hq => absurd hq List.not_mem_nil))
       go_wp2_with fail
       go_loopw [71] (fun iv wr => ∃ (q : Nat) (l' : List DQ), q ≤ m ∧ iv = .int .i64 q ∧ l'.length = m ∧ (∀ j, j < m → dOf l' j = (if j < q then -((shareN z d m zs k j : Nat) : Int) else ((shareN z d m zs k j : Nat) : Int), S)) ∧ AL w wr [] [] g4 l' gz zs) (fun iv _ => m - (intOf iv).toNat)
       case atStart => exact ⟨0, l, Nat.zero_le _, rfl, HLL.out, fun j hj => by rw [if_neg (by omega)]; exact HDL.out j hj, E.out⟩
       case round =>
         obtain ⟨q, l', hqm, rfl, hll, hdl, hE⟩ := hrel
         clear E
         have E := Lib.hid hE
         have HLQ := Lib.hid hll
         have HDQ := Lib.hid hdl
         clear hE hll hdl
         rcases Nat.lt_or_ge q m with hlt | hge
         · have htl : q < l'.length := by rw [HLQ.out]; exact hlt
           have DT := HDQ.out q hlt
           rw [if_neg (by omega)] at DT
           obtain ⟨x, hx⟩ : ∃ x, x = shareN z d m zs k q := ⟨_, rfl⟩
           have hxz : shareN z d m zs k q ≤ z := share_le LF.out (Nat.le_refl _) hlt
           rw [← hx] at DT hxz
           obtain ⟨Ap, np, cp, PT⟩ : ∃ Ap np cp, pOf l' q = (Ap, np, cp) := ⟨_, _, _, rfl⟩
           have NT : Hid (∀ v ns' bs' gz' zs', AL w v ns' bs' g4 l' gz' zs' → Num v v.heap.size Ap np cp (x : Int).natAbs) := fun v ns' bs' gz' zs' h => by
             have e := h.num q htl
             rw [PT, DT] at e; exact e
           have hnp : np ≤ 300 := by
             have e := (NT.out _ _ _ _ _ E.out).len
             rw [Int.natAbs_natCast] at e
             have := dg_len_mono hxz
             have := HZL.out
             omega
           have HDT := Lib.hid DT
           have HPT := Lib.hid PT
           have HX := Lib.hid hx
           obtain ⟨X1, hX1⟩ : ∃ X1 : Int, -(x : Int) = X1 := ⟨_, rfl⟩
           have HX1 := Lib.hid hX1
           have i1 : (0 : Int) ≤ (q : Int) := by omega
           have i2 : (q : Int) < (m : Int) := by omega
           clear DT PT hx hxz hX1
           obtain ⟨y0, y1, y2⟩ := E.out.row.spot htl HDT.out HPT.out
           go_wp2_with fail
           have EB := Lib.hid (AL.step E.out ((Below.refl _ _).alloc (Nat.le_refl _) (.cells #[.bool (ngB (x : Int)), .slice Ap np cp, .int .i64 (S : Int)] 25)))
           refine (neg_is5 (NT.out _ _ _ _ _ EB.out) (by omega) (by omega) HX1.out).mono ?_
           rintro e v3 ⟨Aa, na, ca, rfl, h3, hb3⟩
           replace E := Lib.hid (AL.push EB.out hb3 h3)
           clear h3 hb3 y0 y1 y2 EB
           obtain ⟨y0, y1, y2⟩ := E.out.row.spot htl HDT.out HPT.out
           obtain ⟨z0, z1, z2⟩ := E.out.row.frees htl
           go_wp2_with fail
           go_roundw
           case rel =>
             refine ⟨q + 1, l'.set q ((X1, S), (Aa, na, ca)), by omega, by go_num, by rw [List.length_set]; exact HLQ.out, fun j hj => ?_, (E.out.put htl ((X1, S), (Aa, na, ca)) (St.got (Lib.hid E.out.st) (A := Aa) (n := na) (c := ca) (a := X1.natAbs) (by simp))).sub (fun q hq => absurd hq List.not_mem_nil) (fun q hq => absurd hq List.not_mem_nil)⟩
             rw [dOf_set htl]
             by_cases e : j = q
             · rw [if_pos e, if_pos (by omega), e, ← HX.out, HX1.out]
             · rw [if_neg e, HDQ.out j hj]
               by_cases e2 : j < q
               · rw [if_pos e2, if_pos (by omega)]
               · rw [if_neg e2, if_neg (by omega)]
           case measure => simp [intOf]; omega
         · obtain rfl : q = m := by omega
           go_wp2_with fail
           go_ret2
           refine ⟨zs, k, g4, c4, l', LF.out, rfl, HLQ.out, hc4, HM4.out, E.out.row, fun j hj => ?_, fun j hj => ?_, E.out.st.bel⟩
           · rw [HDQ.out j hj, HNG.out, if_pos hj]; rfl
           · have e := E.out.num j (by rw [HLQ.out]; exact hj)
             rw [HDQ.out j hj, if_pos hj] at e
             have e2 : (-((shareN z d q zs k j : Nat) : Int)).natAbs = shareN z d q zs k j := by rw [Int.natAbs_neg, Int.natAbs_natCast]
             rw [e2] at e
             exact e
end Go.Proofs.YthlhpgphmfnlgaaGreat
