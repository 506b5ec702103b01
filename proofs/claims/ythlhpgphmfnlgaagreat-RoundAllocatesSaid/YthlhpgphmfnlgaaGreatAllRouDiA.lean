/- What the proofs of this layer need of the layer Rou, in one text. -/
import Derived.Test.YthlhpgphmfnlgaaGreatRouS
import Derived.Test.YthlhpgphmfnlgaaGreatAllRouMathA
import Derived.Test.YthlhpgphmfnlgaaGreatAllDecD
import Derived.Test.YthlhpgphmfnlgaaGreatRouDg
import Derived.Test.YthlhpgphmfnlgaaGreatRouDc
set_option maxRecDepth 100000
set_option maxHeartbeats 32000000
set_option linter.unusedVariables false
set_option linter.unusedSimpArgs false
/-
 Allocate where it does not allocate: a part below nought, or a total that is not exact.
-/
namespace Go.Proofs.YthlhpgphmfnlgaaGreat
open Go.RowKit
theorem alloc_arg (A A1 : Option Addr) (n c s m c1 : Nat) (i v : Int) (d : Nat → Int × Nat) (p : Nat → Option Addr × Nat × Nat) (w : World) (h : Num w w.heap.size A n c i.natAbs) (hD : Decs w w.heap.size A1 m c1 d p)
   (hneg : ∃ j, j < m ∧ (d j).1 < 0) :
   Calls Tryz.prog 6 #[.agg #[.bool (ngB i), .slice A n c, .int .i64 (s : Int)], .slice A1 m c1, .int .i64 v] w (RetNoneErr w 1) := by
 have H := Lib.hid h
 have HD := Lib.hid hD
 have HNEG : Hid (∃ j, j < m ∧ ngB (d j).1 = true) := by
   obtain ⟨j, hj, h1⟩ := hneg
   exact ⟨j, hj, decide_eq_true h1⟩
 clear h hD hneg
 go_enter Tryz.func6, Tryz.ntmps6
 go_wp2_with fail
 generalize hW : World.alloc w _ = W0
 have E0 : St w W0 [(A, n, c, i.natAbs)] [(w.heap.size, .bool (ngB i), .slice A n c, .int .i64 (s : Int))] := by rw [← hW]; exact (start_one H.out).lay rfl
 have E := Lib.hid E0
 clear hW E0
 refine (some_any 22 ngB by_below 12 60 A1 m c1 d p _ (DecsG.of (HD.out.on E.out.bel))).mono ?_
 rintro e w1 ⟨⟨b, rfl, hb0⟩, hb⟩
 obtain rfl : b = true := hb0.2 HNEG.out
 replace E := Lib.hid (St.step E.out hb)
 clear hb hb0
 go_wp2_with fail
 go_ret2
 exact ⟨rfl, E.out.bel⟩
theorem alloc_inexact (A A1 : Option Addr) (n c s m c1 : Nat) (i v : Int) (d : Nat → Int × Nat) (p : Nat → Option Addr × Nat × Nat) (w : World) (h : Num w w.heap.size A n c i.natAbs) (hD : Decs w w.heap.size A1 m c1 d p)
   (hn : n ≤ 1000) (hs : s ≤ 1000) (S : Nat) (hv : max v 0 = (S : Int)) (hS : S ≤ 60) (hneg : ∀ j, j < m → 0 ≤ (d j).1) (hpos : ∃ j, j < m ∧ 0 < (d j).1) (hex : exactB i s S = false) :
   Calls Tryz.prog 6 #[.agg #[.bool (ngB i), .slice A n c, .int .i64 (s : Int)], .slice A1 m c1, .int .i64 v] w (RetNoneErr w 4) := by
 have H := Lib.hid h
 have HD := Lib.hid hD
 have HNEG : Hid (¬ ∃ j, j < m ∧ ngB (d j).1 = true) := by
   rintro ⟨j, hj, h1⟩
   have := hneg j hj
   have := of_decide_eq_true h1
   omega
 have HPOS : Hid (∃ j, j < m ∧ decide (0 < (d j).1) = true) := by
   obtain ⟨j, hj, h1⟩ := hpos
   exact ⟨j, hj, decide_eq_true h1⟩
 have HV := Lib.hid hv
 have HEX := Lib.hid hex
 clear h hD hneg hpos hv hex
 go_enter Tryz.func6, Tryz.ntmps6
 go_wp2_with fail
 generalize hW : World.alloc w _ = W0
 have E0 : St w W0 [(A, n, c, i.natAbs)] [(w.heap.size, .bool (ngB i), .slice A n c, .int .i64 (s : Int))] := by rw [← hW]; exact (start_one H.out).lay rfl
 have E := Lib.hid E0
 clear hW E0
 refine (some_any 22 ngB by_below 12 60 A1 m c1 d p _ (DecsG.of (HD.out.on E.out.bel))).mono ?_
 rintro e w1 ⟨⟨b, rfl, hb0⟩, hb⟩
 obtain rfl : b = false := by
   cases b with
   | false => rfl
   | true => exact absurd (hb0.1 rfl) HNEG.out
 replace E := Lib.hid (St.step E.out hb)
 clear hb hb0
 go_wp2_with fail
 refine (some_any 23 (fun i => decide (0 < i)) by_above 12 60 A1 m c1 d p _ (DecsG.of (HD.out.on E.out.bel))).mono ?_
 rintro e w2 ⟨⟨b, rfl, hb0⟩, hb⟩
 obtain rfl : b = true := hb0.2 HPOS.out
 replace E := Lib.hid (St.step E.out hb)
 clear hb hb0
 obtain ⟨p0, p1, p2, pf0, pf1, pf2, plt⟩ := St.at_ (x0 := .bool (ngB i)) (x1 := .slice A n c) (x2 := .int .i64 (s : Int)) (g := w.heap.size) E (by simp)
 go_wp2_with fail
 refine (exact_is (St.got E (A := A) (n := n) (c := c) (a := i.natAbs) (by simp)) hn (by omega) HV.out (by omega) HEX.out).mono ?_
 rintro e w3 ⟨rfl, hb⟩
 replace E := Lib.hid (St.step E.out hb)
 clear hb p0 p1 p2 pf0 pf1 pf2 plt
 go_wp2_with fail
 go_ret2
 exact ⟨rfl, E.out.bel⟩
end Go.Proofs.YthlhpgphmfnlgaaGreat
/-
 The document's Allocate where a part is below nought.
-/
namespace Go.Proofs.YthlhpgphmfnlgaaGreat
open Go.RowKit
theorem refalloc_arg (A A1 : Option Addr) (n c s m c1 S k1 : Nat) (i v : Int) (d : Nat → Int × Nat) (p : Nat → Option Addr × Nat × Nat) (w : World) (h : Num w w.heap.size A n c i.natAbs) (hn : n ≤ 12) (hs : s ≤ 60) (hD : Decs w w.heap.size A1 m c1 d p) (hm : m ≤ 12) (hv : max v 0 = (S : Int)) (hS : S ≤ 60) (hk1 : k1 < m) (hneg : ∀ j, j < k1 → 0 ≤ (d j).1) (hbad : (d k1).1 < 0) :
   Calls Tryz.prog 7 #[.agg #[.bool (ngB i), .slice A n c, .int .i64 (s : Int)], .slice A1 m c1, .int .i64 v] w (RetNoneErr w 1) := by
 have hc := hD.cap
 have hr := hD.room
 unfold maxLen at hr
 have H := Lib.hid h
 have HD := Lib.hid hD
 have HNEG := Lib.hid hneg
 have HV := Lib.hid hv
 have HS1 : Hid (∀ k, k ≤ m → sumS d k ≤ 60 ∧ (dg (sumI d k).natAbs).length ≤ 170) := fun k hk => hD.short.sum hk (by omega)
 clear h hD hneg hv
 go_enter Tryz.func7, Tryz.ntmps7
 go_wp2_with fail
 generalize hW : World.alloc (World.alloc w _) _ = W0
 have E0 : St w W0 [(A, n, c, (i).natAbs)] [((w.heap.size + 1), .bool false, .slice none 0 0, .int .i64 0), (w.heap.size, (.bool (ngB i)), (.slice A n c), (.int .i64 (s : Int)))] := by rw [← hW]; exact ((start_one H.out).lay rfl).lay (by simp)
 have E := Lib.hid (St.push E0 (Below.refl _ _) (num_none _ _))
 clear hW E0
 go_loopw [25] (fun iv wr => ∃ (k : Nat) (Aw : Option Addr) (nw cw : Nat), k ≤ k1 ∧ iv = .int .i64 k ∧ St w wr [(Aw, nw, cw, (sumI d k).natAbs), (A, n, c, (i).natAbs)] [((w.heap.size + 1), .bool (ngB (sumI d k)), .slice Aw nw cw, .int .i64 (sumS d k : Int)), (w.heap.size, (.bool (ngB i)), (.slice A n c), (.int .i64 (s : Int)))]) (fun iv _ => m + 1 - (intOf iv).toNat)
 case atStart => exact ⟨0, none, 0, 0, Nat.zero_le _, rfl, E.out⟩
 case round =>
   obtain ⟨k, Aw, nw, cw, hkk, rfl, hE⟩ := hrel
   clear E
   have E := Lib.hid hE
   clear hE
   have hs60 := (HS1.out k (by omega)).1
   have hw170 : nw ≤ 170 := len_le (E.out.num (Aw, nw, cw, (sumI d k).natAbs) (by simp)) (HS1.out k (by omega)).2
   have hkm : k < m := by omega
   rcases Nat.lt_or_ge k k1 with hlt | hge
   ·
     obtain ⟨b, f0, rfl, _, _, _, _⟩ := HD.out.at_ hkm
     have DSP : ∃ i s A m e, d k = (i, s) ∧ Cel w b (f0 + k * 3) (.bool (ngB i)) (.slice A m e) (.int .i64 (s : Int)) ∧ Num w w.heap.size A m e i.natAbs ∧ m ≤ 12 ∧ s ≤ 60 := ⟨(d k).1, (d k).2, (p k).1, (p k).2.1, (p k).2.2, rfl, HD.out.cel hkm, HD.out.num k hkm, by have h1 := (HD.out.num k hkm).len; have h2 := (HD.out.short k hkm).1; omega, (HD.out.short k hkm).2⟩
     obtain ⟨ik, sk, Ak, nk, ck, hdk, Ck, Nk, mk, tk⟩ := DSP
     have hik : 0 ≤ ik := by have h2 := HNEG.out k hlt; rw [hdk] at h2; exact h2
     obtain ⟨a, rfl⟩ : ∃ a : Nat, ik = (a : Int) := ⟨ik.toNat, by omega⟩
     have Ck2 := Ck.on E.out.bel
     rw [ng_nat] at Ck2
     obtain ⟨y0, y1, y2, _⟩ := Ck2
     replace E := Lib.hid (E.out.push (Below.refl _ _) (Nk.on E.out.bel))
     obtain ⟨I1, hI1⟩ : ∃ I1, sumI d (k + 1) = I1 := ⟨_, rfl⟩
     obtain ⟨S1, hS1⟩ : ∃ S1, sumS d (k + 1) = S1 := ⟨_, rfl⟩
     have HX : Hid (addZ (sumI d k) (sumS d k) (a : Int) sk = I1) := by
       show _ = _
       rw [← hI1]; show _ = addZ (sumI d k) (sumS d k) (d k).1 (d k).2
       rw [hdk]
     have HM : Hid (max (sumS d k) sk = S1) := by
       show _ = _
       rw [← hS1]; show _ = max (sumS d k) (d k).2
       rw [hdk]
     have HI1 := Lib.hid hI1
     have HS2 := Lib.hid hS1
     obtain ⟨I0, hI0⟩ : ∃ I0, sumI d k = I0 := ⟨_, rfl⟩
     obtain ⟨S0, hS0⟩ : ∃ S0, sumS d k = S0 := ⟨_, rfl⟩
     rw [hI0, hS0] at E HX
     rw [hS0] at HM hs60
     clear Ck Nk hdk hI1 hS1 hI0 hS0
     obtain ⟨q0, q1, q2, qf0, qf1, qf2, qlt⟩ := St.at_ (x0 := .bool (ngB I0)) (x1 := .slice Aw nw cw) (x2 := .int .i64 (S0 : Int)) (g := (w.heap.size + 1)) E (by simp)
     go_wp2_with fail
     replace E := Lib.hid (St.lay (t := 25) (x0 := .bool false) (x1 := .slice Ak nk ck) (x2 := .int .i64 (sk : Int)) (g := wr.heap.size) E.out rfl)
     clear y0 y1 y2 q0 q1 q2 qf0 qf1 qf2 qlt
     have AD := refadd_is5 (i := I0) (s := S0) (j := (a : Int)) (t := sk) (St.got E (A := Aw) (n := nw) (c := cw) (a := I0.natAbs) (by simp)) (St.got E (A := Ak) (n := nk) (c := ck) (a := (a : Int).natAbs) (by simp)) (by omega) (by omega) (by omega) (by omega) HM.out HX.out
     rw [ng_nat] at AD
     refine AD.mono ?_; clear AD; rintro e w3 ⟨A3, n3, c3, rfl, h3, hb⟩
     replace E := Lib.hid (St.push E.out hb h3)
     clear h3 hb
     obtain ⟨q0, q1, q2, qf0, qf1, qf2, qlt⟩ := St.at_ (x0 := .bool (ngB I0)) (x1 := .slice Aw nw cw) (x2 := .int .i64 (S0 : Int)) (g := (w.heap.size + 1)) E (by simp)
     go_wp2_with fail
     replace E := Lib.hid (St.store E.out (g := (w.heap.size + 1)) (x0 := .bool (ngB I0)) (x1 := .slice Aw nw cw) (x2 := .int .i64 (S0 : Int)) (by simp) (noLimb_bool _) (noLimb_slice _ _ _) (noLimb_int _) [(w.heap.size, (.bool (ngB i)), (.slice A n c), (.int .i64 (s : Int)))] (by simp <;> omega) (.bool (ngB I1)) (.slice A3 n3 c3) (.int .i64 (S1 : Int)))
     clear q0 q1 q2 qf0 qf1 qf2 qlt
     go_roundw
     case rel =>
       refine ⟨k + 1, A3, n3, c3, by omega, by go_num, ?_⟩
       rw [HI1.out, HS2.out]
       exact E.out.sub (by simp) (by simp)
     case measure => simp [intOf]; omega
   · obtain rfl : k = k1 := by omega
     obtain ⟨b, f0, rfl, _, _, _, _⟩ := HD.out.at_ hkm
     obtain ⟨y0, y1, y2, _⟩ := (HD.out.cel hkm).on E.out.bel
     have hng : ngB (d k).1 = true := decide_eq_true hbad
     rw [hng] at y0
     clear hng
     obtain ⟨q0, q1, q2, qf0, qf1, qf2, qlt⟩ := St.at_ (x0 := .bool (ngB (sumI d k))) (x1 := .slice Aw nw cw) (x2 := .int .i64 (sumS d k : Int)) (g := (w.heap.size + 1)) E (by simp)
     go_wp2_with fail
     go_ret2
     exact ⟨rfl, (E.out.alloc _).bel⟩
end Go.Proofs.YthlhpgphmfnlgaaGreat
/-
 The document's Allocate where it does not allocate: the parts sum to nought, or the total is not exact.
-/
namespace Go.Proofs.YthlhpgphmfnlgaaGreat
open Go.RowKit
theorem refalloc_zero (A A1 : Option Addr) (n c s m c1 S : Nat) (i v : Int) (d : Nat → Int × Nat) (p : Nat → Option Addr × Nat × Nat) (w : World) (h : Num w w.heap.size A n c i.natAbs) (hn : n ≤ 12) (hs : s ≤ 60) (hD : Decs w w.heap.size A1 m c1 d p) (hm : m ≤ 12) (hv : max v 0 = (S : Int)) (hS : S ≤ 60) (hneg : ∀ j, j < m → 0 ≤ (d j).1) (hz0 : ∀ j, j < m → (d j).1 = 0) :
   Calls Tryz.prog 7 #[.agg #[.bool (ngB i), .slice A n c, .int .i64 (s : Int)], .slice A1 m c1, .int .i64 v] w (RetNoneErr w 4) := by
 have hc := hD.cap
 have hr := hD.room
 unfold maxLen at hr
 have H := Lib.hid h
 have HZ0 : Hid (∀ j, j < m → (d j).1 = 0) := hz0
 clear hz0
 have HD := Lib.hid hD
 have HNEG := Lib.hid hneg
 have HV := Lib.hid hv
 have HS1 : Hid (∀ k, k ≤ m → sumS d k ≤ 60 ∧ (dg (sumI d k).natAbs).length ≤ 170) := fun k hk => hD.short.sum hk (by omega)
 clear h hD hneg hv
 go_enter Tryz.func7, Tryz.ntmps7
 go_wp2_with fail
 generalize hW : World.alloc (World.alloc w _) _ = W0
 have E0 : St w W0 [(A, n, c, (i).natAbs)] [((w.heap.size + 1), .bool false, .slice none 0 0, .int .i64 0), (w.heap.size, (.bool (ngB i)), (.slice A n c), (.int .i64 (s : Int)))] := by rw [← hW]; exact ((start_one H.out).lay rfl).lay (by simp)
 have E := Lib.hid (St.push E0 (Below.refl _ _) (num_none _ _))
 clear hW E0
 go_loopw [25] (fun iv wr => ∃ (k : Nat) (Aw : Option Addr) (nw cw : Nat), k ≤ m ∧ iv = .int .i64 k ∧ St w wr [(Aw, nw, cw, (sumI d k).natAbs), (A, n, c, (i).natAbs)] [((w.heap.size + 1), .bool (ngB (sumI d k)), .slice Aw nw cw, .int .i64 (sumS d k : Int)), (w.heap.size, (.bool (ngB i)), (.slice A n c), (.int .i64 (s : Int)))]) (fun iv _ => m + 1 - (intOf iv).toNat)
 case atStart => exact ⟨0, none, 0, 0, Nat.zero_le _, rfl, E.out⟩
 case round =>
   obtain ⟨k, Aw, nw, cw, hkk, rfl, hE⟩ := hrel
   clear E
   have E := Lib.hid hE
   clear hE
   have hs60 := (HS1.out k hkk).1
   have hw170 : nw ≤ 170 := len_le (E.out.num (Aw, nw, cw, (sumI d k).natAbs) (by simp)) (HS1.out k hkk).2
   rcases Nat.lt_or_ge k m with hlt | hge
   ·
     obtain ⟨b, f0, rfl, _, _, _, _⟩ := HD.out.at_ hlt
     have DSP : ∃ i s A m e, d k = (i, s) ∧ Cel w b (f0 + k * 3) (.bool (ngB i)) (.slice A m e) (.int .i64 (s : Int)) ∧ Num w w.heap.size A m e i.natAbs ∧ m ≤ 12 ∧ s ≤ 60 := ⟨(d k).1, (d k).2, (p k).1, (p k).2.1, (p k).2.2, rfl, HD.out.cel hlt, HD.out.num k hlt, by have h1 := (HD.out.num k hlt).len; have h2 := (HD.out.short k hlt).1; omega, (HD.out.short k hlt).2⟩
     obtain ⟨ik, sk, Ak, nk, ck, hdk, Ck, Nk, mk, tk⟩ := DSP
     have hik : 0 ≤ ik := by have h2 := HNEG.out k hlt; rw [hdk] at h2; exact h2
     obtain ⟨a, rfl⟩ : ∃ a : Nat, ik = (a : Int) := ⟨ik.toNat, by omega⟩
     have Ck2 := Ck.on E.out.bel
     rw [ng_nat] at Ck2
     obtain ⟨y0, y1, y2, _⟩ := Ck2
     replace E := Lib.hid (E.out.push (Below.refl _ _) (Nk.on E.out.bel))
     obtain ⟨I1, hI1⟩ : ∃ I1, sumI d (k + 1) = I1 := ⟨_, rfl⟩
     obtain ⟨S1, hS1⟩ : ∃ S1, sumS d (k + 1) = S1 := ⟨_, rfl⟩
     have HX : Hid (addZ (sumI d k) (sumS d k) (a : Int) sk = I1) := by
       show _ = _
       rw [← hI1]; show _ = addZ (sumI d k) (sumS d k) (d k).1 (d k).2
       rw [hdk]
     have HM : Hid (max (sumS d k) sk = S1) := by
       show _ = _
       rw [← hS1]; show _ = max (sumS d k) (d k).2
       rw [hdk]
     have HI1 := Lib.hid hI1
     have HS2 := Lib.hid hS1
     obtain ⟨I0, hI0⟩ : ∃ I0, sumI d k = I0 := ⟨_, rfl⟩
     obtain ⟨S0, hS0⟩ : ∃ S0, sumS d k = S0 := ⟨_, rfl⟩
     rw [hI0, hS0] at E HX
     rw [hS0] at HM hs60
     clear Ck Nk hdk hI1 hS1 hI0 hS0
     obtain ⟨q0, q1, q2, qf0, qf1, qf2, qlt⟩ := St.at_ (x0 := .bool (ngB I0)) (x1 := .slice Aw nw cw) (x2 := .int .i64 (S0 : Int)) (g := (w.heap.size + 1)) E (by simp)
     go_wp2_with fail
     replace E := Lib.hid (St.lay (t := 25) (x0 := .bool false) (x1 := .slice Ak nk ck) (x2 := .int .i64 (sk : Int)) (g := wr.heap.size) E.out rfl)
     clear y0 y1 y2 q0 q1 q2 qf0 qf1 qf2 qlt
     have AD := refadd_is5 (i := I0) (s := S0) (j := (a : Int)) (t := sk) (St.got E (A := Aw) (n := nw) (c := cw) (a := I0.natAbs) (by simp)) (St.got E (A := Ak) (n := nk) (c := ck) (a := (a : Int).natAbs) (by simp)) (by omega) (by omega) (by omega) (by omega) HM.out HX.out
     rw [ng_nat] at AD
     refine AD.mono ?_; clear AD; rintro e w3 ⟨A3, n3, c3, rfl, h3, hb⟩
     replace E := Lib.hid (St.push E.out hb h3)
     clear h3 hb
     obtain ⟨q0, q1, q2, qf0, qf1, qf2, qlt⟩ := St.at_ (x0 := .bool (ngB I0)) (x1 := .slice Aw nw cw) (x2 := .int .i64 (S0 : Int)) (g := (w.heap.size + 1)) E (by simp)
     go_wp2_with fail
     replace E := Lib.hid (St.store E.out (g := (w.heap.size + 1)) (x0 := .bool (ngB I0)) (x1 := .slice Aw nw cw) (x2 := .int .i64 (S0 : Int)) (by simp) (noLimb_bool _) (noLimb_slice _ _ _) (noLimb_int _) [(w.heap.size, (.bool (ngB i)), (.slice A n c), (.int .i64 (s : Int)))] (by simp <;> omega) (.bool (ngB I1)) (.slice A3 n3 c3) (.int .i64 (S1 : Int)))
     clear q0 q1 q2 qf0 qf1 qf2 qlt
     go_roundw
     case rel =>
       refine ⟨k + 1, A3, n3, c3, by omega, by go_num, ?_⟩
       rw [HI1.out, HS2.out]
       exact E.out.sub (by simp) (by simp)
     case measure => simp [intOf]; omega
   ·
     obtain rfl : k = m := by omega
     obtain ⟨P, hP⟩ : ∃ P, sumI d k = P := ⟨_, rfl⟩
     obtain ⟨u, hu⟩ : ∃ u, sumS d k = u := ⟨_, rfl⟩
     have HPL : Hid ((dg P.natAbs).length ≤ 170) := by show _ ≤ _; rw [← hP]; exact (HS1.out k (Nat.le_refl _)).2
     rw [hP, hu] at E
     have hP0 : P = 0 := by rw [← hP]; exact sum_nought HZ0.out
     clear hP hu
     have hnw : nw = 0 := by
       have h1 := (E.out.num (Aw, nw, cw, P.natAbs) (by simp))
       subst hP0
       exact nought_len h1
     subst hnw
     obtain ⟨pa, pb, pc, pd, pe, pf, pg⟩ := St.at_ (x0 := .bool (ngB i)) (x1 := .slice A n c) (x2 := .int .i64 (s : Int)) (g := w.heap.size) E (by simp)
     obtain ⟨qa, qb, qc, qd, qe, qf, qg⟩ := St.at_ (x0 := .bool (ngB P)) (x1 := .slice Aw 0 cw) (x2 := .int .i64 (u : Int)) (g := (w.heap.size + 1)) E (by simp)
     go_wp2_with fail
     go_ret2
     exact ⟨rfl, E.out.bel⟩
theorem refalloc_inexact (A A1 : Option Addr) (n c s m c1 S : Nat) (i v : Int) (d : Nat → Int × Nat) (p : Nat → Option Addr × Nat × Nat) (w : World) (h : Num w w.heap.size A n c i.natAbs) (hn : n ≤ 12) (hs : s ≤ 60) (hD : Decs w w.heap.size A1 m c1 d p) (hm : m ≤ 12) (hv : max v 0 = (S : Int)) (hS : S ≤ 60) (hneg : ∀ j, j < m → 0 ≤ (d j).1) (hpos : ∃ j, j < m ∧ 0 < (d j).1) (hex : exactB i s S = false) :
   Calls Tryz.prog 7 #[.agg #[.bool (ngB i), .slice A n c, .int .i64 (s : Int)], .slice A1 m c1, .int .i64 v] w (RetNoneErr w 4) := by
 have hc := hD.cap
 have hr := hD.room
 unfold maxLen at hr
 have H := Lib.hid h
 have HEX := Lib.hid hex
 have HPOS := Lib.hid hpos
 clear hex hpos
 have HD := Lib.hid hD
 have HNEG := Lib.hid hneg
 have HV := Lib.hid hv
 have HS1 : Hid (∀ k, k ≤ m → sumS d k ≤ 60 ∧ (dg (sumI d k).natAbs).length ≤ 170) := fun k hk => hD.short.sum hk (by omega)
 clear h hD hneg hv
 go_enter Tryz.func7, Tryz.ntmps7
 go_wp2_with fail
 generalize hW : World.alloc (World.alloc w _) _ = W0
 have E0 : St w W0 [(A, n, c, (i).natAbs)] [((w.heap.size + 1), .bool false, .slice none 0 0, .int .i64 0), (w.heap.size, (.bool (ngB i)), (.slice A n c), (.int .i64 (s : Int)))] := by rw [← hW]; exact ((start_one H.out).lay rfl).lay (by simp)
 have E := Lib.hid (St.push E0 (Below.refl _ _) (num_none _ _))
 clear hW E0
 go_loopw [25] (fun iv wr => ∃ (k : Nat) (Aw : Option Addr) (nw cw : Nat), k ≤ m ∧ iv = .int .i64 k ∧ St w wr [(Aw, nw, cw, (sumI d k).natAbs), (A, n, c, (i).natAbs)] [((w.heap.size + 1), .bool (ngB (sumI d k)), .slice Aw nw cw, .int .i64 (sumS d k : Int)), (w.heap.size, (.bool (ngB i)), (.slice A n c), (.int .i64 (s : Int)))]) (fun iv _ => m + 1 - (intOf iv).toNat)
 case atStart => exact ⟨0, none, 0, 0, Nat.zero_le _, rfl, E.out⟩
 case round =>
   obtain ⟨k, Aw, nw, cw, hkk, rfl, hE⟩ := hrel
   clear E
   have E := Lib.hid hE
   clear hE
   have hs60 := (HS1.out k hkk).1
   have hw170 : nw ≤ 170 := len_le (E.out.num (Aw, nw, cw, (sumI d k).natAbs) (by simp)) (HS1.out k hkk).2
   rcases Nat.lt_or_ge k m with hlt | hge
   ·
     obtain ⟨b, f0, rfl, _, _, _, _⟩ := HD.out.at_ hlt
     have DSP : ∃ i s A m e, d k = (i, s) ∧ Cel w b (f0 + k * 3) (.bool (ngB i)) (.slice A m e) (.int .i64 (s : Int)) ∧ Num w w.heap.size A m e i.natAbs ∧ m ≤ 12 ∧ s ≤ 60 := ⟨(d k).1, (d k).2, (p k).1, (p k).2.1, (p k).2.2, rfl, HD.out.cel hlt, HD.out.num k hlt, by have h1 := (HD.out.num k hlt).len; have h2 := (HD.out.short k hlt).1; omega, (HD.out.short k hlt).2⟩
     obtain ⟨ik, sk, Ak, nk, ck, hdk, Ck, Nk, mk, tk⟩ := DSP
     have hik : 0 ≤ ik := by have h2 := HNEG.out k hlt; rw [hdk] at h2; exact h2
     obtain ⟨a, rfl⟩ : ∃ a : Nat, ik = (a : Int) := ⟨ik.toNat, by omega⟩
     have Ck2 := Ck.on E.out.bel
     rw [ng_nat] at Ck2
     obtain ⟨y0, y1, y2, _⟩ := Ck2
     replace E := Lib.hid (E.out.push (Below.refl _ _) (Nk.on E.out.bel))
     obtain ⟨I1, hI1⟩ : ∃ I1, sumI d (k + 1) = I1 := ⟨_, rfl⟩
     obtain ⟨S1, hS1⟩ : ∃ S1, sumS d (k + 1) = S1 := ⟨_, rfl⟩
     have HX : Hid (addZ (sumI d k) (sumS d k) (a : Int) sk = I1) := by
       show _ = _
       rw [← hI1]; show _ = addZ (sumI d k) (sumS d k) (d k).1 (d k).2
       rw [hdk]
     have HM : Hid (max (sumS d k) sk = S1) := by
       show _ = _
       rw [← hS1]; show _ = max (sumS d k) (d k).2
       rw [hdk]
     have HI1 := Lib.hid hI1
     have HS2 := Lib.hid hS1
     obtain ⟨I0, hI0⟩ : ∃ I0, sumI d k = I0 := ⟨_, rfl⟩
     obtain ⟨S0, hS0⟩ : ∃ S0, sumS d k = S0 := ⟨_, rfl⟩
     rw [hI0, hS0] at E HX
     rw [hS0] at HM hs60
     clear Ck Nk hdk hI1 hS1 hI0 hS0
     obtain ⟨q0, q1, q2, qf0, qf1, qf2, qlt⟩ := St.at_ (x0 := .bool (ngB I0)) (x1 := .slice Aw nw cw) (x2 := .int .i64 (S0 : Int)) (g := (w.heap.size + 1)) E (by simp)
     go_wp2_with fail
     replace E := Lib.hid (St.lay (t := 25) (x0 := .bool false) (x1 := .slice Ak nk ck) (x2 := .int .i64 (sk : Int)) (g := wr.heap.size) E.out rfl)
     clear y0 y1 y2 q0 q1 q2 qf0 qf1 qf2 qlt
     have AD := refadd_is5 (i := I0) (s := S0) (j := (a : Int)) (t := sk) (St.got E (A := Aw) (n := nw) (c := cw) (a := I0.natAbs) (by simp)) (St.got E (A := Ak) (n := nk) (c := ck) (a := (a : Int).natAbs) (by simp)) (by omega) (by omega) (by omega) (by omega) HM.out HX.out
     rw [ng_nat] at AD
     refine AD.mono ?_; clear AD; rintro e w3 ⟨A3, n3, c3, rfl, h3, hb⟩
     replace E := Lib.hid (St.push E.out hb h3)
     clear h3 hb
     obtain ⟨q0, q1, q2, qf0, qf1, qf2, qlt⟩ := St.at_ (x0 := .bool (ngB I0)) (x1 := .slice Aw nw cw) (x2 := .int .i64 (S0 : Int)) (g := (w.heap.size + 1)) E (by simp)
     go_wp2_with fail
     replace E := Lib.hid (St.store E.out (g := (w.heap.size + 1)) (x0 := .bool (ngB I0)) (x1 := .slice Aw nw cw) (x2 := .int .i64 (S0 : Int)) (by simp) (noLimb_bool _) (noLimb_slice _ _ _) (noLimb_int _) [(w.heap.size, (.bool (ngB i)), (.slice A n c), (.int .i64 (s : Int)))] (by simp <;> omega) (.bool (ngB I1)) (.slice A3 n3 c3) (.int .i64 (S1 : Int)))
     clear q0 q1 q2 qf0 qf1 qf2 qlt
     go_roundw
     case rel =>
       refine ⟨k + 1, A3, n3, c3, by omega, by go_num, ?_⟩
       rw [HI1.out, HS2.out]
       exact E.out.sub (by simp) (by simp)
     case measure => simp [intOf]; omega
   ·
     obtain rfl : k = m := by omega
     obtain ⟨P, hP⟩ : ∃ P, sumI d k = P := ⟨_, rfl⟩
     obtain ⟨u, hu⟩ : ∃ u, sumS d k = u := ⟨_, rfl⟩
     have HPL : Hid ((dg P.natAbs).length ≤ 170) := by show _ ≤ _; rw [← hP]; exact (HS1.out k (Nat.le_refl _)).2
     have hP0 : 0 < P := by
       have h1 := sum_above HNEG.out HPOS.out
       rw [hP] at h1
       exact Int.sign_eq_one_iff_pos.1 h1
     rw [hP, hu] at E
     clear hP hu
     have hnw0 : ((nw : Int) == 0) = false := by
       have h1 := (num_pos_iff (E.out.num (Aw, nw, cw, P.natAbs) (by simp))).2 (show 0 < P.natAbs by omega)
       have h2 : 0 < nw := h1
       simp; omega
     obtain ⟨pa, pb, pc, pd, pe, pf, pg⟩ := St.at_ (x0 := .bool (ngB i)) (x1 := .slice A n c) (x2 := .int .i64 (s : Int)) (g := w.heap.size) E (by simp)
     obtain ⟨qa, qb, qc, qd, qe, qf, qg⟩ := St.at_ (x0 := .bool (ngB P)) (x1 := .slice Aw nw cw) (x2 := .int .i64 (u : Int)) (g := (w.heap.size + 1)) E (by simp)
     go_wp2_with fail
     refine (refexact_is (St.got E (A := A) (n := n) (c := c) (a := (i).natAbs) (by simp)) (by omega) (by omega) HV.out (by omega) HEX.out).mono ?_; rintro e w4 ⟨rfl, hb⟩; replace E := Lib.hid (St.step E.out hb); clear hb
     clear pa pb pc pd pe pf pg qa qb qc qd qe qf qg hnw0
     go_wp2_with fail
     go_ret2
     exact ⟨rfl, E.out.bel⟩
end Go.Proofs.YthlhpgphmfnlgaaGreat
/-
 Layer 6: both Allocates hand back alike: an error and nothing, or rows alike; what a share and a part's money are.
-/
namespace Go.Proofs.YthlhpgphmfnlgaaGreat
open Go.RowKit
def PairR (W : World) (M : Nat) (er : Int) (x : Nat → Int × Nat) (e : Ending) (w' : World) : Prop :=
 ∃ A c p, e = .returned (.tuple #[.slice A M c, .int .i64 er]) ∧ DecsG 300 60 w' w'.heap.size A M c x p ∧ Below W.heap.size W w'
theorem pair_none {W w' : World} {er : Int} {e : Ending} {x : Nat → Int × Nat} (h : RetNoneErr W er e w') : PairR W 0 er x e w' :=
 ⟨none, 0, fun _ => (none, 0, 0), h.1, ⟨Nat.le_refl 0, by unfold maxLen; omega, .inl rfl, fun j hj => absurd hj (Nat.not_lt_zero j), fun j hj => absurd hj (Nat.not_lt_zero j), fun _ => rfl⟩, h.2⟩
theorem pair_row {W w' : World} {b : Bool} {z S m K g c : Nat} {d : Nat → Int × Nat} {zs : List Nat} {l : List DQ} (L : Left z d m zs K) (hz : (dg z).length ≤ 300) (hS : S ≤ 60) (hl : l.length = m) (hmc : m ≤ c) (hcm : c ≤ maxLen) (hQ : RowQ w' g l)
   (hd : ∀ j, j < m → dOf l j = (sgn b (shareN z d m zs K j), S)) (hn : ∀ j, j < m → Num w' w'.heap.size (pOf l j).1 (pOf l j).2.1 (pOf l j).2.2 (shareN z d m zs K j)) (hb : Below W.heap.size W w') :
   PairR W m 0 (fun j => (sgn b (shareN z d m zs K j), S)) (.returned (.tuple #[.slice (some ⟨g, 0, none⟩) m c, .int .i64 0])) w' :=
 ⟨_, c, pOf l, rfl, hQ.decs hl hmc hcm hd (fun j hj => by show Num _ _ _ _ _ (sgn b _).natAbs; rw [abs_sgn]; exact hn j hj)
   (fun j hj => ⟨by show (dg (sgn b _).natAbs).length ≤ 300; rw [abs_sgn]; exact Nat.le_trans (dg_len_mono (share_le L (Nat.le_refl _) hj)) hz, hS⟩), hb⟩
theorem quant_abs (i : Int) (s S : Nat) : quantZ (i.natAbs : Int) s S = (((quantZ i s S).natAbs : Nat) : Int) := by
 unfold quantZ
 rw [abs_sgn, show ngB (i.natAbs : Int) = false from decide_eq_false (by omega), Int.natAbs_natCast]
 rfl
theorem alloc_both (A A1 : Option Addr) (n c s m c1 S : Nat) (i v : Int) (d : Nat → Int × Nat) (p : Nat → Option Addr × Nat × Nat) (w : World) (h : Num w w.heap.size A n c i.natAbs) (hn : n ≤ 12) (hs : s ≤ 60) (hD : Decs w w.heap.size A1 m c1 d p) (hm : m ≤ 12) (hv : max v 0 = (S : Int)) (hS : S ≤ 60) :
   Calls Tryz.prog 6 #[.agg #[.bool (ngB i), .slice A n c, .int .i64 (s : Int)], .slice A1 m c1, .int .i64 v] w (fun e w' => ∃ M er x, M ≤ 12 ∧ PairR w M er x e w' ∧
     ∀ w2, Below w.heap.size w w2 → Calls Tryz.prog 7 #[.agg #[.bool (ngB i), .slice A n c, .int .i64 (s : Int)], .slice A1 m c1, .int .i64 v] w2 (PairR w2 M er x)) := by
 by_cases hbad : ∃ j, j < m ∧ (d j).1 < 0
 · obtain ⟨k1, hk, hgood, hend⟩ := first_bad (fun j => decide ((d j).1 < 0)) m
   have hneg : ∀ j, j < k1 → 0 ≤ (d j).1 := fun j hj => by
     have := of_decide_eq_false (hgood j hj); omega
   have hk1 : k1 < m := by
     obtain ⟨j, hj, h1⟩ := hbad
     apply Decidable.byContradiction
     intro h2
     have := hneg j (by omega); omega
   have hb1 : (d k1).1 < 0 := by
     rcases hend with h2 | h2
     · omega
     · exact of_decide_eq_true h2
   exact (alloc_arg A A1 n c s m c1 i v d p w h hD hbad).mono fun e w' hr => ⟨0, 1, fun _ => (0, 0), by omega, pair_none hr, fun w2 hb =>
     (refalloc_arg A A1 n c s m c1 S k1 i v d p w2 (h.on hb) hn hs (hD.on hb) hm hv hS hk1 hneg hb1).mono fun _ _ hr => pair_none hr⟩
 · have hneg : ∀ j, j < m → 0 ≤ (d j).1 := fun j hj => by
     apply Decidable.byContradiction
     intro h2
     exact hbad ⟨j, hj, by omega⟩
   by_cases hpos : ∃ j, j < m ∧ 0 < (d j).1
   · cases hex : exactB i s S with
     | false =>
       exact (alloc_inexact A A1 n c s m c1 i v d p w h hD (by omega) (by omega) S hv hS hneg hpos hex).mono fun e w' hr => ⟨0, 4, fun _ => (0, 0), by omega, pair_none hr, fun w2 hb =>
         (refalloc_inexact A A1 n c s m c1 S i v d p w2 (h.on hb) hn hs (hD.on hb) hm hv hS hneg hpos hex).mono fun _ _ hr => pair_none hr⟩
     | true =>
       have z1 : Sz i s 108 := Sz.of_len (by have := h.len; omega : (dg i.natAbs).length ≤ 12)
       have z2 := (z1.quant S).len
       have hzl : (dg (quantZ i s S).natAbs).length ≤ 300 := by omega
       exact (alloc_any A A1 n c s m c1 S (quantZ i s S).natAbs i v d p w h (by omega) (by omega) hD hm hv hS hneg hpos hex (quant_abs i s S) hzl).mono fun e w' ⟨zs, K, g, cs, l, hL, he, hll, hmc, hcm, hQ, hdl, hnum, hb⟩ =>
         ⟨m, 0, (fun j => (sgn (ngB i) (shareN (quantZ i s S).natAbs d m zs K j), S)), hm, by subst he; exact pair_row hL hzl hS hll hmc hcm hQ hdl hnum hb, fun w2 hb2 =>
           (refalloc_any A A1 n c s m c1 S i v d p zs K w2 (h.on hb2) hn hs (hD.on hb2) hm hv hS hneg hpos hex hL).mono fun e2 w3 ⟨g', c', l', he', hll', hmc', hcm', hQ', hdl', hnum', hb'⟩ => by
             subst he'; exact pair_row hL hzl hS hll' hmc' hcm' hQ' hdl' hnum' hb'⟩
   · have hz0 : ∀ j, j < m → (d j).1 = 0 := fun j hj => by
       have h2 := hneg j hj
       refine Decidable.byContradiction fun h3 => hpos ⟨j, hj, by omega⟩
     exact (alloc_none A A1 n c s m c1 i v d p w h hD hz0).mono fun e w' hr => ⟨0, 4, fun _ => (0, 0), by omega, pair_none hr, fun w2 hb =>
       (refalloc_zero A A1 n c s m c1 S i v d p w2 (h.on hb) hn hs (hD.on hb) hm hv hS hneg hz0).mono fun _ _ hr => pair_none hr⟩
theorem share_told (i j k : Int) (s t u S : Nat) : ∃ (z : Int) (T : Nat) (er : Int), k ≠ 0 ∧ divZ (i * j) (s + t) k u S = z ∧ S = T ∧ er = 0 ∨ k = 0 ∧ z = 0 ∧ T = 0 ∧ er = 4 := by
 by_cases h : k = 0
 · exact ⟨0, 0, 4, .inr ⟨h, rfl, rfl, rfl⟩⟩
 · exact ⟨_, S, 0, .inl ⟨h, rfl, rfl, rfl⟩⟩
theorem money_both (i j : Int) (s t : Nat) : ∃ (z : Int) (T : Nat) (er : Int), ∀ (A A' : Option Addr) (n c n' c' : Nat) (w : World), Num w w.heap.size A n c i.natAbs → Num w w.heap.size A' n' c' j.natAbs → n ≤ 12 → n' ≤ 12 → s ≤ 60 → t ≤ 60 →
   Calls Tryz.prog 11 #[.agg #[.bool (ngB i), .slice A n c, .int .i64 (s : Int)], .agg #[.bool (ngB j), .slice A' n' c', .int .i64 (t : Int)]] w (RetDecY w z T er) ∧
   Calls Tryz.prog 12 #[.agg #[.bool (ngB i), .slice A n c, .int .i64 (s : Int)], .agg #[.bool (ngB j), .slice A' n' c', .int .i64 (t : Int)]] w (RetDecY w z T er) := by
 by_cases h : 0 < j
 · exact ⟨_, _, _, fun A A' n c n' c' w h1 h2 hn hn' hs ht => ⟨money_any A A' n c n' c' s t i j w h1 h2 hn hn' hs ht h, refmoney_any A A' n c n' c' s t i j w h1 h2 hn hn' hs ht h⟩⟩
 · exact ⟨_, _, _, fun A A' n c n' c' w h1 h2 hn hn' hs ht => ⟨money_not A A' n c n' c' s t i j w h1 h2 hn hn' hs ht (by omega), refmoney_not A A' n c n' c' s t i j w h1 h2 hn hn' hs ht (by omega)⟩⟩
theorem cells_at {w : World} {b o n c j L S sq nq cq : Nat} {iq : Int} {Aq : Option Addr} {d : Nat → Int × Nat} {p : Nat → Option Addr × Nat × Nat} (h : DecsG L S w w.heap.size (some ⟨b, o, none⟩) n c d p) (hj : j < n) (hd : d j = (iq, sq)) (hp : p j = (Aq, nq, cq)) :
   w.cell? ⟨b, o + j * 3, none⟩ = some (.bool (ngB iq)) ∧ w.cell? ⟨b, o + j * 3 + 1, none⟩ = some (.slice Aq nq cq) ∧ w.cell? ⟨b, o + j * 3 + 2, none⟩ = some (.int .i64 (sq : Int)) := by
 rcases h.row with h0 | ⟨b', o', hA, _, hc⟩
 · omega
 · injection hA with hA
   injection hA with hA1 hA2 _
   subst hA1; subst hA2
   have := hc j hj
   rw [hd, hp] at this
   exact this
theorem alike_self (i : Int) (s : Nat) : alikeB i s i s = true := alike_yes rfl rfl
end Go.Proofs.YthlhpgphmfnlgaaGreat
