/-
  The contract of floors.
-/
import Derived.Test.YtllcjahekckbfaaRouO
set_option linter.unusedVariables false
set_option linter.unusedSimpArgs false
namespace Go.Proofs.Ytllcjahekckbfaa
open Go.RowKit

/-- The j-th part's number by the measure of all of them. -/
def partP (d : Nat → Int × Nat) (m j : Nat) : Nat := (up (shS d j).1 (shS d j).2 (sumS (shS d) m)).natAbs
/-- The sum of the parts by that measure. -/
def wholeW (d : Nat → Int × Nat) (m : Nat) : Nat := (sumI (shS d) m).natAbs
/-- What floors hands back: each part's share, and what was left out of it. -/
def RetFloors (W : World) (z s : Nat) (d : Nat → Int × Nat) (m : Nat) (e : Ending) (w' : World) : Prop :=
  ∃ A4 c4 A5 c5 l4 l5 base, e = .returned (.tuple #[.slice A4 m c4, .slice A5 m c5]) ∧ W.heap.size ≤ base ∧ Grow w' base (.slice A4 m c4) (.slice A5 m c5) l4 l5 ∧ l4.length = m ∧ l5.length = m ∧ (∀ j, j < m → dOf l4 j = (((z * partP d m j / wholeW d m : Nat) : Int), s)) ∧ (∀ j, j < m → dOf l5 j = (((z * partP d m j % wholeW d m : Nat) : Int), 0)) ∧ Below W.heap.size W w'

theorem Grow.box {w : World} {base g : Nat} {v4 v5 x0 x1 x2 : Value} {l4 l5 : List DQ} (h : Grow w base v4 v5 l4 l5) (X : Box w g x0 x1 x2) (n0 : NoLimb x0) (n1 : NoLimb x1) (n2 : NoLimb x2) (h4 : v4.ownBlock ≠ some g) (h5 : v5.ownBlock ≠ some g) (y0 y1 y2 : Value) : Grow (put3 w g y0 y1 y2) base v4 v5 l4 l5 := by
  have gb : w.grownBy (put3 w g y0 y1 y2) (some g) := ⟨rfl, rfl, rfl, by simp, fun k hk hne => by
    have hkg : k ≠ g := fun e => hne (by rw [e])
    rw [Below.heap_setCell _ _ _ _ hkg, Below.heap_setCell _ _ _ _ hkg, Below.heap_setCell _ _ _ _ hkg]⟩
  exact ⟨h.own4.kept gb (.inr h4), h.own5.kept gb (.inr h5), h.far, fun q hq => ⟨(Lim.put3 (h.num q hq).1 X n0 n1 n2 y0 y1 y2).more (by simp), (h.num q hq).2⟩⟩
theorem three_on {w w' : World} {a0 a1 a2 : Addr} {v0 v1 v2 : Value} (h : Hid (w.cell? a0 = some v0 ∧ w.cell? a1 = some v1 ∧ w.cell? a2 = some v2)) (hb : Below w.heap.size w w') :
    Hid (w'.cell? a0 = some v0 ∧ w'.cell? a1 = some v1 ∧ w'.cell? a2 = some v2) := ⟨cell_on h.out.1 hb, cell_on h.out.2.1 hb, cell_on h.out.2.2 hb⟩
theorem part_len {d : Nat → Int × Nat} {m j : Nat} (h : (dg (shS d j).1.natAbs).length ≤ 12) (hM : sumS (shS d) m ≤ 60) : partP d m j < 10 ^ 170 := by
  unfold partP
  rw [abs_up]
  have h2 := ten_of_len h
  have h3 : 10 ^ (sumS (shS d) m - (shS d j).2) ≤ 10 ^ 60 := Nat.pow_le_pow_right (by omega) (by omega)
  have h4 := Nat.mul_le_mul (Nat.le_of_lt h2) h3
  rw [← Nat.pow_add] at h4
  exact Nat.lt_of_le_of_lt h4 (Nat.pow_lt_pow_right (by omega) (by omega))
theorem prod_len {a b n : Nat} (ha : (dg a).length ≤ n) (hb : b < 10 ^ 170) : (dg (a * b)).length ≤ 9 * n + 170 := by
  apply len_of_ten
  rw [Nat.pow_add]
  exact Nat.mul_lt_mul'' (ten_of_len ha) hb
theorem one_drow0 {w : World} (x : Nat) (s : Nat) (p : Option Addr × Nat × Nat) (t : TypeId) : ∀ j u, (drow [(((x : Int), s), p)])[j]? = some u → (w.alloc (.cells #[.bool false, .slice p.1 p.2.1 p.2.2, .int .i64 (s : Int)] t)).cell? ((⟨w.heap.size, 0, none⟩ : Addr).add j) = some u := by
  intro j u hu
  rw [Addr.add_lit, cell_of_row _ w.heap.size _ _ t (0, 0) (heap_alloc_new w _), Nat.zero_add, ← Array.getElem?_toList]
  rw [drow_one] at hu
  have e : ngB (x : Int) = false := by simp [ngB]
  rw [e] at hu
  exact hu
theorem dOf_push {l : List DQ} {q : DQ} {t : Nat} (ht : t < l.length + 1) : dOf (l ++ [q]) t = if t < l.length then dOf l t else q.1 := by
  unfold dOf
  rw [List.getD_eq_getElem?_getD, List.getD_eq_getElem?_getD, List.getElem?_append]
  by_cases h : t < l.length
  · rw [if_pos h, if_pos h]
  · rw [if_neg h, if_neg h]
    have e : t - l.length = 0 := by omega
    rw [e]; rfl
theorem zcells3 : (Value.agg #[.bool false, .slice none 0 0, .int .i64 0]).cells.size = 3 := by simp [Value.cells]
theorem one_drow {w : World} (q : DQ) (t : TypeId) : ∀ j u, (drow [q])[j]? = some u → (w.alloc (.cells #[.bool (ngB q.1.1), .slice q.2.1 q.2.2.1 q.2.2.2, .int .i64 (q.1.2 : Int)] t)).cell? ((⟨w.heap.size, 0, none⟩ : Addr).add j) = some u := by
  intro j u hu
  rw [Addr.add_lit, cell_of_row _ w.heap.size _ _ t (0, 0) (heap_alloc_new w _), Nat.zero_add, ← Array.getElem?_toList]
  rw [drow_one] at hu
  exact hu

set_option maxRecDepth 100000 in
set_option maxHeartbeats 16000000 in
theorem floors_any (A A1 : Option Addr) (n c s m c1 : Nat) (i : Int) (d : Nat → Int × Nat) (p : Nat → Option Addr × Nat × Nat) (w : World) (h : Num w w.heap.size A n c i.natAbs) (hn : n ≤ 1000) (hs : s ≤ 1000) (hD : DecsG 12 60 w w.heap.size A1 m c1 d p) (hm : m ≤ 99) (hW : 0 < wholeW d m) :
    Calls Try.prog 31 #[.agg #[.bool (ngB i), .slice A n c, .int .i64 (s : Int)], .slice A1 m c1] w (RetFloors w i.natAbs s d m) := by
  obtain ⟨i0, hi, hz0, hz1, hz2⟩ := info_parts3 info_dec
  have H := Lib.hid h
  have HD := Lib.hid hD
  have HW := Lib.hid hW
  have hcap := hD.cap
  have hrm := hD.room
  unfold maxLen at hrm
  clear h hD hW
  go_enter Try.func31, Try.ntmps31
  obtain ⟨W0, hW0⟩ : ∃ W0, w.alloc (.cells #[.bool (ngB i), .slice A n c, .int .i64 (s : Int)] 25) = W0 := ⟨_, rfl⟩
  have E0 : St w W0 [(A, n, c, i.natAbs)] [(w.heap.size, .bool (ngB i), .slice A n c, .int .i64 (s : Int))] := by rw [← hW0]; exact (start_one H.out).lay rfl
  have E := Lib.hid E0
  clear E0
  go_wp2_with (at_make; (try rw [hW0]); go_must (refine wpList_make_full _ rfl _ _ 26 rfl W0.heap.size 25 i0 _ 3 Try.underlying26 hi hz0 hz1 _ _ _ _ m rfl rfl (by omega) (by omega) (by rw [hz2]; omega) (by unfold maxLen; omega) (Nat.le_refl _) ?_; intro w3 hown1 hgr1; have O3 : Hid (OwnQ w3 W0.heap.size (List.replicate m ((0, 0), (none, 0, 0)))) := OwnQ.of_made hown1; have HB3 : Hid (Below W0.heap.size W0 w3) := (Below.refl _ _).grown hgr1 (Nat.le_refl _) (fun k hk => by cases hk); clear hown1 hgr1))
  clear hW0
  go_loopw [20] (fun iv wr => ∃ (k : Nat) (l : List DQ), k ≤ m ∧ iv = .int .i64 k ∧ l.length = m ∧ (∀ j, j < k → dOf l j = shS d j) ∧ (∀ j, j < k → Num wr wr.heap.size (pOf l j).1 (pOf l j).2.1 (pOf l j).2.2 (shS d j).1.natAbs) ∧ OwnQ wr W0.heap.size l ∧ Below W0.heap.size W0 wr) (fun iv _ => m - (intOf iv).toNat)
  case atStart => exact ⟨0, List.replicate m ((0, 0), (none, 0, 0)), Nat.zero_le _, rfl, by simp, fun j hj => absurd hj (by omega), fun j hj => absurd hj (by omega), O3.out, HB3.out⟩
  case round =>
    obtain ⟨k, l, hk, rfl, hlen, hdl, hnum, hown, hb⟩ := hrel
    clear O3 HB3
    have OW := Lib.hid hown
    have DL := Lib.hid hdl
    have NL := Lib.hid hnum
    have HB := Lib.hid hb
    have LN := Lib.hid hlen
    clear hown hdl hnum hb hlen
    rcases Nat.lt_or_ge k m with hlt | hge
    · have HDr := Lib.hid ((HD.out.on E.out.bel).on HB.out)
      have hsh := HDr.out.short k hlt
      obtain ⟨b, o, rfl, hbb, x0, x1, x2⟩ := HDr.out.at_ hlt
      have hnum := HDr.out.num k hlt
      have hpn : (p k).2.1 ≤ 12 := by have := hnum.len; have := hsh.1; omega
      have hds := hsh.2
      have HN := Lib.hid hnum
      clear hnum hsh HDr
      have y := OW.out.cells (j := k) (by rw [LN.out]; omega)
      have Y := Lib.hid y
      clear y
      have i1 : (0 : Int) ≤ (k : Int) := by omega
      have i2 : (k : Int) < (m : Int) := by omega
      go_wp2_with fail
      have hba : Below wr.heap.size wr (wr.alloc (.cells #[.bool (ngB (d k).1), .slice (p k).1 (p k).2.1 (p k).2.2, .int .i64 ((d k).2 : Int)] 25)) := (Below.refl _ _).alloc (Nat.le_refl _) _
      have HBA := Lib.hid hba
      clear hba
      refine (strip_is5 (L := 0) (HN.out.on HBA.out) (by omega) (by omega) (by omega) (by omega) rfl rfl).mono ?_
      rintro e w2 ⟨A2, n2, c2, rfl, h1, hb1⟩
      have B2 : Hid (Below wr.heap.size wr w2) := HBA.out.trans (hb1.mono HBA.out.size)
      have H2 := Lib.hid h1
      clear h1 hb1 HBA x0 x1 x2
      have OW2 := Lib.hid (OW.out.on B2.out)
      obtain ⟨y0, y1, y2⟩ := OW2.out.cells (j := k) (by rw [LN.out]; omega)
      have f0 := OW2.out.frozen (k * 3)
      have f1 := OW2.out.frozen (k * 3 + 1)
      have f2 := OW2.out.frozen (k * 3 + 2)
      go_wp2_with fail
      go_roundw
      case rel =>
        refine ⟨k + 1, l.set k (shS d k, (A2, n2, c2)), by omega, by go_num, by rw [List.length_set, LN.out], fun j hj => ?_, fun j hj => ?_, OW2.out.store k (shS d k, (A2, n2, c2)), (((HB.out.trans (B2.out.mono HB.out.size)).setCell (p := ⟨W0.heap.size, k * 3, none⟩) (Nat.le_refl _) _).setCell (p := ⟨W0.heap.size, k * 3 + 1, none⟩) (Nat.le_refl _) _).setCell (p := ⟨W0.heap.size, k * 3 + 2, none⟩) (Nat.le_refl _) _⟩
        · rw [dOf_set (by rw [LN.out]; omega)]
          split
          · rename_i e; rw [e]
          · exact DL.out j (by omega)
        · rw [pOf_set (by rw [LN.out]; omega)]
          have fit : ∀ {A : Option Addr} {n c a : Nat}, Num w2 w2.heap.size A n c a → Num (((w2.setCell ⟨W0.heap.size, k * 3, none⟩ (.bool (ngB (shS d k).1))).setCell ⟨W0.heap.size, k * 3 + 1, none⟩ (.slice A2 n2 c2)).setCell ⟨W0.heap.size, k * 3 + 2, none⟩ (.int .i64 ((shS d k).2 : Int))) (((w2.setCell ⟨W0.heap.size, k * 3, none⟩ (.bool (ngB (shS d k).1))).setCell ⟨W0.heap.size, k * 3 + 1, none⟩ (.slice A2 n2 c2)).setCell ⟨W0.heap.size, k * 3 + 2, none⟩ (.int .i64 ((shS d k).2 : Int))).heap.size A n c a := fun h => (num_put h OW2.out _ _ _ _ _ _).more (by simp)
          split
          · rename_i e; rw [e]; exact fit H2.out
          · exact fit (((NL.out j (by omega)).below B2.out).more B2.out.size)
      case measure => simp [intOf]; omega
    · obtain rfl : k = m := by omega
      have DS := Lib.hid (OW.out.decs (L := 12) (S := 60) LN.out (by omega) DL.out NL.out (fun j hj => ⟨Nat.le_trans (dg_len_mono (stripI_abs_le _ _ _)) (HD.out.short j hj).1, Nat.le_trans (Nat.sub_le _ _) (HD.out.short j hj).2⟩))
      have hSH := DS.out.decs.short.sum (Nat.le_refl k) hm
      have E2 := Lib.hid (St.step E.out HB.out)
      go_wp2_with fail
      refine (sum5_any _ k k (shS d) (pOf l) wr DS.out.decs hm).mono ?_
      rintro e w2 ⟨Aw, nw, cw, rfl, h1, hb1⟩
      have hnw : nw ≤ 170 := by have := h1.len; have := hSH.2; omega
      replace E2 := Lib.hid (St.push E2.out hb1 h1)
      replace DS := Lib.hid (DS.out.on hb1)
      clear h1 hb1
      go_wp2_with fail
      generalize hW5 : World.alloc w2 _ = W1
      have E1 : Hid (St w W1 [(Aw, nw, cw, wholeW d k), (A, n, c, i.natAbs)] [(w2.heap.size, .bool (ngB (sumI (shS d) k)), .slice Aw nw cw, .int .i64 (sumS (shS d) k : Int)), (w.heap.size, .bool (ngB i), .slice A n c, .int .i64 (s : Int))]) := by show St _ _ _ _; rw [← hW5]; exact E2.out.lay rfl
      have DS1 : Hid (DecsG 12 60 W1 W1.heap.size (some ⟨W0.heap.size, 0, none⟩) k k (shS d) (pOf l)) := by show DecsG _ _ _ _ _ _ _ _ _; rw [← hW5]; exact DS.out.on ((Below.refl _ _).alloc (Nat.le_refl _) _)
      have SH : Hid (∀ j, j < k → (shS d j).2 ≤ sumS (shS d) k) := fun j hj => sumS_ge hj
      have hSS := hSH.1
      have BG1 : Hid (w2.heap.size < W1.heap.size) := (St.at_ (x0 := .bool (ngB (sumI (shS d) k))) (x1 := .slice Aw nw cw) (x2 := .int .i64 (sumS (shS d) k : Int)) (g := w2.heap.size) E1 (by simp)).lt
      have BG2 : Hid (w.heap.size < W1.heap.size) := (St.at_ (x0 := .bool (ngB i)) (x1 := .slice A n c) (x2 := .int .i64 (s : Int)) (g := w.heap.size) E1 (by simp)).lt
      have HNL : Hid ((dg i.natAbs).length ≤ n) := by have := H.out.len; show _ ≤ _; omega
      clear hW5 DS E2 E OW DL NL HB LN HD H hSH
      obtain ⟨M, hM⟩ : ∃ M, M = sumS (shS d) k := ⟨_, rfl⟩
      have HM := Lib.hid hM
      rw [← hM] at hSS SH E1
      clear hM
      go_loopw [4, 5, 35] (fun v4 v5 iv wr => ∃ (j : Nat) (A4 : Option Addr) (c4 : Nat) (A5 : Option Addr) (c5 : Nat) (l4 l5 : List DQ), j ≤ k ∧ v4 = .slice A4 j c4 ∧ v5 = .slice A5 j c5 ∧ iv = .int .i64 j ∧ l4.length = j ∧ l5.length = j ∧ (∀ t, t < j → dOf l4 t = (((i.natAbs * partP d k t / wholeW d k : Nat) : Int), s)) ∧ (∀ t, t < j → dOf l5 t = (((i.natAbs * partP d k t % wholeW d k : Nat) : Int), 0)) ∧ Grow wr W1.heap.size (.slice A4 j c4) (.slice A5 j c5) l4 l5 ∧ Below W1.heap.size W1 wr) (fun _ _ iv _ => k - (intOf iv).toNat)
      case atStart => exact ⟨0, none, 0, none, 0, [], [], Nat.zero_le _, rfl, rfl, rfl, rfl, rfl, fun t h => absurd h (by omega), fun t h => absurd h (by omega), Grow.start _ _, Below.refl _ _⟩
      case round =>
        obtain ⟨j, A4, c4, A5, c5, l4, l5, hj, rfl, rfl, rfl, hl4, hl5, hd4, hd5, hgr, hb⟩ := hrel
        have L4 := Lib.hid hl4
        have L5 := Lib.hid hl5
        have D4 := Lib.hid hd4
        have D5 := Lib.hid hd5
        have GR := Lib.hid hgr
        have HB := Lib.hid hb
        clear hl4 hl5 hd4 hd5 hgr hb
        rcases Nat.lt_or_ge j k with hlt | hge
        · have ER := Lib.hid (St.step E1.out HB.out)
          have DR := Lib.hid (DS1.out.on HB.out)
          have hsh := DR.out.short j hlt
          obtain ⟨b, o, ho, hbb, x0, x1, x2⟩ := DR.out.at_ hlt
          injection ho with ho
          injection ho with ho1 ho2 ho3
          subst ho1; subst ho2
          simp only [Nat.zero_add] at x0 x1 x2
          have hnum := DR.out.num j hlt
          have hpn : (pOf l j).2.1 ≤ 12 := by have := hnum.len; have := hsh.1; omega
          have hds := hsh.2
          have hdM := SH.out j hlt
          have HN := Lib.hid hnum
          clear hnum hsh DR ho3
          have i1 : (0 : Int) ≤ (j : Int) := by omega
          have i2 : (j : Int) < (k : Int) := by omega
          obtain ⟨r0, r1, r2, rf0, rf1, rf2, rlt⟩ := St.at_ (x0 := .bool (ngB (sumI (shS d) k))) (x1 := .slice Aw nw cw) (x2 := .int .i64 (M : Int)) (g := w2.heap.size) ER (by simp)
          have hPL : Hid (partP d k j < 10 ^ 170) := part_len (by have := (DS1.out.short j hlt).1; exact this) (by rw [← HM.out]; exact hSS)
          go_wp2_with fail
          generalize hW6 : World.alloc wr _ = W6
          have B6 : Below wr.heap.size wr W6 := by rw [← hW6]; exact (Below.refl _ _).alloc (Nat.le_refl _) _
          have HN6 := Lib.hid (HN.out.on B6)
          have GR6 := Lib.hid (GR.out.step B6)
          have HB6 : Hid (Below W1.heap.size W1 W6) := HB.out.trans (B6.mono HB.out.size)
          replace ER := Lib.hid (ER.out.lay (t := 25) (x0 := .bool (ngB (shS d j).1)) (x1 := .slice (pOf l j).1 (pOf l j).2.1 (pOf l j).2.2) (x2 := .int .i64 ((shS d j).2 : Int)) rfl)
          rw [hW6] at ER
          have HBS : Hid (W1.heap.size ≤ wr.heap.size) := HB.out.size
          have HO4 : Hid ((Value.slice A4 j c4).ownBlock ≠ some wr.heap.size) := fun e => Nat.lt_irrefl _ (GR.out.own4.lt _ e).2
          have HO5 : Hid ((Value.slice A5 j c5).ownBlock ≠ some wr.heap.size) := fun e => Nat.lt_irrefl _ (GR.out.own5.lt _ e).2
          clear hW6 B6 GR HB HN x0 x1 x2 r0 r1 r2 rf0 rf1 rf2 rlt
          obtain ⟨r0, r1, r2, rf0, rf1, rf2, rlt⟩ := St.at_ (x0 := .bool (ngB (sumI (shS d) k))) (x1 := .slice Aw nw cw) (x2 := .int .i64 (M : Int)) (g := w2.heap.size) ER (by simp)
          obtain ⟨p0, p1, p2, pf0, pf1, pf2, plt⟩ := St.at_ (x0 := .bool (ngB (shS d j).1)) (x1 := .slice (pOf l j).1 (pOf l j).2.1 (pOf l j).2.2) (x2 := .int .i64 ((shS d j).2 : Int)) (g := wr.heap.size) ER (by simp)
          go_wp2_with fail
          refine (align_is5 HN6.out (St.got ER (A := Aw) (n := nw) (c := cw) (a := wholeW d k) (by simp)) (by omega) (by omega) (by omega) (by omega) (show max (shS d j).2 M = M by omega) rfl rfl).mono ?_
          rintro e w7 ⟨A7, n7, c7, A8, n8, c8, rfl, h7, _, hb7⟩
          have h7' : Num w7 w7.heap.size A7 n7 c7 (partP d k j) := by unfold partP; rw [← HM.out]; exact h7
          have hn7 : n7 ≤ 170 := by have h1 := h7'.len; have h2 := len_of_ten hPL.out; omega
          replace ER := Lib.hid (St.push ER.out hb7 h7')
          have GR7 := Lib.hid (GR6.out.step hb7)
          have HB7 : Hid (Below W1.heap.size W1 w7) := HB6.out.trans (hb7.mono HB6.out.size)
          have hgl := HBS.out
          have g1 := BG1.out
          have g2 := BG2.out
          clear h7 h7' hb7 r0 r1 r2 rf0 rf1 rf2 rlt p0 p1 p2 pf0 pf1 pf2 plt GR6 HB6 HN6
          obtain ⟨p0, p1, p2, pf0, pf1, pf2, plt⟩ := St.at_ (x0 := .bool (ngB (shS d j).1)) (x1 := .slice (pOf l j).1 (pOf l j).2.1 (pOf l j).2.2) (x2 := .int .i64 ((shS d j).2 : Int)) (g := wr.heap.size) ER (by simp)
          go_wp2_with fail
          replace GR7 := Lib.hid (GR7.out.box (St.at_ (x0 := .bool (ngB (shS d j).1)) (x1 := .slice (pOf l j).1 (pOf l j).2.1 (pOf l j).2.2) (x2 := .int .i64 ((shS d j).2 : Int)) (g := wr.heap.size) ER (by simp)) (noLimb_bool _) (noLimb_slice _ _ _) (noLimb_int _) HO4.out HO5.out (.bool (ngB (up (shS d j).1 (shS d j).2 M))) (.slice A7 n7 c7) (.int .i64 (M : Int)))
          replace HB7 := Lib.hid (below_put3 HB7.out hgl (.bool (ngB (up (shS d j).1 (shS d j).2 M))) (.slice A7 n7 c7) (.int .i64 (M : Int)))
          replace ER := Lib.hid (St.store ER.out (g := wr.heap.size) (x0 := .bool (ngB (shS d j).1)) (x1 := .slice (pOf l j).1 (pOf l j).2.1 (pOf l j).2.2) (x2 := .int .i64 ((shS d j).2 : Int)) (by simp) (noLimb_bool _) (noLimb_slice _ _ _) (noLimb_int _) [(w2.heap.size, .bool (ngB (sumI (shS d) k)), .slice Aw nw cw, .int .i64 (M : Int)), (w.heap.size, .bool (ngB i), .slice A n c, .int .i64 (s : Int))] (by have g1 := BG1.out; have g2 := BG2.out; simp <;> omega) (.bool (ngB (up (shS d j).1 (shS d j).2 M))) (.slice A7 n7 c7) (.int .i64 (M : Int)))
          generalize hW8 : put3 w7 _ _ _ _ = W8 at ER GR7 HB7
          unfold put3 at hW8
          rw [hW8]
          clear hW8 p0 p1 p2 pf0 pf1 pf2 plt
          have q0 := St.at_ (x0 := .bool (ngB i)) (x1 := .slice A n c) (x2 := .int .i64 (s : Int)) (g := w.heap.size) ER (by simp)
          have q1 := St.at_ (x0 := .bool (ngB (up (shS d j).1 (shS d j).2 M))) (x1 := .slice A7 n7 c7) (x2 := .int .i64 (M : Int)) (g := wr.heap.size) ER (by simp)
          have q2 := St.at_ (x0 := .bool (ngB (sumI (shS d) k))) (x1 := .slice Aw nw cw) (x2 := .int .i64 (M : Int)) (g := w2.heap.size) ER (by simp)
          have K := three_on (Lib.hid ⟨q0.c1, q1.c1, q2.c1⟩) (Below.refl W8.heap.size W8).drew
          replace ER := Lib.hid (St.drew ER.out)
          replace GR7 := Lib.hid (GR7.out.step (Below.refl W8.heap.size W8).drew)
          replace HB7 := Lib.hid (HB7.out.drew)
          clear q0 q1 q2
          go_region_held3 (fun v => v.cell? ⟨w.heap.size, 1, none⟩ = some (.slice A n c) ∧ v.cell? ⟨wr.heap.size, 1, none⟩ = some (.slice A7 n7 c7) ∧ v.cell? ⟨w2.heap.size, 1, none⟩ = some (.slice Aw nw cw)) (with_reducible exact K.out)
            (first | (go_at_call 36; refine (fast_to 1000000 (Nat.le_refl _) A A7 n c n7 c7 i.natAbs (partP d k j) (i.natAbs * partP d k j) _ (St.got ER (A := A) (n := n) (c := c) (a := i.natAbs) (by simp)) (St.got ER (A := A7) (n := n7) (c := c7) (a := partP d k j) (by simp)) (by omega) (by omega) rfl).mono ?_; rintro e w9 ⟨A9, n9, c9, rfl, h9, f9, hb9⟩; have N9 : Hid (Num w9 w9.heap.size A9 n9 c9 (i.natAbs * partP d k j)) := h9; replace ER := Lib.hid (St.push ER.out hb9 N9.out); replace GR7 := Lib.hid (GR7.out.step hb9); replace K := three_on K hb9; replace HB7 := Lib.hid (HB7.out.trans (hb9.mono HB7.out.size)); clear h9 f9 hb9) | (go_at_call 48; refine (div_fresh A9 Aw n9 c9 nw cw (i.natAbs * partP d k j) (wholeW d k) _ N9.out (St.got ER (A := Aw) (n := nw) (c := cw) (a := wholeW d k) (by simp)) (by have h1 := N9.out.len; have h2 := prod_len HNL.out hPL.out; omega) HW.out).mono ?_; rintro e w10 ⟨Aq, nq, cq, At, nt, ct, rfl, hq, ht, fq, ft, hb10⟩; have OQ4 := Lib.hid (OffV.fresh (p := (Aq, nq, cq)) GR7.out.own4 fq); have OQ5 := Lib.hid (OffV.fresh (p := (Aq, nq, cq)) GR7.out.own5 fq); have OT4 := Lib.hid (OffV.fresh (p := (At, nt, ct)) GR7.out.own4 ft); have OT5 := Lib.hid (OffV.fresh (p := (At, nt, ct)) GR7.out.own5 ft); have NQ := Lib.hid hq; have NT := Lib.hid ht; replace ER := Lib.hid (ER.out.step hb10); replace GR7 := Lib.hid (GR7.out.step hb10); replace K := three_on K hb10; replace HB7 := Lib.hid (HB7.out.trans (hb10.mono HB7.out.size)); clear hq ht fq ft hb10))
          all_goals
            have q0 := (St.at_ (x0 := .bool (ngB i)) (x1 := .slice A n c) (x2 := .int .i64 (s : Int)) (g := w.heap.size) ER (by simp)).c2
            have hjk : l4.length ≤ 99 ∧ l5.length ≤ 99 := by have := L4.out; have := L5.out; omega
            have HJK := Lib.hid hjk
            clear hjk
            obtain ⟨W11, hW11⟩ : ∃ W11, w10.alloc (.cells #[.bool false, .slice Aq nq cq, .int .i64 (s : Int)] 25) = W11 := ⟨_, rfl⟩
            have B11 : Below w10.heap.size w10 W11 := by rw [← hW11]; exact (Below.refl _ _).alloc (Nat.le_refl _) _
            have GRA := Lib.hid (GR7.out.step B11)
            have NEWS : Hid (∀ t u, (drow [((((i.natAbs * partP d k j / wholeW d k : Nat) : Int), s), (Aq, nq, cq))])[t]? = some u → W11.cell? ((⟨w10.heap.size, 0, none⟩ : Addr).add t) = some u) := by show ∀ t u, _; rw [← hW11]; exact one_drow0 _ _ (Aq, nq, cq) _
            have HBA : Hid (Below W1.heap.size W1 W11) := HB7.out.trans (B11.mono HB7.out.size)
            have NQ11 := Lib.hid (NQ.out.on B11)
            have NT11 := Lib.hid (NT.out.on B11)
            clear B11
            go_wp2_with (first | (at_builtin; (try rw [hW11]); refine wpList_append_lies _ rfl (.tmp 57) (.tmp 62) 26 rfl W1.heap.size 25 i0 (.agg #[.bool false, .slice none 0 0, .int .i64 0]) 3 40 Try.underlying26 hi hz0 hz1 hz2 zcells3 (by decide) (.slice A4 j c4) l4.length (drow l4) rfl GRA.out.own4 ⟨w10.heap.size, 0, none⟩ 1 1 (drow [((((i.natAbs * partP d k j / wholeW d k : Nat) : Int), s), (Aq, nq, cq))]) rfl (drow_len _) NEWS.out (drow_flat _) (by decide) (by have := HJK.out; unfold maxLen; omega) (by have := HJK.out; omega) HBA.out.size W11.heap.size rfl ?_; intro g4 cap4 w11 hown4 hgr4 hat4 hlt4; have GR11 := Lib.hid (Grow.push4 (q := ((((i.natAbs * partP d k j / wholeW d k : Nat) : Int), s), (Aq, nq, cq))) GRA.out NQ11.out OQ4.out OQ5.out hown4 hgr4 hat4); have HB11 : Hid (Below W1.heap.size W1 w11) := HBA.out.grown hgr4 HBA.out.size (fun g hg => (GRA.out.own4.lt g hg).1); have NT12 := Lib.hid (num_grown NT11.out (Nat.le_refl _) hgr4 OT4.out); have OT6 := Lib.hid (OT4.out.moved (v' := .slice (some ⟨g4, 0, none⟩) (l4.length + 1) cap4) NT11.out rfl hat4); obtain ⟨W12, hW12⟩ : ∃ W12, w11.alloc (.cells #[.bool false, .slice At nt ct, .int .i64 0] 25) = W12 := ⟨_, rfl⟩; have B12 : Below w11.heap.size w11 W12 := (by rw [← hW12]; exact (Below.refl _ _).alloc (Nat.le_refl _) _); have GRB := Lib.hid (GR11.out.step B12).swap; have NT13 := Lib.hid (NT12.out.on B12); have NEWS2 : Hid (∀ t u, (drow [((((i.natAbs * partP d k j % wholeW d k : Nat) : Int), 0), (At, nt, ct))])[t]? = some u → W12.cell? ((⟨w11.heap.size, 0, none⟩ : Addr).add t) = some u) := (by show ∀ t u, _; rw [← hW12]; exact one_drow0 _ 0 (At, nt, ct) _); have HBB : Hid (Below W1.heap.size W1 W12) := HB11.out.trans (B12.mono HB11.out.size); clear B12 hown4 hgr4 hat4 hlt4) | (at_builtin; (try rw [hW12]); refine wpList_append_lies _ rfl (.tmp 64) (.tmp 67) 26 rfl W1.heap.size 25 i0 (.agg #[.bool false, .slice none 0 0, .int .i64 0]) 3 40 Try.underlying26 hi hz0 hz1 hz2 zcells3 (by decide) (.slice A5 j c5) l5.length (drow l5) rfl GRB.out.own4 ⟨w11.heap.size, 0, none⟩ 1 1 (drow [((((i.natAbs * partP d k j % wholeW d k : Nat) : Int), 0), (At, nt, ct))]) rfl (drow_len _) NEWS2.out (drow_flat _) (by decide) (by have := HJK.out; unfold maxLen; omega) (by have := HJK.out; omega) HBB.out.size W12.heap.size rfl ?_; intro g5 cap5 w13 hown5 hgr5 hat5 hlt5; have GR13 := Lib.hid (Grow.push4 (q := ((((i.natAbs * partP d k j % wholeW d k : Nat) : Int), 0), (At, nt, ct))) GRB.out NT13.out OT5.out OT6.out hown5 hgr5 hat5).swap; have HB13 : Hid (Below W1.heap.size W1 w13) := HBB.out.grown hgr5 HBB.out.size (fun g hg => (GRB.out.own4.lt g hg).1); clear hown5 hgr5 hat5 hlt5))
            go_roundw
            case rel =>
              have g := GR13.out
              rw [L4.out, L5.out] at g
              refine ⟨j + 1, some ⟨g4, 0, none⟩, cap4, some ⟨g5, 0, none⟩, cap5, l4 ++ [((((i.natAbs * partP d k j / wholeW d k : Nat) : Int), s), (Aq, nq, cq))], l5 ++ [((((i.natAbs * partP d k j % wholeW d k : Nat) : Int), 0), (At, nt, ct))], by omega, by rw [L4.out], by rw [L5.out], by go_num, by rw [List.length_append, L4.out]; rfl, by rw [List.length_append, L5.out]; rfl, fun t ht => ?_, fun t ht => ?_, g, HB13.out⟩
              · rw [dOf_push (by rw [L4.out]; exact ht), L4.out]
                split
                · rename_i h; exact D4.out t h
                · obtain rfl : t = j := by omega
                  rfl
              · rw [dOf_push (by rw [L5.out]; exact ht), L5.out]
                split
                · rename_i h; exact D5.out t h
                · obtain rfl : t = j := by omega
                  rfl
            case measure => simp [intOf]; omega
        · obtain rfl : j = k := by omega
          go_wp2_with fail
          go_ret2
          exact ⟨A4, c4, A5, c5, l4, l5, W1.heap.size, rfl, E1.out.bel.size, GR.out, L4.out, L5.out, D4.out, D5.out, E1.out.bel.trans (HB.out.mono E1.out.bel.size)⟩

end Go.Proofs.Ytllcjahekckbfaa
