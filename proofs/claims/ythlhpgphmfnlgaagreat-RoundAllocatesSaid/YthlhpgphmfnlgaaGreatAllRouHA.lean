/- What the proofs of this layer need of the layer Rou, in one text. -/
import Derived.Test.YthlhpgphmfnlgaaGreatAllRouMathA
import Derived.Test.YthlhpgphmfnlgaaGreatAllDecG
import Derived.Deep.QuietTactic
import Derived.BigQuiet
import Derived.Laws.AppendOwnNone
import Derived.Deep.DeepMust
set_option maxRecDepth 100000
set_option maxHeartbeats 32000000
set_option linter.unusedVariables false
set_option linter.unusedSimpArgs false
/-
 Rows of decimals of any size; the contracts of some.
-/
namespace Go.Proofs.YthlhpgphmfnlgaaGreat
open Go.RowKit
structure DecsG (L S : Nat) (w : World) (B : Nat) (A : Option Addr) (n c : Nat) (d : Nat → Int × Nat) (p : Nat → Option Addr × Nat × Nat) : Prop where
 cap : n ≤ c
 room : c ≤ maxLen
 row : n = 0 ∨ ∃ b o, A = some ⟨b, o, none⟩ ∧ b < B ∧ ∀ j, j < n → w.cell? ⟨b, o + j * 3, none⟩ = some (.bool (ngB (d j).1)) ∧ w.cell? ⟨b, o + j * 3 + 1, none⟩ = some (.slice (p j).1 (p j).2.1 (p j).2.2) ∧ w.cell? ⟨b, o + j * 3 + 2, none⟩ = some (.int .i64 ((d j).2 : Int))
 num : ∀ j, j < n → Num w B (p j).1 (p j).2.1 (p j).2.2 (d j).1.natAbs
 short : ∀ j, j < n → (dg (d j).1.natAbs).length ≤ L ∧ (d j).2 ≤ S
 addr : A = none → c = 0
section
variable {L S : Nat} {w w' : World} {B n c : Nat} {A : Option Addr} {d : Nat → Int × Nat} {p : Nat → Option Addr × Nat × Nat}
theorem DecsG.of (h : Decs w B A n c d p) : DecsG 12 60 w B A n c d p := ⟨h.cap, h.room, h.row, h.num, h.short, h.addr⟩
theorem DecsG.below (h : DecsG L S w B A n c d p) (hb : Below B w w') : DecsG L S w' B A n c d p := by
 refine ⟨h.cap, h.room, ?_, fun j hj => (h.num j hj).below hb, h.short, h.addr⟩
 rcases h.row with h0 | ⟨b, o, rfl, hB, hc⟩
 · exact .inl h0
 · exact .inr ⟨b, o, rfl, hB, fun j hj => ⟨(hb.cell (p := ⟨b, o + j * 3, none⟩) hB).trans (hc j hj).1, (hb.cell (p := ⟨b, o + j * 3 + 1, none⟩) hB).trans (hc j hj).2.1, (hb.cell (p := ⟨b, o + j * 3 + 2, none⟩) hB).trans (hc j hj).2.2⟩⟩
theorem DecsG.more {B' : Nat} (h : DecsG L S w B A n c d p) (hb : B ≤ B') : DecsG L S w B' A n c d p := by
 refine ⟨h.cap, h.room, ?_, fun j hj => (h.num j hj).more hb, h.short, h.addr⟩
 rcases h.row with h0 | ⟨b, o, hA, hB, hc⟩
 · exact .inl h0
 · exact .inr ⟨b, o, hA, Nat.lt_of_lt_of_le hB hb, hc⟩
theorem DecsG.on (h : DecsG L S w w.heap.size A n c d p) (hb : Below w.heap.size w w') : DecsG L S w' w'.heap.size A n c d p := (h.below hb).more hb.size
theorem DecsG.at_ {j : Nat} (h : DecsG L S w B A n c d p) (hj : j < n) :
   ∃ b o, A = some ⟨b, o, none⟩ ∧ b < B ∧ w.cell? ⟨b, o + j * 3, none⟩ = some (.bool (ngB (d j).1)) ∧ w.cell? ⟨b, o + j * 3 + 1, none⟩ = some (.slice (p j).1 (p j).2.1 (p j).2.2) ∧ w.cell? ⟨b, o + j * 3 + 2, none⟩ = some (.int .i64 ((d j).2 : Int)) := by
 rcases h.row with h0 | ⟨b, o, rfl, hB, hc⟩
 · omega
 · exact ⟨b, o, rfl, hB, (hc j hj).1, (hc j hj).2.1, (hc j hj).2.2⟩
end
def IsBy (kf : Nat) (q : Int → Bool) : Prop := ∀ (A : Option Addr) (n c s : Nat) (i : Int) (w : World), Num w w.heap.size A n c i.natAbs →
 Calls Tryz.prog 30 #[.agg #[.bool (ngB i), .slice A n c, .int .i64 (s : Int)], .func (.func kf) #[] #[]] w (RetVal w (.bool (q i)))
theorem by_below : IsBy 22 ngB := isBelow_any
theorem by_above : IsBy 23 (fun i => decide (0 < i)) := isAbove_any
theorem some1_any (kf : Nat) (q : Int → Bool) (his : Hid (IsBy kf q)) (A : Option Addr) (n c s g : Nat) (i : Int) (w : World) (h : Num w w.heap.size A n c i.natAbs) (hg : w.cell? ⟨g, 0, none⟩ = some (.func (.func kf) #[] #[])) (hgl : g < w.heap.size) :
   Calls Tryz.prog 52 #[.agg #[.bool (ngB i), .slice A n c, .int .i64 (s : Int)], .pointer (some ⟨g, 0, none⟩)] w (RetVal w (.bool (q i))) := by
 have H := Lib.hid h
 clear h
 go_enter Tryz.func52, Tryz.ntmps52
 go_wp2_with fail
 generalize hW : World.alloc w _ = W0
 have E0 : St w W0 [(A, n, c, i.natAbs)] [(w.heap.size, .bool (ngB i), .slice A n c, .int .i64 (s : Int))] := by rw [← hW]; exact (start_one H.out).lay rfl
 have E := Lib.hid E0
 have hg0 : W0.cell? ⟨g, 0, none⟩ = some (.func (.func kf) #[] #[]) := (E0.bel.cell (p := ⟨g, 0, none⟩) hgl).trans hg
 clear hW E0 hg
 obtain ⟨p0, p1, p2, pf0, pf1, pf2, plt⟩ := St.at_ (x0 := .bool (ngB i)) (x1 := .slice A n c) (x2 := .int .i64 (s : Int)) (g := w.heap.size) E (by simp)
 go_wp2_with fail
 refine (his.out A n c s i _ (St.got E (by simp))).mono ?_; rintro e w1 ⟨rfl, hb⟩; replace E := Lib.hid (St.step E.out hb); clear hb
 go_wp2_with fail
 go_ret
 exact ⟨rfl, E.out.bel⟩
theorem indexDec_any (kf : Nat) (q : Int → Bool) (his : Hid (IsBy kf q)) (L S : Nat) (A : Option Addr) (n c g : Nat) (d : Nat → Int × Nat) (p : Nat → Option Addr × Nat × Nat) (w : World) (h : DecsG L S w w.heap.size A n c d p) (hg : w.cell? ⟨g, 0, none⟩ = some (.func (.func kf) #[] #[])) (hgl : g < w.heap.size) :
   Calls Tryz.prog 82 #[.slice A n c, .func (.func 52) #[] #[.pointer (some ⟨g, 0, none⟩)]] w fun e w' => (∃ r : Int, e = .returned (.int .i64 r) ∧ (0 ≤ r ↔ ∃ j, j < n ∧ q (d j).1 = true)) ∧ Below w.heap.size w w' := by
 have hc := h.cap
 have hm := h.room
 unfold maxLen at hm
 have H := Lib.hid h
 clear h
 go_enter Tryz.func82, Tryz.ntmps82
 go_wp2_with fail
 go_loopw [8] (fun iv wr => ∃ k : Nat, k ≤ n ∧ iv = .int .i64 k ∧ Below w.heap.size w wr ∧ ∀ j, j < k → q (d j).1 = false) (fun iv _ => n - (intOf iv).toNat)
 case atStart => exact ⟨0, Nat.zero_le _, rfl, Below.refl _ _, fun j hj => absurd hj (by omega)⟩
 case round =>
   obtain ⟨k, hk, rfl, hbl, hall⟩ := hrel
   have HALL := Lib.hid hall
   have HB := Lib.hid hbl
   clear hall hbl
   rcases Nat.lt_or_ge k n with hlt | hge
   · have HD := Lib.hid (H.out.on HB.out)
     obtain ⟨b, o, rfl, hb, x0, x1, x2⟩ := HD.out.at_ hlt
     have HN := Lib.hid (HD.out.num k hlt)
     have hgr : wr.cell? ⟨g, 0, none⟩ = some (.func (.func kf) #[] #[]) := (HB.out.cell (p := ⟨g, 0, none⟩) hgl).trans hg
     have hgs : g < wr.heap.size := Nat.lt_of_lt_of_le hgl HB.out.size
     clear HD hg
     rcases hq : q (d k).1 with _ | _
     · have HQ := Lib.hid hq
       clear hq
       go_wp2_with fail
       refine (some1_any kf q his (p k).1 (p k).2.1 (p k).2.2 (d k).2 g (d k).1 _ HN.out hgr hgs).mono ?_; rintro e w2 ⟨rfl, hb2⟩
       rw [HQ.out]
       have HB2 := Lib.hid (HB.out.trans (hb2.mono HB.out.size))
       clear hb2
       go_wp2_with fail
       go_roundw
       case rel => exact ⟨k + 1, by omega, by go_num, HB2.out, fun j hj => by rcases Nat.lt_or_ge j k with h1 | h1; exact HALL.out j h1; obtain rfl : j = k := by omega
                                                                              exact HQ.out⟩
       case measure => simp [intOf]; omega
     · have HQ := Lib.hid hq
       clear hq
       go_wp2_with fail
       refine (some1_any kf q his (p k).1 (p k).2.1 (p k).2.2 (d k).2 g (d k).1 _ HN.out hgr hgs).mono ?_; rintro e w2 ⟨rfl, hb2⟩
       rw [HQ.out]
       have HB2 := Lib.hid (HB.out.trans (hb2.mono HB.out.size))
       clear hb2
       go_wp2_with fail
       go_ret
       exact ⟨⟨_, rfl, ⟨fun _ => ⟨k, hlt, HQ.out⟩, fun _ => by omega⟩⟩, HB2.out⟩
   · obtain rfl : k = n := by omega
     go_wp2_with fail
     go_ret
     exact ⟨⟨_, rfl, ⟨fun h => absurd h (by omega), fun ⟨j, hj, hq⟩ => by rw [HALL.out j hj] at hq; cases hq⟩⟩, HB.out⟩
theorem containsDec_any (kf : Nat) (q : Int → Bool) (his : Hid (IsBy kf q)) (L S : Nat) (A : Option Addr) (n c g : Nat) (d : Nat → Int × Nat) (p : Nat → Option Addr × Nat × Nat) (w : World) (h : DecsG L S w w.heap.size A n c d p) (hg : w.cell? ⟨g, 0, none⟩ = some (.func (.func kf) #[] #[])) (hgl : g < w.heap.size) :
   Calls Tryz.prog 51 #[.slice A n c, .func (.func 52) #[] #[.pointer (some ⟨g, 0, none⟩)]] w fun e w' => (∃ b : Bool, e = .returned (.bool b) ∧ (b = true ↔ ∃ j, j < n ∧ q (d j).1 = true)) ∧ Below w.heap.size w w' := by
 have H := Lib.hid h
 clear h
 go_enter Tryz.func51, Tryz.ntmps51
 go_wp2_with fail
 refine (indexDec_any kf q his L S A n c g d p _ H.out hg hgl).mono ?_; rintro e w1 ⟨⟨r, rfl, hr⟩, hb⟩
 have HR := Lib.hid hr
 clear hr
 go_wp2_with fail
 go_ret
 exact ⟨⟨_, rfl, by simpa using HR.out⟩, hb⟩
theorem some_any (kf : Nat) (q : Int → Bool) (his : Hid (IsBy kf q)) (L S : Nat) (A : Option Addr) (n c : Nat) (d : Nat → Int × Nat) (p : Nat → Option Addr × Nat × Nat) (w : World) (h : DecsG L S w w.heap.size A n c d p) :
   Calls Tryz.prog 21 #[.slice A n c, .func (.func kf) #[] #[]] w fun e w' => (∃ b : Bool, e = .returned (.bool b) ∧ (b = true ↔ ∃ j, j < n ∧ q (d j).1 = true)) ∧ Below w.heap.size w w' := by
 have H := Lib.hid h
 clear h
 go_enter Tryz.func21, Tryz.ntmps21
 go_wp2_with fail
 generalize hW : World.alloc w _ = W0
 have hb0 : Below w.heap.size w W0 := by rw [← hW]; exact (Below.refl _ _).alloc (Nat.le_refl _) _
 have hg : W0.cell? ⟨w.heap.size, 0, none⟩ = some (.func (.func kf) #[] #[]) := by rw [← hW]; simp [go_sem]
 have hgl : w.heap.size < W0.heap.size := by rw [← hW]; simp
 have HB := Lib.hid hb0
 clear hb0 hW
 go_wp2_with fail
 refine (containsDec_any kf q his L S A n c w.heap.size d p _ (H.out.on HB.out) hg hgl).mono ?_; rintro e w1 ⟨⟨b, rfl, hr⟩, hb⟩
 have HR := Lib.hid hr
 have HB2 := Lib.hid (HB.out.trans (hb.mono HB.out.size))
 clear hr hb
 go_wp2_with fail
 go_ret
 exact ⟨⟨_, rfl, HR.out⟩, HB2.out⟩
end Go.Proofs.YthlhpgphmfnlgaaGreat
/-
 The places of a row, that of the greatest first: slices.SortStableFunc over at most one block.
-/
namespace Go.Proofs.YthlhpgphmfnlgaaGreat
open Go.RowKit
/-! An insertion sort, as plain lists. -/
def Bef (r : Nat → Int) (x y : Nat) : Prop := r y < r x ∨ (r x = r y ∧ x < y)
theorem Bef.trans {r : Nat → Int} {x y z : Nat} (h : Bef r x y) (h' : Bef r y z) : Bef r x z := by unfold Bef at *; omega
def Srt (r : Nat → Int) (zs : List Nat) (i : Nat) : Prop := (∀ a, a < i → gd zs a < i) ∧ ∀ a b, a < b → b < i → Bef r (gd zs a) (gd zs b)
def Ins (r : Nat → Int) (zs : List Nat) (i j : Nat) : Prop := j ≤ i ∧ gd zs j = i ∧ (∀ a, a ≤ i → a ≠ j → gd zs a < i) ∧ (∀ a b, a < b → b ≤ i → a ≠ j → b ≠ j → Bef r (gd zs a) (gd zs b)) ∧ ∀ b, j < b → b ≤ i → Bef r i (gd zs b)
theorem ins_start {r : Nat → Int} {zs : List Nat} {i : Nat} (h : Srt r zs i) (hi : gd zs i = i) : Ins r zs i i :=
 ⟨Nat.le_refl _, hi, fun a h1 h2 => h.1 a (by omega), fun a b h1 h2 h3 h4 => h.2 a b h1 (by omega), fun b h1 h2 => by omega⟩
def swp (zs : List Nat) (j m : Nat) : List Nat := (zs.set j (gd zs m)).set m (gd zs j)
theorem gd_swp {zs : List Nat} {j m k : Nat} (hj : j < zs.length) (hm : m < zs.length) : gd (swp zs j m) k = if k = m then gd zs j else if k = j then gd zs m else gd zs k := by
 unfold swp
 rw [gd_set _ _ _ _ (by rw [List.length_set]; exact hm), gd_set _ _ _ _ hj]
theorem ins_step {r : Nat → Int} {zs : List Nat} {i m : Nat} (h : Ins r zs i (m + 1)) (hl : i < zs.length) (hr : r (gd zs m) < r i) : Ins r (swp zs (m + 1) m) i m := by
 obtain ⟨h1, h2, h3, h4, h5⟩ := h
 have E : ∀ k, gd (swp zs (m + 1) m) k = if k = m then gd zs (m + 1) else if k = m + 1 then gd zs m else gd zs k := fun k => gd_swp (by omega) (by omega)
 refine ⟨by omega, by rw [E, if_pos rfl, h2], fun a ha hm => ?_, fun a b hab hb ha hbm => ?_, fun b hb hbi => ?_⟩
 · rw [E, if_neg hm]
   split
   · exact h3 m (by omega) (by omega)
   · exact h3 a ha (by omega)
 · rw [E a, E b, if_neg ha, if_neg hbm]
   by_cases ha1 : a = m + 1
   · rw [if_pos ha1, if_neg (by omega)]
     exact h4 m b (by omega) hb (by omega) (by omega)
   · rw [if_neg ha1]
     by_cases hb1 : b = m + 1
     · rw [if_pos hb1]
       exact h4 a m (by omega) (by omega) (by omega) (by omega)
     · rw [if_neg hb1]
       exact h4 a b hab hb ha1 hb1
 · rw [E b, if_neg (by omega)]
   by_cases hb1 : b = m + 1
   · rw [if_pos hb1]; exact .inl hr
   · rw [if_neg hb1]; exact h5 b (by omega) hbi
theorem ins_end0 {r : Nat → Int} {zs : List Nat} {i : Nat} (h : Ins r zs i 0) : Srt r zs (i + 1) := by
 obtain ⟨h1, h2, h3, h4, h5⟩ := h
 refine ⟨fun a ha => ?_, fun a b hab hb => ?_⟩
 · by_cases h0 : a = 0
   · rw [h0, h2]; omega
   · have := h3 a (by omega) h0; omega
 · by_cases h0 : a = 0
   · rw [h0, h2]; exact h5 b (by omega) (by omega)
   · exact h4 a b hab (by omega) h0 (by omega)
theorem ins_end {r : Nat → Int} {zs : List Nat} {i m : Nat} (h : Ins r zs i (m + 1)) (hr : ¬ r (gd zs m) < r i) : Srt r zs (i + 1) := by
 obtain ⟨h1, h2, h3, h4, h5⟩ := h
 have hm : Bef r (gd zs m) i := by
   have := h3 m (by omega) (by omega)
   unfold Bef; omega
 refine ⟨fun a ha => ?_, fun a b hab hb => ?_⟩
 · by_cases h0 : a = m + 1
   · rw [h0, h2]; omega
   · have := h3 a (by omega) h0; omega
 · by_cases h0 : a = m + 1
   · rw [h0, h2]; exact h5 b (by omega) (by omega)
   · by_cases h6 : b = m + 1
     · rw [h6, h2]
       by_cases h7 : a = m
       · rw [h7]; exact hm
       · exact (h4 a m (by omega) (by omega) h0 (by omega)).trans hm
     · exact h4 a b hab (by omega) h0 h6
theorem OwnI.on {w w' : World} {g : Nat} {zs : List Nat} (h : OwnI w g zs) (hb : Below w.heap.size w w') : OwnI w' g zs := (hb.block g h.lt).trans h
theorem cell_on {w w' : World} {a : Addr} {v : Value} (h : w.cell? a = some v) (hb : Below w.heap.size w w') : w'.cell? a = some v := (hb.cell (World.block_lt_of_cell? w _ h)).trans h
theorem cells7_on {w w' : World} {a0 a1 a2 a3 a4 a5 a6 : Addr} {v0 v1 v2 v3 v4 v5 v6 : Value} (h : Hid (w.cell? a0 = some v0 ∧ w.cell? a1 = some v1 ∧ w.cell? a2 = some v2 ∧ w.cell? a3 = some v3 ∧ w.cell? a4 = some v4 ∧ w.cell? a5 = some v5 ∧ w.cell? a6 = some v6)) (hb : Below w.heap.size w w') :
   Hid (w'.cell? a0 = some v0 ∧ w'.cell? a1 = some v1 ∧ w'.cell? a2 = some v2 ∧ w'.cell? a3 = some v3 ∧ w'.cell? a4 = some v4 ∧ w'.cell? a5 = some v5 ∧ w'.cell? a6 = some v6) :=
 ⟨cell_on h.out.1 hb, cell_on h.out.2.1 hb, cell_on h.out.2.2.1 hb, cell_on h.out.2.2.2.1 hb, cell_on h.out.2.2.2.2.1 hb, cell_on h.out.2.2.2.2.2.1 hb, cell_on h.out.2.2.2.2.2.2 hb⟩
theorem most1_any (L S : Nat) (A : Option Addr) (n c g x y : Nat) (d : Nat → Int × Nat) (p : Nat → Option Addr × Nat × Nat) (w : World) (h : DecsG L S w w.heap.size A n c d p) (hL : L ≤ 1000000) (hS : S ≤ 100000) (hg : w.cell? ⟨g, 0, none⟩ = some (.slice A n c)) (hx : x < n) (hy : y < n) :
   Calls Tryz.prog 58 #[.int .i64 (x : Int), .int .i64 (y : Int), .pointer (some ⟨g, 0, none⟩)] w (RetVal w (.int .i64 (cmpD (d y).1 (d y).2 (d x).1 (d x).2))) := by
 have hc := h.cap
 have hm := h.room
 unfold maxLen at hm
 have H := Lib.hid h
 obtain ⟨b, o, rfl, hb, x0, x1, x2⟩ := h.at_ hx
 obtain ⟨b', o', he, _, y0, y1, y2⟩ := h.at_ hy
 injection he with he
 injection he with h1 h2 h3
 subst h1; subst h2
 have NX := Lib.hid (h.num x hx)
 have NY := Lib.hid (h.num y hy)
 have hsx := (h.short x hx).2
 have hsy := (h.short y hy).2
 have hpx : (p x).2.1 ≤ 1000000 := by have := (h.num x hx).len; have := (h.short x hx).1; omega
 have hpy : (p y).2.1 ≤ 1000000 := by have := (h.num y hy).len; have := (h.short y hy).1; omega
 clear h h3
 go_enter Tryz.func58, Tryz.ntmps58
 go_wp2_with fail
 have K := cells7_on (Lib.hid ⟨hg, x0, x1, x2, y0, y1, y2⟩) (Below.refl w.heap.size w).drew
 clear hg x0 x1 x2 y0 y1 y2
 go_region_held3 (fun v => v.cell? ⟨g, 0, none⟩ = some (.slice (some ⟨b, o, none⟩) n c) ∧ v.cell? ⟨b, o + x * 3, none⟩ = some (.bool (ngB (d x).1)) ∧ v.cell? ⟨b, o + x * 3 + 1, none⟩ = some (.slice (p x).1 (p x).2.1 (p x).2.2) ∧ v.cell? ⟨b, o + x * 3 + 2, none⟩ = some (.int .i64 ((d x).2 : Int)) ∧ v.cell? ⟨b, o + y * 3, none⟩ = some (.bool (ngB (d y).1)) ∧ v.cell? ⟨b, o + y * 3 + 1, none⟩ = some (.slice (p y).1 (p y).2.1 (p y).2.2) ∧ v.cell? ⟨b, o + y * 3 + 2, none⟩ = some (.int .i64 ((d y).2 : Int))) (with_reducible exact K.out)
   (first | (go_at_call 28; refine (cmp5_any (p y).1 (p x).1 (p y).2.1 (p y).2.2 (p x).2.1 (p x).2.2 (d y).2 (d x).2 (d y).1 (d x).1 w.drew (NY.out.on (Below.refl _ _).drew) (NX.out.on (Below.refl _ _).drew) hpy hpx (by omega) (by omega)).mono ?_; rintro e w2 ⟨rfl, hb1⟩; have HB := Lib.hid ((Below.refl w.heap.size w).drew.trans hb1); replace K := cells7_on K hb1; clear hb1))
 all_goals
   go_wp2_with fail
   go_ret
   exact ⟨rfl, HB.out⟩
end Go.Proofs.YthlhpgphmfnlgaaGreat
/-
 The places of a row, that of the greatest first: the contracts.
-/
namespace Go.Proofs.YthlhpgphmfnlgaaGreat
open Go.RowKit
def Keyed (r : Nat → Int) (d : Nat → Int × Nat) (n : Nat) : Prop := ∀ x y, x < n → y < n → (cmpD (d y).1 (d y).2 (d x).1 (d x).2 < 0 ↔ r y < r x)
theorem two_on {w w' : World} {a0 a1 : Addr} {v0 v1 : Value} (h : Hid (w.cell? a0 = some v0 ∧ w.cell? a1 = some v1)) (hb : Below w.heap.size w w') :
   Hid (w'.cell? a0 = some v0 ∧ w'.cell? a1 = some v1) := ⟨cell_on h.out.1 hb, cell_on h.out.2 hb⟩
theorem insert_any (r : Nat → Int) (L S : Nat) (A : Option Addr) (n c g g2 : Nat) (zs : List Nat) (d : Nat → Int × Nat) (p : Nat → Option Addr × Nat × Nat) (w : World) (hD : DecsG L S w g A n c d p) (hL : L ≤ 1000000) (hS : S ≤ 100000) (hr : Keyed r d n) (hg : w.cell? ⟨g2, 0, none⟩ = some (.slice A n c)) (hg2 : g2 < g)
   (ho : OwnI w g zs) (hlen : zs.length = n) (hid : ∀ k, k < n → gd zs k = k) (hn0 : 0 < n) (hn : n < 20) :
   Calls Tryz.prog 114 #[.slice (some ⟨g, 0, none⟩) n n, .int .i64 0, .int .i64 (n : Int), .func (.func 58) #[] #[.pointer (some ⟨g2, 0, none⟩)]] w fun e w' => e = .returned (.tuple #[]) ∧ (∃ zs' : List Nat, OwnI w' g zs' ∧ zs'.length = n ∧ Srt r zs' n) ∧ Below g w w' := by
 have HD := Lib.hid hD
 have HR := Lib.hid hr
 have OW0 := Lib.hid ho
 have LN0 := Lib.hid hlen
 have HI0 := Lib.hid hid
 clear hD hr ho hlen hid
 go_enter Tryz.func114, Tryz.ntmps114
 go_wp2_with fail
 go_loopw [8] (fun iv wr => ∃ (i : Nat) (zs : List Nat), 1 ≤ i ∧ i ≤ n ∧ iv = .int .i64 i ∧ zs.length = n ∧ Srt r zs i ∧ (∀ k, i ≤ k → k < n → gd zs k = k) ∧ OwnI wr g zs ∧ Below g w wr) (fun iv _ => n - (intOf iv).toNat)
 case atStart => exact ⟨1, zs, by omega, by omega, by go_num, LN0.out, ⟨fun a ha => by rw [HI0.out a (by omega)]; exact ha, fun a b h1 h2 => by omega⟩, fun k _ hk => HI0.out k hk, OW0.out, Below.refl _ _⟩
 case round =>
   obtain ⟨i, zs, hi1, hin, rfl, hlen, hsrt, hrest, hown, hb⟩ := hrel
   clear HI0 LN0 OW0
   have OW := Lib.hid hown
   have SR := Lib.hid hsrt
   have RS := Lib.hid hrest
   have HB := Lib.hid hb
   have LN := Lib.hid hlen
   clear hown hsrt hrest hb hlen
   rcases Nat.lt_or_ge i n with hlt | hge
   · obtain ⟨wo, rfl⟩ : ∃ wo : World, wo = wr := ⟨_, rfl⟩
     go_wp2_with fail
     go_loopw [9] (fun jv wr => ∃ (j : Nat) (zs : List Nat), jv = .int .i64 j ∧ zs.length = n ∧ Ins r zs i j ∧ (∀ k, i < k → k < n → gd zs k = k) ∧ OwnI wr g zs ∧ Below g w wr) (fun jv _ => (intOf jv).toNat)
     case atStart => exact ⟨i, zs, rfl, LN.out, ins_start SR.out (RS.out i (Nat.le_refl _) hlt), fun k h1 h2 => RS.out k (by omega) h2, OW.out, HB.out⟩
     case round =>
       obtain ⟨j, us, rfl, hlen, hins, hrest, hown, hb⟩ := hrel
       clear OW SR RS HB LN
       have hji := hins.1
       have OU := Lib.hid hown
       have IN := Lib.hid hins
       have RU := Lib.hid hrest
       have HC := Lib.hid hb
       have LU := Lib.hid hlen
       clear hown hins hrest hb hlen
       rcases Nat.eq_zero_or_pos j with hj0 | hj0
       · subst hj0
         go_wp2_with fail
         go_quiet ((fail))
         go_wp2_with fail
         go_roundw
         case rel => exact ⟨i + 1, us, by omega, by omega, by go_num, LU.out, ins_end0 IN.out, fun k h1 h2 => RU.out k (by omega) h2, OU.out, below_drewN HC.out _⟩
         case measure => simp [intOf]; omega
       · obtain ⟨m, hm⟩ : ∃ m, j = m + 1 := ⟨j - 1, by omega⟩
         have hw : IntKind.i64.wrap ((j : Int) - 1) = (m : Int) := (IntWalk.i64_in _ ⟨by omega, by omega⟩).trans (by omega)
         have i1 : (0 : Int) ≤ (j : Int) := by omega
         have i2 : (j : Int) < (n : Int) := by omega
         have i3 : (0 : Int) ≤ (m : Int) := by omega
         have i4 : (m : Int) < (n : Int) := by omega
         have c1 := OU.out.cell (i := j) (by rw [LU.out]; omega)
         have c2 := OU.out.cell (i := m) (by rw [LU.out]; omega)
         have hgj : gd us j = i := IN.out.2.1
         have hgm : gd us m < i := IN.out.2.2.1 m (by omega) (by omega)
         rw [hgj] at c1
         obtain ⟨y, hy⟩ : ∃ y, y = gd us m := ⟨_, rfl⟩
         rw [← hy] at c2 hgm
         have HY := Lib.hid hy
         have HGJ := Lib.hid hgj
         have HM := Lib.hid hm
         have hk := HR.out i y (by omega) (by omega)
         have D2 := Lib.hid ((HD.out.below HC.out).more (Nat.le_of_lt OU.out.lt))
         have hbx := (HC.out.cell (p := ⟨g2, 0, none⟩) hg2).trans hg
         have K := Lib.hid hbx
         clear hy hgj hbx hm
         by_cases hlt2 : r y < r i
         · have hneg : cmpD (d y).1 (d y).2 (d i).1 (d i).2 < 0 := hk.2 hlt2
           clear hk
           obtain ⟨z, hz⟩ : ∃ z, z = cmpD (d y).1 (d y).2 (d i).1 (d i).2 := ⟨_, rfl⟩
           rw [← hz] at hneg
           have HZ := Lib.hid hz
           have HLT := Lib.hid hlt2
           clear hz hlt2
           have P2 := two_on (Lib.hid ⟨c1, c2⟩) (Below.refl wr.heap.size wr).drew
           clear c1 c2
           go_wp2_with fail
           go_region_held3 (fun v => v.cell? ⟨g, j, none⟩ = some (.int .i64 ((i : Nat) : Int)) ∧ v.cell? ⟨g, m, none⟩ = some (.int .i64 ((y : Nat) : Int))) (with_reducible exact P2.out)
             (first | (go_at_call 58; refine (most1_any L S A n c g2 i y d p wr.drew (D2.out.on (Below.refl _ _).drew) hL hS K.out (by omega) (by omega)).mono ?_; rintro e w2 ⟨rfl, hb1⟩; rw [← HZ.out]; have HC2 := Lib.hid ((Below.refl wr.heap.size wr).drew.trans hb1); replace P2 := two_on P2 hb1; clear hb1))
           all_goals
             have OU2 := Lib.hid (OU.out.on HC2.out)
             obtain ⟨e1, e2⟩ := P2.out
             have f1 := OU2.out.frozen j
             have f2 := OU2.out.frozen m
             have e3 : (w2.setCell ⟨g, j, none⟩ (.int .i64 (y : Int))).cell? ⟨g, m, none⟩ = some (.int .i64 (y : Int)) := by rw [World.cell?_setCell_other _ _ _ _ (by simp only [ne_eq, Addr.mk.injEq]; have := HM.out; omega)]; exact e2
             have HB2 : Hid (Below g w w2) := HC.out.trans (HC2.out.mono (Nat.le_of_lt OU.out.lt))
             go_wp2_with fail
             go_region
             all_goals
               go_wp2
               go_roundw
               case rel =>
                 have e : swp us j m = (us.set j y).set m i := by unfold swp; rw [← HY.out, HGJ.out]
                 refine ⟨m, (us.set j y).set m i, by go_num, by rw [List.length_set, List.length_set, LU.out], by rw [← e, HM.out]; exact ins_step (by rw [← HM.out]; exact IN.out) (by rw [LU.out]; omega) (by rw [← HY.out]; exact HLT.out), fun k h1 h2 => ?_, ((OU2.out.store j y _ rfl).store m i _ rfl).drew, ((HB2.out.setCell (p := ⟨g, j, none⟩) (Nat.le_refl _) _).setCell (p := ⟨g, m, none⟩) (Nat.le_refl _) _).drew⟩
                 have hjm := HM.out
                 rw [← e, gd_swp (by rw [LU.out]; omega) (by rw [LU.out]; omega), if_neg (by omega), if_neg (by omega)]
                 exact RU.out k h1 h2
               case measure => simp [intOf]; have := HM.out; omega
         · have hneg : ¬ cmpD (d y).1 (d y).2 (d i).1 (d i).2 < 0 := fun h => hlt2 (hk.1 h)
           clear hk
           obtain ⟨z, hz⟩ : ∃ z, z = cmpD (d y).1 (d y).2 (d i).1 (d i).2 := ⟨_, rfl⟩
           rw [← hz] at hneg
           have HZ := Lib.hid hz
           have HLT := Lib.hid hlt2
           clear hz hlt2
           have P2 := two_on (Lib.hid ⟨c1, c2⟩) (Below.refl wr.heap.size wr).drew
           clear c1 c2
           go_wp2_with fail
           go_region_held3 (fun v => v.cell? ⟨g, j, none⟩ = some (.int .i64 ((i : Nat) : Int)) ∧ v.cell? ⟨g, m, none⟩ = some (.int .i64 ((y : Nat) : Int))) (with_reducible exact P2.out)
             (first | (go_at_call 58; refine (most1_any L S A n c g2 i y d p wr.drew (D2.out.on (Below.refl _ _).drew) hL hS K.out (by omega) (by omega)).mono ?_; rintro e w2 ⟨rfl, hb1⟩; rw [← HZ.out]; have HC2 := Lib.hid ((Below.refl wr.heap.size wr).drew.trans hb1); replace P2 := two_on P2 hb1; clear hb1))
           all_goals
             have OU2 := Lib.hid (OU.out.on HC2.out)
             have HB2 : Hid (Below g w w2) := HC.out.trans (HC2.out.mono (Nat.le_of_lt OU.out.lt))
             go_wp2_with fail
             go_roundw
             case rel => exact ⟨i + 1, us, by omega, by omega, by go_num, LU.out, ins_end (m := m) (by rw [← HM.out]; exact IN.out) (by rw [← HY.out]; intro h; have := HLT.out; omega), fun k h1 h2 => RU.out k (by omega) h2, OU2.out, HB2.out⟩
             case measure => simp [intOf]; omega
   · obtain rfl : i = n := by omega
     go_wp2_with fail
     go_end0
     exact ⟨rfl, ⟨zs, OW.out, LN.out, SR.out⟩, HB.out⟩
theorem stable_any (r : Nat → Int) (L S : Nat) (A : Option Addr) (n c g g2 : Nat) (zs : List Nat) (d : Nat → Int × Nat) (p : Nat → Option Addr × Nat × Nat) (w : World) (hD : DecsG L S w g A n c d p) (hL : L ≤ 1000000) (hS : S ≤ 100000) (hr : Keyed r d n) (hg : w.cell? ⟨g2, 0, none⟩ = some (.slice A n c)) (hg2 : g2 < g)
   (ho : OwnI w g zs) (hlen : zs.length = n) (hid : ∀ k, k < n → gd zs k = k) (hn0 : 0 < n) (hn : n < 20) :
   Calls Tryz.prog 92 #[.slice (some ⟨g, 0, none⟩) n n, .int .i64 (n : Int), .func (.func 58) #[] #[.pointer (some ⟨g2, 0, none⟩)]] w fun e w' => e = .returned (.tuple #[]) ∧ (∃ zs' : List Nat, OwnI w' g zs' ∧ zs'.length = n ∧ Srt r zs' n) ∧ Below g w w' := by
 have HC := Lib.hid (insert_any r L S A n c g g2 zs d p w hD hL hS hr hg hg2 ho hlen hid hn0 hn)
 clear hD hr ho hlen hid
 go_enter Tryz.func92, Tryz.ntmps92
 go_wp2_with fail
 refine wp_loop_rounds 1 ?_; rw [rounds_succ]
 go_wp2_with fail
 refine HC.out.mono ?_; rintro e w1 ⟨rfl, hz, hb⟩
 have HZ := Lib.hid hz
 clear hz
 go_wp2_with fail
 refine wp_loop_rounds 1 ?_; rw [rounds_succ]
 go_wp2_with fail
 go_end0
 exact ⟨rfl, HZ.out, hb⟩
theorem sortStable_any (r : Nat → Int) (L S : Nat) (A : Option Addr) (n c g g2 : Nat) (zs : List Nat) (d : Nat → Int × Nat) (p : Nat → Option Addr × Nat × Nat) (w : World) (hD : DecsG L S w g A n c d p) (hL : L ≤ 1000000) (hS : S ≤ 100000) (hr : Keyed r d n) (hg : w.cell? ⟨g2, 0, none⟩ = some (.slice A n c)) (hg2 : g2 < g)
   (ho : OwnI w g zs) (hlen : zs.length = n) (hid : ∀ k, k < n → gd zs k = k) (hn0 : 0 < n) (hn : n < 20) :
   Calls Tryz.prog 57 #[.slice (some ⟨g, 0, none⟩) n n, .func (.func 58) #[] #[.pointer (some ⟨g2, 0, none⟩)]] w fun e w' => e = .returned (.tuple #[]) ∧ (∃ zs' : List Nat, OwnI w' g zs' ∧ zs'.length = n ∧ Srt r zs' n) ∧ Below g w w' := by
 have HC := Lib.hid (stable_any r L S A n c g g2 zs d p w hD hL hS hr hg hg2 ho hlen hid hn0 hn)
 clear hD hr ho hlen hid
 go_enter Tryz.func57, Tryz.ntmps57
 go_wp2_with fail
 refine HC.out.mono ?_; rintro e w1 ⟨rfl, hz, hb⟩
 have HZ := Lib.hid hz
 clear hz
 go_wp2_with fail
 go_end0
 exact ⟨rfl, HZ.out, hb⟩
end Go.Proofs.YthlhpgphmfnlgaaGreat
/-
 The contract of mostFirst.
-/
namespace Go.Proofs.YthlhpgphmfnlgaaGreat
open Go.RowKit
def RetPlaces (W : World) (r : Nat → Int) (n : Nat) (e : Ending) (w' : World) : Prop :=
 ∃ g zs, e = .returned (.slice (some ⟨g, 0, none⟩) n n) ∧ W.heap.size ≤ g ∧ OwnI w' g zs ∧ zs.length = n ∧ Srt r zs n ∧ Below W.heap.size W w'
theorem most_any (r : Nat → Int) (L S : Nat) (A : Option Addr) (n c : Nat) (d : Nat → Int × Nat) (p : Nat → Option Addr × Nat × Nat) (w : World) (h : DecsG L S w w.heap.size A n c d p) (hL : L ≤ 1000000) (hS : S ≤ 100000) (hr : Keyed r d n) (hn0 : 0 < n) (hn : n < 20) :
   Calls Tryz.prog 27 #[.slice A n c] w (RetPlaces w r n) := by
 obtain ⟨i0, hi, hz0, hz1, hz2⟩ := info_parts info_int
 have H := Lib.hid h
 have HR := Lib.hid hr
 clear h hr
 go_enter Tryz.func27, Tryz.ntmps27
 obtain ⟨W0, hW⟩ : ∃ W0, w.alloc (.cells #[.slice A n c] 26) = W0 := ⟨_, rfl⟩
 have hb0 : Below w.heap.size w W0 := by rw [← hW]; exact (Below.refl _ _).alloc (Nat.le_refl _) _
 have hbx : W0.cell? ⟨w.heap.size, 0, none⟩ = some (.slice A n c) := by rw [← hW]; simp [go_sem]
 have HSZ : Hid (w.heap.size < W0.heap.size) := by show _ < _; rw [← hW]; simp
 have HB := Lib.hid hb0
 clear hb0
 go_wp2_with (at_make; (try rw [hW]); go_must (refine wpList_make_full _ rfl _ _ 49 rfl W0.heap.size 3 i0 (.int .i64 0) 1 Tryz.underlying49 hi hz0 hz1 _ _ _ _ n rfl rfl (by omega) (by omega) (by rw [hz2]; omega) (by unfold maxLen; omega) (Nat.le_refl _) ?_; intro w3 hown1 hgr1; have O3 : Hid (OwnI w3 W0.heap.size (List.replicate n 0)) := OwnI.of_made hown1; have HB3 : Hid (Below W0.heap.size W0 w3) := (Below.refl _ _).grown hgr1 (Nat.le_refl _) (fun k hk => by cases hk); clear hown1 hgr1))
 clear hW
 go_loopw [10] (fun iv wr => ∃ (i : Nat) (zs : List Nat), i ≤ n ∧ iv = .int .i64 i ∧ zs.length = n ∧ (∀ j, j < i → gd zs j = j) ∧ OwnI wr W0.heap.size zs ∧ Below W0.heap.size W0 wr) (fun iv _ => n - (intOf iv).toNat)
 case atStart => exact ⟨0, List.replicate n 0, Nat.zero_le _, rfl, by simp, fun j hj => by omega, O3.out, HB3.out⟩
 case round =>
   obtain ⟨i, zs, hin, rfl, hlen, hid, hown, hb⟩ := hrel
   clear O3 HB3
   have OW := Lib.hid hown
   have HI := Lib.hid hid
   have HC := Lib.hid hb
   have LN := Lib.hid hlen
   clear hown hid hb hlen
   rcases Nat.lt_or_ge i n with hlt | hge
   · have c1 := OW.out.cell (i := i) (by rw [LN.out]; omega)
     have f1 := OW.out.frozen i
     go_wp2
     go_roundw
     case rel => exact ⟨i + 1, zs.set i i, by omega, by go_num, by rw [List.length_set, LN.out], fun j hj => by
         rw [gd_set _ _ _ _ (by rw [LN.out]; omega)]
         split
         · omega
         · exact HI.out j (by omega), OW.out.store i i _ rfl, HC.out.setCell (p := ⟨W0.heap.size, i, none⟩) (Nat.le_refl _) _⟩
     case measure => simp [intOf]; omega
   · obtain rfl : i = n := by omega
     have DG := Lib.hid ((H.out.on HB.out).below HC.out)
     have hbr : wr.cell? ⟨w.heap.size, 0, none⟩ = some (.slice A i c) := cell_on hbx HC.out
     go_wp2_with fail
     refine (sortStable_any r L S A i c W0.heap.size w.heap.size zs d p wr DG.out hL hS HR.out hbr HSZ.out OW.out LN.out HI.out hn0 hn).mono ?_; rintro e w1 ⟨rfl, ⟨zs', ho, hl, hs⟩, hb⟩
     have HO := Lib.hid ho
     have HL := Lib.hid hl
     have HS := Lib.hid hs
     have HB4 : Hid (Below w.heap.size w w1) := HB.out.trans ((HC.out.trans hb).mono HB.out.size)
     clear ho hl hs hb
     go_wp2_with fail
     go_ret
     exact ⟨W0.heap.size, zs', rfl, HB.out.size, HO.out, HL.out, HS.out, HB4.out⟩
end Go.Proofs.YthlhpgphmfnlgaaGreat
/-
 natdiv.Div once more: its quotient and its rest lie in memory of the call's own.
-/
namespace Go.Proofs.YthlhpgphmfnlgaaGreat
open Go.RowKit
theorem make_fresh (N : Nat) (hN : Hid (N < 18446744073709551616)) (w : World) :
   Calls Tryz.prog 49 #[.int .u64 N] w (RetNew w N) := by
 obtain ⟨i0, hi, hz0, hz1, hz2⟩ := info_parts info_limb
 go_enter Tryz.func49, Tryz.ntmps49
 go_wp2
 go_loopw [0, 3] (fun i v wr => ∃ (m : Nat) (A : Option Addr) (k c : Nat) (xs : List Nat), m ≤ N ∧ i = .int .u64 m ∧ v = .slice A k c ∧ wr.ownsRow w.heap.size 75 1 (.slice A k c) k (vals xs) ∧ xs ++ dg m = dg N ∧ limbs xs ∧ Below w.heap.size w wr) (fun i _ _ => (intOf i).toNat)
 case atStart => exact ⟨N, none, 0, 0, [], Nat.le_refl _, rfl, rfl, World.ownsRow_nil _ _ _ _, rfl, limbs_nil, Below.refl _ _⟩
 case round =>
   obtain ⟨m, A, k, c, xs, hm, rfl, rfl, hown, hx, hlim, hb⟩ := hrel
   have K3 := make_len hx hN.out hown.1
   have HX := Lib.hid hx
   have HO := Lib.hid hown
   have HL := Lib.hid hlim
   have HB := Lib.hid hb
   clear hx hown hlim hb
   rcases Nat.eq_zero_or_pos m with h0 | h0
   · subst h0
     go_wp2
     go_ret
     exact ⟨_, _, _, rfl, Lim.of_own (by have := HX.out; rw [dg_zero, List.append_nil] at this; rw [← this]; exact HO.out) (fun x hx => by have := limbs_dg _ x hx; omega), (fun ad hA => by subst hA; exact (HO.out.lt _ rfl).1), HB.out⟩
   · go_wp2_with (at_builtin; (refine wpList_append_lim rfl (.tmp 8) (.tmp 12) 23 23 rfl w.heap.size 75 75 i0 Tryz.underlying23 Tryz.underlying23 hi hz0 hz1 hz2 A k c xs rfl (HO.out.alloc _) _ _ 1 1 [m % 1000000000] rfl (Lim.one _ _ _ (by omega) (by omega) _) (by omega) (Nat.le_trans HB.out.size (by simp)) ?_; intro A2 c2 w2 hown hgr))
     go_roundw
     case rel => exact ⟨m / 1000000000, A2, k + 1, c2, xs ++ [m % 1000000000], by omega, ret_u64 (u64_div hm hN.out), rfl, hown, make_step HX.out h0, limbs_append.2 ⟨HL.out, limbs_cons.2 ⟨by omega, limbs_nil⟩⟩, (HB.out.alloc HB.out.size _).grown hgr (Nat.le_trans HB.out.size (by simp)) (fun g hg => (HO.out.lt g hg).1)⟩
     case measure => simp [intOf]; rw [u64_div hm hN.out]; omega
def RetTwoF (W : World) (q r : Nat) (e : Ending) (w' : World) : Prop :=
 ∃ A n c A' n' c', e = .returned (.tuple #[.slice A n c, .slice A' n' c']) ∧ Num w' w'.heap.size A n c q ∧ Num w' w'.heap.size A' n' c' r ∧ (∀ ad, A = some ad → W.heap.size ≤ ad.block) ∧ (∀ ad, A' = some ad → W.heap.size ≤ ad.block) ∧ Below W.heap.size W w'
def RetDivF (W : World) (q r : Nat) (e : Ending) (w' : World) : Prop :=
 ∃ A n c A' n' c', e = .returned (.tuple #[.slice A n c, .slice A' n' c', .int .i64 0]) ∧ Num w' w'.heap.size A n c q ∧ Num w' w'.heap.size A' n' c' r ∧ (∀ ad, A = some ad → W.heap.size ≤ ad.block) ∧ (∀ ad, A' = some ad → W.heap.size ≤ ad.block) ∧ Below W.heap.size W w'
theorem dsmall_fresh_is {A : Option Addr} {n c a N q r : Nat} {v : Int} {w : World} (h : Num w w.heap.size A n c a) (hn : n ≤ 100000000) (hN0 : 0 < N) (hN : N < 4294967296) (hv : v = N) (hq : a / N = q) (hr : a % N = r) :
   Calls Tryz.prog 86 #[.slice A n c, .int .u32 v] w (RetSmallF w q r) := by
 subst hv; subst hq; subst hr
 exact dsmall_fresh A n c a N w h hn hN0 hN
theorem long_fresh (A A' : Option Addr) (n c k c' a b : Nat) (w : World) (h : Num w w.heap.size A n c a) (h' : Num w w.heap.size A' (k + 2) c' b) (hn : n ≤ 100000) (hba : b ≤ a) :
   Calls Tryz.prog 87 #[.slice A n c, .slice A' (k + 2) c'] w (RetTwoF w (a / b) (a % b)) := by
 obtain ⟨i0, hi, hz0, hz1, hz2⟩ := info_parts info_limb
 have hkn : k + 2 ≤ n := by have := dg_len_mono hba; rw [h.len, h'.len] at this; exact this
 have hm := h.room
 have hcap := h.cap
 have hm' := h'.room
 have hcap' := h'.cap
 unfold maxLen at hm hm'
 obtain ⟨b3, o3, rfl, _, hc3⟩ := h'.at_ (show k + 1 < k + 2 by omega)
 obtain ⟨t, et⟩ : ∃ t, gd (dg b) (k + 1) = t := ⟨_, rfl⟩
 obtain ⟨d, ed⟩ : ∃ d, d = 1000000000 / (t + 1) := ⟨_, rfl⟩
 have NF := norm_facts h'.len (by omega) et ed
 have ht : t < 1000000000 := by rw [← et]; exact gd_lt (limbs_dg b) _
 rw [et] at hc3
 have hd2 := NF.2.2.1
 have ED : Hid ((1000000000 : Int) / ((t : Int) + 1) = (d : Int)) := by show _ = _; rw [ed, Int.natCast_ediv]; rfl
 have NF := Lib.hid NF
 obtain ⟨b', eb'⟩ : ∃ b', b * d = b' := ⟨_, rfl⟩
 obtain ⟨a', ea'⟩ : ∃ a', a * d = a' := ⟨_, rfl⟩
 obtain ⟨m, hmn⟩ : ∃ m, m + (k + 1) = n := ⟨n - (k + 1), by omega⟩
 have LB : Hid ((dg b').length = k + 2) := by show _ = _; rw [← eb']; exact NF.out.2.2.2.1
 have LA : Hid ((dg a').length ≤ n + 1) := by show _ ≤ _; rw [← ea']; exact norm_len h.len hd2
 have ST : Hid (a' < 1000000000 ^ m * b') := by show _ < _; rw [← ea', ← eb']; exact norm_start h.len NF.out.2.2.2.2 NF.out.2.1 (by omega) hmn
 have HNE : Hid (∀ q r, a' = q * b' + r → r < b' → q = a / b ∧ r / d = a % b) := by intro q r hqr hr; rw [← ea', ← eb'] at hqr; rw [← eb'] at hr; exact norm_end hqr hr
 have EA := Lib.hid ea'
 have EB := Lib.hid eb'
 have HD0 := NF.out.2.1
 have HB0 : Hid (0 < b') := by
   show _ < _
   rcases Nat.eq_zero_or_pos b' with h0 | h0
   · have := LB.out; rw [h0, dg_zero] at this; simp at this
   · exact h0
 have HBL : Hid (b' < 1000000000 ^ (k + 2)) := by show _ < _; have := lt_pow_dg b'; rwa [LB.out] at this
 have H := Lib.hid h
 have H' := Lib.hid h'
 clear h h' et ed ea' eb' hba
 go_enter Tryz.func87, Tryz.ntmps87
 go_wp2
 refine wp_scope_three 0 (LongAt (.slice A n c) k n m d b' a' w) (fun a _ => (intOf (a.tmps.getD 8 undef)).toNat) rfl ?_ ?_
 · refine fun a9 w9 nn hJ => LongAt.elim (X := fun a w => (intOf (a.tmps.getD 8 undef)).toNat = nn → Code.wp Tryz.prog _ _ a w) ?_ a9 w9 hJ
   intro w9 i zs qs w1 A1 c1 g2 us hi1 hlz hzl hlq hql hq0 hT hlt hoz hoq hbw h1 hb01 hg12
   intro hnn
   have hnn : i = nn := by rw [← hnn]; simp [intOf]
   have NN := Lib.hid hnn
   clear hnn
   show Code.wp _ _ _ _ _
   have GG := guess_good hzl LB.out hlt
   obtain ⟨G, eG⟩ : ∃ G, guessN ((gd zs (i + (k + 2)) * 1000000000 + gd zs (i + (k + 1))) * 1000000000 + gd zs (i + k)) (gd (dg b') (k + 1) * 1000000000 + gd (dg b') k) = G := ⟨_, rfl⟩
   have hGl : G < 1000000000 := by rw [← eG]; exact Nat.lt_of_le_of_lt (Nat.min_le_right _ _) (by omega)
   have HZ := Lib.hid hoz
   have HQ := Lib.hid hoq
   have HBW := Lib.hid hbw
   have H1 := Lib.hid (h1.below hbw)
   have H1W := Lib.hid h1
   have HLZ := Lib.hid hzl
   have LZ := Lib.hid hlz
   have LQ := Lib.hid hlq
   have LQL := Lib.hid hql
   have Q0 := Lib.hid hq0
   have HT := Lib.hid hT
   have HLT := Lib.hid hlt
   have HB01 := Lib.hid hb01
   have CG := Lib.hid (fun p cr hp hcr hcr2 => guess_is_at (A := some ⟨w1.heap.size, i, none⟩) (p := p) (c := cr) (hoz.part hzl (by rw [hlz]; omega) hcr hcr2) (H1.out.more (Nat.le_of_lt hoz.lt)) (limbs_take (limbs_drop hzl _) _) hp (by omega) (gd_part (by omega)) (gd_part (by omega)) (gd_part (by omega)) GG.2.1 GG.1 eG)
   have GG := Lib.hid GG
   have EG := Lib.hid eG
   clear hlz hzl hlq hql hq0 hT hlt hoz hoq hbw h1 hb01 eG
   have hcq := HQ.out.cell (i := i) (by rw [LQ.out]; exact hi1)
   go_wp2_with fail
   refine (CG.out _ _ (by omega) (by omega) (by omega)).mono ?_; rintro e w2 ⟨rfl, hb2⟩
   have Z2 := Lib.hid (HZ.out.below hb2 HZ.out.lt)
   have Q2 := Lib.hid (HQ.out.below hb2 HQ.out.lt)
   have HB2 := Lib.hid (HBW.out.trans (hb2.mono (Nat.le_of_lt HZ.out.lt)))
   clear hb2 hcq
   have hcq := Q2.out.cell (i := i) (by rw [LQ.out]; exact hi1)
   have hfq := Q2.out.frozen i
   go_wp2_with fail
   have Z3 := Lib.hid (Z2.out.other (g' := g2) i (.int .u32 (G : Nat)) (by omega))
   have Q3 := Lib.hid (Q2.out.store i G (G : Nat) rfl)
   have HB3 := Lib.hid (HB2.out.setCell (p := ⟨g2, i, none⟩) (Nat.le_of_lt hg12) (.int .u32 (G : Nat)))
   have N3 := Lib.hid (H1W.out.below HB3.out)
   generalize w2.setCell ⟨g2, i, none⟩ (.int .u32 (G : Nat)) = w3 at *
   clear hcq hfq
   refine (take_is (p := i + (k + 2) + 1 - i) Z3 HLZ LZ.out (by omega) (by omega) N3.out hGl (by omega) (by omega)).mono ?_; rintro e w4 ⟨cy, ys, rfl, hoy, hly, hyl, hay, hval, hk4⟩
   have OY := Lib.hid hoy
   have LY := Lib.hid hly
   have LLY := Lib.hid hyl
   have AY := Lib.hid hay
   have VY := Lib.hid hval
   have Q4 := Lib.hid (Q3.out.kept hk4 (by omega))
   have HB4 := Lib.hid (HB3.out.trans (hk4.below (Nat.le_refl _)))
   clear hoy hly hyl hay hval hk4
   rcases GG.out.2.2.2 with hq | hq
   · have QEQ : G = val zs / (1000000000 ^ i * b') := EG.out.symm.trans hq
     have QLT : G < 1000000000 := hGl
     have RF := round_fits GG.out.2.2.1 LLY.out AY.out VY.out QEQ
     obtain rfl := RF.1
     have VF := Lib.hid RF.2
     have QF := Q4
     rw [QEQ] at QF
     have OF := OY
     have LF := LY
     have LLF := LLY
     have HBF := HB4
     have QEQ := Lib.hid QEQ
     clear RF hq
     have LQS : Hid ((qs.set i (val zs / (1000000000 ^ i * b'))).length = m) := by show _ = _; rw [List.length_set]; exact LQ.out
     have LIM : Hid (limbs (qs.set i (val zs / (1000000000 ^ i * b')))) := limbs_set LQL.out i (by rw [← QEQ.out]; exact QLT)
     have STEP := Lib.hid (long_step (q := val zs / (1000000000 ^ i * b')) HT.out (by rw [LQ.out]; exact hi1) (Q0.out i (by omega)) rfl)
     have LESS : Hid (val ys < 1000000000 ^ i * b') := by show _ < _; rw [VF.out]; exact Nat.mod_lt _ (Nat.mul_pos (Nat.pow_pos (by omega)) HB0.out)
     rw [← VF.out] at STEP
     rcases Nat.eq_zero_or_pos i with h0 | h0
     · subst h0
       have NE := Lib.hid (HNE.out _ _ STEP.out (by have := LESS.out; rwa [Nat.pow_zero, Nat.one_mul] at this))
       have LT1 := Lib.hid (own_lim_is OF.out LLF.out LF.out (by omega))
       go_wp2_with fail
       refine (trim_is LT1.out LLF.out (by omega) rfl).mono ?_; rintro e w5 ⟨A5, n5, c5, rfl, h5, hb5⟩
       have hn5 : n5 ≤ n + 1 := by
         rw [← h5.len]; exact dg_len_le (by have := val_lt LLF.out; rwa [LF.out] at this)
       have H5 := Lib.hid h5
       have Q5 := Lib.hid (QF.out.below hb5 QF.out.lt)
       have HB5 := Lib.hid (HBF.out.trans (hb5.mono (Nat.le_of_lt OF.out.lt)))
       clear h5 hb5
       go_wp2_with fail
       refine (dsmall_fresh_is H5.out (by omega) HD0 (by omega) rfl NE.out.2 rfl).mono ?_; rintro e w6 ⟨A6, n6, c6, rfl, h6, f6, hb6⟩
       have H6 := Lib.hid h6
       have F6 := Lib.hid f6
       clear f6
       have Q6 := Lib.hid (Q5.out.below hb6 Q5.out.lt)
       have HB6 := Lib.hid (HB5.out.trans (hb6.mono HB5.out.size))
       have LT2 := Lib.hid (own_lim_is Q6.out LIM.out LQS.out (by omega))
       clear h6 hb6
       go_wp2_with fail
       refine (trim_new LT2.out LIM.out (by omega) NE.out.1).mono ?_; rintro e w7 ⟨A7, n7, c7, rfl, h7, f7, hb7⟩
       have H7 := Lib.hid h7
       have F7 := Lib.hid f7
       clear f7
       have H6 := Lib.hid ((H6.out.below hb7).more hb7.size)
       have HB7 := Lib.hid (HB6.out.trans (hb7.mono HB6.out.size))
       clear h7 hb7
       go_wp2_with fail
       simp only [Exit.jump]
       go_ret2
       exact ⟨_, _, _, _, _, _, rfl, H7.out, H6.out, fun ad h => Nat.le_trans (Nat.le_trans HB01.out.size HB6.out.size) (F7.out ad h), fun ad h => Nat.le_trans (Nat.le_trans HB01.out.size HB5.out.size) (F6.out ad h), HB01.out.trans (HB7.out.mono HB01.out.size)⟩
     · go_wp2_with fail
       go_step3
       rw [show ((i : Int) - 1) = ((i - 1 : Nat) : Int) from by omega]
       refine (show (0 = 0 ∧ _ ∧ _) from ⟨rfl, LongAt.make (i := i - 1) (zs := ys) (qs := qs.set i (val zs / (1000000000 ^ i * b'))) (w1 := w1) (A1 := A1) (c1 := c1) (g2 := g2) (by omega) LF.out LLF.out LQS.out LIM.out ?_ STEP.out ?_ OF.out QF.out HBF.out H1W.out HB01.out hg12, ?_⟩)
       · intro j hj; exact sdiv_zero Q0.out (by rw [LQ.out]; exact hi1) j (by omega)
       · rw [show i - 1 + 1 = i by omega]; exact LESS.out
       · simp [intOf]; have := NN.out; omega
   · have QEQ1 : G = val zs / (1000000000 ^ i * b') + 1 := EG.out.symm.trans hq
     have RM := round_much HBL.out HB0.out GG.out.2.2.1 LLY.out AY.out VY.out QEQ1
     have hcy := RM.1
     have RM := Lib.hid RM.2
     have hcq := Q4.out.cell (i := i) (by rw [List.length_set, LQ.out]; exact hi1)
     have hfq := Q4.out.frozen i
     rw [gd_set _ _ _ _ (by rw [LQ.out]; exact hi1), if_pos rfl] at hcq
     obtain ⟨G1, hG1⟩ : ∃ G1, G1 = val zs / (1000000000 ^ i * b') := ⟨_, rfl⟩
     rw [← hG1] at QEQ1
     have QLT : G1 < 1000000000 := by omega
     have QEQ := Lib.hid hG1
     clear hG1
     subst QEQ1
     clear hq
     go_wp2_with fail
     have Z5 := Lib.hid (OY.out.other (g' := g2) i (.int .u32 (G1 : Nat)) (by omega))
     have Q5 := Lib.hid (Q4.out.store i G1 (G1 : Nat) rfl)
     have HB5 := Lib.hid (HB4.out.setCell (p := ⟨g2, i, none⟩) (Nat.le_of_lt hg12) (.int .u32 (G1 : Nat)))
     have N5 := Lib.hid (H1W.out.below HB5.out)
     have QF0 := Q5
     rw [List.set_set] at QF0
     generalize w4.setCell ⟨g2, i, none⟩ (.int .u32 (G1 : Nat)) = w5 at *
     clear hcq hfq Q5
     refine (putBack_is (p := i + (k + 2) + 1 - i) Z5 LLY LY.out (by omega) (by omega) N5.out (by omega) (by omega)).mono ?_; rintro e w6 ⟨cy2, xs, rfl, hoy, hly, hyl, hay, hval, hk6⟩
     have OF := Lib.hid hoy
     have LF := Lib.hid hly
     have LLF := Lib.hid hyl
     have VF := Lib.hid (RM.out xs cy2 hyl hay hval)
     have QF := Lib.hid (QF0.out.kept hk6 (by omega))
     have HBF := Lib.hid (HB5.out.trans (hk6.below (Nat.le_refl _)))
     rw [QEQ.out] at QF
     clear hoy hly hyl hay hval hk6
     have LQS : Hid ((qs.set i (val zs / (1000000000 ^ i * b'))).length = m) := by show _ = _; rw [List.length_set]; exact LQ.out
     have LIM : Hid (limbs (qs.set i (val zs / (1000000000 ^ i * b')))) := limbs_set LQL.out i (by rw [← QEQ]; exact QLT)
     have STEP := Lib.hid (long_step (q := val zs / (1000000000 ^ i * b')) HT.out (by rw [LQ.out]; exact hi1) (Q0.out i (by omega)) rfl)
     have LESS : Hid (val xs < 1000000000 ^ i * b') := by show _ < _; rw [VF.out]; exact Nat.mod_lt _ (Nat.mul_pos (Nat.pow_pos (by omega)) HB0.out)
     rw [← VF.out] at STEP
     rcases Nat.eq_zero_or_pos i with h0 | h0
     · subst h0
       have NE := Lib.hid (HNE.out _ _ STEP.out (by have := LESS.out; rwa [Nat.pow_zero, Nat.one_mul] at this))
       have LT1 := Lib.hid (own_lim_is OF.out LLF.out LF.out (by omega))
       go_wp2_with fail
       refine (trim_is LT1.out LLF.out (by omega) rfl).mono ?_; rintro e w7 ⟨A5, n5, c5, rfl, h5, hb5⟩
       have hn5 : n5 ≤ n + 1 := by
         rw [← h5.len]; exact dg_len_le (by have := val_lt LLF.out; rwa [LF.out] at this)
       have H5 := Lib.hid h5
       have Q5 := Lib.hid (QF.out.below hb5 QF.out.lt)
       have HB5 := Lib.hid (HBF.out.trans (hb5.mono (Nat.le_of_lt OF.out.lt)))
       clear h5 hb5
       go_wp2_with fail
       refine (dsmall_fresh_is H5.out (by omega) HD0 (by omega) rfl NE.out.2 rfl).mono ?_; rintro e w8 ⟨A6, n6, c6, rfl, h6, f6, hb6⟩
       have H6 := Lib.hid h6
       have F6 := Lib.hid f6
       clear f6
       have Q6 := Lib.hid (Q5.out.below hb6 Q5.out.lt)
       have HB6 := Lib.hid (HB5.out.trans (hb6.mono HB5.out.size))
       have LT2 := Lib.hid (own_lim_is Q6.out LIM.out LQS.out (by omega))
       clear h6 hb6
       go_wp2_with fail
       refine (trim_new LT2.out LIM.out (by omega) NE.out.1).mono ?_; rintro e w9x ⟨A7, n7, c7, rfl, h7, f7, hb7⟩
       have H7 := Lib.hid h7
       have F7 := Lib.hid f7
       clear f7
       have H6 := Lib.hid ((H6.out.below hb7).more hb7.size)
       have HB7 := Lib.hid (HB6.out.trans (hb7.mono HB6.out.size))
       clear h7 hb7
       go_wp2_with fail
       simp only [Exit.jump]
       go_ret2
       exact ⟨_, _, _, _, _, _, rfl, H7.out, H6.out, fun ad h => Nat.le_trans (Nat.le_trans HB01.out.size HB6.out.size) (F7.out ad h), fun ad h => Nat.le_trans (Nat.le_trans HB01.out.size HB5.out.size) (F6.out ad h), HB01.out.trans (HB7.out.mono HB01.out.size)⟩
     · go_wp2_with fail
       go_step3
       rw [show ((i : Int) - 1) = ((i - 1 : Nat) : Int) from by omega]
       refine (show (0 = 0 ∧ _ ∧ _) from ⟨rfl, LongAt.make (i := i - 1) (zs := xs) (qs := qs.set i (val zs / (1000000000 ^ i * b'))) (w1 := w1) (A1 := A1) (c1 := c1) (g2 := g2) (by omega) LF.out LLF.out LQS.out LIM.out ?_ STEP.out ?_ OF.out QF.out HBF.out H1W.out HB01.out hg12, ?_⟩)
       · intro j hj; exact sdiv_zero Q0.out (by rw [LQ.out]; exact hi1) j (by omega)
       · rw [show i - 1 + 1 = i by omega]; exact LESS.out
       · simp [intOf]; have := NN.out; omega
 · intro PASS
   go_wp2_with fail
   rw [ED.out]
   refine (times_is H'.out (by omega) (by omega) EB.out).mono ?_; rintro e w1 ⟨A1, n1, c1, rfl, h1, hb1⟩
   obtain rfl : n1 = k + 2 := h1.len.symm.trans LB.out
   have H1 := Lib.hid h1
   have HB1 := Lib.hid hb1
   have X1 := Lib.hid ((H.out.below hb1).more hb1.size)
   clear h1 hb1
   go_wp2_with (first | (at_make; go_must (refine wpList_make_full _ rfl _ _ 23 rfl w1.heap.size 75 i0 (.int .u32 0) 1 Tryz.underlying23 hi hz0 hz1 _ _ _ _ (n + 1) rfl rfl (by omega) (by omega) (by rw [hz2]; omega) (by unfold maxLen; omega) (Nat.le_refl _) ?_; intro w2 hown2 hgr2; have M2 : Hid (Own w2 w1.heap.size (List.replicate (n + 1) 0)) := Own.of_made hown2; have HB2 : Hid (Below w1.heap.size w1 w2) := (Below.refl _ _).grown hgr2 (Nat.le_refl _) (fun k hk => by cases hk); clear hown2 hgr2)) | fail)
   refine (times_is ((X1.out.below HB2.out).more HB2.out.size) (by omega) (by omega) EA.out).mono ?_; rintro e w3 ⟨A3, n3, c3, rfl, h3, hb3⟩
   have hn3 : n3 ≤ n + 1 := by rw [← h3.len]; exact LA.out
   have H3 := Lib.hid h3
   have HB3 := Lib.hid (HB2.out.trans (hb3.mono HB2.out.size))
   have M3 := Lib.hid (M2.out.below hb3 M2.out.lt)
   have hm3 := h3.room
   have hcap3 := h3.cap
   unfold maxLen at hm3
   clear h3 hb3
   go_wp2_with (first | (at_make; go_must (refine wpList_make_full _ rfl _ _ 23 rfl w4.heap.size 75 i0 (.int .u32 0) 1 Tryz.underlying23 hi hz0 hz1 _ _ _ _ m (by first | rfl | (exact congrArg (Value.int IntKind.i64) (by omega))) (by first | rfl | (exact congrArg (Value.int IntKind.i64) (by omega))) (by omega) (by omega) (by rw [hz2]; omega) (by unfold maxLen; omega) (Nat.le_refl _) ?_; intro w5 hown5 hgr5; have M5 : Hid (Own w5 w4.heap.size (List.replicate m 0)) := Own.of_made hown5; have HB5 : Hid (Below w4.heap.size w4 w5) := (Below.refl _ _).grown hgr5 (Nat.le_refl _) (fun k hk => by cases hk); clear hown5 hgr5)) | ((with_reducible show wpList _ _ _ (⟨some 29, _, _, _, _, _⟩ :: _) _ _); go_must (refine wpList_copy_splice rfl (.tmp 25) (.tmp 28) 23 23 rfl 75 Tryz.underlying23 info_one _ _ _ _ _ _ rfl rfl w1.heap.size 0 (vals (List.replicate (n + 1) 0)) 75 M3.out (vals (dg a')) (copy_len H3.out hn3).1 (fun hp => ⟨rfl, lim_src H3.out hp⟩) (copy_len H3.out hn3).2 (vals_one _) w1.heap.size w1 HB3.out (Nat.le_refl _) ?_; intro w4 hg4 hb4; have O4 := Lib.hid (own_copied H3.out hn3 hg4); have HB4 := Lib.hid hb4; clear hg4 hb4)) | fail)
   go_step3
   simp only [Exit.then]
   rename_i K
   rw [show ((m : Int) - 1) = ((m - 1 : Nat) : Int) from by omega]
   refine K _ _ (PASS.out _ _ (LongAt.make (i := m - 1) (zs := dg a' ++ List.replicate (n + 1 - n3) 0) (qs := List.replicate m 0) (w1 := w1) (A1 := A1) (c1 := c1) (g2 := w4.heap.size) (by omega) ?_ ?_ (by simp) (zeros_limbs _) (fun j _ => gd_zeros _ _) ?_ ?_ ?_ M5.out ?_ H1.out HB1.out ?_))
   · rw [List.length_append, List.length_replicate, H3.out.len]; omega
   · exact limbs_append.2 ⟨limbs_dg _, zeros_limbs _⟩
   · rw [val_append, val_zeros, val_zeros, val_dg]; simp
   · rw [val_append, val_zeros, val_dg, Nat.mul_zero, Nat.add_zero, show m - 1 + 1 = m by omega]; exact ST.out
   · exact O4.out.below HB5.out O4.out.lt
   · exact HB4.out.trans (HB5.out.mono HB4.out.size)
   · exact O4.out.lt
theorem div_fresh (A A' : Option Addr) (n c n' c' a b : Nat) (w : World) (h : Num w w.heap.size A n c a) (h' : Num w w.heap.size A' n' c' b) (hn : n ≤ 100000) (hb : 0 < b) :
   Calls Tryz.prog 55 #[.slice A n c, .slice A' n' c'] w (RetDivF w (a / b) (a % b)) := by
 have hn' := dg_len_pos h'.len hb
 have hm' := h'.room
 have hcap' := h'.cap
 unfold maxLen at hm'
 have C := Lib.hid (sound_is h)
 have C' := Lib.hid (sound_is h')
 rcases Nat.lt_or_ge a b with hlt | hge
 · have CC := Lib.hid (cmp_is h h' (cmpN_lt hlt))
   have HQ : Hid (a / b = 0) := Nat.div_eq_of_lt hlt
   have HR : Hid (a % b = a) := Nat.mod_eq_of_lt hlt
   have H := Lib.hid h
   clear h h' hlt hb
   go_enter Tryz.func55, Tryz.ntmps55
   go_wp2_with fail
   refine C.out.mono ?_; rintro e w' ⟨rfl, rfl⟩
   go_wp2_with fail
   refine C'.out.mono ?_; rintro e w' ⟨rfl, rfl⟩
   go_wp2_with fail
   refine CC.out.mono ?_; rintro e w1 ⟨rfl, hb1⟩
   have HB1 := Lib.hid hb1
   have H1 := Lib.hid ((H.out.below hb1).more hb1.size)
   clear hb1
   go_wp2_with fail
   refine (trim_new H1.out (limbs_dg a) (by omega) (val_dg a)).mono ?_; rintro e w2 ⟨A2, n2, c2, rfl, h2, f2, hb2⟩
   have F2 := Lib.hid f2
   clear f2
   have H2 := Lib.hid h2
   have HB2 := Lib.hid (HB1.out.trans (hb2.mono HB1.out.size))
   clear h2 hb2
   go_wp2_with fail
   go_ret3
   exact ⟨_, _, _, _, _, _, rfl, by rw [HQ.out, Num, dg_zero]; exact Lim.nil, by rw [HR.out]; exact H2.out, fun ad h => (by cases h), fun ad h => Nat.le_trans HB1.out.size (F2.out ad h), HB2.out⟩
 · have hs : 0 ≤ cmpN a b := by
     rcases Int.lt_or_le (cmpN a b) 0 with h1 | h1
     · rw [cmpN_neg] at h1; omega
     · exact h1
   have CC := Lib.hid (fun w1 (hb1 : Below w.heap.size w w1) => cmp_any A A' n c n' c' a b w1 ((h.below hb1).more hb1.size) ((h'.below hb1).more hb1.size))
   generalize cmpN a b = s at *
   rcases Nat.eq_or_lt_of_le (show 1 ≤ n' from hn') with h1 | h1
   · subst h1
     have D1 := dg_one h'.len
     obtain ⟨b3, o3, rfl, hB3, hc3⟩ := h'.at_ (show 0 < 1 by omega)
     have hc4 : w.cell? ⟨b3, o3, none⟩ = some (.int .u32 (b : Nat)) := by rw [Nat.add_zero, D1.1, gd_cons_zero] at hc3; exact hc3
     have hbl := D1.2
     have H := Lib.hid h
     clear h h' hge hc3 D1
     go_enter Tryz.func55, Tryz.ntmps55
     go_wp2_with fail
     refine C.out.mono ?_; rintro e w' ⟨rfl, rfl⟩
     go_wp2_with fail
     refine C'.out.mono ?_; rintro e w' ⟨rfl, rfl⟩
     go_wp2_with fail
     refine (CC.out w (Below.refl _ _)).mono ?_; rintro e w1 ⟨rfl, hb1⟩
     have HB1 := Lib.hid hb1
     have H1 := Lib.hid ((H.out.below hb1).more hb1.size)
     have hc5 := (hb1.cell (p := ⟨b3, o3, none⟩) hB3).trans hc4
     clear hb1 hc4
     go_wp2_with fail
     refine (dsmall_fresh_is H1.out (by omega) hb (by omega) rfl rfl rfl).mono ?_; rintro e w2 ⟨A2, n2, c2, rfl, h2, f2, hb2⟩
     have F2 := Lib.hid f2
     clear f2
     have H2 := Lib.hid h2
     have HB2 := Lib.hid (HB1.out.trans (hb2.mono HB1.out.size))
     have hr : a % b < 1000000000 := Nat.lt_trans (Nat.mod_lt _ hb) hbl
     have HR := Lib.hid hr
     clear h2 hb2 hc5 hr
     obtain ⟨r, hr⟩ : ∃ r, a % b = r := ⟨_, rfl⟩
     rw [hr] at HR ⊢
     have hrl := HR.out
     have HRE := Lib.hid hr
     clear hr HR
     go_wp2_with fail
     refine (make_fresh r (Lib.hid (by omega)) w2).mono ?_; rintro e w3 ⟨A3, n3, c3, rfl, h3, f3, hb3⟩
     have F3 := Lib.hid f3
     clear f3
     have H3 := Lib.hid h3
     have H2 := Lib.hid ((H2.out.below hb3).more hb3.size)
     have HB3 := Lib.hid (HB2.out.trans (hb3.mono HB2.out.size))
     clear h3 hb3
     go_wp2_with fail
     go_ret3
     exact ⟨_, _, _, _, _, _, rfl, H2.out, by rw [HRE.out]; exact H3.out, fun ad h => Nat.le_trans HB1.out.size (F2.out ad h), fun ad h => Nat.le_trans HB2.out.size (F3.out ad h), HB3.out⟩
   · obtain ⟨k, rfl⟩ : ∃ k, n' = k + 2 := ⟨n' - 2, by omega⟩
     have LL := Lib.hid (fun w1 (hb1 : Below w.heap.size w w1) => long_fresh A A' n c k c' a b w1 ((h.below hb1).more hb1.size) ((h'.below hb1).more hb1.size) hn hge)
     clear h h' hge hb
     go_enter Tryz.func55, Tryz.ntmps55
     go_wp2_with fail
     refine C.out.mono ?_; rintro e w' ⟨rfl, rfl⟩
     go_wp2_with fail
     refine C'.out.mono ?_; rintro e w' ⟨rfl, rfl⟩
     go_wp2_with fail
     refine (CC.out w (Below.refl _ _)).mono ?_; rintro e w1 ⟨rfl, hb1⟩
     have HB1 := Lib.hid hb1
     clear hb1
     go_wp2_with fail
     refine (LL.out w1 HB1.out).mono ?_; rintro e w2 ⟨A2, n2, c2, A3, n3, c3, rfl, h2, h3, f2, f3, hb2⟩
     have F2 := Lib.hid f2
     have F3 := Lib.hid f3
     clear f2 f3
     have H2 := Lib.hid h2
     have H3 := Lib.hid h3
     have HB2 := Lib.hid (HB1.out.trans (hb2.mono HB1.out.size))
     clear h2 h3 hb2
     go_wp2_with fail
     go_ret3
     exact ⟨_, _, _, _, _, _, rfl, H2.out, H3.out, fun ad h => Nat.le_trans HB1.out.size (F2.out ad h), fun ad h => Nat.le_trans HB1.out.size (F3.out ad h), HB2.out⟩
end Go.Proofs.YthlhpgphmfnlgaaGreat
/-
 Two rows of decimals that grow in memory of the call's own.
-/
namespace Go.Proofs.YthlhpgphmfnlgaaGreat
open Go.RowKit
theorem info_dec : (Tryz.prog.info? 25).map (fun i => (i.zero, i.size, i.bytes)) = some (some (.agg #[.bool false, .slice none 0 0, .int .i64 0]), 3, 40) := by kernel_rfl
theorem info_parts3 {i : Option TypeInfo} {z : Value} {s b : Nat} (h : i.map (fun i => (i.zero, i.size, i.bytes)) = some (some z, s, b)) : ∃ i0, i = some i0 ∧ i0.zero = some z ∧ i0.size = s ∧ i0.bytes = b := by
 cases i with
 | none => cases h
 | some i0 =>
   simp only [Option.map_some, Option.some.injEq, Prod.mk.injEq] at h
   exact ⟨i0, rfl, h.1, h.2.1, h.2.2⟩
abbrev DQ := (Int × Nat) × (Option Addr × Nat × Nat)
def dcell (q : DQ) : List Value := [.bool (ngB q.1.1), .slice q.2.1 q.2.2.1 q.2.2.2, .int .i64 (q.1.2 : Int)]
def drow (l : List DQ) : List Value := l.flatMap dcell
theorem drow_append (l l' : List DQ) : drow (l ++ l') = drow l ++ drow l' := by simp [drow]
theorem drow_cons (q : DQ) (l : List DQ) : drow (q :: l) = .bool (ngB q.1.1) :: .slice q.2.1 q.2.2.1 q.2.2.2 :: .int .i64 (q.1.2 : Int) :: drow l := by simp [drow, dcell]
theorem drow_one (q : DQ) : drow [q] = [.bool (ngB q.1.1), .slice q.2.1 q.2.2.1 q.2.2.2, .int .i64 (q.1.2 : Int)] := by simp [drow, dcell]
theorem drow_len (l : List DQ) : (drow l).length = l.length * 3 := by
 induction l with
 | nil => rfl
 | cons q l ih => rw [drow_cons, List.length_cons, List.length_cons, List.length_cons, ih, List.length_cons]; omega
theorem drow_flat (l : List DQ) : ∀ u ∈ drow l, u.oneCell' = true := by
 induction l with
 | nil => intro u hu; cases hu
 | cons q l ih =>
   intro u hu
   rw [drow_cons] at hu
   simp only [List.mem_cons] at hu
   rcases hu with rfl | rfl | rfl | hu
   · rfl
   · rfl
   · rfl
   · exact ih u hu
theorem drow_at {l : List DQ} : ∀ {j : Nat} {q : DQ}, l[j]? = some q → (drow l)[j * 3]? = some (.bool (ngB q.1.1)) ∧ (drow l)[j * 3 + 1]? = some (.slice q.2.1 q.2.2.1 q.2.2.2) ∧ (drow l)[j * 3 + 2]? = some (.int .i64 (q.1.2 : Int)) := by
 induction l with
 | nil => intro j q h; cases h
 | cons x l ih =>
   intro j q h
   rw [drow_cons]
   cases j with
   | zero => simp at h; subst h; simp
   | succ j =>
     have := ih (j := j) (q := q) (by simpa using h)
     have e : (j + 1) * 3 = j * 3 + 1 + 1 + 1 := by omega
     rw [e]
     simpa using this
def dOf (l : List DQ) (j : Nat) : Int × Nat := (l.getD j ((0, 0), (none, 0, 0))).1
def pOf (l : List DQ) (j : Nat) : Option Addr × Nat × Nat := (l.getD j ((0, 0), (none, 0, 0))).2
theorem of_at {l : List DQ} {j : Nat} (h : j < l.length) : l[j]? = some (dOf l j, pOf l j) := by
 unfold dOf pOf
 rw [List.getElem?_eq_getElem h, List.getD_eq_getElem?_getD, List.getElem?_eq_getElem h]; rfl
def OffV (p : Option Addr × Nat × Nat) (v : Value) : Prop := 0 < p.2.1 → ∀ ad, p.1 = some ad → v.ownBlock ≠ some ad.block
structure Grow (w : World) (base : Nat) (v4 v5 : Value) (l4 l5 : List DQ) : Prop where
 own4 : w.ownsRow base 25 3 v4 l4.length (drow l4)
 own5 : w.ownsRow base 25 3 v5 l5.length (drow l5)
 far : ∀ g, v4.ownBlock = some g → v5.ownBlock ≠ some g
 num : ∀ q, q ∈ l4 ∨ q ∈ l5 → Num w w.heap.size q.2.1 q.2.2.1 q.2.2.2 q.1.1.natAbs ∧ OffV q.2 v4 ∧ OffV q.2 v5
section
variable {w w' : World} {base : Nat} {v4 v5 : Value} {l4 l5 : List DQ}
theorem below_grown (hb : Below w.heap.size w w') : w.grownBy w' none := ⟨hb.os, hb.tape, hb.output, hb.size, fun k hk _ => hb.block k hk⟩
theorem Grow.start (w : World) (base : Nat) : Grow w base (.slice none 0 0) (.slice none 0 0) [] [] :=
 ⟨World.ownsRow_nil _ _ _ _, World.ownsRow_nil _ _ _ _, fun g h => (by cases h), fun q h => (by rcases h with h | h <;> cases h)⟩
theorem Grow.step (h : Grow w base v4 v5 l4 l5) (hb : Below w.heap.size w w') : Grow w' base v4 v5 l4 l5 :=
 ⟨h.own4.kept (below_grown hb) (by cases hv : v4.ownBlock <;> simp), h.own5.kept (below_grown hb) (by cases hv : v5.ownBlock <;> simp), h.far, fun q hq => ⟨((h.num q hq).1.below hb).more hb.size, (h.num q hq).2⟩⟩
theorem OffV.fresh {p : Option Addr × Nat × Nat} {v : Value} {e n : Nat} {xs : List Value} (ho : w.ownsRow base e 3 v n xs) (hf : ∀ ad, p.1 = some ad → w.heap.size ≤ ad.block) : OffV p v := fun _ ad ha he => by
 have := (ho.lt _ he).2
 have := hf ad ha
 omega
theorem lim_grown6 {w w' : World} {B n c : Nat} {A : Option Addr} {xs : List Nat} {row : Option Nat} (h : Lim w B A n c xs) (hB : B ≤ w.heap.size) (hg : w.grownBy w' row) (hap : 0 < n → ∀ ad, A = some ad → some ad.block ≠ row) : Lim w' w'.heap.size A n c xs := by
 refine ⟨h.len, h.cap, h.room, h.fit, ?_, h.addr⟩
 rcases Nat.eq_zero_or_pos n with h0 | h0
 · subst h0; left; rw [List.eq_nil_of_length_eq_zero h.len]; rfl
 · obtain ⟨b, o, he, hb, _⟩ := h.at_ h0
   subst he
   rcases h.row with h1 | ⟨b1, o1, he, hb1, hc⟩
   · exact .inl h1
   · injection he with he
     injection he with he1 he2
     subst he1; subst he2
     have hs := hg.size
     refine .inr ⟨b, o, rfl, by omega, fun j u hu => ?_⟩
     rw [hg.cell_far ⟨b, o + j, none⟩ (by show b < _; omega) (show some b ≠ row from hap h0 ⟨b, o, none⟩ rfl)]
     exact hc j u hu
theorem num_grown {B n c a : Nat} {A : Option Addr} {v : Value} (h : Num w B A n c a) (hB : B ≤ w.heap.size) (hg : w.grownBy w' v.ownBlock) (ho : OffV (A, n, c) v) : Num w' w'.heap.size A n c a :=
 lim_grown6 h hB hg (fun hp ad hA => fun e => ho hp ad hA e.symm)
theorem OffV.moved {w : World} {p : Option Addr × Nat × Nat} {v v' : Value} {a g : Nat} (ho : OffV p v) (hn : Num w w.heap.size p.1 p.2.1 p.2.2 a) (he : v'.ownBlock = some g) (hat : v.ownBlock = some g ∨ g = w.heap.size) : OffV p v' := fun hp ad hA e => by
 rw [he] at e
 injection e with e
 rcases hat with h1 | h1
 · rw [e] at h1; exact ho hp ad hA h1
 · obtain ⟨b, o, hb, hlt, _⟩ := hn.at_ hp
   rw [hA] at hb
   injection hb with hb
   rw [hb] at e
   simp at e
   omega
theorem Grow.push4 {g cap : Nat} {q : DQ} (h : Grow w base v4 v5 l4 l5) (hq : Num w w.heap.size q.2.1 q.2.2.1 q.2.2.2 q.1.1.natAbs) (h4 : OffV q.2 v4) (h5 : OffV q.2 v5)
   (hown : w'.ownsRow base 25 3 (.slice (some ⟨g, 0, none⟩) (l4.length + 1) cap) (l4.length + 1) (drow l4 ++ drow [q])) (hg : w.grownBy w' v4.ownBlock) (hat : v4.ownBlock = some g ∨ g = w.heap.size) :
   Grow w' base (.slice (some ⟨g, 0, none⟩) (l4.length + 1) cap) v5 (l4 ++ [q]) l5 := by
 have hne : v5.ownBlock = none ∨ v5.ownBlock ≠ v4.ownBlock := by
   cases hv : v5.ownBlock with
   | none => exact .inl rfl
   | some k =>
     right
     intro e
     exact h.far k e.symm hv
 have all : ∀ q', (q' ∈ l4 ++ [q] ∨ q' ∈ l5) → Num w w.heap.size q'.2.1 q'.2.2.1 q'.2.2.2 q'.1.1.natAbs ∧ OffV q'.2 v4 ∧ OffV q'.2 v5 := by
   intro q' hq'
   rcases hq' with h1 | h1
   · rcases List.mem_append.1 h1 with h2 | h2
     · exact h.num q' (.inl h2)
     · obtain rfl := List.mem_singleton.1 h2
       exact ⟨hq, h4, h5⟩
   · exact h.num q' (.inr h1)
 refine ⟨by rw [drow_append, List.length_append]; exact hown, h.own5.kept hg hne, fun k hk hk5 => ?_, fun q' hq' => ?_⟩
 · have e : g = k := by simpa [Value.ownBlock] using hk
   subst e
   rcases hat with h1 | h1
   · exact h.far g h1 hk5
   · have := (h.own5.lt _ hk5).2; omega
 · obtain ⟨n1, o4, o5⟩ := all q' hq'
   exact ⟨num_grown n1 (Nat.le_refl _) hg o4, o4.moved n1 rfl hat, o5⟩
theorem Grow.swap (h : Grow w base v4 v5 l4 l5) : Grow w base v5 v4 l5 l4 :=
 ⟨h.own5, h.own4, fun g h5 h4 => h.far g h4 h5, fun q hq => ⟨(h.num q hq.symm).1, (h.num q hq.symm).2.2, (h.num q hq.symm).2.1⟩⟩
theorem own_decs {L S n : Nat} {A : Option Addr} {c : Nat} {l : List DQ} (ho : w.ownsRow base 25 3 (.slice A n c) l.length (drow l)) (hn : ∀ q ∈ l, Num w w.heap.size q.2.1 q.2.2.1 q.2.2.2 q.1.1.natAbs) (hs : ∀ q ∈ l, (dg q.1.1.natAbs).length ≤ L ∧ q.1.2 ≤ S) : DecsG L S w w.heap.size A l.length c (dOf l) (pOf l) := by
 have mem : ∀ j, j < l.length → (dOf l j, pOf l j) ∈ l := fun j hj => List.mem_of_getElem? (of_at hj)
 rcases ho.2 with ⟨h1, h2⟩ | ⟨g, cap, cur, hv, hg, hh, hnc, hcm, hsz, htk⟩
 · injection h1 with h3 h4 h5
   have e : l = [] := List.eq_nil_of_length_eq_zero h2
   subst e
   subst h3; subst h5
   exact ⟨Nat.le_refl _, Nat.zero_le _, .inl rfl, fun j hj => absurd hj (Nat.not_lt_zero _), fun j hj => absurd hj (Nat.not_lt_zero _), fun _ => rfl⟩
 · injection hv with h3 h4 h5
   subst h3; subst h5
   refine ⟨hnc, hcm, ?_, fun j hj => hn _ (mem j hj), fun j hj => hs _ (mem j hj), fun h => by cases h⟩
   refine .inr ⟨g, 0, rfl, (Array.getElem?_eq_some_iff.1 hh).1, fun j hj => ?_⟩
   have C := ho.cells (g := g) rfl
   have D := drow_at (of_at hj)
   have c0 := C _ _ D.1
   have c1 := C _ _ D.2.1
   have c2 := C _ _ D.2.2
   rw [Addr.add_lit] at c0 c1 c2
   simp only [Nat.zero_add] at c0 c1 c2
   rw [Nat.zero_add]
   exact ⟨c0, c1, c2⟩
end
end Go.Proofs.YthlhpgphmfnlgaaGreat
/-
 The sum of a row of decimals of any size; a block of decimals known whole.
-/
namespace Go.Proofs.YthlhpgphmfnlgaaGreat
open Go.RowKit
theorem sumG_any (L S L1 S1 : Nat) (A : Option Addr) (n c : Nat) (d : Nat → Int × Nat) (p : Nat → Option Addr × Nat × Nat) (w : World) (h : DecsG L S w w.heap.size A n c d p) (hL : L ≤ 1000000) (hS0 : S ≤ 100000) (hL1 : L1 ≤ 1000000) (hS1 : S1 ≤ 100000) (hsum : ∀ k, k ≤ n → sumS d k ≤ S1 ∧ (dg (sumI d k).natAbs).length ≤ L1) :
   Calls Tryz.prog 26 #[.slice A n c] w (RetDec w (sumI d n) (sumS d n)) := by
 have hc := h.cap
 have hm := h.room
 unfold maxLen at hm
 have H := Lib.hid h
 have HSUM := Lib.hid hsum
 clear h hsum
 go_enter Tryz.func26, Tryz.ntmps26
 go_wp2_with fail
 generalize hW : World.alloc (World.alloc w _) _ = W0
 have E0 : St w W0 [(none, 0, 0, (sumI d 0).natAbs)] [((w.heap.size + 1), .bool (ngB (sumI d 0)), .slice none 0 0, .int .i64 (sumS d 0 : Int)), (w.heap.size, .bool false, .slice none 0 0, .int .i64 0)] := by
   rw [← hW]
   exact ((St.start w (l := [(none, 0, 0, 0)]) (by simp; rw [Num, dg_zero]; exact Lim.nil)).lay rfl).lay (by simp)
 clear hW
 go_loopw [8] (fun iv wr => ∃ (k : Nat) (A1 : Option Addr) (n1 c1 : Nat), k ≤ n ∧ iv = .int .i64 k ∧ St w wr [(A1, n1, c1, ((sumI d k)).natAbs)] [((w.heap.size + 1), (.bool (ngB (sumI d k))), (.slice A1 n1 c1), (.int .i64 ((sumS d k) : Int))), (w.heap.size, .bool false, .slice none 0 0, .int .i64 0)]) (fun iv _ => n - (intOf iv).toNat)
 case atStart => exact ⟨0, none, 0, 0, Nat.zero_le _, rfl, E0⟩
 case round =>
   obtain ⟨k, A1, n1, c1, hk, rfl, hE⟩ := hrel
   have E := Lib.hid hE
   have hLL := HSUM.out k hk
   have hn1 : n1 ≤ 1000000 := by have := (St.got E (A := A1) (n := n1) (c := c1) (a := (sumI d k).natAbs) (by simp)).len; have := hLL.2; omega
   have hS : sumS d k ≤ 100000 := by have := hLL.1; omega
   clear hE hLL E0
   rcases Nat.lt_or_ge k n with hlt | hge
   · have HD := Lib.hid (H.out.on E.out.bel)
     have hsh := H.out.short k hlt
     obtain ⟨b, o, rfl, hb, x0, x1, x2⟩ := HD.out.at_ hlt
     have hnum := HD.out.num k hlt
     have hpn : (p k).2.1 ≤ 1000000 := by have := hnum.len; have := hsh.1; omega
     have hds : (d k).2 ≤ 100000 := by have := hsh.2; omega
     have HN := Lib.hid hnum
     clear hnum hsh HD
     obtain ⟨r0, r1, r2, rf0, rf1, rf2, rlt⟩ := St.at_ (x0 := (.bool (ngB (sumI d k)))) (x1 := (.slice A1 n1 c1)) (x2 := (.int .i64 ((sumS d k) : Int))) (g := (w.heap.size + 1)) E (by simp)
     go_wp2_with fail
     have Ea := Lib.hid (St.alloc E.out (.cells #[.bool (ngB (d k).1), .slice (p k).1 (p k).2.1 (p k).2.2, .int .i64 ((d k).2 : Int)] 25))
     refine (add5_any A1 (p k).1 n1 c1 (p k).2.1 (p k).2.2 (sumS d k) (d k).2 (sumI d k) (d k).1 _ (St.got Ea (by simp)) (HN.out.on ((Below.refl _ _).alloc (Nat.le_refl _) _)) (by omega) (by omega) (by omega) (by omega)).mono ?_
     rintro e w2 ⟨A2, n2, c2, rfl, h1, hb1⟩
     have E2 := Lib.hid (St.push Ea.out hb1 h1)
     clear h1 hb1 r0 r1 r2 rf0 rf1 rf2 rlt x0 x1 x2 Ea
     obtain ⟨r0, r1, r2, rf0, rf1, rf2, rlt⟩ := St.at_ (x0 := (.bool (ngB (sumI d k)))) (x1 := (.slice A1 n1 c1)) (x2 := (.int .i64 ((sumS d k) : Int))) (g := (w.heap.size + 1)) E2 (by simp)
     go_wp2_with fail
     go_roundw
     case rel =>
       have E3 := St.store E2.out (g := (w.heap.size + 1)) (x0 := (.bool (ngB (sumI d k)))) (x1 := (.slice A1 n1 c1)) (x2 := (.int .i64 ((sumS d k) : Int))) (by simp) (noLimb_bool _) (noLimb_slice _ _ _) (noLimb_int _) [(w.heap.size, .bool false, .slice none 0 0, .int .i64 0)] (by simp <;> omega) (.bool (ngB (addZ (sumI d k) (sumS d k) (d k).1 (d k).2))) (.slice A2 n2 c2) (.int .i64 ((max (sumS d k) (d k).2 : Nat) : Int))
       exact ⟨k + 1, A2, n2, c2, by omega, by go_num, E3.sub (by simp [sumI]) (by simp [sumI, sumS])⟩
     case measure => simp [intOf]; omega
   · obtain rfl : k = n := by omega
     obtain ⟨r0, r1, r2, rf0, rf1, rf2, rlt⟩ := St.at_ (x0 := (.bool (ngB (sumI d k)))) (x1 := (.slice A1 n1 c1)) (x2 := (.int .i64 ((sumS d k) : Int))) (g := (w.heap.size + 1)) E (by simp)
     obtain ⟨q0, q1, q2, qf0, qf1, qf2, qlt⟩ := St.at_ (x0 := .bool false) (x1 := .slice none 0 0) (x2 := .int .i64 0) (g := w.heap.size) E (by simp)
     go_wp2_with fail
     have EF := Lib.hid (St.store E.out (g := w.heap.size) (x0 := .bool false) (x1 := .slice none 0 0) (x2 := .int .i64 0) (by simp) (noLimb_bool _) (noLimb_slice _ _ _) (noLimb_int _) [] (fun q hq => by cases hq) (.bool (ngB (sumI d k))) (.slice A1 n1 c1) (.int .i64 (sumS d k : Int)))
     obtain ⟨e0, e1, e2, _, _, _, _⟩ := St.at_ (x0 := .bool (ngB (sumI d k))) (x1 := .slice A1 n1 c1) (x2 := .int .i64 (sumS d k : Int)) (g := w.heap.size) EF (by simp)
     exact bodyPost_ret (v := .agg #[.bool (ngB (sumI d k)), .slice A1 n1 c1, .int .i64 (sumS d k : Int)]) (by simp [results, Tryz.results26, go_sem, e0, e1, e2]) rfl ⟨A1, n1, c1, rfl, St.got EF (by simp), EF.out.bel⟩
theorem drow_set (q : DQ) : ∀ (l : List DQ) (j : Nat), drow (l.set j q) = (((drow l).set (j * 3) (.bool (ngB q.1.1))).set (j * 3 + 1) (.slice q.2.1 q.2.2.1 q.2.2.2)).set (j * 3 + 2) (.int .i64 (q.1.2 : Int)) := by
 intro l
 induction l with
 | nil => intro j; rfl
 | cons x l ih =>
   intro j
   cases j with
   | zero => rw [List.set_cons_zero, drow_cons, drow_cons]; rfl
   | succ j =>
     rw [List.set_cons_succ, drow_cons, drow_cons, ih]
     have e : (j + 1) * 3 = j * 3 + 1 + 1 + 1 := by omega
     rw [e]
     simp
def OwnQ (w : World) (g : Nat) (l : List DQ) : Prop := w.heap[g]? = some (.cells (drow l).toArray 25 (0, 0))
theorem OwnQ.frozen {w : World} {g : Nat} {l : List DQ} (h : OwnQ w g l) (i : Nat) : w.frozen? ⟨g, i, none⟩ = false := frozen_of_row w g i _ _ h
theorem OwnQ.lt {w : World} {g : Nat} {l : List DQ} (h : OwnQ w g l) : g < w.heap.size := by
 rcases Nat.lt_or_ge g w.heap.size with hlt | hge
 · exact hlt
 · unfold OwnQ at h; rw [Array.getElem?_eq_none hge] at h; cases h
theorem OwnQ.on {w w' : World} {g : Nat} {l : List DQ} (h : OwnQ w g l) (hb : Below w.heap.size w w') : OwnQ w' g l := (hb.block g h.lt).trans h
theorem OwnQ.cells {w : World} {g j : Nat} {l : List DQ} (h : OwnQ w g l) (hj : j < l.length) : w.cell? ⟨g, j * 3, none⟩ = some (.bool (ngB (dOf l j).1)) ∧ w.cell? ⟨g, j * 3 + 1, none⟩ = some (.slice (pOf l j).1 (pOf l j).2.1 (pOf l j).2.2) ∧ w.cell? ⟨g, j * 3 + 2, none⟩ = some (.int .i64 ((dOf l j).2 : Int)) := by
 have D := drow_at (of_at hj)
 rw [cell_of_row w g _ _ _ (0, 0) h, cell_of_row w g _ _ _ (0, 0) h, cell_of_row w g _ _ _ (0, 0) h]
 simpa using D
theorem OwnQ.store {w : World} {g : Nat} {l : List DQ} (h : OwnQ w g l) (j : Nat) (q : DQ) : OwnQ (((w.setCell ⟨g, j * 3, none⟩ (.bool (ngB q.1.1))).setCell ⟨g, j * 3 + 1, none⟩ (.slice q.2.1 q.2.2.1 q.2.2.2)).setCell ⟨g, j * 3 + 2, none⟩ (.int .i64 (q.1.2 : Int))) g (l.set j q) := by
 unfold OwnQ at h ⊢
 rw [heap_setCell_same _ g (j * 3 + 2) _ _ _ (heap_setCell_same _ g (j * 3 + 1) _ _ _ (heap_setCell_same w g (j * 3) _ _ _ h)), drow_set]
 simp
theorem made_drow (n : Nat) : (madeCells (Value.agg #[.bool false, .slice none 0 0, .int .i64 0]).cells (n * 3)).toList = drow (List.replicate n ((0, 0), (none, 0, 0))) := by
 have hz : (Value.agg #[.bool false, .slice none 0 0, .int .i64 0]).cells = #[.bool false, .slice none 0 0, .int .i64 0] := by simp [Value.cells]
 rw [hz]
 apply List.ext_getElem?
 intro i
 rcases Nat.lt_or_ge i (n * 3) with hi | hi
 · obtain ⟨j, r, hr, rfl⟩ : ∃ j r, r < 3 ∧ i = j * 3 + r := ⟨i / 3, i % 3, by omega, by omega⟩
   have hj : j < n := by omega
   have D := drow_at (l := List.replicate n (((0 : Int), 0), ((none : Option Addr), 0, 0))) (j := j) (q := ((0, 0), (none, 0, 0))) (by simp [hj])
   have hL : (madeCells #[Value.bool false, .slice none 0 0, .int .i64 0] (n * 3)).toList[j * 3 + r]? = some ((#[Value.bool false, .slice none 0 0, .int .i64 0] : Array Value)[(j * 3 + r) % 3]!) := by
     unfold madeCells
     simp [hi]
   rw [hL]
   have e : (j * 3 + r) % 3 = r := by omega
   rw [e]
   match r, hr with
   | 0, _ => exact D.1.symm
   | 1, _ => exact D.2.1.symm
   | 2, _ => exact D.2.2.symm
 · rw [List.getElem?_eq_none (by rw [Array.length_toList, size_madeCells]; exact hi), List.getElem?_eq_none (by rw [drow_len, List.length_replicate]; exact hi)]
theorem OwnQ.of_made {w : World} {base n : Nat} (h : w.ownsRow base 25 3 (.slice (some ⟨base, 0, none⟩) n n) n (madeCells (Value.agg #[.bool false, .slice none 0 0, .int .i64 0]).cells (n * 3)).toList) : OwnQ w base (List.replicate n ((0, 0), (none, 0, 0))) := by
 rw [made_drow] at h
 rcases h.2 with ⟨h1, _⟩ | ⟨g, cap, cur, hv, _, hh, _, _, hsz, htk⟩
 · cases h1
 · injection hv with h1 h2 h3
   injection h1 with h1
   injection h1 with h1
   subst h1; subst h3
   unfold OwnQ
   rw [hh, ← htk, List.take_of_length_le (by simp; omega)]
end Go.Proofs.YthlhpgphmfnlgaaGreat
/-
 The contract of floors, the first part: what is short.
-/
namespace Go.Proofs.YthlhpgphmfnlgaaGreat
open Go.RowKit
theorem drow_noLimb (l : List DQ) : ∀ u ∈ drow l, NoLimb u := by
 induction l with
 | nil => intro u hu; cases hu
 | cons q l ih =>
   intro u hu
   rw [drow_cons] at hu
   simp only [List.mem_cons] at hu
   rcases hu with rfl | rfl | rfl | hu
   · exact noLimb_bool _
   · exact noLimb_slice _ _ _
   · exact noLimb_int _
   · exact ih u hu
theorem num_put {w : World} {B n c g : Nat} {A : Option Addr} {xs : List Nat} {l : List DQ} (h : Lim w B A n c xs) (ho : OwnQ w g l) (i1 i2 i3 : Nat) (v1 v2 v3 : Value) : Lim (((w.setCell ⟨g, i1, none⟩ v1).setCell ⟨g, i2, none⟩ v2).setCell ⟨g, i3, none⟩ v3) B A n c xs := by
 refine ⟨h.len, h.cap, h.room, h.fit, ?_, h.addr⟩
 rcases h.row with h1 | ⟨b, o, he, hb, hc⟩
 · exact .inl h1
 · by_cases hg : b = g
   · left
     cases xs with
     | nil => rfl
     | cons x xs =>
       exfalso
       have h1 := hc 0 (.int .u32 (x : Int)) rfl
       rw [hg, cell_of_row w g _ _ _ (0, 0) ho] at h1
       have h2 : Value.int .u32 (x : Int) ∈ drow l := by
         have := Array.mem_of_getElem? h1
         simpa using this
       exact drow_noLimb l _ h2 x rfl
   · refine .inr ⟨b, o, he, hb, fun j u hu => ?_⟩
     have hn : (⟨g, i1, none⟩ : Addr).block ≠ b := fun e => hg e.symm
     rw [World.cell?_setCell_far _ _ _ _ (fun e => hg e.symm), World.cell?_setCell_far _ _ _ _ (fun e => hg e.symm), World.cell?_setCell_far _ _ _ _ (fun e => hg e.symm)]
     exact hc j u hu
def shS (d : Nat → Int × Nat) (j : Nat) : Int × Nat := (stripI (d j).1 (d j).2 0, (d j).2 - stripK (d j).1 (d j).2 0)
theorem sumS_ge {d : Nat → Int × Nat} {j : Nat} : ∀ {m : Nat}, j < m → (d j).2 ≤ sumS d m := by
 intro m
 induction m with
 | zero => intro h; omega
 | succ m ih =>
   intro h
   show _ ≤ max _ _
   rcases Nat.lt_or_ge j m with h1 | h1
   · have := ih h1; omega
   · obtain rfl : j = m := by omega
     omega
theorem stripI_abs_le (i : Int) (s L : Nat) : (stripI i s L).natAbs ≤ i.natAbs := by
 unfold stripI
 rw [abs_sgn]
 exact Nat.div_le_self _ _
theorem dOf_set {l : List DQ} {k j : Nat} {q : DQ} (hk : k < l.length) : dOf (l.set k q) j = if j = k then q.1 else dOf l j := by
 unfold dOf
 rw [List.getD_eq_getElem?_getD, List.getD_eq_getElem?_getD, List.getElem?_set]
 by_cases h : k = j
 · subst h; simp [hk]
 · rw [if_neg h, if_neg (fun e => h e.symm)]
theorem pOf_set {l : List DQ} {k j : Nat} {q : DQ} (hk : k < l.length) : pOf (l.set k q) j = if j = k then q.2 else pOf l j := by
 unfold pOf
 rw [List.getD_eq_getElem?_getD, List.getD_eq_getElem?_getD, List.getElem?_set]
 by_cases h : k = j
 · subst h; simp [hk]
 · rw [if_neg h, if_neg (fun e => h e.symm)]
theorem DecsG.decs {w : World} {B n c : Nat} {A : Option Addr} {d : Nat → Int × Nat} {p : Nat → Option Addr × Nat × Nat} (h : DecsG 12 60 w B A n c d p) : Decs w B A n c d p := ⟨h.cap, h.room, h.row, h.num, h.short, h.addr⟩
theorem OwnQ.decs {L S n g : Nat} {w : World} {l : List DQ} {d : Nat → Int × Nat} (h : OwnQ w g l) (hl : l.length = n) (hn : n ≤ 1000000) (hd : ∀ j, j < n → dOf l j = d j) (hnum : ∀ j, j < n → Num w w.heap.size (pOf l j).1 (pOf l j).2.1 (pOf l j).2.2 (d j).1.natAbs) (hs : ∀ j, j < n → (dg (d j).1.natAbs).length ≤ L ∧ (d j).2 ≤ S) : DecsG L S w w.heap.size (some ⟨g, 0, none⟩) n n d (pOf l) := by
 subst hl
 refine ⟨Nat.le_refl _, by unfold maxLen; omega, .inr ⟨g, 0, rfl, h.lt, fun j hj => ?_⟩, hnum, hs, fun h => by cases h⟩
 have := h.cells hj
 rw [hd j hj] at this
 simpa using this
end Go.Proofs.YthlhpgphmfnlgaaGreat
/-
 The contract of floors.
-/
namespace Go.Proofs.YthlhpgphmfnlgaaGreat
open Go.RowKit
def partP (d : Nat → Int × Nat) (m j : Nat) : Nat := (up (shS d j).1 (shS d j).2 (sumS (shS d) m)).natAbs
def wholeW (d : Nat → Int × Nat) (m : Nat) : Nat := (sumI (shS d) m).natAbs
def RetFloors (W : World) (z s : Nat) (d : Nat → Int × Nat) (m : Nat) (e : Ending) (w' : World) : Prop :=
 ∃ A4 c4 A5 c5 l4 l5 base, e = .returned (.tuple #[.slice A4 m c4, .slice A5 m c5]) ∧ W.heap.size ≤ base ∧ Grow w' base (.slice A4 m c4) (.slice A5 m c5) l4 l5 ∧ l4.length = m ∧ l5.length = m ∧ (∀ j, j < m → dOf l4 j = (((z * partP d m j / wholeW d m : Nat) : Int), s)) ∧ (∀ j, j < m → dOf l5 j = (((z * partP d m j % wholeW d m : Nat) : Int), 0)) ∧ Below W.heap.size W w'
theorem Grow.box {w : World} {base g : Nat} {v4 v5 x0 x1 x2 : Value} {l4 l5 : List DQ} (h : Grow w base v4 v5 l4 l5) (X : Box w g x0 x1 x2) (n0 : NoLimb x0) (n1 : NoLimb x1) (n2 : NoLimb x2) (h4 : v4.ownBlock ≠ some g) (h5 : v5.ownBlock ≠ some g) (y0 y1 y2 : Value) : Grow (put3 w g y0 y1 y2) base v4 v5 l4 l5 := by
 have gb : w.grownBy (put3 w g y0 y1 y2) (some g) := ⟨rfl, rfl, rfl, by simp, fun k hk hne => by
   have hkg : k ≠ g := fun e => hne (by rw [e])
   rw [Below.heap_setCell _ _ _ _ hkg, Below.heap_setCell _ _ _ _ hkg, Below.heap_setCell _ _ _ _ hkg]⟩
 exact ⟨h.own4.kept gb (.inr h4), h.own5.kept gb (.inr h5), h.far, fun q hq => ⟨(Lim.put3 (h.num q hq).1 X n0 n1 n2 y0 y1 y2).more (by simp), (h.num q hq).2⟩⟩
theorem three_on {w w' : World} {a0 a1 a2 : Addr} {v0 v1 v2 : Value} (h : Hid (w.cell? a0 = some v0 ∧ w.cell? a1 = some v1 ∧ w.cell? a2 = some v2)) (hb : Below w.heap.size w w') :
   Hid (w'.cell? a0 = some v0 ∧ w'.cell? a1 = some v1 ∧ w'.cell? a2 = some v2) := ⟨cell_on h.out.1 hb, cell_on h.out.2.1 hb, cell_on h.out.2.2 hb⟩
theorem part_len {d : Nat → Int × Nat} {m j : Nat} (h : (dg (shS d j).1.natAbs).length ≤ 12) (hM : sumS (shS d) m ≤ 60) : partP d m j < 10 ^ 170 := by
 unfold partP
 rw [abs_up]
 have h2 := ten_of_len h
 have h3 : 10 ^ (sumS (shS d) m - (shS d j).2) ≤ 10 ^ 60 := Nat.pow_le_pow_right (by omega) (by omega)
 have h4 := Nat.mul_le_mul (Nat.le_of_lt h2) h3
 rw [← Nat.pow_add] at h4
 exact Nat.lt_of_le_of_lt h4 (Nat.pow_lt_pow_right (by omega) (by omega))
theorem prod_len {a b n : Nat} (ha : (dg a).length ≤ n) (hb : b < 10 ^ 170) : (dg (a * b)).length ≤ 9 * n + 170 := by
 apply len_of_ten
 rw [Nat.pow_add]
 exact Nat.mul_lt_mul'' (ten_of_len ha) hb
theorem one_drow0 {w : World} (x : Nat) (s : Nat) (p : Option Addr × Nat × Nat) (t : TypeId) : ∀ j u, (drow [(((x : Int), s), p)])[j]? = some u → (w.alloc (.cells #[.bool false, .slice p.1 p.2.1 p.2.2, .int .i64 (s : Int)] t)).cell? ((⟨w.heap.size, 0, none⟩ : Addr).add j) = some u := by
 intro j u hu
 rw [Addr.add_lit, cell_of_row _ w.heap.size _ _ t (0, 0) (heap_alloc_new w _), Nat.zero_add, ← Array.getElem?_toList]
 rw [drow_one] at hu
 have e : ngB (x : Int) = false := by simp [ngB]
 rw [e] at hu
 exact hu
theorem dOf_push {l : List DQ} {q : DQ} {t : Nat} (ht : t < l.length + 1) : dOf (l ++ [q]) t = if t < l.length then dOf l t else q.1 := by
 unfold dOf
 rw [List.getD_eq_getElem?_getD, List.getD_eq_getElem?_getD, List.getElem?_append]
 by_cases h : t < l.length
 · rw [if_pos h, if_pos h]
 · rw [if_neg h, if_neg h]
   have e : t - l.length = 0 := by omega
   rw [e]; rfl
theorem zcells3 : (Value.agg #[.bool false, .slice none 0 0, .int .i64 0]).cells.size = 3 := by simp [Value.cells]
theorem floors_any (A A1 : Option Addr) (n c s m c1 : Nat) (i : Int) (d : Nat → Int × Nat) (p : Nat → Option Addr × Nat × Nat) (w : World) (h : Num w w.heap.size A n c i.natAbs) (hn : n ≤ 1000) (hs : s ≤ 1000) (hD : DecsG 12 60 w w.heap.size A1 m c1 d p) (hm : m ≤ 99) (hW : 0 < wholeW d m) :
   Calls Tryz.prog 25 #[.agg #[.bool (ngB i), .slice A n c, .int .i64 (s : Int)], .slice A1 m c1] w (RetFloors w i.natAbs s d m) := by
 obtain ⟨i0, hi, hz0, hz1, hz2⟩ := info_parts3 info_dec
 have H := Lib.hid h
 have HD := Lib.hid hD
 have HW := Lib.hid hW
 have hcap := hD.cap
 have hrm := hD.room
 unfold maxLen at hrm
 clear h hD hW
 go_enter Tryz.func25, Tryz.ntmps25
 obtain ⟨W0, hW0⟩ : ∃ W0, w.alloc (.cells #[.bool (ngB i), .slice A n c, .int .i64 (s : Int)] 25) = W0 := ⟨_, rfl⟩
 have E0 : St w W0 [(A, n, c, i.natAbs)] [(w.heap.size, .bool (ngB i), .slice A n c, .int .i64 (s : Int))] := by rw [← hW0]; exact (start_one H.out).lay rfl
 have E := Lib.hid E0
 clear E0
 go_wp2_with (at_make; (try rw [hW0]); go_must (refine wpList_make_full _ rfl _ _ 26 rfl W0.heap.size 25 i0 _ 3 Tryz.underlying26 hi hz0 hz1 _ _ _ _ m rfl rfl (by omega) (by omega) (by rw [hz2]; omega) (by unfold maxLen; omega) (Nat.le_refl _) ?_; intro w3 hown1 hgr1; have O3 : Hid (OwnQ w3 W0.heap.size (List.replicate m ((0, 0), (none, 0, 0)))) := OwnQ.of_made hown1; have HB3 : Hid (Below W0.heap.size W0 w3) := (Below.refl _ _).grown hgr1 (Nat.le_refl _) (fun k hk => by cases hk); clear hown1 hgr1))
 clear hW0
 go_loopw [20] (fun iv wr => ∃ (k : Nat) (l : List DQ), k ≤ m ∧ iv = .int .i64 k ∧ l.length = m ∧ (∀ j, j < k → dOf l j = shS d j) ∧ (∀ j, j < k → Num wr wr.heap.size (pOf l j).1 (pOf l j).2.1 (pOf l j).2.2 (shS d j).1.natAbs) ∧ OwnQ wr W0.heap.size l ∧ Below W0.heap.size W0 wr) (fun iv _ => m - (intOf iv).toNat)
 case atStart => exact ⟨0, List.replicate m ((0, 0), (none, 0, 0)), Nat.zero_le _, rfl, by simp, fun j hj => absurd hj (by omega), fun j hj => absurd hj (by omega), O3.out, HB3.out⟩
 case round =>
   obtain ⟨k, l, hk, rfl, hlen, hdl, hnum, hown, hb⟩ := hrel
   clear O3 HB3
   have OW := Lib.hid hown
   have DL := Lib.hid hdl
   have NL := Lib.hid hnum
   have HB := Lib.hid hb
   have LN := Lib.hid hlen
   clear hown hdl hnum hb hlen
   rcases Nat.lt_or_ge k m with hlt | hge
   · have HDr := Lib.hid ((HD.out.on E.out.bel).on HB.out)
     have hsh := HDr.out.short k hlt
     obtain ⟨b, o, rfl, hbb, x0, x1, x2⟩ := HDr.out.at_ hlt
     have hnum := HDr.out.num k hlt
     have hpn : (p k).2.1 ≤ 12 := by have := hnum.len; have := hsh.1; omega
     have hds := hsh.2
     have HN := Lib.hid hnum
     clear hnum hsh HDr
     have y := OW.out.cells (j := k) (by rw [LN.out]; omega)
     have Y := Lib.hid y
     clear y
     have i1 : (0 : Int) ≤ (k : Int) := by omega
     have i2 : (k : Int) < (m : Int) := by omega
     go_wp2_with fail
     have hba : Below wr.heap.size wr (wr.alloc (.cells #[.bool (ngB (d k).1), .slice (p k).1 (p k).2.1 (p k).2.2, .int .i64 ((d k).2 : Int)] 25)) := (Below.refl _ _).alloc (Nat.le_refl _) _
     have HBA := Lib.hid hba
     clear hba
     refine (strip_is5 (L := 0) (HN.out.on HBA.out) (by omega) (by omega) (by omega) (by omega) rfl rfl).mono ?_
     rintro e w2 ⟨A2, n2, c2, rfl, h1, hb1⟩
     have B2 : Hid (Below wr.heap.size wr w2) := HBA.out.trans (hb1.mono HBA.out.size)
     have H2 := Lib.hid h1
     clear h1 hb1 HBA x0 x1 x2
     have OW2 := Lib.hid (OW.out.on B2.out)
     obtain ⟨y0, y1, y2⟩ := OW2.out.cells (j := k) (by rw [LN.out]; omega)
     have f0 := OW2.out.frozen (k * 3)
     have f1 := OW2.out.frozen (k * 3 + 1)
     have f2 := OW2.out.frozen (k * 3 + 2)
     go_wp2_with fail
     go_roundw
     case rel =>
       refine ⟨k + 1, l.set k (shS d k, (A2, n2, c2)), by omega, by go_num, by rw [List.length_set, LN.out], fun j hj => ?_, fun j hj => ?_, OW2.out.store k (shS d k, (A2, n2, c2)), (((HB.out.trans (B2.out.mono HB.out.size)).setCell (p := ⟨W0.heap.size, k * 3, none⟩) (Nat.le_refl _) _).setCell (p := ⟨W0.heap.size, k * 3 + 1, none⟩) (Nat.le_refl _) _).setCell (p := ⟨W0.heap.size, k * 3 + 2, none⟩) (Nat.le_refl _) _⟩
       · rw [dOf_set (by rw [LN.out]; omega)]
         split
         · rename_i e; rw [e]
         · exact DL.out j (by omega)
       · rw [pOf_set (by rw [LN.out]; omega)]
         have fit : ∀ {A : Option Addr} {n c a : Nat}, Num w2 w2.heap.size A n c a → Num (((w2.setCell ⟨W0.heap.size, k * 3, none⟩ (.bool (ngB (shS d k).1))).setCell ⟨W0.heap.size, k * 3 + 1, none⟩ (.slice A2 n2 c2)).setCell ⟨W0.heap.size, k * 3 + 2, none⟩ (.int .i64 ((shS d k).2 : Int))) (((w2.setCell ⟨W0.heap.size, k * 3, none⟩ (.bool (ngB (shS d k).1))).setCell ⟨W0.heap.size, k * 3 + 1, none⟩ (.slice A2 n2 c2)).setCell ⟨W0.heap.size, k * 3 + 2, none⟩ (.int .i64 ((shS d k).2 : Int))).heap.size A n c a := fun h => (num_put h OW2.out _ _ _ _ _ _).more (by simp)
         split
         · rename_i e; rw [e]; exact fit H2.out
         · exact fit (((NL.out j (by omega)).below B2.out).more B2.out.size)
     case measure => simp [intOf]; omega
   · obtain rfl : k = m := by omega
     have DS := Lib.hid (OW.out.decs (L := 12) (S := 60) LN.out (by omega) DL.out NL.out (fun j hj => ⟨Nat.le_trans (dg_len_mono (stripI_abs_le _ _ _)) (HD.out.short j hj).1, Nat.le_trans (Nat.sub_le _ _) (HD.out.short j hj).2⟩))
     have hSH := DS.out.decs.short.sum (Nat.le_refl k) hm
     have E2 := Lib.hid (St.step E.out HB.out)
     go_wp2_with fail
     refine (sum5_any _ k k (shS d) (pOf l) wr DS.out.decs hm).mono ?_
     rintro e w2 ⟨Aw, nw, cw, rfl, h1, hb1⟩
     have hnw : nw ≤ 170 := by have := h1.len; have := hSH.2; omega
     replace E2 := Lib.hid (St.push E2.out hb1 h1)
     replace DS := Lib.hid (DS.out.on hb1)
     clear h1 hb1
     go_wp2_with fail
     generalize hW5 : World.alloc w2 _ = W1
     have E1 : Hid (St w W1 [(Aw, nw, cw, wholeW d k), (A, n, c, i.natAbs)] [(w2.heap.size, .bool (ngB (sumI (shS d) k)), .slice Aw nw cw, .int .i64 (sumS (shS d) k : Int)), (w.heap.size, .bool (ngB i), .slice A n c, .int .i64 (s : Int))]) := by show St _ _ _ _; rw [← hW5]; exact E2.out.lay rfl
     have DS1 : Hid (DecsG 12 60 W1 W1.heap.size (some ⟨W0.heap.size, 0, none⟩) k k (shS d) (pOf l)) := by show DecsG _ _ _ _ _ _ _ _ _; rw [← hW5]; exact DS.out.on ((Below.refl _ _).alloc (Nat.le_refl _) _)
     have SH : Hid (∀ j, j < k → (shS d j).2 ≤ sumS (shS d) k) := fun j hj => sumS_ge hj
     have hSS := hSH.1
     have BG1 : Hid (w2.heap.size < W1.heap.size) := (St.at_ (x0 := .bool (ngB (sumI (shS d) k))) (x1 := .slice Aw nw cw) (x2 := .int .i64 (sumS (shS d) k : Int)) (g := w2.heap.size) E1 (by simp)).lt
     have BG2 : Hid (w.heap.size < W1.heap.size) := (St.at_ (x0 := .bool (ngB i)) (x1 := .slice A n c) (x2 := .int .i64 (s : Int)) (g := w.heap.size) E1 (by simp)).lt
     have HNL : Hid ((dg i.natAbs).length ≤ n) := by have := H.out.len; show _ ≤ _; omega
     clear hW5 DS E2 E OW DL NL HB LN HD H hSH
     obtain ⟨M, hM⟩ : ∃ M, M = sumS (shS d) k := ⟨_, rfl⟩
     have HM := Lib.hid hM
     rw [← hM] at hSS SH E1
     clear hM
     go_loopw [4, 5, 35] (fun v4 v5 iv wr => ∃ (j : Nat) (A4 : Option Addr) (c4 : Nat) (A5 : Option Addr) (c5 : Nat) (l4 l5 : List DQ), j ≤ k ∧ v4 = .slice A4 j c4 ∧ v5 = .slice A5 j c5 ∧ iv = .int .i64 j ∧ l4.length = j ∧ l5.length = j ∧ (∀ t, t < j → dOf l4 t = (((i.natAbs * partP d k t / wholeW d k : Nat) : Int), s)) ∧ (∀ t, t < j → dOf l5 t = (((i.natAbs * partP d k t % wholeW d k : Nat) : Int), 0)) ∧ Grow wr W1.heap.size (.slice A4 j c4) (.slice A5 j c5) l4 l5 ∧ Below W1.heap.size W1 wr) (fun _ _ iv _ => k - (intOf iv).toNat)
     case atStart => exact ⟨0, none, 0, none, 0, [], [], Nat.zero_le _, rfl, rfl, rfl, rfl, rfl, fun t h => absurd h (by omega), fun t h => absurd h (by omega), Grow.start _ _, Below.refl _ _⟩
     case round =>
       obtain ⟨j, A4, c4, A5, c5, l4, l5, hj, rfl, rfl, rfl, hl4, hl5, hd4, hd5, hgr, hb⟩ := hrel
       have L4 := Lib.hid hl4
       have L5 := Lib.hid hl5
       have D4 := Lib.hid hd4
       have D5 := Lib.hid hd5
       have GR := Lib.hid hgr
       have HB := Lib.hid hb
       clear hl4 hl5 hd4 hd5 hgr hb
       rcases Nat.lt_or_ge j k with hlt | hge
       · have ER := Lib.hid (St.step E1.out HB.out)
         have DR := Lib.hid (DS1.out.on HB.out)
         have hsh := DR.out.short j hlt
         obtain ⟨b, o, ho, hbb, x0, x1, x2⟩ := DR.out.at_ hlt
         injection ho with ho
         injection ho with ho1 ho2 ho3
         subst ho1; subst ho2
         simp only [Nat.zero_add] at x0 x1 x2
         have hnum := DR.out.num j hlt
         have hpn : (pOf l j).2.1 ≤ 12 := by have := hnum.len; have := hsh.1; omega
         have hds := hsh.2
         have hdM := SH.out j hlt
         have HN := Lib.hid hnum
         clear hnum hsh DR ho3
         have i1 : (0 : Int) ≤ (j : Int) := by omega
         have i2 : (j : Int) < (k : Int) := by omega
         obtain ⟨r0, r1, r2, rf0, rf1, rf2, rlt⟩ := St.at_ (x0 := .bool (ngB (sumI (shS d) k))) (x1 := .slice Aw nw cw) (x2 := .int .i64 (M : Int)) (g := w2.heap.size) ER (by simp)
         have hPL : Hid (partP d k j < 10 ^ 170) := part_len (by have := (DS1.out.short j hlt).1; exact this) (by rw [← HM.out]; exact hSS)
         go_wp2_with fail
         generalize hW6 : World.alloc wr _ = W6
         have B6 : Below wr.heap.size wr W6 := by rw [← hW6]; exact (Below.refl _ _).alloc (Nat.le_refl _) _
         have HN6 := Lib.hid (HN.out.on B6)
         have GR6 := Lib.hid (GR.out.step B6)
         have HB6 : Hid (Below W1.heap.size W1 W6) := HB.out.trans (B6.mono HB.out.size)
         replace ER := Lib.hid (ER.out.lay (t := 25) (x0 := .bool (ngB (shS d j).1)) (x1 := .slice (pOf l j).1 (pOf l j).2.1 (pOf l j).2.2) (x2 := .int .i64 ((shS d j).2 : Int)) rfl)
         rw [hW6] at ER
         have HBS : Hid (W1.heap.size ≤ wr.heap.size) := HB.out.size
         have HO4 : Hid ((Value.slice A4 j c4).ownBlock ≠ some wr.heap.size) := fun e => Nat.lt_irrefl _ (GR.out.own4.lt _ e).2
         have HO5 : Hid ((Value.slice A5 j c5).ownBlock ≠ some wr.heap.size) := fun e => Nat.lt_irrefl _ (GR.out.own5.lt _ e).2
         clear hW6 B6 GR HB HN x0 x1 x2 r0 r1 r2 rf0 rf1 rf2 rlt
         obtain ⟨r0, r1, r2, rf0, rf1, rf2, rlt⟩ := St.at_ (x0 := .bool (ngB (sumI (shS d) k))) (x1 := .slice Aw nw cw) (x2 := .int .i64 (M : Int)) (g := w2.heap.size) ER (by simp)
         obtain ⟨p0, p1, p2, pf0, pf1, pf2, plt⟩ := St.at_ (x0 := .bool (ngB (shS d j).1)) (x1 := .slice (pOf l j).1 (pOf l j).2.1 (pOf l j).2.2) (x2 := .int .i64 ((shS d j).2 : Int)) (g := wr.heap.size) ER (by simp)
         go_wp2_with fail
         refine (align_is5 HN6.out (St.got ER (A := Aw) (n := nw) (c := cw) (a := wholeW d k) (by simp)) (by omega) (by omega) (by omega) (by omega) (show max (shS d j).2 M = M by omega) rfl rfl).mono ?_
         rintro e w7 ⟨A7, n7, c7, A8, n8, c8, rfl, h7, _, hb7⟩
         have h7' : Num w7 w7.heap.size A7 n7 c7 (partP d k j) := by unfold partP; rw [← HM.out]; exact h7
         have hn7 : n7 ≤ 170 := by have h1 := h7'.len; have h2 := len_of_ten hPL.out; omega
         replace ER := Lib.hid (St.push ER.out hb7 h7')
         have GR7 := Lib.hid (GR6.out.step hb7)
         have HB7 : Hid (Below W1.heap.size W1 w7) := HB6.out.trans (hb7.mono HB6.out.size)
         have hgl := HBS.out
         have g1 := BG1.out
         have g2 := BG2.out
         clear h7 h7' hb7 r0 r1 r2 rf0 rf1 rf2 rlt p0 p1 p2 pf0 pf1 pf2 plt GR6 HB6 HN6
         obtain ⟨p0, p1, p2, pf0, pf1, pf2, plt⟩ := St.at_ (x0 := .bool (ngB (shS d j).1)) (x1 := .slice (pOf l j).1 (pOf l j).2.1 (pOf l j).2.2) (x2 := .int .i64 ((shS d j).2 : Int)) (g := wr.heap.size) ER (by simp)
         go_wp2_with fail
         replace GR7 := Lib.hid (GR7.out.box (St.at_ (x0 := .bool (ngB (shS d j).1)) (x1 := .slice (pOf l j).1 (pOf l j).2.1 (pOf l j).2.2) (x2 := .int .i64 ((shS d j).2 : Int)) (g := wr.heap.size) ER (by simp)) (noLimb_bool _) (noLimb_slice _ _ _) (noLimb_int _) HO4.out HO5.out (.bool (ngB (up (shS d j).1 (shS d j).2 M))) (.slice A7 n7 c7) (.int .i64 (M : Int)))
         replace HB7 := Lib.hid (below_put3 HB7.out hgl (.bool (ngB (up (shS d j).1 (shS d j).2 M))) (.slice A7 n7 c7) (.int .i64 (M : Int)))
         replace ER := Lib.hid (St.store ER.out (g := wr.heap.size) (x0 := .bool (ngB (shS d j).1)) (x1 := .slice (pOf l j).1 (pOf l j).2.1 (pOf l j).2.2) (x2 := .int .i64 ((shS d j).2 : Int)) (by simp) (noLimb_bool _) (noLimb_slice _ _ _) (noLimb_int _) [(w2.heap.size, .bool (ngB (sumI (shS d) k)), .slice Aw nw cw, .int .i64 (M : Int)), (w.heap.size, .bool (ngB i), .slice A n c, .int .i64 (s : Int))] (by have g1 := BG1.out; have g2 := BG2.out; simp <;> omega) (.bool (ngB (up (shS d j).1 (shS d j).2 M))) (.slice A7 n7 c7) (.int .i64 (M : Int)))
         generalize hW8 : put3 w7 _ _ _ _ = W8 at ER GR7 HB7
         unfold put3 at hW8
         rw [hW8]
         clear hW8 p0 p1 p2 pf0 pf1 pf2 plt
         have q0 := St.at_ (x0 := .bool (ngB i)) (x1 := .slice A n c) (x2 := .int .i64 (s : Int)) (g := w.heap.size) ER (by simp)
         have q1 := St.at_ (x0 := .bool (ngB (up (shS d j).1 (shS d j).2 M))) (x1 := .slice A7 n7 c7) (x2 := .int .i64 (M : Int)) (g := wr.heap.size) ER (by simp)
         have q2 := St.at_ (x0 := .bool (ngB (sumI (shS d) k))) (x1 := .slice Aw nw cw) (x2 := .int .i64 (M : Int)) (g := w2.heap.size) ER (by simp)
         have K := three_on (Lib.hid ⟨q0.c1, q1.c1, q2.c1⟩) (Below.refl W8.heap.size W8).drew
         replace ER := Lib.hid (St.drew ER.out)
         replace GR7 := Lib.hid (GR7.out.step (Below.refl W8.heap.size W8).drew)
         replace HB7 := Lib.hid (HB7.out.drew)
         clear q0 q1 q2
         go_region_held3 (fun v => v.cell? ⟨w.heap.size, 1, none⟩ = some (.slice A n c) ∧ v.cell? ⟨wr.heap.size, 1, none⟩ = some (.slice A7 n7 c7) ∧ v.cell? ⟨w2.heap.size, 1, none⟩ = some (.slice Aw nw cw)) (with_reducible exact K.out)
           (first | (go_at_call 56; refine (fast_to 1000000 (Nat.le_refl _) A A7 n c n7 c7 i.natAbs (partP d k j) (i.natAbs * partP d k j) _ (St.got ER (A := A) (n := n) (c := c) (a := i.natAbs) (by simp)) (St.got ER (A := A7) (n := n7) (c := c7) (a := partP d k j) (by simp)) (by omega) (by omega) rfl).mono ?_; rintro e w9 ⟨A9, n9, c9, rfl, h9, f9, hb9⟩; have N9 : Hid (Num w9 w9.heap.size A9 n9 c9 (i.natAbs * partP d k j)) := h9; replace ER := Lib.hid (St.push ER.out hb9 N9.out); replace GR7 := Lib.hid (GR7.out.step hb9); replace K := three_on K hb9; replace HB7 := Lib.hid (HB7.out.trans (hb9.mono HB7.out.size)); clear h9 f9 hb9) | (go_at_call 55; refine (div_fresh A9 Aw n9 c9 nw cw (i.natAbs * partP d k j) (wholeW d k) _ N9.out (St.got ER (A := Aw) (n := nw) (c := cw) (a := wholeW d k) (by simp)) (by have h1 := N9.out.len; have h2 := prod_len HNL.out hPL.out; omega) HW.out).mono ?_; rintro e w10 ⟨Aq, nq, cq, At, nt, ct, rfl, hq, ht, fq, ft, hb10⟩; have OQ4 := Lib.hid (OffV.fresh (p := (Aq, nq, cq)) GR7.out.own4 fq); have OQ5 := Lib.hid (OffV.fresh (p := (Aq, nq, cq)) GR7.out.own5 fq); have OT4 := Lib.hid (OffV.fresh (p := (At, nt, ct)) GR7.out.own4 ft); have OT5 := Lib.hid (OffV.fresh (p := (At, nt, ct)) GR7.out.own5 ft); have NQ := Lib.hid hq; have NT := Lib.hid ht; replace ER := Lib.hid (ER.out.step hb10); replace GR7 := Lib.hid (GR7.out.step hb10); replace K := three_on K hb10; replace HB7 := Lib.hid (HB7.out.trans (hb10.mono HB7.out.size)); clear hq ht fq ft hb10))
         all_goals
           have q0 := (St.at_ (x0 := .bool (ngB i)) (x1 := .slice A n c) (x2 := .int .i64 (s : Int)) (g := w.heap.size) ER (by simp)).c2
           have hjk : l4.length ≤ 99 ∧ l5.length ≤ 99 := by have := L4.out; have := L5.out; omega
           have HJK := Lib.hid hjk
           clear hjk
           obtain ⟨W11, hW11⟩ : ∃ W11, w10.alloc (.cells #[.bool false, .slice Aq nq cq, .int .i64 (s : Int)] 25) = W11 := ⟨_, rfl⟩
           have B11 : Below w10.heap.size w10 W11 := by rw [← hW11]; exact (Below.refl _ _).alloc (Nat.le_refl _) _
           have GRA := Lib.hid (GR7.out.step B11)
           have NEWS : Hid (∀ t u, (drow [((((i.natAbs * partP d k j / wholeW d k : Nat) : Int), s), (Aq, nq, cq))])[t]? = some u → W11.cell? ((⟨w10.heap.size, 0, none⟩ : Addr).add t) = some u) := by show ∀ t u, _; rw [← hW11]; exact one_drow0 _ _ (Aq, nq, cq) _
           have HBA : Hid (Below W1.heap.size W1 W11) := HB7.out.trans (B11.mono HB7.out.size)
           have NQ11 := Lib.hid (NQ.out.on B11)
           have NT11 := Lib.hid (NT.out.on B11)
           clear B11
           go_wp2_with (first | (at_builtin; (try rw [hW11]); refine wpList_append_lies _ rfl (.tmp 57) (.tmp 62) 26 rfl W1.heap.size 25 i0 (.agg #[.bool false, .slice none 0 0, .int .i64 0]) 3 40 Tryz.underlying26 hi hz0 hz1 hz2 zcells3 (by decide) (.slice A4 j c4) l4.length (drow l4) rfl GRA.out.own4 ⟨w10.heap.size, 0, none⟩ 1 1 (drow [((((i.natAbs * partP d k j / wholeW d k : Nat) : Int), s), (Aq, nq, cq))]) rfl (drow_len _) NEWS.out (drow_flat _) (by decide) (by have := HJK.out; unfold maxLen; omega) (by have := HJK.out; omega) HBA.out.size W11.heap.size rfl ?_; intro g4 cap4 w11 hown4 hgr4 hat4 hlt4; have GR11 := Lib.hid (Grow.push4 (q := ((((i.natAbs * partP d k j / wholeW d k : Nat) : Int), s), (Aq, nq, cq))) GRA.out NQ11.out OQ4.out OQ5.out hown4 hgr4 hat4); have HB11 : Hid (Below W1.heap.size W1 w11) := HBA.out.grown hgr4 HBA.out.size (fun g hg => (GRA.out.own4.lt g hg).1); have NT12 := Lib.hid (num_grown NT11.out (Nat.le_refl _) hgr4 OT4.out); have OT6 := Lib.hid (OT4.out.moved (v' := .slice (some ⟨g4, 0, none⟩) (l4.length + 1) cap4) NT11.out rfl hat4); obtain ⟨W12, hW12⟩ : ∃ W12, w11.alloc (.cells #[.bool false, .slice At nt ct, .int .i64 0] 25) = W12 := ⟨_, rfl⟩; have B12 : Below w11.heap.size w11 W12 := (by rw [← hW12]; exact (Below.refl _ _).alloc (Nat.le_refl _) _); have GRB := Lib.hid (GR11.out.step B12).swap; have NT13 := Lib.hid (NT12.out.on B12); have NEWS2 : Hid (∀ t u, (drow [((((i.natAbs * partP d k j % wholeW d k : Nat) : Int), 0), (At, nt, ct))])[t]? = some u → W12.cell? ((⟨w11.heap.size, 0, none⟩ : Addr).add t) = some u) := (by show ∀ t u, _; rw [← hW12]; exact one_drow0 _ 0 (At, nt, ct) _); have HBB : Hid (Below W1.heap.size W1 W12) := HB11.out.trans (B12.mono HB11.out.size); clear B12 hown4 hgr4 hat4 hlt4) | (at_builtin; (try rw [hW12]); refine wpList_append_lies _ rfl (.tmp 64) (.tmp 67) 26 rfl W1.heap.size 25 i0 (.agg #[.bool false, .slice none 0 0, .int .i64 0]) 3 40 Tryz.underlying26 hi hz0 hz1 hz2 zcells3 (by decide) (.slice A5 j c5) l5.length (drow l5) rfl GRB.out.own4 ⟨w11.heap.size, 0, none⟩ 1 1 (drow [((((i.natAbs * partP d k j % wholeW d k : Nat) : Int), 0), (At, nt, ct))]) rfl (drow_len _) NEWS2.out (drow_flat _) (by decide) (by have := HJK.out; unfold maxLen; omega) (by have := HJK.out; omega) HBB.out.size W12.heap.size rfl ?_; intro g5 cap5 w13 hown5 hgr5 hat5 hlt5; have GR13 := Lib.hid (Grow.push4 (q := ((((i.natAbs * partP d k j % wholeW d k : Nat) : Int), 0), (At, nt, ct))) GRB.out NT13.out OT5.out OT6.out hown5 hgr5 hat5).swap; have HB13 : Hid (Below W1.heap.size W1 w13) := HBB.out.grown hgr5 HBB.out.size (fun g hg => (GRB.out.own4.lt g hg).1); clear hown5 hgr5 hat5 hlt5))
           go_roundw
           case rel =>
             have g := GR13.out
             rw [L4.out, L5.out] at g
             refine ⟨j + 1, some ⟨g4, 0, none⟩, cap4, some ⟨g5, 0, none⟩, cap5, l4 ++ [((((i.natAbs * partP d k j / wholeW d k : Nat) : Int), s), (Aq, nq, cq))], l5 ++ [((((i.natAbs * partP d k j % wholeW d k : Nat) : Int), 0), (At, nt, ct))], by omega, by rw [L4.out], by rw [L5.out], by go_num, by rw [List.length_append, L4.out]; rfl, by rw [List.length_append, L5.out]; rfl, fun t ht => ?_, fun t ht => ?_, g, HB13.out⟩
             · rw [dOf_push (by rw [L4.out]; exact ht), L4.out]
               split
               · rename_i h; exact D4.out t h
               · obtain rfl : t = j := by omega
                 rfl
             · rw [dOf_push (by rw [L5.out]; exact ht), L5.out]
               split
               · rename_i h; exact D5.out t h
               · obtain rfl : t = j := by omega
                 rfl
           case measure => simp [intOf]; omega
       · obtain rfl : j = k := by omega
         go_wp2_with fail
         go_ret2
         exact ⟨A4, c4, A5, c5, l4, l5, W1.heap.size, rfl, E1.out.bel.size, GR.out, L4.out, L5.out, D4.out, D5.out, E1.out.bel.trans (HB.out.mono E1.out.bel.size)⟩
end Go.Proofs.YthlhpgphmfnlgaaGreat
