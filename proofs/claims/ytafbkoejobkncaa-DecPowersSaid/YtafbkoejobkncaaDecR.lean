/-
  Contracts of layer 5, the last part: Least and the document's.
-/
import Derived.Test.YtafbkoejobkncaaDecP
import Derived.Deep.QuietTactic
import Derived.BigQuiet
namespace Go.Proofs.Ytafbkoejobkncaa
open Go.RowKit

/-- The place of the first k's first least one; of the greatest one. -/
def low (d : Nat → Int × Nat) : Nat → Nat
  | 0 => 0
  | k + 1 => if cmpD (d k).1 (d k).2 (d (low d k)).1 (d (low d k)).2 < 0 then k else low d k
def high (d : Nat → Int × Nat) : Nat → Nat
  | 0 => 0
  | k + 1 => if 0 < cmpD (d k).1 (d k).2 (d (high d k)).1 (d (high d k)).2 then k else high d k
theorem low_le (d : Nat → Int × Nat) : ∀ k, low d k ≤ k := by
  intro k
  induction k with
  | zero => exact Nat.le_refl _
  | succ k ih => rw [low]; split <;> omega
theorem high_le (d : Nat → Int × Nat) : ∀ k, high d k ≤ k := by
  intro k
  induction k with
  | zero => exact Nat.le_refl _
  | succ k ih => rw [high]; split <;> omega
theorem cmpD_self (i : Int) (s : Nat) : cmpD i s i s = 0 := cmpZ_eq rfl
theorem low_lt (d : Nat → Int × Nat) (k : Nat) : low d (k + 1) ≤ k := by
  rw [low]; split
  · exact Nat.le_refl _
  · exact low_le d k
theorem high_lt (d : Nat → Int × Nat) (k : Nat) : high d (k + 1) ≤ k := by
  rw [high]; split
  · exact Nat.le_refl _
  · exact high_le d k

/-- Three cells. -/
structure Cel (v : World) (b o : Nat) (x0 x1 x2 : Value) : Prop where
  c0 : v.cell? ⟨b, o, none⟩ = some x0
  c1 : v.cell? ⟨b, o + 1, none⟩ = some x1
  c2 : v.cell? ⟨b, o + 2, none⟩ = some x2
  lt : b < v.heap.size
theorem Cel.on {v v' : World} {b o : Nat} {x0 x1 x2 : Value} (h : Cel v b o x0 x1 x2) (hb : Below v.heap.size v v') : Cel v' b o x0 x1 x2 :=
  ⟨(hb.cell (p := ⟨b, o, none⟩) h.lt).trans h.c0, (hb.cell (p := ⟨b, o + 1, none⟩) h.lt).trans h.c1, (hb.cell (p := ⟨b, o + 2, none⟩) h.lt).trans h.c2, Nat.lt_of_lt_of_le h.lt hb.size⟩
theorem Decs.cel {w : World} {n c j b o : Nat} {d : Nat → Int × Nat} {p : Nat → Option Addr × Nat × Nat} (h : Decs w w.heap.size (some ⟨b, o, none⟩) n c d p) (hj : j < n) :
    Cel w b (o + j * 3) (.bool (ngB (d j).1)) (.slice (p j).1 (p j).2.1 (p j).2.2) (.int .i64 ((d j).2 : Int)) := by
  obtain ⟨b', o', he, hB, h0, h1, h2⟩ := h.at_ hj
  injection he with he
  injection he with he1 he2
  subst he1; subst he2
  exact ⟨h0, h1, h2, hB⟩

theorem ret_w {a b : Int} (h : b = a) : Value.int .i64 a = .int .i64 b := by rw [h]
theorem ret_v {a b : Nat} (h : b = a) : Value.int .i64 (a : Int) = .int .i64 (b : Int) := by rw [h]

theorem least5_none (A : Option Addr) (c : Nat) (w : World) :
    Calls Try.prog 40 #[.slice A 0 c] w (RetVal w (.tuple #[.int .i64 (-1), .int .i64 (-1)])) := by
  go_enter Try.func40, Try.ntmps40
  go_wp2
  go_ret2
  exact ⟨rfl, Below.refl _ _⟩

set_option maxHeartbeats 8000000 in
theorem least5_any (A : Option Addr) (n c : Nat) (d : Nat → Int × Nat) (p : Nat → Option Addr × Nat × Nat) (w : World) (h : Decs w w.heap.size A n c d p) (hn : n ≤ 99) (hn0 : 0 < n) :
    Calls Try.prog 40 #[.slice A n c] w (RetVal w (.tuple #[.int .i64 (low d n : Int), .int .i64 (high d n : Int)])) := by
  have hc := h.cap
  have hm := h.room
  unfold maxLen at hm
  obtain ⟨b, o, rfl, _⟩ := h.at_ hn0
  have H := Lib.hid h
  clear h
  have hnz : ((n : Int) == 0) = false := by simp; omega
  go_enter Try.func40, Try.ntmps40
  go_wp2_with fail
  go_loopw [4, 5, 13] (fun lv gv iv wr => ∃ (k : Nat), k ≤ n ∧ iv = .int .i64 k ∧ lv = .int .i64 (low d k : Int) ∧ gv = .int .i64 (high d k : Int) ∧ Below w.heap.size w wr) (fun _ _ iv _ => n - (intOf iv).toNat)
  case atStart => exact ⟨0, Nat.zero_le _, rfl, rfl, rfl, Below.refl _ _⟩
  case round =>
    obtain ⟨k, hk, rfl, rfl, rfl, hb⟩ := hrel
    have HB := Lib.hid hb
    clear hb
    rcases Nat.lt_or_ge k n with hlt | hge
    · have HL : Hid (low d (k + 1) = if cmpD (d k).1 (d k).2 (d (low d k)).1 (d (low d k)).2 < 0 then k else low d k) := rfl
      have HG : Hid (high d (k + 1) = if 0 < cmpD (d k).1 (d k).2 (d (high d k)).1 (d (high d k)).2 then k else high d k) := rfl
      have hL := low_le d k
      have hG := high_le d k
      obtain ⟨L, hLe⟩ : ∃ L, low d k = L := ⟨_, rfl⟩
      obtain ⟨G, hGe⟩ : ∃ G, high d k = G := ⟨_, rfl⟩
      rw [hLe] at HL hL
      rw [hGe] at HG hG
      rw [hLe, hGe]
      obtain ⟨z, hz⟩ : ∃ z, cmpD (d k).1 (d k).2 (d L).1 (d L).2 = z := ⟨_, rfl⟩
      obtain ⟨y, hy⟩ : ∃ y, cmpD (d k).1 (d k).2 (d G).1 (d G).2 = y := ⟨_, rfl⟩
      rw [hz] at HL
      rw [hy] at HG
      have HZ := Lib.hid hz
      have HY := Lib.hid hy
      clear hz hy hLe hGe
      have HD := Lib.hid (H.out.on HB.out)
      have CK := Lib.hid (HD.out.cel hlt)
      have CL := Lib.hid (HD.out.cel (j := L) (by omega))
      have CG := Lib.hid (HD.out.cel (j := G) (by omega))
      have NK := Lib.hid (HD.out.num k hlt)
      have NL := Lib.hid (HD.out.num L (by omega))
      have NG := Lib.hid (HD.out.num G (by omega))
      have sk := H.out.short k hlt
      have sL := H.out.short L (by omega)
      have sG := H.out.short G (by omega)
      have nk : (p k).2.1 ≤ 12 := by have := NK.out.len; have := sk.1; omega
      have nL : (p L).2.1 ≤ 12 := by have := NL.out.len; have := sL.1; omega
      have nG : (p G).2.1 ≤ 12 := by have := NG.out.len; have := sG.1; omega
      have tk := sk.2
      have tL := sL.2
      have tG := sG.2
      clear sk sL sG HD
      have L0 : (0 : Int) ≤ (L : Int) := by omega
      have L1 : (L : Int) < (n : Int) := by omega
      have G0 : (0 : Int) ≤ (G : Int) := by omega
      have G1 : (G : Int) < (n : Int) := by omega

      rcases Int.lt_or_le z 0 with hz | hz <;> rcases Int.lt_or_le 0 y with hy | hy
      · obtain ⟨k0, k1, k2, _⟩ := CK.out
        go_wp2_with fail
        generalize hW : World.alloc wr _ = W1
        have BW : Below wr.heap.size wr W1 := by rw [← hW]; exact (Below.refl _ _).alloc (Nat.le_refl _) _
        have X0 : Box W1 wr.heap.size (.bool (ngB (d k).1)) (.slice (p k).1 (p k).2.1 (p k).2.2) (.int .i64 ((d k).2 : Int)) := by rw [← hW]; exact Box.new _ _ _ _ _
        have X := Lib.hid X0
        clear hW k0 k1 k2 X0
        replace CL := Lib.hid (CL.out.on BW)
        replace CG := Lib.hid (CG.out.on BW)
        replace NK := Lib.hid (NK.out.on BW)
        replace NL := Lib.hid (NL.out.on BW)
        replace NG := Lib.hid (NG.out.on BW)
        replace HB := Lib.hid (HB.out.trans (BW.mono HB.out.size))
        clear BW
        replace X := Lib.hid (X.out.on (Below.refl _ _).drew); replace CL := Lib.hid (CL.out.on (Below.refl _ _).drew); replace CG := Lib.hid (CG.out.on (Below.refl _ _).drew); replace NK := Lib.hid (NK.out.on (Below.refl _ _).drew); replace NL := Lib.hid (NL.out.on (Below.refl _ _).drew); replace NG := Lib.hid (NG.out.on (Below.refl _ _).drew); replace HB := Lib.hid (HB.out.drew)
        have C := CL
        go_region_held3 (fun v => v.cell? ⟨wr.heap.size, 0, none⟩ = some (.bool (ngB (d k).1)) ∧ v.cell? ⟨wr.heap.size, 1, none⟩ = some (.slice (p k).1 (p k).2.1 (p k).2.2) ∧ v.cell? ⟨wr.heap.size, 2, none⟩ = some (.int .i64 ((d k).2 : Int)) ∧ v.cell? ⟨b, o + L * 3, none⟩ = some (.bool (ngB (d L).1)) ∧ v.cell? ⟨b, o + L * 3 + 1, none⟩ = some (.slice (p L).1 (p L).2.1 (p L).2.2) ∧ v.cell? ⟨b, o + L * 3 + 2, none⟩ = some (.int .i64 ((d L).2 : Int))) (with_reducible exact ⟨(X.out).c0, (X.out).c1, (X.out).c2, (C.out).c0, (C.out).c1, (C.out).c2⟩)
          (first | (go_at_call 23; refine (cmp5_is (NK.out) (NL.out) (by omega) (by omega) (by omega) (by omega) HZ.out).mono ?_; rintro e w2 ⟨rfl, hb1⟩; replace X := Lib.hid (X.out.on hb1); replace C := Lib.hid (C.out.on hb1); replace NK := Lib.hid (NK.out.on hb1); replace NL := Lib.hid (NL.out.on hb1); replace NG := Lib.hid (NG.out.on hb1); replace CL := Lib.hid (CL.out.on hb1); replace CG := Lib.hid (CG.out.on hb1); replace HB := Lib.hid (HB.out.trans (hb1.mono HB.out.size)); clear hb1))
        all_goals
          clear C
          go_wp2_with fail
          replace X := Lib.hid (X.out.on (Below.refl _ _).drew); replace CL := Lib.hid (CL.out.on (Below.refl _ _).drew); replace CG := Lib.hid (CG.out.on (Below.refl _ _).drew); replace NK := Lib.hid (NK.out.on (Below.refl _ _).drew); replace NL := Lib.hid (NL.out.on (Below.refl _ _).drew); replace NG := Lib.hid (NG.out.on (Below.refl _ _).drew); replace HB := Lib.hid (HB.out.drew)
          have C := CG
          go_region_held3 (fun v => v.cell? ⟨wr.heap.size, 0, none⟩ = some (.bool (ngB (d k).1)) ∧ v.cell? ⟨wr.heap.size, 1, none⟩ = some (.slice (p k).1 (p k).2.1 (p k).2.2) ∧ v.cell? ⟨wr.heap.size, 2, none⟩ = some (.int .i64 ((d k).2 : Int)) ∧ v.cell? ⟨b, o + G * 3, none⟩ = some (.bool (ngB (d G).1)) ∧ v.cell? ⟨b, o + G * 3 + 1, none⟩ = some (.slice (p G).1 (p G).2.1 (p G).2.2) ∧ v.cell? ⟨b, o + G * 3 + 2, none⟩ = some (.int .i64 ((d G).2 : Int))) (with_reducible exact ⟨(X.out).c0, (X.out).c1, (X.out).c2, (C.out).c0, (C.out).c1, (C.out).c2⟩)
            (first | (go_at_call 23; refine (cmp5_is (NK.out) (NG.out) (by omega) (by omega) (by omega) (by omega) HY.out).mono ?_; rintro e w2 ⟨rfl, hb1⟩; replace X := Lib.hid (X.out.on hb1); replace C := Lib.hid (C.out.on hb1); replace NK := Lib.hid (NK.out.on hb1); replace NL := Lib.hid (NL.out.on hb1); replace NG := Lib.hid (NG.out.on hb1); replace CL := Lib.hid (CL.out.on hb1); replace CG := Lib.hid (CG.out.on hb1); replace HB := Lib.hid (HB.out.trans (hb1.mono HB.out.size)); clear hb1))
          all_goals
            go_wp2_with fail
            go_roundw
            case rel => exact ⟨k + 1, by omega, by go_num, ret_v (by rw [HL.out, if_pos hz]), ret_v (by rw [HG.out, if_pos hy]), HB.out⟩
            case measure => simp [intOf]; omega
      · obtain ⟨k0, k1, k2, _⟩ := CK.out
        go_wp2_with fail
        generalize hW : World.alloc wr _ = W1
        have BW : Below wr.heap.size wr W1 := by rw [← hW]; exact (Below.refl _ _).alloc (Nat.le_refl _) _
        have X0 : Box W1 wr.heap.size (.bool (ngB (d k).1)) (.slice (p k).1 (p k).2.1 (p k).2.2) (.int .i64 ((d k).2 : Int)) := by rw [← hW]; exact Box.new _ _ _ _ _
        have X := Lib.hid X0
        clear hW k0 k1 k2 X0
        replace CL := Lib.hid (CL.out.on BW)
        replace CG := Lib.hid (CG.out.on BW)
        replace NK := Lib.hid (NK.out.on BW)
        replace NL := Lib.hid (NL.out.on BW)
        replace NG := Lib.hid (NG.out.on BW)
        replace HB := Lib.hid (HB.out.trans (BW.mono HB.out.size))
        clear BW
        replace X := Lib.hid (X.out.on (Below.refl _ _).drew); replace CL := Lib.hid (CL.out.on (Below.refl _ _).drew); replace CG := Lib.hid (CG.out.on (Below.refl _ _).drew); replace NK := Lib.hid (NK.out.on (Below.refl _ _).drew); replace NL := Lib.hid (NL.out.on (Below.refl _ _).drew); replace NG := Lib.hid (NG.out.on (Below.refl _ _).drew); replace HB := Lib.hid (HB.out.drew)
        have C := CL
        go_region_held3 (fun v => v.cell? ⟨wr.heap.size, 0, none⟩ = some (.bool (ngB (d k).1)) ∧ v.cell? ⟨wr.heap.size, 1, none⟩ = some (.slice (p k).1 (p k).2.1 (p k).2.2) ∧ v.cell? ⟨wr.heap.size, 2, none⟩ = some (.int .i64 ((d k).2 : Int)) ∧ v.cell? ⟨b, o + L * 3, none⟩ = some (.bool (ngB (d L).1)) ∧ v.cell? ⟨b, o + L * 3 + 1, none⟩ = some (.slice (p L).1 (p L).2.1 (p L).2.2) ∧ v.cell? ⟨b, o + L * 3 + 2, none⟩ = some (.int .i64 ((d L).2 : Int))) (with_reducible exact ⟨(X.out).c0, (X.out).c1, (X.out).c2, (C.out).c0, (C.out).c1, (C.out).c2⟩)
          (first | (go_at_call 23; refine (cmp5_is (NK.out) (NL.out) (by omega) (by omega) (by omega) (by omega) HZ.out).mono ?_; rintro e w2 ⟨rfl, hb1⟩; replace X := Lib.hid (X.out.on hb1); replace C := Lib.hid (C.out.on hb1); replace NK := Lib.hid (NK.out.on hb1); replace NL := Lib.hid (NL.out.on hb1); replace NG := Lib.hid (NG.out.on hb1); replace CL := Lib.hid (CL.out.on hb1); replace CG := Lib.hid (CG.out.on hb1); replace HB := Lib.hid (HB.out.trans (hb1.mono HB.out.size)); clear hb1))
        all_goals
          clear C
          go_wp2_with fail
          replace X := Lib.hid (X.out.on (Below.refl _ _).drew); replace CL := Lib.hid (CL.out.on (Below.refl _ _).drew); replace CG := Lib.hid (CG.out.on (Below.refl _ _).drew); replace NK := Lib.hid (NK.out.on (Below.refl _ _).drew); replace NL := Lib.hid (NL.out.on (Below.refl _ _).drew); replace NG := Lib.hid (NG.out.on (Below.refl _ _).drew); replace HB := Lib.hid (HB.out.drew)
          have C := CG
          go_region_held3 (fun v => v.cell? ⟨wr.heap.size, 0, none⟩ = some (.bool (ngB (d k).1)) ∧ v.cell? ⟨wr.heap.size, 1, none⟩ = some (.slice (p k).1 (p k).2.1 (p k).2.2) ∧ v.cell? ⟨wr.heap.size, 2, none⟩ = some (.int .i64 ((d k).2 : Int)) ∧ v.cell? ⟨b, o + G * 3, none⟩ = some (.bool (ngB (d G).1)) ∧ v.cell? ⟨b, o + G * 3 + 1, none⟩ = some (.slice (p G).1 (p G).2.1 (p G).2.2) ∧ v.cell? ⟨b, o + G * 3 + 2, none⟩ = some (.int .i64 ((d G).2 : Int))) (with_reducible exact ⟨(X.out).c0, (X.out).c1, (X.out).c2, (C.out).c0, (C.out).c1, (C.out).c2⟩)
            (first | (go_at_call 23; refine (cmp5_is (NK.out) (NG.out) (by omega) (by omega) (by omega) (by omega) HY.out).mono ?_; rintro e w2 ⟨rfl, hb1⟩; replace X := Lib.hid (X.out.on hb1); replace C := Lib.hid (C.out.on hb1); replace NK := Lib.hid (NK.out.on hb1); replace NL := Lib.hid (NL.out.on hb1); replace NG := Lib.hid (NG.out.on hb1); replace CL := Lib.hid (CL.out.on hb1); replace CG := Lib.hid (CG.out.on hb1); replace HB := Lib.hid (HB.out.trans (hb1.mono HB.out.size)); clear hb1))
          all_goals
            go_wp2_with fail
            go_roundw
            case rel => exact ⟨k + 1, by omega, by go_num, ret_v (by rw [HL.out, if_pos hz]), ret_v (by rw [HG.out, if_neg (by omega)]), HB.out⟩
            case measure => simp [intOf]; omega
      · obtain ⟨k0, k1, k2, _⟩ := CK.out
        go_wp2_with fail
        generalize hW : World.alloc wr _ = W1
        have BW : Below wr.heap.size wr W1 := by rw [← hW]; exact (Below.refl _ _).alloc (Nat.le_refl _) _
        have X0 : Box W1 wr.heap.size (.bool (ngB (d k).1)) (.slice (p k).1 (p k).2.1 (p k).2.2) (.int .i64 ((d k).2 : Int)) := by rw [← hW]; exact Box.new _ _ _ _ _
        have X := Lib.hid X0
        clear hW k0 k1 k2 X0
        replace CL := Lib.hid (CL.out.on BW)
        replace CG := Lib.hid (CG.out.on BW)
        replace NK := Lib.hid (NK.out.on BW)
        replace NL := Lib.hid (NL.out.on BW)
        replace NG := Lib.hid (NG.out.on BW)
        replace HB := Lib.hid (HB.out.trans (BW.mono HB.out.size))
        clear BW
        replace X := Lib.hid (X.out.on (Below.refl _ _).drew); replace CL := Lib.hid (CL.out.on (Below.refl _ _).drew); replace CG := Lib.hid (CG.out.on (Below.refl _ _).drew); replace NK := Lib.hid (NK.out.on (Below.refl _ _).drew); replace NL := Lib.hid (NL.out.on (Below.refl _ _).drew); replace NG := Lib.hid (NG.out.on (Below.refl _ _).drew); replace HB := Lib.hid (HB.out.drew)
        have C := CL
        go_region_held3 (fun v => v.cell? ⟨wr.heap.size, 0, none⟩ = some (.bool (ngB (d k).1)) ∧ v.cell? ⟨wr.heap.size, 1, none⟩ = some (.slice (p k).1 (p k).2.1 (p k).2.2) ∧ v.cell? ⟨wr.heap.size, 2, none⟩ = some (.int .i64 ((d k).2 : Int)) ∧ v.cell? ⟨b, o + L * 3, none⟩ = some (.bool (ngB (d L).1)) ∧ v.cell? ⟨b, o + L * 3 + 1, none⟩ = some (.slice (p L).1 (p L).2.1 (p L).2.2) ∧ v.cell? ⟨b, o + L * 3 + 2, none⟩ = some (.int .i64 ((d L).2 : Int))) (with_reducible exact ⟨(X.out).c0, (X.out).c1, (X.out).c2, (C.out).c0, (C.out).c1, (C.out).c2⟩)
          (first | (go_at_call 23; refine (cmp5_is (NK.out) (NL.out) (by omega) (by omega) (by omega) (by omega) HZ.out).mono ?_; rintro e w2 ⟨rfl, hb1⟩; replace X := Lib.hid (X.out.on hb1); replace C := Lib.hid (C.out.on hb1); replace NK := Lib.hid (NK.out.on hb1); replace NL := Lib.hid (NL.out.on hb1); replace NG := Lib.hid (NG.out.on hb1); replace CL := Lib.hid (CL.out.on hb1); replace CG := Lib.hid (CG.out.on hb1); replace HB := Lib.hid (HB.out.trans (hb1.mono HB.out.size)); clear hb1))
        all_goals
          clear C
          go_wp2_with fail
          replace X := Lib.hid (X.out.on (Below.refl _ _).drew); replace CL := Lib.hid (CL.out.on (Below.refl _ _).drew); replace CG := Lib.hid (CG.out.on (Below.refl _ _).drew); replace NK := Lib.hid (NK.out.on (Below.refl _ _).drew); replace NL := Lib.hid (NL.out.on (Below.refl _ _).drew); replace NG := Lib.hid (NG.out.on (Below.refl _ _).drew); replace HB := Lib.hid (HB.out.drew)
          have C := CG
          go_region_held3 (fun v => v.cell? ⟨wr.heap.size, 0, none⟩ = some (.bool (ngB (d k).1)) ∧ v.cell? ⟨wr.heap.size, 1, none⟩ = some (.slice (p k).1 (p k).2.1 (p k).2.2) ∧ v.cell? ⟨wr.heap.size, 2, none⟩ = some (.int .i64 ((d k).2 : Int)) ∧ v.cell? ⟨b, o + G * 3, none⟩ = some (.bool (ngB (d G).1)) ∧ v.cell? ⟨b, o + G * 3 + 1, none⟩ = some (.slice (p G).1 (p G).2.1 (p G).2.2) ∧ v.cell? ⟨b, o + G * 3 + 2, none⟩ = some (.int .i64 ((d G).2 : Int))) (with_reducible exact ⟨(X.out).c0, (X.out).c1, (X.out).c2, (C.out).c0, (C.out).c1, (C.out).c2⟩)
            (first | (go_at_call 23; refine (cmp5_is (NK.out) (NG.out) (by omega) (by omega) (by omega) (by omega) HY.out).mono ?_; rintro e w2 ⟨rfl, hb1⟩; replace X := Lib.hid (X.out.on hb1); replace C := Lib.hid (C.out.on hb1); replace NK := Lib.hid (NK.out.on hb1); replace NL := Lib.hid (NL.out.on hb1); replace NG := Lib.hid (NG.out.on hb1); replace CL := Lib.hid (CL.out.on hb1); replace CG := Lib.hid (CG.out.on hb1); replace HB := Lib.hid (HB.out.trans (hb1.mono HB.out.size)); clear hb1))
          all_goals
            go_wp2_with fail
            go_roundw
            case rel => exact ⟨k + 1, by omega, by go_num, ret_v (by rw [HL.out, if_neg (by omega)]), ret_v (by rw [HG.out, if_pos hy]), HB.out⟩
            case measure => simp [intOf]; omega
      · obtain ⟨k0, k1, k2, _⟩ := CK.out
        go_wp2_with fail
        generalize hW : World.alloc wr _ = W1
        have BW : Below wr.heap.size wr W1 := by rw [← hW]; exact (Below.refl _ _).alloc (Nat.le_refl _) _
        have X0 : Box W1 wr.heap.size (.bool (ngB (d k).1)) (.slice (p k).1 (p k).2.1 (p k).2.2) (.int .i64 ((d k).2 : Int)) := by rw [← hW]; exact Box.new _ _ _ _ _
        have X := Lib.hid X0
        clear hW k0 k1 k2 X0
        replace CL := Lib.hid (CL.out.on BW)
        replace CG := Lib.hid (CG.out.on BW)
        replace NK := Lib.hid (NK.out.on BW)
        replace NL := Lib.hid (NL.out.on BW)
        replace NG := Lib.hid (NG.out.on BW)
        replace HB := Lib.hid (HB.out.trans (BW.mono HB.out.size))
        clear BW
        replace X := Lib.hid (X.out.on (Below.refl _ _).drew); replace CL := Lib.hid (CL.out.on (Below.refl _ _).drew); replace CG := Lib.hid (CG.out.on (Below.refl _ _).drew); replace NK := Lib.hid (NK.out.on (Below.refl _ _).drew); replace NL := Lib.hid (NL.out.on (Below.refl _ _).drew); replace NG := Lib.hid (NG.out.on (Below.refl _ _).drew); replace HB := Lib.hid (HB.out.drew)
        have C := CL
        go_region_held3 (fun v => v.cell? ⟨wr.heap.size, 0, none⟩ = some (.bool (ngB (d k).1)) ∧ v.cell? ⟨wr.heap.size, 1, none⟩ = some (.slice (p k).1 (p k).2.1 (p k).2.2) ∧ v.cell? ⟨wr.heap.size, 2, none⟩ = some (.int .i64 ((d k).2 : Int)) ∧ v.cell? ⟨b, o + L * 3, none⟩ = some (.bool (ngB (d L).1)) ∧ v.cell? ⟨b, o + L * 3 + 1, none⟩ = some (.slice (p L).1 (p L).2.1 (p L).2.2) ∧ v.cell? ⟨b, o + L * 3 + 2, none⟩ = some (.int .i64 ((d L).2 : Int))) (with_reducible exact ⟨(X.out).c0, (X.out).c1, (X.out).c2, (C.out).c0, (C.out).c1, (C.out).c2⟩)
          (first | (go_at_call 23; refine (cmp5_is (NK.out) (NL.out) (by omega) (by omega) (by omega) (by omega) HZ.out).mono ?_; rintro e w2 ⟨rfl, hb1⟩; replace X := Lib.hid (X.out.on hb1); replace C := Lib.hid (C.out.on hb1); replace NK := Lib.hid (NK.out.on hb1); replace NL := Lib.hid (NL.out.on hb1); replace NG := Lib.hid (NG.out.on hb1); replace CL := Lib.hid (CL.out.on hb1); replace CG := Lib.hid (CG.out.on hb1); replace HB := Lib.hid (HB.out.trans (hb1.mono HB.out.size)); clear hb1))
        all_goals
          clear C
          go_wp2_with fail
          replace X := Lib.hid (X.out.on (Below.refl _ _).drew); replace CL := Lib.hid (CL.out.on (Below.refl _ _).drew); replace CG := Lib.hid (CG.out.on (Below.refl _ _).drew); replace NK := Lib.hid (NK.out.on (Below.refl _ _).drew); replace NL := Lib.hid (NL.out.on (Below.refl _ _).drew); replace NG := Lib.hid (NG.out.on (Below.refl _ _).drew); replace HB := Lib.hid (HB.out.drew)
          have C := CG
          go_region_held3 (fun v => v.cell? ⟨wr.heap.size, 0, none⟩ = some (.bool (ngB (d k).1)) ∧ v.cell? ⟨wr.heap.size, 1, none⟩ = some (.slice (p k).1 (p k).2.1 (p k).2.2) ∧ v.cell? ⟨wr.heap.size, 2, none⟩ = some (.int .i64 ((d k).2 : Int)) ∧ v.cell? ⟨b, o + G * 3, none⟩ = some (.bool (ngB (d G).1)) ∧ v.cell? ⟨b, o + G * 3 + 1, none⟩ = some (.slice (p G).1 (p G).2.1 (p G).2.2) ∧ v.cell? ⟨b, o + G * 3 + 2, none⟩ = some (.int .i64 ((d G).2 : Int))) (with_reducible exact ⟨(X.out).c0, (X.out).c1, (X.out).c2, (C.out).c0, (C.out).c1, (C.out).c2⟩)
            (first | (go_at_call 23; refine (cmp5_is (NK.out) (NG.out) (by omega) (by omega) (by omega) (by omega) HY.out).mono ?_; rintro e w2 ⟨rfl, hb1⟩; replace X := Lib.hid (X.out.on hb1); replace C := Lib.hid (C.out.on hb1); replace NK := Lib.hid (NK.out.on hb1); replace NL := Lib.hid (NL.out.on hb1); replace NG := Lib.hid (NG.out.on hb1); replace CL := Lib.hid (CL.out.on hb1); replace CG := Lib.hid (CG.out.on hb1); replace HB := Lib.hid (HB.out.trans (hb1.mono HB.out.size)); clear hb1))
          all_goals
            go_wp2_with fail
            go_roundw
            case rel => exact ⟨k + 1, by omega, by go_num, ret_v (by rw [HL.out, if_neg (by omega)]), ret_v (by rw [HG.out, if_neg (by omega)]), HB.out⟩
            case measure => simp [intOf]; omega
    · obtain rfl : k = n := by omega
      go_wp2_with fail
      go_ret2
      exact ⟨rfl, HB.out⟩

theorem refLeast5_none (A : Option Addr) (c : Nat) (w : World) :
    Calls Try.prog 41 #[.slice A 0 c] w (RetVal w (.tuple #[.int .i64 (-1), .int .i64 (-1)])) := by
  go_enter Try.func41, Try.ntmps41
  go_wp2
  go_loopw [4, 5, 10] (fun lv gv iv wr => lv = .int .i64 (-1) ∧ gv = .int .i64 (-1) ∧ iv = .int .i64 0 ∧ Below w.heap.size w wr) (fun _ _ _ _ => 0)
  case atStart => exact ⟨rfl, rfl, rfl, Below.refl _ _⟩
  case round =>
    obtain ⟨rfl, rfl, rfl, hb⟩ := hrel
    go_wp2
    go_ret2
    exact ⟨rfl, hb⟩

set_option maxHeartbeats 8000000 in
theorem refLeast5_any (A : Option Addr) (n c : Nat) (d : Nat → Int × Nat) (p : Nat → Option Addr × Nat × Nat) (w : World) (h : Decs w w.heap.size A n c d p) (hn : n ≤ 99) (hn0 : 0 < n) :
    Calls Try.prog 41 #[.slice A n c] w (RetVal w (.tuple #[.int .i64 (low d n : Int), .int .i64 (high d n : Int)])) := by
  have hc := h.cap
  have hm := h.room
  unfold maxLen at hm
  obtain ⟨b, o, rfl, _⟩ := h.at_ hn0
  have H := Lib.hid h
  clear h
  have hnz : ((n : Int) == 0) = false := by simp; omega
  go_enter Try.func41, Try.ntmps41
  go_wp2_with fail
  go_loopw [4, 5, 10] (fun lv gv iv wr => ∃ (k : Nat), k ≤ n ∧ iv = .int .i64 k ∧ lv = .int .i64 (if k = 0 then (-1 : Int) else (low d k : Int)) ∧ gv = .int .i64 (if k = 0 then (-1 : Int) else (high d k : Int)) ∧ Below w.heap.size w wr) (fun _ _ iv _ => n - (intOf iv).toNat)
  case atStart => exact ⟨0, Nat.zero_le _, rfl, rfl, rfl, Below.refl _ _⟩
  case round =>
    obtain ⟨k, hk, rfl, rfl, rfl, hb⟩ := hrel
    have HB := Lib.hid hb
    clear hb
    rcases Nat.lt_or_ge k n with hlt | hge
    · rcases Nat.eq_zero_or_pos k with hk0 | hk0
      · subst hk0
        rw [if_pos rfl, if_pos rfl]
        have HD := Lib.hid (H.out.on HB.out)
        have CK := Lib.hid (HD.out.cel hlt)
        obtain ⟨k0, k1, k2, _⟩ := CK.out
        rw [Nat.zero_mul, Nat.add_zero] at k0 k1 k2
        clear HD CK
        go_wp2_with fail
        go_quiet ((fail))
        go_wp2_with fail
        go_quiet ((fail))
        go_wp2_with fail
        go_roundw
        case rel => exact ⟨1, by omega, by go_num, ret_w (by rw [if_neg (by omega)]; have : low d 1 ≤ 0 := low_lt d 0; omega), ret_w (by rw [if_neg (by omega)]; have : high d 1 ≤ 0 := high_lt d 0; omega), below_drewN (HB.out.alloc HB.out.size _) _⟩
        case measure => simp [intOf]; omega
      · rw [if_neg (by omega), if_neg (by omega)]
        have HL : Hid (low d (k + 1) = if cmpD (d k).1 (d k).2 (d (low d k)).1 (d (low d k)).2 < 0 then k else low d k) := rfl
        have HG : Hid (high d (k + 1) = if 0 < cmpD (d k).1 (d k).2 (d (high d k)).1 (d (high d k)).2 then k else high d k) := rfl
        have hL := low_le d k
        have hG := high_le d k
        obtain ⟨L, hLe⟩ : ∃ L, low d k = L := ⟨_, rfl⟩
        obtain ⟨G, hGe⟩ : ∃ G, high d k = G := ⟨_, rfl⟩
        rw [hLe] at HL hL
        rw [hGe] at HG hG
        rw [hLe, hGe]
        obtain ⟨z, hz⟩ : ∃ z, cmpD (d k).1 (d k).2 (d L).1 (d L).2 = z := ⟨_, rfl⟩
        obtain ⟨y, hy⟩ : ∃ y, cmpD (d k).1 (d k).2 (d G).1 (d G).2 = y := ⟨_, rfl⟩
        rw [hz] at HL
        rw [hy] at HG
        have HZ := Lib.hid hz
        have HY := Lib.hid hy
        clear hz hy hLe hGe
        have HD := Lib.hid (H.out.on HB.out)
        have CK := Lib.hid (HD.out.cel hlt)
        have CL := Lib.hid (HD.out.cel (j := L) (by omega))
        have CG := Lib.hid (HD.out.cel (j := G) (by omega))
        have NK := Lib.hid (HD.out.num k hlt)
        have NL := Lib.hid (HD.out.num L (by omega))
        have NG := Lib.hid (HD.out.num G (by omega))
        have sk := H.out.short k hlt
        have sL := H.out.short L (by omega)
        have sG := H.out.short G (by omega)
        have nk : (p k).2.1 ≤ 12 := by have := NK.out.len; have := sk.1; omega
        have nL : (p L).2.1 ≤ 12 := by have := NL.out.len; have := sL.1; omega
        have nG : (p G).2.1 ≤ 12 := by have := NG.out.len; have := sG.1; omega
        have tk := sk.2
        have tL := sL.2
        have tG := sG.2
        clear sk sL sG HD
        have L0 : (0 : Int) ≤ (L : Int) := by omega
        have L1 : (L : Int) < (n : Int) := by omega
        have G0 : (0 : Int) ≤ (G : Int) := by omega
        have G1 : (G : Int) < (n : Int) := by omega

        have L2 : decide ((L : Int) < 0) = false := decide_eq_false (by omega)
        have G2 : decide ((G : Int) < 0) = false := decide_eq_false (by omega)
        rcases Int.lt_or_le z 0 with hz | hz <;> rcases Int.lt_or_le 0 y with hy | hy
        · obtain ⟨k0, k1, k2, _⟩ := CK.out
          go_wp2_with fail
          generalize hW : World.alloc wr _ = W1
          have BW : Below wr.heap.size wr W1 := by rw [← hW]; exact (Below.refl _ _).alloc (Nat.le_refl _) _
          have X0 : Box W1 wr.heap.size (.bool (ngB (d k).1)) (.slice (p k).1 (p k).2.1 (p k).2.2) (.int .i64 ((d k).2 : Int)) := by rw [← hW]; exact Box.new _ _ _ _ _
          have X := Lib.hid X0
          clear hW k0 k1 k2 X0
          replace CL := Lib.hid (CL.out.on BW)
          replace CG := Lib.hid (CG.out.on BW)
          replace NK := Lib.hid (NK.out.on BW)
          replace NL := Lib.hid (NL.out.on BW)
          replace NG := Lib.hid (NG.out.on BW)
          replace HB := Lib.hid (HB.out.trans (BW.mono HB.out.size))
          clear BW
          replace X := Lib.hid (X.out.on (Below.refl _ _).drew); replace CL := Lib.hid (CL.out.on (Below.refl _ _).drew); replace CG := Lib.hid (CG.out.on (Below.refl _ _).drew); replace NK := Lib.hid (NK.out.on (Below.refl _ _).drew); replace NL := Lib.hid (NL.out.on (Below.refl _ _).drew); replace NG := Lib.hid (NG.out.on (Below.refl _ _).drew); replace HB := Lib.hid (HB.out.drew)
          have C := CL
          go_region_held3 (fun v => v.cell? ⟨wr.heap.size, 0, none⟩ = some (.bool (ngB (d k).1)) ∧ v.cell? ⟨wr.heap.size, 1, none⟩ = some (.slice (p k).1 (p k).2.1 (p k).2.2) ∧ v.cell? ⟨wr.heap.size, 2, none⟩ = some (.int .i64 ((d k).2 : Int)) ∧ v.cell? ⟨b, o + L * 3, none⟩ = some (.bool (ngB (d L).1)) ∧ v.cell? ⟨b, o + L * 3 + 1, none⟩ = some (.slice (p L).1 (p L).2.1 (p L).2.2) ∧ v.cell? ⟨b, o + L * 3 + 2, none⟩ = some (.int .i64 ((d L).2 : Int))) (with_reducible exact ⟨(X.out).c0, (X.out).c1, (X.out).c2, (C.out).c0, (C.out).c1, (C.out).c2⟩)
            (first | (go_at_call 24; refine (refCmp5_is (NK.out) (NL.out) (by omega) (by omega) (by omega) (by omega) HZ.out).mono ?_; rintro e w2 ⟨rfl, hb1⟩; replace X := Lib.hid (X.out.on hb1); replace C := Lib.hid (C.out.on hb1); replace NK := Lib.hid (NK.out.on hb1); replace NL := Lib.hid (NL.out.on hb1); replace NG := Lib.hid (NG.out.on hb1); replace CL := Lib.hid (CL.out.on hb1); replace CG := Lib.hid (CG.out.on hb1); replace HB := Lib.hid (HB.out.trans (hb1.mono HB.out.size)); clear hb1))
          all_goals
            clear C
            go_wp2_with fail
            replace X := Lib.hid (X.out.on (Below.refl _ _).drew); replace CL := Lib.hid (CL.out.on (Below.refl _ _).drew); replace CG := Lib.hid (CG.out.on (Below.refl _ _).drew); replace NK := Lib.hid (NK.out.on (Below.refl _ _).drew); replace NL := Lib.hid (NL.out.on (Below.refl _ _).drew); replace NG := Lib.hid (NG.out.on (Below.refl _ _).drew); replace HB := Lib.hid (HB.out.drew)
            have C := CG
            go_region_held3 (fun v => v.cell? ⟨wr.heap.size, 0, none⟩ = some (.bool (ngB (d k).1)) ∧ v.cell? ⟨wr.heap.size, 1, none⟩ = some (.slice (p k).1 (p k).2.1 (p k).2.2) ∧ v.cell? ⟨wr.heap.size, 2, none⟩ = some (.int .i64 ((d k).2 : Int)) ∧ v.cell? ⟨b, o + G * 3, none⟩ = some (.bool (ngB (d G).1)) ∧ v.cell? ⟨b, o + G * 3 + 1, none⟩ = some (.slice (p G).1 (p G).2.1 (p G).2.2) ∧ v.cell? ⟨b, o + G * 3 + 2, none⟩ = some (.int .i64 ((d G).2 : Int))) (with_reducible exact ⟨(X.out).c0, (X.out).c1, (X.out).c2, (C.out).c0, (C.out).c1, (C.out).c2⟩)
              (first | (go_at_call 24; refine (refCmp5_is (NK.out) (NG.out) (by omega) (by omega) (by omega) (by omega) HY.out).mono ?_; rintro e w2 ⟨rfl, hb1⟩; replace X := Lib.hid (X.out.on hb1); replace C := Lib.hid (C.out.on hb1); replace NK := Lib.hid (NK.out.on hb1); replace NL := Lib.hid (NL.out.on hb1); replace NG := Lib.hid (NG.out.on hb1); replace CL := Lib.hid (CL.out.on hb1); replace CG := Lib.hid (CG.out.on hb1); replace HB := Lib.hid (HB.out.trans (hb1.mono HB.out.size)); clear hb1))
            all_goals
              go_wp2_with fail
              go_roundw
              case rel => exact ⟨k + 1, by omega, by go_num, ret_w (by rw [if_neg (by omega), HL.out, if_pos hz]), ret_w (by rw [if_neg (by omega), HG.out, if_pos hy]), HB.out⟩
              case measure => simp [intOf]; omega
        · obtain ⟨k0, k1, k2, _⟩ := CK.out
          go_wp2_with fail
          generalize hW : World.alloc wr _ = W1
          have BW : Below wr.heap.size wr W1 := by rw [← hW]; exact (Below.refl _ _).alloc (Nat.le_refl _) _
          have X0 : Box W1 wr.heap.size (.bool (ngB (d k).1)) (.slice (p k).1 (p k).2.1 (p k).2.2) (.int .i64 ((d k).2 : Int)) := by rw [← hW]; exact Box.new _ _ _ _ _
          have X := Lib.hid X0
          clear hW k0 k1 k2 X0
          replace CL := Lib.hid (CL.out.on BW)
          replace CG := Lib.hid (CG.out.on BW)
          replace NK := Lib.hid (NK.out.on BW)
          replace NL := Lib.hid (NL.out.on BW)
          replace NG := Lib.hid (NG.out.on BW)
          replace HB := Lib.hid (HB.out.trans (BW.mono HB.out.size))
          clear BW
          replace X := Lib.hid (X.out.on (Below.refl _ _).drew); replace CL := Lib.hid (CL.out.on (Below.refl _ _).drew); replace CG := Lib.hid (CG.out.on (Below.refl _ _).drew); replace NK := Lib.hid (NK.out.on (Below.refl _ _).drew); replace NL := Lib.hid (NL.out.on (Below.refl _ _).drew); replace NG := Lib.hid (NG.out.on (Below.refl _ _).drew); replace HB := Lib.hid (HB.out.drew)
          have C := CL
          go_region_held3 (fun v => v.cell? ⟨wr.heap.size, 0, none⟩ = some (.bool (ngB (d k).1)) ∧ v.cell? ⟨wr.heap.size, 1, none⟩ = some (.slice (p k).1 (p k).2.1 (p k).2.2) ∧ v.cell? ⟨wr.heap.size, 2, none⟩ = some (.int .i64 ((d k).2 : Int)) ∧ v.cell? ⟨b, o + L * 3, none⟩ = some (.bool (ngB (d L).1)) ∧ v.cell? ⟨b, o + L * 3 + 1, none⟩ = some (.slice (p L).1 (p L).2.1 (p L).2.2) ∧ v.cell? ⟨b, o + L * 3 + 2, none⟩ = some (.int .i64 ((d L).2 : Int))) (with_reducible exact ⟨(X.out).c0, (X.out).c1, (X.out).c2, (C.out).c0, (C.out).c1, (C.out).c2⟩)
            (first | (go_at_call 24; refine (refCmp5_is (NK.out) (NL.out) (by omega) (by omega) (by omega) (by omega) HZ.out).mono ?_; rintro e w2 ⟨rfl, hb1⟩; replace X := Lib.hid (X.out.on hb1); replace C := Lib.hid (C.out.on hb1); replace NK := Lib.hid (NK.out.on hb1); replace NL := Lib.hid (NL.out.on hb1); replace NG := Lib.hid (NG.out.on hb1); replace CL := Lib.hid (CL.out.on hb1); replace CG := Lib.hid (CG.out.on hb1); replace HB := Lib.hid (HB.out.trans (hb1.mono HB.out.size)); clear hb1))
          all_goals
            clear C
            go_wp2_with fail
            replace X := Lib.hid (X.out.on (Below.refl _ _).drew); replace CL := Lib.hid (CL.out.on (Below.refl _ _).drew); replace CG := Lib.hid (CG.out.on (Below.refl _ _).drew); replace NK := Lib.hid (NK.out.on (Below.refl _ _).drew); replace NL := Lib.hid (NL.out.on (Below.refl _ _).drew); replace NG := Lib.hid (NG.out.on (Below.refl _ _).drew); replace HB := Lib.hid (HB.out.drew)
            have C := CG
            go_region_held3 (fun v => v.cell? ⟨wr.heap.size, 0, none⟩ = some (.bool (ngB (d k).1)) ∧ v.cell? ⟨wr.heap.size, 1, none⟩ = some (.slice (p k).1 (p k).2.1 (p k).2.2) ∧ v.cell? ⟨wr.heap.size, 2, none⟩ = some (.int .i64 ((d k).2 : Int)) ∧ v.cell? ⟨b, o + G * 3, none⟩ = some (.bool (ngB (d G).1)) ∧ v.cell? ⟨b, o + G * 3 + 1, none⟩ = some (.slice (p G).1 (p G).2.1 (p G).2.2) ∧ v.cell? ⟨b, o + G * 3 + 2, none⟩ = some (.int .i64 ((d G).2 : Int))) (with_reducible exact ⟨(X.out).c0, (X.out).c1, (X.out).c2, (C.out).c0, (C.out).c1, (C.out).c2⟩)
              (first | (go_at_call 24; refine (refCmp5_is (NK.out) (NG.out) (by omega) (by omega) (by omega) (by omega) HY.out).mono ?_; rintro e w2 ⟨rfl, hb1⟩; replace X := Lib.hid (X.out.on hb1); replace C := Lib.hid (C.out.on hb1); replace NK := Lib.hid (NK.out.on hb1); replace NL := Lib.hid (NL.out.on hb1); replace NG := Lib.hid (NG.out.on hb1); replace CL := Lib.hid (CL.out.on hb1); replace CG := Lib.hid (CG.out.on hb1); replace HB := Lib.hid (HB.out.trans (hb1.mono HB.out.size)); clear hb1))
            all_goals
              go_wp2_with fail
              go_roundw
              case rel => exact ⟨k + 1, by omega, by go_num, ret_w (by rw [if_neg (by omega), HL.out, if_pos hz]), ret_w (by rw [if_neg (by omega), HG.out, if_neg (by omega)]), HB.out⟩
              case measure => simp [intOf]; omega
        · obtain ⟨k0, k1, k2, _⟩ := CK.out
          go_wp2_with fail
          generalize hW : World.alloc wr _ = W1
          have BW : Below wr.heap.size wr W1 := by rw [← hW]; exact (Below.refl _ _).alloc (Nat.le_refl _) _
          have X0 : Box W1 wr.heap.size (.bool (ngB (d k).1)) (.slice (p k).1 (p k).2.1 (p k).2.2) (.int .i64 ((d k).2 : Int)) := by rw [← hW]; exact Box.new _ _ _ _ _
          have X := Lib.hid X0
          clear hW k0 k1 k2 X0
          replace CL := Lib.hid (CL.out.on BW)
          replace CG := Lib.hid (CG.out.on BW)
          replace NK := Lib.hid (NK.out.on BW)
          replace NL := Lib.hid (NL.out.on BW)
          replace NG := Lib.hid (NG.out.on BW)
          replace HB := Lib.hid (HB.out.trans (BW.mono HB.out.size))
          clear BW
          replace X := Lib.hid (X.out.on (Below.refl _ _).drew); replace CL := Lib.hid (CL.out.on (Below.refl _ _).drew); replace CG := Lib.hid (CG.out.on (Below.refl _ _).drew); replace NK := Lib.hid (NK.out.on (Below.refl _ _).drew); replace NL := Lib.hid (NL.out.on (Below.refl _ _).drew); replace NG := Lib.hid (NG.out.on (Below.refl _ _).drew); replace HB := Lib.hid (HB.out.drew)
          have C := CL
          go_region_held3 (fun v => v.cell? ⟨wr.heap.size, 0, none⟩ = some (.bool (ngB (d k).1)) ∧ v.cell? ⟨wr.heap.size, 1, none⟩ = some (.slice (p k).1 (p k).2.1 (p k).2.2) ∧ v.cell? ⟨wr.heap.size, 2, none⟩ = some (.int .i64 ((d k).2 : Int)) ∧ v.cell? ⟨b, o + L * 3, none⟩ = some (.bool (ngB (d L).1)) ∧ v.cell? ⟨b, o + L * 3 + 1, none⟩ = some (.slice (p L).1 (p L).2.1 (p L).2.2) ∧ v.cell? ⟨b, o + L * 3 + 2, none⟩ = some (.int .i64 ((d L).2 : Int))) (with_reducible exact ⟨(X.out).c0, (X.out).c1, (X.out).c2, (C.out).c0, (C.out).c1, (C.out).c2⟩)
            (first | (go_at_call 24; refine (refCmp5_is (NK.out) (NL.out) (by omega) (by omega) (by omega) (by omega) HZ.out).mono ?_; rintro e w2 ⟨rfl, hb1⟩; replace X := Lib.hid (X.out.on hb1); replace C := Lib.hid (C.out.on hb1); replace NK := Lib.hid (NK.out.on hb1); replace NL := Lib.hid (NL.out.on hb1); replace NG := Lib.hid (NG.out.on hb1); replace CL := Lib.hid (CL.out.on hb1); replace CG := Lib.hid (CG.out.on hb1); replace HB := Lib.hid (HB.out.trans (hb1.mono HB.out.size)); clear hb1))
          all_goals
            clear C
            go_wp2_with fail
            replace X := Lib.hid (X.out.on (Below.refl _ _).drew); replace CL := Lib.hid (CL.out.on (Below.refl _ _).drew); replace CG := Lib.hid (CG.out.on (Below.refl _ _).drew); replace NK := Lib.hid (NK.out.on (Below.refl _ _).drew); replace NL := Lib.hid (NL.out.on (Below.refl _ _).drew); replace NG := Lib.hid (NG.out.on (Below.refl _ _).drew); replace HB := Lib.hid (HB.out.drew)
            have C := CG
            go_region_held3 (fun v => v.cell? ⟨wr.heap.size, 0, none⟩ = some (.bool (ngB (d k).1)) ∧ v.cell? ⟨wr.heap.size, 1, none⟩ = some (.slice (p k).1 (p k).2.1 (p k).2.2) ∧ v.cell? ⟨wr.heap.size, 2, none⟩ = some (.int .i64 ((d k).2 : Int)) ∧ v.cell? ⟨b, o + G * 3, none⟩ = some (.bool (ngB (d G).1)) ∧ v.cell? ⟨b, o + G * 3 + 1, none⟩ = some (.slice (p G).1 (p G).2.1 (p G).2.2) ∧ v.cell? ⟨b, o + G * 3 + 2, none⟩ = some (.int .i64 ((d G).2 : Int))) (with_reducible exact ⟨(X.out).c0, (X.out).c1, (X.out).c2, (C.out).c0, (C.out).c1, (C.out).c2⟩)
              (first | (go_at_call 24; refine (refCmp5_is (NK.out) (NG.out) (by omega) (by omega) (by omega) (by omega) HY.out).mono ?_; rintro e w2 ⟨rfl, hb1⟩; replace X := Lib.hid (X.out.on hb1); replace C := Lib.hid (C.out.on hb1); replace NK := Lib.hid (NK.out.on hb1); replace NL := Lib.hid (NL.out.on hb1); replace NG := Lib.hid (NG.out.on hb1); replace CL := Lib.hid (CL.out.on hb1); replace CG := Lib.hid (CG.out.on hb1); replace HB := Lib.hid (HB.out.trans (hb1.mono HB.out.size)); clear hb1))
            all_goals
              go_wp2_with fail
              go_roundw
              case rel => exact ⟨k + 1, by omega, by go_num, ret_w (by rw [if_neg (by omega), HL.out, if_neg (by omega)]), ret_w (by rw [if_neg (by omega), HG.out, if_pos hy]), HB.out⟩
              case measure => simp [intOf]; omega
        · obtain ⟨k0, k1, k2, _⟩ := CK.out
          go_wp2_with fail
          generalize hW : World.alloc wr _ = W1
          have BW : Below wr.heap.size wr W1 := by rw [← hW]; exact (Below.refl _ _).alloc (Nat.le_refl _) _
          have X0 : Box W1 wr.heap.size (.bool (ngB (d k).1)) (.slice (p k).1 (p k).2.1 (p k).2.2) (.int .i64 ((d k).2 : Int)) := by rw [← hW]; exact Box.new _ _ _ _ _
          have X := Lib.hid X0
          clear hW k0 k1 k2 X0
          replace CL := Lib.hid (CL.out.on BW)
          replace CG := Lib.hid (CG.out.on BW)
          replace NK := Lib.hid (NK.out.on BW)
          replace NL := Lib.hid (NL.out.on BW)
          replace NG := Lib.hid (NG.out.on BW)
          replace HB := Lib.hid (HB.out.trans (BW.mono HB.out.size))
          clear BW
          replace X := Lib.hid (X.out.on (Below.refl _ _).drew); replace CL := Lib.hid (CL.out.on (Below.refl _ _).drew); replace CG := Lib.hid (CG.out.on (Below.refl _ _).drew); replace NK := Lib.hid (NK.out.on (Below.refl _ _).drew); replace NL := Lib.hid (NL.out.on (Below.refl _ _).drew); replace NG := Lib.hid (NG.out.on (Below.refl _ _).drew); replace HB := Lib.hid (HB.out.drew)
          have C := CL
          go_region_held3 (fun v => v.cell? ⟨wr.heap.size, 0, none⟩ = some (.bool (ngB (d k).1)) ∧ v.cell? ⟨wr.heap.size, 1, none⟩ = some (.slice (p k).1 (p k).2.1 (p k).2.2) ∧ v.cell? ⟨wr.heap.size, 2, none⟩ = some (.int .i64 ((d k).2 : Int)) ∧ v.cell? ⟨b, o + L * 3, none⟩ = some (.bool (ngB (d L).1)) ∧ v.cell? ⟨b, o + L * 3 + 1, none⟩ = some (.slice (p L).1 (p L).2.1 (p L).2.2) ∧ v.cell? ⟨b, o + L * 3 + 2, none⟩ = some (.int .i64 ((d L).2 : Int))) (with_reducible exact ⟨(X.out).c0, (X.out).c1, (X.out).c2, (C.out).c0, (C.out).c1, (C.out).c2⟩)
            (first | (go_at_call 24; refine (refCmp5_is (NK.out) (NL.out) (by omega) (by omega) (by omega) (by omega) HZ.out).mono ?_; rintro e w2 ⟨rfl, hb1⟩; replace X := Lib.hid (X.out.on hb1); replace C := Lib.hid (C.out.on hb1); replace NK := Lib.hid (NK.out.on hb1); replace NL := Lib.hid (NL.out.on hb1); replace NG := Lib.hid (NG.out.on hb1); replace CL := Lib.hid (CL.out.on hb1); replace CG := Lib.hid (CG.out.on hb1); replace HB := Lib.hid (HB.out.trans (hb1.mono HB.out.size)); clear hb1))
          all_goals
            clear C
            go_wp2_with fail
            replace X := Lib.hid (X.out.on (Below.refl _ _).drew); replace CL := Lib.hid (CL.out.on (Below.refl _ _).drew); replace CG := Lib.hid (CG.out.on (Below.refl _ _).drew); replace NK := Lib.hid (NK.out.on (Below.refl _ _).drew); replace NL := Lib.hid (NL.out.on (Below.refl _ _).drew); replace NG := Lib.hid (NG.out.on (Below.refl _ _).drew); replace HB := Lib.hid (HB.out.drew)
            have C := CG
            go_region_held3 (fun v => v.cell? ⟨wr.heap.size, 0, none⟩ = some (.bool (ngB (d k).1)) ∧ v.cell? ⟨wr.heap.size, 1, none⟩ = some (.slice (p k).1 (p k).2.1 (p k).2.2) ∧ v.cell? ⟨wr.heap.size, 2, none⟩ = some (.int .i64 ((d k).2 : Int)) ∧ v.cell? ⟨b, o + G * 3, none⟩ = some (.bool (ngB (d G).1)) ∧ v.cell? ⟨b, o + G * 3 + 1, none⟩ = some (.slice (p G).1 (p G).2.1 (p G).2.2) ∧ v.cell? ⟨b, o + G * 3 + 2, none⟩ = some (.int .i64 ((d G).2 : Int))) (with_reducible exact ⟨(X.out).c0, (X.out).c1, (X.out).c2, (C.out).c0, (C.out).c1, (C.out).c2⟩)
              (first | (go_at_call 24; refine (refCmp5_is (NK.out) (NG.out) (by omega) (by omega) (by omega) (by omega) HY.out).mono ?_; rintro e w2 ⟨rfl, hb1⟩; replace X := Lib.hid (X.out.on hb1); replace C := Lib.hid (C.out.on hb1); replace NK := Lib.hid (NK.out.on hb1); replace NL := Lib.hid (NL.out.on hb1); replace NG := Lib.hid (NG.out.on hb1); replace CL := Lib.hid (CL.out.on hb1); replace CG := Lib.hid (CG.out.on hb1); replace HB := Lib.hid (HB.out.trans (hb1.mono HB.out.size)); clear hb1))
            all_goals
              go_wp2_with fail
              go_roundw
              case rel => exact ⟨k + 1, by omega, by go_num, ret_w (by rw [if_neg (by omega), HL.out, if_neg (by omega)]), ret_w (by rw [if_neg (by omega), HG.out, if_neg (by omega)]), HB.out⟩
              case measure => simp [intOf]; omega
    · obtain rfl : k = n := by omega
      rw [if_neg (by omega), if_neg (by omega)]
      go_wp2_with fail
      go_ret2
      exact ⟨rfl, HB.out⟩

end Go.Proofs.Ytafbkoejobkncaa
