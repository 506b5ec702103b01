/-
  DecStrips answers true.
-/
import Derived.Test.YtafbkoejobkncaaDecKm
namespace Go.Proofs.Ytafbkoejobkncaa
open Go.RowKit

set_option maxHeartbeats 2000000 in
set_option maxRecDepth 100000 in
theorem strips_long (b1 : Bool) (A1 : Option Addr) (n1 c1 : Nat) (xs1 : List Nat) (k1 : Int) (z : Int) (A : Option Addr) (n c : Nat) (r : Nat → Rw) (w : World) (h1 : Lim w w.heap.size A1 n1 c1 xs1) (h : Raws w w.heap.size A n c r) (l1 : longB b1 n1 xs1 k1 = true) : Calls Try.prog 6 #[.agg #[.bool b1, .slice A1 n1 c1, .int .i64 k1], .int .i64 z, .slice A n c] w (RetVal w (.bool true)) := by
  have hc := h.cap
  have hm := h.room
  unfold maxLen at hm
  have H1 := Lib.hid h1
  have L1 := Lib.hid l1
  clear h1 h l1
  go_enter Try.func6, Try.ntmps6
  go_wp2_with fail
  generalize hW : World.alloc w _ = W0
  have E0 : St w W0 [] [(w.heap.size, .bool b1, .slice A1 n1 c1, .int .i64 k1)] := by rw [← hW]; exact (St.start w (l := []) (fun q hq => by cases hq)).lay rfl
  have E := Lib.hid E0
  clear hW E0
  refine (long_is (H1.out.on E.out.bel) L1.out).mono ?_; rintro e w1 ⟨rfl, hb⟩; replace E := Lib.hid (St.step E.out hb); clear hb
  go_wp2_with fail
  refine (awake5 _).mono ?_; rintro e w9 ⟨rfl, hb⟩; replace E := Lib.hid (St.step E.out hb); clear hb
  go_wp2_with fail
  go_ret
  exact ⟨rfl, E.out.bel⟩

set_option maxHeartbeats 2000000 in
set_option maxRecDepth 100000 in
theorem strips_many (b1 : Bool) (A1 : Option Addr) (n1 c1 : Nat) (xs1 : List Nat) (k1 : Int) (z : Int) (A : Option Addr) (n c : Nat) (r : Nat → Rw) (w : World) (h1 : Lim w w.heap.size A1 n1 c1 xs1) (h : Raws w w.heap.size A n c r) (l1 : longB b1 n1 xs1 k1 = false) (hn : 20 < n) : Calls Try.prog 6 #[.agg #[.bool b1, .slice A1 n1 c1, .int .i64 k1], .int .i64 z, .slice A n c] w (RetVal w (.bool true)) := by
  have hc := h.cap
  have hm := h.room
  unfold maxLen at hm
  have H1 := Lib.hid h1
  have L1 := Lib.hid l1
  clear h1 h l1
  go_enter Try.func6, Try.ntmps6
  go_wp2_with fail
  generalize hW : World.alloc w _ = W0
  have E0 : St w W0 [] [(w.heap.size, .bool b1, .slice A1 n1 c1, .int .i64 k1)] := by rw [← hW]; exact (St.start w (l := []) (fun q hq => by cases hq)).lay rfl
  have E := Lib.hid E0
  clear hW E0
  refine (long_is (H1.out.on E.out.bel) L1.out).mono ?_; rintro e w1 ⟨rfl, hb⟩; replace E := Lib.hid (St.step E.out hb); clear hb
  go_wp2_with fail
  refine (awake5 _).mono ?_; rintro e w9 ⟨rfl, hb⟩; replace E := Lib.hid (St.step E.out hb); clear hb
  go_wp2_with fail
  go_ret
  exact ⟨rfl, E.out.bel⟩

set_option maxHeartbeats 8000000 in
set_option maxRecDepth 100000 in
theorem strips_dec (Aa : Option Addr) (na ca s : Nat) (i : Int) (z : Int) (A : Option Addr) (n c : Nat) (r : Nat → Rw) (w : World) (h1 : Num w w.heap.size Aa na ca i.natAbs) (m1 : na ≤ 12) (t1 : s ≤ 60) (h : Raws w w.heap.size A n c r) (hn : n ≤ 20) (hn0 : 0 < n) (gz : Hid (-9223372036854775808 ≤ z ∧ z ≤ 9223372036854775807)) : Calls Try.prog 6 #[.agg #[.bool (ngB i), .slice Aa na ca, .int .i64 (s : Int)], .int .i64 z, .slice A n c] w (RetVal w (.bool true)) := by
  have hc := h.cap
  have hm := h.room
  unfold maxLen at hm
  have N1 : Hid (longB (ngB i) na (dg i.natAbs) (s : Int) = false) := not_long h1 m1 t1
  obtain ⟨zl, hzl⟩ : ∃ rr : Nat, max z 0 = (rr : Int) := ⟨(max z 0).toNat, by omega⟩
  have HZL := Lib.hid hzl
  have HZB : Hid (zl ≤ 9223372036854775807) := (by show _ ≤ _; have := gz.out.2; omega)
  have hzS : Sz i s 108 := (Sz.of_len (by have := h1.len; omega : (dg i.natAbs).length ≤ 12))
  obtain ⟨X, hX⟩ : ∃ rr, stripI i s zl = rr := ⟨_, rfl⟩
  obtain ⟨S, hS⟩ : ∃ rr, s - stripK i s zl = rr := ⟨_, rfl⟩
  have hZ : Sz X S 108 := by rw [← hX, ← hS]; exact hzS.strip
  have hSs : S ≤ s := by omega
  have HG : decide (s < S) = false := decide_eq_false (by omega)
  have HLX : Hid ((dg X.natAbs).length ≤ 168) := (by show _ ≤ _; have := hZ.len; omega)
  have F1 : Hid ((cmpD X S i s == 0) = true) := by show _ = _; rw [← hX, ← hS]; exact strip_same i s zl
  have F2 : Hid (stripI X S zl = X) := by show _ = _; rw [← hX, ← hS]; exact strip_twice i s zl
  have F3 : Hid (S - stripK X S zl = S) := by show _ = _; have := strip_again i s zl; rw [hX, hS] at this; omega
  have F4 : X ≠ 0 → zl < S → tz X.natAbs = 0 := by intro e1 e2; rw [← hX] at e1 ⊢; exact strip_end e1 (by omega)
  have HX := Lib.hid hX
  have HS := Lib.hid hS
  clear hX hS hzl hZ hzS
  have H1 := Lib.hid h1
  have H := Lib.hid h
  clear h1 h
  go_enter Try.func6, Try.ntmps6
  go_wp2_with fail
  generalize hW : World.alloc w _ = W0
  have E0 : St w W0 [(Aa, na, ca, (i).natAbs)] [(w.heap.size, (.bool (ngB i)), (.slice Aa na ca), (.int .i64 (s : Int)))] := by rw [← hW]; exact (St.start w (l := [(Aa, na, ca, (i).natAbs)]) (by simp; exact H1.out)).lay rfl
  have E := Lib.hid E0
  clear hW E0
  refine (long_is (num_lim5 (St.got E (A := Aa) (n := na) (c := ca) (a := (i).natAbs) (by simp))) N1.out).mono ?_; rintro e w1 ⟨rfl, hb⟩; replace E := Lib.hid (St.step E.out hb); clear hb
  go_wp2_with fail
  have EL := E.out
  clear E
  go_loopw [21] (fun iv wr => ∃ (k : Nat), k ≤ n ∧ iv = .int .i64 k ∧ (∀ j, j < k → longR r j = false) ∧ St w wr [(Aa, na, ca, (i).natAbs)] [(w.heap.size, (.bool (ngB i)), (.slice Aa na ca), (.int .i64 (s : Int)))]) (fun iv _ => n - (intOf iv).toNat)
  case atStart => exact ⟨0, Nat.zero_le _, rfl, fun j hj => absurd hj (Nat.not_lt_zero _), EL⟩
  case round =>
    obtain ⟨k, hk, rfl, hl, hE⟩ := hrel
    have E := Lib.hid hE
    clear hE EL
    rcases Nat.lt_or_ge k n with hlt | hge
    · have HD := Lib.hid (H.out.on E.out.bel)
      obtain ⟨b, o, rfl, hb, x0, x1, x2⟩ := HD.out.at_ hlt
      have HN := Lib.hid (HD.out.lim k hlt)
      have HL := Lib.hid hl
      clear HD hl
      go_wp2_with fail
      have Ea := Lib.hid (St.alloc E.out (.cells #[.bool (r k).b, .slice (r k).A (r k).n (r k).c, .int .i64 (r k).k] 25))
      cases lk : longR r k with
      | true =>
        have LK : Hid (longB (r k).b (r k).n (r k).xs (r k).k = true) := lk
        clear lk
        refine (long_is (HN.out.on ((Below.refl _ _).alloc (Nat.le_refl _) _)) LK.out).mono ?_; rintro e w2 ⟨rfl, hb1⟩; have E2 := Lib.hid (St.step Ea.out hb1); clear hb1 x0 x1 x2 Ea
        go_wp2_with fail
        refine (awake5 _).mono ?_; rintro e w9 ⟨rfl, hb1⟩; replace E2 := Lib.hid (St.step E2.out hb1); clear hb1
        go_wp2_with fail
        go_ret
        exact ⟨rfl, E2.out.bel⟩
      | false =>
        have LK : Hid (longB (r k).b (r k).n (r k).xs (r k).k = false) := lk
        refine (long_is (HN.out.on ((Below.refl _ _).alloc (Nat.le_refl _) _)) LK.out).mono ?_; rintro e w2 ⟨rfl, hb1⟩; have E2 := Lib.hid (St.step Ea.out hb1); clear hb1 x0 x1 x2 Ea
        go_wp2_with fail
        go_roundw
        case rel => exact ⟨k + 1, by omega, by go_num, fun j hj => (Nat.lt_or_eq_of_le (Nat.le_of_lt_succ hj)).elim (fun h => HL.out j h) (fun h => by rw [h]; exact lk), E2.out⟩
        case measure => simp [intOf]; omega
    · obtain rfl : k = n := by omega
      obtain ⟨d, hd, hr⟩ := H.out.decs hl
      have HD := Lib.hid hd
      clear hd hr hl H
      have hsh := HD.out.short
      clear hsh
      obtain ⟨p0a, p0b, p0c, p0d, p0e, p0f, p0g⟩ := St.at_ (x0 := (.bool (ngB i))) (x1 := (.slice Aa na ca)) (x2 := (.int .i64 (s : Int))) (g := w.heap.size) E (by simp)
      go_wp2_with fail
      refine (strip_is5 (i := i) (s := s) (L := zl) (v := z) (St.got E (A := Aa) (n := na) (c := ca) (a := (i).natAbs) (by simp)) (by omega) (by omega) HZL.out HZB.out HS.out HX.out).mono ?_; rintro e w2 ⟨Ax, nx, cx, rfl, h, hb⟩
      have bx : nx ≤ 168 := len_le h HLX.out
      clear p0a p0b p0c p0d p0e p0f p0g
      replace E := Lib.hid (St.push E.out hb h); clear h hb
      obtain ⟨p0a, p0b, p0c, p0d, p0e, p0f, p0g⟩ := St.at_ (x0 := (.bool (ngB i))) (x1 := (.slice Aa na ca)) (x2 := (.int .i64 (s : Int))) (g := w.heap.size) E (by simp)
      replace E := Lib.hid (St.lay (t := 25) (x0 := (.bool (ngB X))) (x1 := (.slice Ax nx cx)) (x2 := (.int .i64 (S : Int))) (g := w2.heap.size) E.out rfl)
      go_wp2_with fail
      clear p0a p0b p0c p0d p0e p0f p0g
      generalize hW2 : World.alloc w2 _ = W1 at E ⊢
      clear hW2
      replace E := Lib.hid (St.drew E.out)
      generalize hgx : w2.heap.size = gx at E ⊢
      clear hgx
      go_region_held3 (fun v => v.cell? ⟨gx, 0, none⟩ = some (.bool (ngB X)) ∧ v.cell? ⟨gx, 1, none⟩ = some (.slice Ax nx cx) ∧ v.cell? ⟨gx, 2, none⟩ = some (.int .i64 (S : Int)) ∧ v.cell? ⟨w.heap.size, 0, none⟩ = some (.bool (ngB i)) ∧ v.cell? ⟨w.heap.size, 1, none⟩ = some (.slice Aa na ca) ∧ v.cell? ⟨w.heap.size, 2, none⟩ = some (.int .i64 (s : Int))) ((have X0 := St.at_ (x0 := (.bool (ngB X))) (x1 := (.slice Ax nx cx)) (x2 := (.int .i64 (S : Int))) (g := gx) E (by simp); have X1 := St.at_ (x0 := (.bool (ngB i))) (x1 := (.slice Aa na ca)) (x2 := (.int .i64 (s : Int))) (g := w.heap.size) E (by simp); with_reducible exact ⟨X0.c0, X0.c1, X0.c2, X1.c0, X1.c1, X1.c2⟩))
      (first | (go_at_call 25; (with_reducible refine (same_is5 (i := X) (s := S) (j := i) (t := s) (St.got E (A := Ax) (n := nx) (c := cx) (a := (X).natAbs) (by simp)) (St.got E (A := Aa) (n := na) (c := ca) (a := (i).natAbs) (by simp)) (by omega) (by omega) (by omega) (by omega) F1.out).mono ?_); rintro e w3 ⟨rfl, hb⟩; replace E := Lib.hid (St.step E.out hb); clear hb) | (go_at_call 8; (with_reducible refine (right_is5 (i := X) (s := S) (St.got E (A := Ax) (n := nx) (c := cx) (a := (X).natAbs) (by simp))).mono ?_); rintro e w3 ⟨rfl, hb⟩; replace E := Lib.hid (St.step E.out hb); clear hb) | (go_at_call 34; (with_reducible refine (strip_is5 (i := X) (s := S) (L := zl) (v := z) (St.got E (A := Ax) (n := nx) (c := cx) (a := (X).natAbs) (by simp)) (by omega) (by omega) HZL.out HZB.out F3.out F2.out).mono ?_); rintro e w4 ⟨Ay, ny, cy, rfl, h, hb⟩; replace E := Lib.hid (St.push E.out hb h); clear h hb) | (go_at_call 27; (with_reducible refine (alike_is5 (i := X) (j := X) (s := S) (t := S) (St.got E (A := Ay) (n := ny) (c := cy) (a := X.natAbs) (by simp)) (St.got E (A := Ax) (n := nx) (c := cx) (a := (X).natAbs) (by simp)) (alike_yes rfl rfl)).mono ?_); rintro e w3 ⟨rfl, hb⟩; replace E := Lib.hid (St.step E.out hb); clear hb))
      have hmx : ∀ (ts : Array TypeId) (ty : TypeId) (W : World), (Builtin.max_ ts ty #[.int .i64 0, .int .i64 z]).run Try.prog W = .ok (.int .i64 (zl : Int)) W := fun ts ty W => max_gen (by have := HZL.out; omega) ts ty W
      have hnx := (num_pos_iff (St.got E (A := Ax) (n := nx) (c := cx) (a := X.natAbs) (by simp)))
      rcases Nat.eq_zero_or_pos nx with hx0 | hx0
      · have G1 : decide (0 < nx) = false := decide_eq_false (by omega)
        obtain ⟨q0, q1, q2, qf0, qf1, qf2, qlt⟩ := St.at_ (x0 := (.bool (ngB X))) (x1 := (.slice Ax nx cx)) (x2 := (.int .i64 (S : Int))) (g := gx) E (by simp)
        go_wp2_with fail
        clear q0 q1 q2 qf0 qf1 qf2 qlt
        obtain ⟨hf, hhf⟩ : ∃ hf : Nat, (k : Int) / 2 = (hf : Int) := ⟨k / 2, by omega⟩
        rw [hhf]
        have q1 := HD.out.short.sum (k := k) (by omega) (by omega)
        have q2 := HD.out.short.sum (k := hf) (by omega) (by omega)
        have q3s : Short (fun j => d (hf + j)) (k - hf) := fun j hj => HD.out.short (hf + j) (by omega)
        have q3 := q3s.sum (k := k - hf) (by omega) (by omega)
        clear q3s
        have HB1 := Lib.hid q1.2
        have HB2 := Lib.hid q2.2
        have HB3 := Lib.hid q3.2
        have v1 := q1.1
        have v2 := q2.1
        have v3 := q3.1
        have HB4 : Hid ((dg (addZ (sumI d hf) (sumS d hf) (sumI (fun j => d (hf + j)) (k - hf)) (sumS (fun j => d (hf + j)) (k - hf))).natAbs).length ≤ 2000) := by show _ ≤ _; have := ((Sz.of_len (s := sumS d hf) q2.2).add (Sz.of_len (s := sumS (fun j => d (hf + j)) (k - hf)) q3.2)).len; omega
        have F5 : Hid ((cmpD (sumI d k) (sumS d k) (addZ (sumI d hf) (sumS d hf) (sumI (fun j => d (hf + j)) (k - hf)) (sumS (fun j => d (hf + j)) (k - hf))) (max (sumS d hf) (sumS (fun j => d (hf + j)) (k - hf))) == 0) = true) := sum_halves HD.out.short (by omega)
        clear q1 q2 q3
        have hkc : k ≤ c := HD.out.cap
        have hk0 : 0 < k := hn0
        have hfk : hf < k := by omega
        obtain ⟨b0, o0, hA0, hA1, hA2⟩ := HD.out.at_ hk0
        clear hA1 hA2
        subst hA0
        have HT := Lib.hid (HD.out.take (k := hf) (by omega))
        have HU := Lib.hid (HD.out.drop (k := hf) (by omega))
        have i0 : (0 : Int) ≤ (hf : Int) := by omega
        have i1 : (hf : Int) ≤ (c : Int) := by omega
        have i2 : (hf : Int) ≤ (k : Int) := by omega
        have i3 : (hf : Int) < (c : Int) := by omega
        have i4 : hf < c := by omega
        have i5 : hf ≤ k := by omega
        replace E := Lib.hid (St.drew E.out)
        go_region_held3 (fun v => v.cell? ⟨gx, 0, none⟩ = some (.bool (ngB X))) ((have X0 := St.at_ (x0 := (.bool (ngB X))) (x1 := (.slice Ax nx cx)) (x2 := (.int .i64 (S : Int))) (g := gx) E (by simp); with_reducible exact X0.c0))
        (first | (go_at_call 37; (with_reducible refine (sum5_any _ k c d (fun j => ((r j).A, (r j).n, (r j).c)) _ (HD.out.on E.out.bel) (by omega)).mono ?_); rintro e w11 ⟨B11, l11, e11, rfl, h, hb⟩; have b11 : l11 ≤ 170 := len_le h HB1.out; replace E := Lib.hid (St.push E.out hb h); clear h hb) | (go_at_call 37; (with_reducible refine (sum5_any _ hf c d (fun j => ((r j).A, (r j).n, (r j).c)) _ (HT.out.on E.out.bel) (by omega)).mono ?_); rintro e w12 ⟨B12, l12, e12, rfl, h, hb⟩; have b12 : l12 ≤ 170 := len_le h HB2.out; replace E := Lib.hid (St.push E.out hb h); clear h hb) | (go_at_call 37; (with_reducible refine (sum5_any _ (k - hf) (c - hf) (fun j => d (hf + j)) (fun j => ((r (hf + j)).A, (r (hf + j)).n, (r (hf + j)).c)) _ (HU.out.on E.out.bel) (by omega)).mono ?_); rintro e w13 ⟨B13, l13, e13, rfl, h, hb⟩; have b13 : l13 ≤ 170 := len_le h HB3.out; replace E := Lib.hid (St.push E.out hb h); clear h hb) | (go_at_call 28; (with_reducible refine (add_is5 (i := sumI d hf) (s := sumS d hf) (j := sumI (fun j => d (hf + j)) (k - hf)) (t := sumS (fun j => d (hf + j)) (k - hf)) (St.got E (A := B12) (n := l12) (c := e12) (a := (sumI d hf).natAbs) (by simp)) (St.got E (A := B13) (n := l13) (c := e13) (a := (sumI (fun j => d (hf + j)) (k - hf)).natAbs) (by simp)) (by omega) (by omega) (by omega) (by omega) rfl rfl).mono ?_); rintro e w14 ⟨B14, l14, e14, rfl, h, hb⟩; have b14 : l14 ≤ 2000 := len_le h HB4.out; replace E := Lib.hid (St.push E.out hb h); clear h hb) | (go_at_call 25; (with_reducible refine (same_is5 (i := sumI d k) (s := sumS d k) (j := addZ (sumI d hf) (sumS d hf) (sumI (fun j => d (hf + j)) (k - hf)) (sumS (fun j => d (hf + j)) (k - hf))) (t := max (sumS d hf) (sumS (fun j => d (hf + j)) (k - hf))) (St.got E (A := B11) (n := l11) (c := e11) (a := (sumI d k).natAbs) (by simp)) (St.got E (A := B14) (n := l14) (c := e14) (a := (addZ (sumI d hf) (sumS d hf) (sumI (fun j => d (hf + j)) (k - hf)) (sumS (fun j => d (hf + j)) (k - hf))).natAbs) (by simp)) (by omega) (by omega) (by omega) (by omega) F5.out).mono ?_); rintro e w15 ⟨rfl, hb⟩; replace E := Lib.hid (St.step E.out hb); clear hb) | (go_at_call 14; (with_reducible refine (awake5 _).mono ?_); rintro e w16 ⟨rfl, hb⟩; replace E := Lib.hid (St.step E.out hb); clear hb))
        all_goals (go_wp2_with fail; go_ret; exact ⟨rfl, E.out.bel⟩)
      · have hX0 : X ≠ 0 := by have := hnx.1 hx0; omega
        have G1 : decide (0 < nx) = true := decide_eq_true hx0
        rcases Nat.lt_or_ge zl S with hzs | hzs
        · have G2 : decide (zl < S) = true := decide_eq_true hzs
          obtain ⟨q0, q1, q2, qf0, qf1, qf2, qlt⟩ := St.at_ (x0 := (.bool (ngB X))) (x1 := (.slice Ax nx cx)) (x2 := (.int .i64 (S : Int))) (g := gx) E (by simp)
          go_wp2_with fail
          refine (noughts_is (St.got E (A := Ax) (n := nx) (c := cx) (a := X.natAbs) (by simp)) (by omega) (F4 hX0 hzs)).mono ?_; rintro e w5 ⟨rfl, rfl⟩
          go_wp2_with fail
          clear q0 q1 q2 qf0 qf1 qf2 qlt
          obtain ⟨hf, hhf⟩ : ∃ hf : Nat, (k : Int) / 2 = (hf : Int) := ⟨k / 2, by omega⟩
          rw [hhf]
          have q1 := HD.out.short.sum (k := k) (by omega) (by omega)
          have q2 := HD.out.short.sum (k := hf) (by omega) (by omega)
          have q3s : Short (fun j => d (hf + j)) (k - hf) := fun j hj => HD.out.short (hf + j) (by omega)
          have q3 := q3s.sum (k := k - hf) (by omega) (by omega)
          clear q3s
          have HB1 := Lib.hid q1.2
          have HB2 := Lib.hid q2.2
          have HB3 := Lib.hid q3.2
          have v1 := q1.1
          have v2 := q2.1
          have v3 := q3.1
          have HB4 : Hid ((dg (addZ (sumI d hf) (sumS d hf) (sumI (fun j => d (hf + j)) (k - hf)) (sumS (fun j => d (hf + j)) (k - hf))).natAbs).length ≤ 2000) := by show _ ≤ _; have := ((Sz.of_len (s := sumS d hf) q2.2).add (Sz.of_len (s := sumS (fun j => d (hf + j)) (k - hf)) q3.2)).len; omega
          have F5 : Hid ((cmpD (sumI d k) (sumS d k) (addZ (sumI d hf) (sumS d hf) (sumI (fun j => d (hf + j)) (k - hf)) (sumS (fun j => d (hf + j)) (k - hf))) (max (sumS d hf) (sumS (fun j => d (hf + j)) (k - hf))) == 0) = true) := sum_halves HD.out.short (by omega)
          clear q1 q2 q3
          have hkc : k ≤ c := HD.out.cap
          have hk0 : 0 < k := hn0
          have hfk : hf < k := by omega
          obtain ⟨b0, o0, hA0, hA1, hA2⟩ := HD.out.at_ hk0
          clear hA1 hA2
          subst hA0
          have HT := Lib.hid (HD.out.take (k := hf) (by omega))
          have HU := Lib.hid (HD.out.drop (k := hf) (by omega))
          have i0 : (0 : Int) ≤ (hf : Int) := by omega
          have i1 : (hf : Int) ≤ (c : Int) := by omega
          have i2 : (hf : Int) ≤ (k : Int) := by omega
          have i3 : (hf : Int) < (c : Int) := by omega
          have i4 : hf < c := by omega
          have i5 : hf ≤ k := by omega
          replace E := Lib.hid (St.drew E.out)
          go_region_held3 (fun v => v.cell? ⟨gx, 0, none⟩ = some (.bool (ngB X))) ((have X0 := St.at_ (x0 := (.bool (ngB X))) (x1 := (.slice Ax nx cx)) (x2 := (.int .i64 (S : Int))) (g := gx) E (by simp); with_reducible exact X0.c0))
          (first | (go_at_call 37; (with_reducible refine (sum5_any _ k c d (fun j => ((r j).A, (r j).n, (r j).c)) _ (HD.out.on E.out.bel) (by omega)).mono ?_); rintro e w11 ⟨B11, l11, e11, rfl, h, hb⟩; have b11 : l11 ≤ 170 := len_le h HB1.out; replace E := Lib.hid (St.push E.out hb h); clear h hb) | (go_at_call 37; (with_reducible refine (sum5_any _ hf c d (fun j => ((r j).A, (r j).n, (r j).c)) _ (HT.out.on E.out.bel) (by omega)).mono ?_); rintro e w12 ⟨B12, l12, e12, rfl, h, hb⟩; have b12 : l12 ≤ 170 := len_le h HB2.out; replace E := Lib.hid (St.push E.out hb h); clear h hb) | (go_at_call 37; (with_reducible refine (sum5_any _ (k - hf) (c - hf) (fun j => d (hf + j)) (fun j => ((r (hf + j)).A, (r (hf + j)).n, (r (hf + j)).c)) _ (HU.out.on E.out.bel) (by omega)).mono ?_); rintro e w13 ⟨B13, l13, e13, rfl, h, hb⟩; have b13 : l13 ≤ 170 := len_le h HB3.out; replace E := Lib.hid (St.push E.out hb h); clear h hb) | (go_at_call 28; (with_reducible refine (add_is5 (i := sumI d hf) (s := sumS d hf) (j := sumI (fun j => d (hf + j)) (k - hf)) (t := sumS (fun j => d (hf + j)) (k - hf)) (St.got E (A := B12) (n := l12) (c := e12) (a := (sumI d hf).natAbs) (by simp)) (St.got E (A := B13) (n := l13) (c := e13) (a := (sumI (fun j => d (hf + j)) (k - hf)).natAbs) (by simp)) (by omega) (by omega) (by omega) (by omega) rfl rfl).mono ?_); rintro e w14 ⟨B14, l14, e14, rfl, h, hb⟩; have b14 : l14 ≤ 2000 := len_le h HB4.out; replace E := Lib.hid (St.push E.out hb h); clear h hb) | (go_at_call 25; (with_reducible refine (same_is5 (i := sumI d k) (s := sumS d k) (j := addZ (sumI d hf) (sumS d hf) (sumI (fun j => d (hf + j)) (k - hf)) (sumS (fun j => d (hf + j)) (k - hf))) (t := max (sumS d hf) (sumS (fun j => d (hf + j)) (k - hf))) (St.got E (A := B11) (n := l11) (c := e11) (a := (sumI d k).natAbs) (by simp)) (St.got E (A := B14) (n := l14) (c := e14) (a := (addZ (sumI d hf) (sumS d hf) (sumI (fun j => d (hf + j)) (k - hf)) (sumS (fun j => d (hf + j)) (k - hf))).natAbs) (by simp)) (by omega) (by omega) (by omega) (by omega) F5.out).mono ?_); rintro e w15 ⟨rfl, hb⟩; replace E := Lib.hid (St.step E.out hb); clear hb) | (go_at_call 14; (with_reducible refine (awake5 _).mono ?_); rintro e w16 ⟨rfl, hb⟩; replace E := Lib.hid (St.step E.out hb); clear hb))
          all_goals (go_wp2_with fail; go_ret; exact ⟨rfl, E.out.bel⟩)
        · have G2 : decide (zl < S) = false := decide_eq_false (by omega)
          obtain ⟨q0, q1, q2, qf0, qf1, qf2, qlt⟩ := St.at_ (x0 := (.bool (ngB X))) (x1 := (.slice Ax nx cx)) (x2 := (.int .i64 (S : Int))) (g := gx) E (by simp)
          go_wp2_with fail
          clear q0 q1 q2 qf0 qf1 qf2 qlt
          obtain ⟨hf, hhf⟩ : ∃ hf : Nat, (k : Int) / 2 = (hf : Int) := ⟨k / 2, by omega⟩
          rw [hhf]
          have q1 := HD.out.short.sum (k := k) (by omega) (by omega)
          have q2 := HD.out.short.sum (k := hf) (by omega) (by omega)
          have q3s : Short (fun j => d (hf + j)) (k - hf) := fun j hj => HD.out.short (hf + j) (by omega)
          have q3 := q3s.sum (k := k - hf) (by omega) (by omega)
          clear q3s
          have HB1 := Lib.hid q1.2
          have HB2 := Lib.hid q2.2
          have HB3 := Lib.hid q3.2
          have v1 := q1.1
          have v2 := q2.1
          have v3 := q3.1
          have HB4 : Hid ((dg (addZ (sumI d hf) (sumS d hf) (sumI (fun j => d (hf + j)) (k - hf)) (sumS (fun j => d (hf + j)) (k - hf))).natAbs).length ≤ 2000) := by show _ ≤ _; have := ((Sz.of_len (s := sumS d hf) q2.2).add (Sz.of_len (s := sumS (fun j => d (hf + j)) (k - hf)) q3.2)).len; omega
          have F5 : Hid ((cmpD (sumI d k) (sumS d k) (addZ (sumI d hf) (sumS d hf) (sumI (fun j => d (hf + j)) (k - hf)) (sumS (fun j => d (hf + j)) (k - hf))) (max (sumS d hf) (sumS (fun j => d (hf + j)) (k - hf))) == 0) = true) := sum_halves HD.out.short (by omega)
          clear q1 q2 q3
          have hkc : k ≤ c := HD.out.cap
          have hk0 : 0 < k := hn0
          have hfk : hf < k := by omega
          obtain ⟨b0, o0, hA0, hA1, hA2⟩ := HD.out.at_ hk0
          clear hA1 hA2
          subst hA0
          have HT := Lib.hid (HD.out.take (k := hf) (by omega))
          have HU := Lib.hid (HD.out.drop (k := hf) (by omega))
          have i0 : (0 : Int) ≤ (hf : Int) := by omega
          have i1 : (hf : Int) ≤ (c : Int) := by omega
          have i2 : (hf : Int) ≤ (k : Int) := by omega
          have i3 : (hf : Int) < (c : Int) := by omega
          have i4 : hf < c := by omega
          have i5 : hf ≤ k := by omega
          replace E := Lib.hid (St.drew E.out)
          go_region_held3 (fun v => v.cell? ⟨gx, 0, none⟩ = some (.bool (ngB X))) ((have X0 := St.at_ (x0 := (.bool (ngB X))) (x1 := (.slice Ax nx cx)) (x2 := (.int .i64 (S : Int))) (g := gx) E (by simp); with_reducible exact X0.c0))
          (first | (go_at_call 37; (with_reducible refine (sum5_any _ k c d (fun j => ((r j).A, (r j).n, (r j).c)) _ (HD.out.on E.out.bel) (by omega)).mono ?_); rintro e w11 ⟨B11, l11, e11, rfl, h, hb⟩; have b11 : l11 ≤ 170 := len_le h HB1.out; replace E := Lib.hid (St.push E.out hb h); clear h hb) | (go_at_call 37; (with_reducible refine (sum5_any _ hf c d (fun j => ((r j).A, (r j).n, (r j).c)) _ (HT.out.on E.out.bel) (by omega)).mono ?_); rintro e w12 ⟨B12, l12, e12, rfl, h, hb⟩; have b12 : l12 ≤ 170 := len_le h HB2.out; replace E := Lib.hid (St.push E.out hb h); clear h hb) | (go_at_call 37; (with_reducible refine (sum5_any _ (k - hf) (c - hf) (fun j => d (hf + j)) (fun j => ((r (hf + j)).A, (r (hf + j)).n, (r (hf + j)).c)) _ (HU.out.on E.out.bel) (by omega)).mono ?_); rintro e w13 ⟨B13, l13, e13, rfl, h, hb⟩; have b13 : l13 ≤ 170 := len_le h HB3.out; replace E := Lib.hid (St.push E.out hb h); clear h hb) | (go_at_call 28; (with_reducible refine (add_is5 (i := sumI d hf) (s := sumS d hf) (j := sumI (fun j => d (hf + j)) (k - hf)) (t := sumS (fun j => d (hf + j)) (k - hf)) (St.got E (A := B12) (n := l12) (c := e12) (a := (sumI d hf).natAbs) (by simp)) (St.got E (A := B13) (n := l13) (c := e13) (a := (sumI (fun j => d (hf + j)) (k - hf)).natAbs) (by simp)) (by omega) (by omega) (by omega) (by omega) rfl rfl).mono ?_); rintro e w14 ⟨B14, l14, e14, rfl, h, hb⟩; have b14 : l14 ≤ 2000 := len_le h HB4.out; replace E := Lib.hid (St.push E.out hb h); clear h hb) | (go_at_call 25; (with_reducible refine (same_is5 (i := sumI d k) (s := sumS d k) (j := addZ (sumI d hf) (sumS d hf) (sumI (fun j => d (hf + j)) (k - hf)) (sumS (fun j => d (hf + j)) (k - hf))) (t := max (sumS d hf) (sumS (fun j => d (hf + j)) (k - hf))) (St.got E (A := B11) (n := l11) (c := e11) (a := (sumI d k).natAbs) (by simp)) (St.got E (A := B14) (n := l14) (c := e14) (a := (addZ (sumI d hf) (sumS d hf) (sumI (fun j => d (hf + j)) (k - hf)) (sumS (fun j => d (hf + j)) (k - hf))).natAbs) (by simp)) (by omega) (by omega) (by omega) (by omega) F5.out).mono ?_); rintro e w15 ⟨rfl, hb⟩; replace E := Lib.hid (St.step E.out hb); clear hb) | (go_at_call 14; (with_reducible refine (awake5 _).mono ?_); rintro e w16 ⟨rfl, hb⟩; replace E := Lib.hid (St.step E.out hb); clear hb))
          all_goals (go_wp2_with fail; go_ret; exact ⟨rfl, E.out.bel⟩)

end Go.Proofs.Ytafbkoejobkncaa
