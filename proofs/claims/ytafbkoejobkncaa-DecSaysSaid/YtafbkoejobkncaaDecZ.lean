/-
  DecSays answers true: all cases.
-/
import Derived.Test.YtafbkoejobkncaaDecY
namespace Go.Proofs.Ytafbkoejobkncaa
open Go.RowKit

set_option maxHeartbeats 4000000 in
set_option maxRecDepth 100000 in
theorem says_long1 (b1 : Bool) (A1 : Option Addr) (n1 c1 : Nat) (xs1 : List Nat) (k1 : Int) (b2 : Bool) (A2 : Option Addr) (n2 c2 : Nat) (xs2 : List Nat) (k2 : Int) (w : World) (h1 : Lim w w.heap.size A1 n1 c1 xs1) (h2 : Lim w w.heap.size A2 n2 c2 xs2) (y z : Int) (gy : Hid (-9223372036854775808 ≤ y ∧ y ≤ 9223372036854775807)) (gz : Hid (-9223372036854775808 ≤ z ∧ z ≤ 9223372036854775807)) (l1 : longB b1 n1 xs1 k1 = true) : Calls Try.prog 3 #[.agg #[.bool b1, .slice A1 n1 c1, .int .i64 k1], .agg #[.bool b2, .slice A2 n2 c2, .int .i64 k2], .agg #[.int .i64 y, .int .i64 z]] w (RetVal w (.bool true)) := by
  have EB : bits .and .i64 z 1023 = (and10 z : Int) := by
    have hb := and10_le z
    have e : IntKind.i64.wrap (and10 z : Int) = (and10 z : Int) := IntWalk.i64_in _ ⟨by omega, by omega⟩
    rw [← e]; rfl
  obtain ⟨r, hr⟩ : ∃ r, rightD b1 n1 xs1 k1 = r := ⟨_, rfl⟩
  have HR := Lib.hid hr
  have H1 := Lib.hid h1
  have H2 := Lib.hid h2
  have L1 := Lib.hid l1
  clear hr h1 h2 l1
  go_enter Try.func3, Try.ntmps3
  go_wp2_with fail
  generalize hW : World.alloc (World.alloc (World.alloc w _) _) _ = W0
  have E0 : St w W0 [] [((w.heap.size + 1), .bool b2, .slice A2 n2 c2, .int .i64 k2), (w.heap.size, .bool b1, .slice A1 n1 c1, .int .i64 k1)] := by rw [← hW]; exact (((St.start w (l := []) (fun q hq => by cases hq)).lay rfl).lay (by simp)).alloc _
  have T0 : Two W0 (w.heap.size + 1 + 1) y z := by rw [← hW]; exact Two.newAt _ y z _ (by simp)
  have E := Lib.hid E0
  have T := Lib.hid T0
  clear hW E0 T0
  replace E := Lib.hid (St.drew E.out)
  replace T := Lib.hid (T.out.drew)
  go_region_held3 (fun v => v.cell? ⟨w.heap.size, 0, none⟩ = some (.bool b1) ∧ v.cell? ⟨w.heap.size, 1, none⟩ = some (.slice A1 n1 c1) ∧ v.cell? ⟨w.heap.size, 2, none⟩ = some (.int .i64 k1) ∧ v.cell? ⟨w.heap.size + 1 + 1, 0, none⟩ = some (.int .i64 y) ∧ v.cell? ⟨w.heap.size + 1 + 1, 1, none⟩ = some (.int .i64 z)) ((have X0 := St.at_ (x0 := (.bool b1)) (x1 := (.slice A1 n1 c1)) (x2 := (.int .i64 k1)) (g := w.heap.size) E (by simp); with_reducible exact ⟨X0.c0, X0.c1, X0.c2, T.out.c0, T.out.c1⟩))
  (first | (go_at_call 8; (with_reducible refine (right5_is (b := b1) (xs := xs1) (k := k1) (H1.out.on E.out.bel) HR.out).mono ?_); rintro e w1 ⟨rfl, hb⟩; replace T := Lib.hid (T.out.on hb); replace E := Lib.hid (St.step E.out hb); clear hb) | (go_at_call 9; (with_reducible refine (refright5_is (b := b1) (xs := xs1) (k := k1) (H1.out.on E.out.bel) HR.out).mono ?_); rintro e w2 ⟨rfl, hb⟩; replace T := Lib.hid (T.out.on hb); replace E := Lib.hid (St.step E.out hb); clear hb) | (go_at_call 11; (with_reducible refine (mk5_is (i := y) (s := and10 z) _ gy.out.1 gy.out.2 (and10_le z)).mono ?_); rintro e w3 ⟨A3, n3, c3, rfl, h, hb⟩; replace T := Lib.hid (T.out.on hb); replace E := Lib.hid (St.push E.out hb h); clear h hb) | (go_at_call 12; (with_reducible refine (refmk5_is (i := y) (s := and10 z) _ gy.out.1 gy.out.2 (and10_le z)).mono ?_); rintro e w4 ⟨A4, n4, c4, rfl, h, hb⟩; replace T := Lib.hid (T.out.on hb); replace E := Lib.hid (St.push E.out hb h); clear h hb) | (go_at_call 10; (with_reducible refine (refalike_is5 (i := y) (j := y) (s := and10 z) (t := and10 z) (St.got E (A := A3) (n := n3) (c := c3) (a := y.natAbs) (by simp)) (St.got E (A := A4) (n := n4) (c := c4) (a := y.natAbs) (by simp)) (alike_yes rfl rfl)).mono ?_); rintro e w5 ⟨rfl, hb⟩; replace T := Lib.hid (T.out.on hb); replace E := Lib.hid (St.step E.out hb); clear hb))
  obtain ⟨p0, p1, p2, pf0, pf1, pf2, plt⟩ := St.at_ (x0 := .bool b1) (x1 := .slice A1 n1 c1) (x2 := .int .i64 k1) (g := w.heap.size) E (by simp)
  go_wp2_with fail
  refine (long_is (H1.out.on E.out.bel) L1.out).mono ?_; rintro e w6 ⟨rfl, hb⟩; replace E := Lib.hid (St.step E.out hb); clear hb
  clear p0 p1 p2 pf0 pf1 pf2 plt
  go_wp2_with fail
  refine (awake5 _).mono ?_; rintro e w9 ⟨rfl, hb⟩; replace E := Lib.hid (St.step E.out hb); clear hb
  go_wp2_with fail
  go_ret
  exact ⟨rfl, E.out.bel⟩

set_option maxHeartbeats 4000000 in
set_option maxRecDepth 100000 in
theorem says_long2 (b1 : Bool) (A1 : Option Addr) (n1 c1 : Nat) (xs1 : List Nat) (k1 : Int) (b2 : Bool) (A2 : Option Addr) (n2 c2 : Nat) (xs2 : List Nat) (k2 : Int) (w : World) (h1 : Lim w w.heap.size A1 n1 c1 xs1) (h2 : Lim w w.heap.size A2 n2 c2 xs2) (y z : Int) (gy : Hid (-9223372036854775808 ≤ y ∧ y ≤ 9223372036854775807)) (gz : Hid (-9223372036854775808 ≤ z ∧ z ≤ 9223372036854775807)) (l1 : longB b1 n1 xs1 k1 = false) (l2 : longB b2 n2 xs2 k2 = true) : Calls Try.prog 3 #[.agg #[.bool b1, .slice A1 n1 c1, .int .i64 k1], .agg #[.bool b2, .slice A2 n2 c2, .int .i64 k2], .agg #[.int .i64 y, .int .i64 z]] w (RetVal w (.bool true)) := by
  have EB : bits .and .i64 z 1023 = (and10 z : Int) := by
    have hb := and10_le z
    have e : IntKind.i64.wrap (and10 z : Int) = (and10 z : Int) := IntWalk.i64_in _ ⟨by omega, by omega⟩
    rw [← e]; rfl
  obtain ⟨r, hr⟩ : ∃ r, rightD b1 n1 xs1 k1 = r := ⟨_, rfl⟩
  have HR := Lib.hid hr
  have H1 := Lib.hid h1
  have H2 := Lib.hid h2
  have L1 := Lib.hid l1
  have L2 := Lib.hid l2
  clear hr h1 h2 l1 l2
  go_enter Try.func3, Try.ntmps3
  go_wp2_with fail
  generalize hW : World.alloc (World.alloc (World.alloc w _) _) _ = W0
  have E0 : St w W0 [] [((w.heap.size + 1), .bool b2, .slice A2 n2 c2, .int .i64 k2), (w.heap.size, .bool b1, .slice A1 n1 c1, .int .i64 k1)] := by rw [← hW]; exact (((St.start w (l := []) (fun q hq => by cases hq)).lay rfl).lay (by simp)).alloc _
  have T0 : Two W0 (w.heap.size + 1 + 1) y z := by rw [← hW]; exact Two.newAt _ y z _ (by simp)
  have E := Lib.hid E0
  have T := Lib.hid T0
  clear hW E0 T0
  replace E := Lib.hid (St.drew E.out)
  replace T := Lib.hid (T.out.drew)
  go_region_held3 (fun v => v.cell? ⟨w.heap.size, 0, none⟩ = some (.bool b1) ∧ v.cell? ⟨w.heap.size, 1, none⟩ = some (.slice A1 n1 c1) ∧ v.cell? ⟨w.heap.size, 2, none⟩ = some (.int .i64 k1) ∧ v.cell? ⟨w.heap.size + 1 + 1, 0, none⟩ = some (.int .i64 y) ∧ v.cell? ⟨w.heap.size + 1 + 1, 1, none⟩ = some (.int .i64 z)) ((have X0 := St.at_ (x0 := (.bool b1)) (x1 := (.slice A1 n1 c1)) (x2 := (.int .i64 k1)) (g := w.heap.size) E (by simp); with_reducible exact ⟨X0.c0, X0.c1, X0.c2, T.out.c0, T.out.c1⟩))
  (first | (go_at_call 8; (with_reducible refine (right5_is (b := b1) (xs := xs1) (k := k1) (H1.out.on E.out.bel) HR.out).mono ?_); rintro e w1 ⟨rfl, hb⟩; replace T := Lib.hid (T.out.on hb); replace E := Lib.hid (St.step E.out hb); clear hb) | (go_at_call 9; (with_reducible refine (refright5_is (b := b1) (xs := xs1) (k := k1) (H1.out.on E.out.bel) HR.out).mono ?_); rintro e w2 ⟨rfl, hb⟩; replace T := Lib.hid (T.out.on hb); replace E := Lib.hid (St.step E.out hb); clear hb) | (go_at_call 11; (with_reducible refine (mk5_is (i := y) (s := and10 z) _ gy.out.1 gy.out.2 (and10_le z)).mono ?_); rintro e w3 ⟨A3, n3, c3, rfl, h, hb⟩; replace T := Lib.hid (T.out.on hb); replace E := Lib.hid (St.push E.out hb h); clear h hb) | (go_at_call 12; (with_reducible refine (refmk5_is (i := y) (s := and10 z) _ gy.out.1 gy.out.2 (and10_le z)).mono ?_); rintro e w4 ⟨A4, n4, c4, rfl, h, hb⟩; replace T := Lib.hid (T.out.on hb); replace E := Lib.hid (St.push E.out hb h); clear h hb) | (go_at_call 10; (with_reducible refine (refalike_is5 (i := y) (j := y) (s := and10 z) (t := and10 z) (St.got E (A := A3) (n := n3) (c := c3) (a := y.natAbs) (by simp)) (St.got E (A := A4) (n := n4) (c := c4) (a := y.natAbs) (by simp)) (alike_yes rfl rfl)).mono ?_); rintro e w5 ⟨rfl, hb⟩; replace T := Lib.hid (T.out.on hb); replace E := Lib.hid (St.step E.out hb); clear hb))
  obtain ⟨p0, p1, p2, pf0, pf1, pf2, plt⟩ := St.at_ (x0 := .bool b1) (x1 := .slice A1 n1 c1) (x2 := .int .i64 k1) (g := w.heap.size) E (by simp)
  go_wp2_with fail
  refine (long_is (H1.out.on E.out.bel) L1.out).mono ?_; rintro e w6 ⟨rfl, hb⟩; replace E := Lib.hid (St.step E.out hb); clear hb
  clear p0 p1 p2 pf0 pf1 pf2 plt
  obtain ⟨p0, p1, p2, pf0, pf1, pf2, plt⟩ := St.at_ (x0 := .bool b2) (x1 := .slice A2 n2 c2) (x2 := .int .i64 k2) (g := (w.heap.size + 1)) E (by simp)
  go_wp2_with fail
  refine (long_is (H2.out.on E.out.bel) L2.out).mono ?_; rintro e w7 ⟨rfl, hb⟩; replace E := Lib.hid (St.step E.out hb); clear hb
  clear p0 p1 p2 pf0 pf1 pf2 plt
  go_wp2_with fail
  refine (awake5 _).mono ?_; rintro e w9 ⟨rfl, hb⟩; replace E := Lib.hid (St.step E.out hb); clear hb
  go_wp2_with fail
  go_ret
  exact ⟨rfl, E.out.bel⟩

theorem says5_any (b1 : Bool) (A1 : Option Addr) (n1 c1 : Nat) (xs1 : List Nat) (k1 : Int) (b2 : Bool) (A2 : Option Addr) (n2 c2 : Nat) (xs2 : List Nat) (k2 : Int) (y z : Int) (w : World) (h1 : Lim w w.heap.size A1 n1 c1 xs1) (h2 : Lim w w.heap.size A2 n2 c2 xs2) (gy : Hid (-9223372036854775808 ≤ y ∧ y ≤ 9223372036854775807)) (gz : Hid (-9223372036854775808 ≤ z ∧ z ≤ 9223372036854775807)) : Calls Try.prog 3 #[.agg #[.bool b1, .slice A1 n1 c1, .int .i64 k1], .agg #[.bool b2, .slice A2 n2 c2, .int .i64 k2], .agg #[.int .i64 y, .int .i64 z]] w (RetVal w (.bool true)) := by
  cases l1 : longB b1 n1 xs1 k1 with
  | true => exact says_long1 b1 A1 n1 c1 xs1 k1 b2 A2 n2 c2 xs2 k2 w h1 h2 y z gy gz l1
  | false =>
    cases l2 : longB b2 n2 xs2 k2 with
    | true => exact says_long2 b1 A1 n1 c1 xs1 k1 b2 A2 n2 c2 xs2 k2 w h1 h2 y z gy gz l1 l2
    | false =>
      obtain ⟨i, s, rfl, rfl, rfl, m1, t1⟩ := of_long l1 h1
      obtain ⟨j, t, rfl, rfl, rfl, m2, t2⟩ := of_long l2 h2
      exact says_dec A1 n1 c1 s i A2 n2 c2 t j w h1 h2 m1 t1 m2 t2 y z gy gz

end Go.Proofs.Ytafbkoejobkncaa
