/-
  ScanSays answers true.
-/
import Derived.Test.YthpoplgejenpgaaScaT
set_option linter.unusedVariables false
set_option linter.unusedSimpArgs false
namespace Go.Proofs.Ythpoplgejenpgaa
open Go.RowKit

theorem refcount_is {s : ByteArray} {z : Nat} {w : World} (h : (lns s).length = z) (hs : s.size ≤ 1000000) : Calls Try.prog 10 #[.string s] w (Ret9 w (.int .i64 (z : Int))) := h ▸ refcount_any s w hs
theorem refindent_is {s : ByteArray} {z : Nat} {w : World} (h : indl (bs9 s) = z) (hs : s.size ≤ 1000000) : Calls Try.prog 12 #[.string s] w (Ret9 w (.int .i64 (z : Int))) := h ▸ refindent_any s w hs
theorem refblank_is {s : ByteArray} {z : Bool} {w : World} (h : decide (Blk (bs9 s)) = z) (hs : s.size ≤ 1000000) : Calls Try.prog 14 #[.string s] w (Ret9 w (.bool z)) := h ▸ refblank_any s w hs
theorem refwhere_is {s : ByteArray} {n : Int} {p : Nat × Nat} {w : World} (h : whr s n = p) (hs : s.size ≤ 1000000) : Calls Try.prog 16 #[.string s, .int .i64 n] w (Ret9 w (.agg #[.int .i64 (p.1 : Int), .int .i64 (p.2 : Int)])) := h ▸ refwhere_any s n w hs
theorem refjoin_got {L : List (List Nat)} {S : ByteArray} {A : Option Addr} {c n : Nat} {w : World} (h : RdL w A c L) (hn : L.length = n) (hS : st9 (joinl L) = S) (hl : L.length ≤ 1000) (hj : (joinl L).length ≤ 1000000) : Calls Try.prog 18 #[.slice A n c] w (Ret9 w (.string S)) := by subst hn; exact hS ▸ refjoin_is h hl hj

set_option maxHeartbeats 4000000 in
set_option maxRecDepth 100000 in
theorem says10_law (s t : ByteArray) (n : Int) (w : World) : Calls Try.prog 3 #[.string s, .string t, .int .i64 n] w (Ret9 w (.bool true)) := by
  have E : Hid (Below w.heap.size w w) := Below.refl _ _
  by_cases hs : 600 < s.size
  case pos =>
    have d : decide ((600 : Int) < (s.size : Int)) = true := decide_eq_true (by omega)
    go_enter Try.func3, Try.ntmps3
    go_wp2_with fail
    refine (awake10 _).mono ?_; rintro e w1 ⟨rfl, hb⟩; replace E := Lib.hid (E.out.trans (hb.mono E.out.size)); clear hb
    go_wp2_with fail
    go_ret
    exact ⟨rfl, E.out⟩
  have d : decide ((600 : Int) < (s.size : Int)) = false := decide_eq_false (by omega)
  by_cases ht : 600 < t.size
  case pos =>
    have d2 : decide ((600 : Int) < (t.size : Int)) = true := decide_eq_true (by omega)
    go_enter Try.func3, Try.ntmps3
    go_wp2_with fail
    refine (awake10 _).mono ?_; rintro e w1 ⟨rfl, hb⟩; replace E := Lib.hid (E.out.trans (hb.mono E.out.size)); clear hb
    go_wp2_with fail
    go_ret
    exact ⟨rfl, E.out⟩
  have d2 : decide ((600 : Int) < (t.size : Int)) = false := decide_eq_false (by omega)
  have hs1 : s.size ≤ 1000000 := by omega
  have ht1 : t.size ≤ 1000000 := by omega
  obtain ⟨L, hL⟩ : ∃ L, lns s = L := ⟨_, rfl⟩
  obtain ⟨k, hk⟩ : ∃ k, L.length = k := ⟨_, rfl⟩
  have hk6 : k ≤ 600 := by have := lns_len s; rw [hL, hk] at this; omega
  obtain ⟨J, hJ⟩ : ∃ J, st9 (joinl L) = J := ⟨_, rfl⟩
  have F1 : Hid ((lns s).length = k) := by show _ = _; rw [hL, hk]
  have HL := Lib.hid hL
  have HK := Lib.hid hk
  have HJ := Lib.hid hJ
  have HJL : Hid ((joinl L).length ≤ 1000000) := by
    show _ ≤ _
    have := joinl_le _ (bs9 s) (Nat.le_refl _)
    rw [bs9_len] at this
    rw [← hL]
    unfold lns
    omega
  obtain ⟨z1, h1⟩ : ∃ z, indl (bs9 t) = z := ⟨_, rfl⟩
  obtain ⟨z2, h2⟩ : ∃ z, decide (Blk (bs9 t)) = z := ⟨_, rfl⟩
  obtain ⟨z3, h3⟩ : ∃ z, whr s n = z := ⟨_, rfl⟩
  have F2 := Lib.hid h1
  have F3 := Lib.hid h2
  have F4 := Lib.hid h3
  clear hs ht hL hk hJ h1 h2 h3
  go_enter Try.func3, Try.ntmps3
  go_wp2_with fail
  refine (lines_any s _ hs1).mono ?_; rintro e w1 ⟨v, rfl, hown, hb⟩
  rw [HL.out] at hown
  obtain ⟨A1, c1, hmv, hrd⟩ := hown.rd
  subst hmv
  rw [HK.out]
  have RA := Lib.hid hrd
  replace E := Lib.hid (E.out.trans (hb.mono E.out.size)); clear hb hown hrd
  go_wp2_with fail
  refine (reflines_any s _ hs1).mono ?_; rintro e w2 ⟨v, rfl, hown, hb⟩
  rw [HL.out] at hown
  obtain ⟨A2, c2, hmv, hrd⟩ := hown.rd
  subst hmv
  rw [HK.out]
  have RB := Lib.hid hrd
  replace E := Lib.hid (E.out.trans (hb.mono E.out.size)); replace RA := Lib.hid (RA.out.on hb); clear hb hown hrd
  go_wp2_with fail
  refine (count_is F1.out hs1).mono ?_; rintro e w3 ⟨rfl, hb⟩; replace E := Lib.hid (E.out.trans (hb.mono E.out.size)); replace RA := Lib.hid (RA.out.on hb); replace RB := Lib.hid (RB.out.on hb); clear hb
  go_wp2_with fail
  refine (refcount_is F1.out hs1).mono ?_; rintro e w4 ⟨rfl, hb⟩; replace E := Lib.hid (E.out.trans (hb.mono E.out.size)); replace RA := Lib.hid (RA.out.on hb); replace RB := Lib.hid (RB.out.on hb); clear hb
  go_wp2_with fail
  refine (count_is F1.out hs1).mono ?_; rintro e w5 ⟨rfl, hb⟩; replace E := Lib.hid (E.out.trans (hb.mono E.out.size)); replace RA := Lib.hid (RA.out.on hb); replace RB := Lib.hid (RB.out.on hb); clear hb
  go_wp2_with fail
  go_loopw [44] (fun jv wr => ∃ j : Nat, jv = .int .i64 j ∧ j ≤ k ∧ RdL wr A1 c1 L ∧ RdL wr A2 c2 L ∧ Below w.heap.size w wr) (fun jv _ => k - (intOf jv).toNat)
  case atStart => exact ⟨0, rfl, Nat.zero_le _, RA.out, RB.out, E.out⟩
  case round =>
    obtain ⟨j, rfl, hj, hm, hn, hb⟩ := hrel
    clear RA RB E
    have RA := Lib.hid hm
    have RB := Lib.hid hn
    have E := Lib.hid hb
    clear hm hn hb
    rcases Nat.lt_or_ge j k with hjk | hjk
    · obtain ⟨b1, rfl, m1, m2, m3, m4, m5⟩ := RA.out.at_ (k := j) (by rw [HK.out]; exact hjk)
      obtain ⟨b2, rfl, n1, n2, n3, n4, n5⟩ := RB.out.at_ (k := j) (by rw [HK.out]; exact hjk)
      rw [HK.out] at m1 n1
      generalize st9 (L.getD j []) = T at m5 n5
      have u1 : IntKind.i64.wrap ((j : Int) + 1) = (j : Int) + 1 := IntWalk.i64_in _ ⟨by omega, by omega⟩
      go_wp2_with fail
      go_quiet (fail)
      go_wp2_with fail
      go_roundw
      case rel => exact ⟨j + 1, by go_num, by omega, RA.out.on (below_drewN _ _), RB.out.on (below_drewN _ _), E.out.trans ((below_drewN _ _).mono E.out.size)⟩
      case measure => simp [intOf] <;> omega
    · obtain rfl : j = k := by omega
      go_wp2_with fail
      refine (indent_is F2.out ht1).mono ?_; rintro e x0 ⟨rfl, hb⟩; replace E := Lib.hid (E.out.trans (hb.mono E.out.size)); replace RA := Lib.hid (RA.out.on hb); replace RB := Lib.hid (RB.out.on hb); clear hb
      go_wp2_with fail
      refine (refindent_is F2.out ht1).mono ?_; rintro e x1 ⟨rfl, hb⟩; replace E := Lib.hid (E.out.trans (hb.mono E.out.size)); replace RA := Lib.hid (RA.out.on hb); replace RB := Lib.hid (RB.out.on hb); clear hb
      go_wp2_with fail
      refine (blank_is F3.out ht1).mono ?_; rintro e x2 ⟨rfl, hb⟩; replace E := Lib.hid (E.out.trans (hb.mono E.out.size)); replace RA := Lib.hid (RA.out.on hb); replace RB := Lib.hid (RB.out.on hb); clear hb
      go_wp2_with fail
      refine (refblank_is F3.out ht1).mono ?_; rintro e x3 ⟨rfl, hb⟩; replace E := Lib.hid (E.out.trans (hb.mono E.out.size)); replace RA := Lib.hid (RA.out.on hb); replace RB := Lib.hid (RB.out.on hb); clear hb
      go_wp2_with fail
      refine (where_is F4.out hs1).mono ?_; rintro e x4 ⟨rfl, hb⟩; replace E := Lib.hid (E.out.trans (hb.mono E.out.size)); replace RA := Lib.hid (RA.out.on hb); replace RB := Lib.hid (RB.out.on hb); clear hb
      go_wp2_with fail
      refine (refwhere_is F4.out hs1).mono ?_; rintro e x5 ⟨rfl, hb⟩; replace E := Lib.hid (E.out.trans (hb.mono E.out.size)); replace RA := Lib.hid (RA.out.on hb); replace RB := Lib.hid (RB.out.on hb); clear hb
      go_wp2_with fail
      refine (join_got RA.out HK.out HJ.out (by have := HK.out; omega) HJL.out).mono ?_; rintro e x6 ⟨rfl, hb⟩; replace E := Lib.hid (E.out.trans (hb.mono E.out.size)); replace RA := Lib.hid (RA.out.on hb); replace RB := Lib.hid (RB.out.on hb); clear hb
      go_wp2_with fail
      refine (refjoin_got RB.out HK.out HJ.out (by have := HK.out; omega) HJL.out).mono ?_; rintro e x7 ⟨rfl, hb⟩; replace E := Lib.hid (E.out.trans (hb.mono E.out.size)); replace RA := Lib.hid (RA.out.on hb); replace RB := Lib.hid (RB.out.on hb); clear hb
      go_wp2_with fail
      refine (awake10 _).mono ?_; rintro e x8 ⟨rfl, hb⟩; replace E := Lib.hid (E.out.trans (hb.mono E.out.size)); replace RA := Lib.hid (RA.out.on hb); replace RB := Lib.hid (RB.out.on hb); clear hb
      go_wp2_with fail
      go_ret
      exact ⟨rfl, E.out⟩

end Go.Proofs.Ythpoplgejenpgaa
