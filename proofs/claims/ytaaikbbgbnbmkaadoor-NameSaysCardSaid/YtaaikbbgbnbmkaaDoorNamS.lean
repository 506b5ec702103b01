/-
  NameSays answers true.
-/
import Derived.Test.YtaaikbbgbnbmkaaDoorNamO
set_option linter.unusedVariables false
set_option linter.unusedSimpArgs false
namespace Go.Proofs.YtaaikbbgbnbmkaaDoor
open Go.RowKit

set_option maxHeartbeats 16000000 in
set_option maxRecDepth 100000 in
theorem says11_law (s t : ByteArray) (w : World) (hm : MaxLen w) (hr : Roots w) : Calls Tryd.prog 3 #[.string s, .string t] w (Ret9 w (.bool true)) := by
  have HM := Lib.hid hm
  have HR := Lib.hid hr
  have E : Hid (Below w.heap.size w w) := Below.refl _ _
  clear hm hr
  rcases Nat.lt_or_ge 300 s.size with hs | hs
  · have ds : decide ((300 : Int) < (s.size : Int)) = true := decide_eq_true (by omega)
    go_enter Tryd.func3, Tryd.ntmps3
    go_wp2_with fail
    refine (awake11 _ (HM.out.on E.out) (HR.out.on E.out)).mono ?_; rintro e w1 ⟨rfl, hb⟩; replace E := Lib.hid (E.out.trans (hb.mono E.out.size)); clear hb
    go_wp2_with fail
    go_ret
    exact ⟨rfl, E.out⟩
  have ds : decide ((300 : Int) < (s.size : Int)) = false := decide_eq_false (by omega)
  have ms : s.size ≤ 1000000 := by omega
  rcases Nat.lt_or_ge 300 t.size with ht | ht
  · have dt : decide ((300 : Int) < (t.size : Int)) = true := decide_eq_true (by omega)
    go_enter Tryd.func3, Tryd.ntmps3
    go_wp2_with fail
    refine (awake11 _ (HM.out.on E.out) (HR.out.on E.out)).mono ?_; rintro e w1 ⟨rfl, hb⟩; replace E := Lib.hid (E.out.trans (hb.mono E.out.size)); clear hb
    go_wp2_with fail
    go_ret
    exact ⟨rfl, E.out⟩
  have dt : decide ((300 : Int) < (t.size : Int)) = false := decide_eq_false (by omega)
  have mt : t.size ≤ 1000000 := by omega
  obtain ⟨r1, hr1⟩ : ∃ r, accB (bs9 s) = r := ⟨_, rfl⟩
  have Hr1 := Lib.hid hr1
  clear hr1
  obtain ⟨r2, hr2⟩ : ∃ r, curB (bs9 s) = r := ⟨_, rfl⟩
  have Hr2 := Lib.hid hr2
  clear hr2
  obtain ⟨r3, hr3⟩ : ∃ r, tagB (bs9 s) = r := ⟨_, rfl⟩
  have Hr3 := Lib.hid hr3
  clear hr3
  obtain ⟨r4, hr4⟩ : ∃ r, keyB (bs9 s) = r := ⟨_, rfl⟩
  have Hr4 := Lib.hid hr4
  clear hr4
  obtain ⟨r5, hr5⟩ := ub_any (bs9 s) (bs9 t)
  have Hr5 := Lib.hid hr5
  clear hr5
  obtain ⟨X, hX, _⟩ := ex_parent s
  have HX := Lib.hid hX
  clear hX
  obtain ⟨Y, hY, _⟩ := ex_leaf s
  have HY := Lib.hid hY
  clear hY
  obtain ⟨z1, hz1⟩ : ∃ r, dep (bs9 s) = r := ⟨_, rfl⟩
  have Hz1 := Lib.hid hz1
  clear hz1
  obtain ⟨z2, hz2⟩ : ∃ r, rot (bs9 s) = r := ⟨_, rfl⟩
  have Hz2 := Lib.hid hz2
  clear hz2
  obtain ⟨n, hn⟩ : ∃ n, (prt (bs9 s)).length = n := ⟨_, rfl⟩
  have HN := Lib.hid hn
  clear hn
  go_enter Tryd.func3, Tryd.ntmps3
  go_wp2_with fail
  refine (parts_any _ _ ms (HM.out.on E.out)).mono ?_; rintro e w1 ⟨A, c, rfl, hp, hb⟩; replace E := Lib.hid (E.out.trans (hb.mono E.out.size)); clear hb
  rw [HN.out] at hp ⊢
  have R1 := Lib.hid hp
  clear hp
  go_wp2_with fail
  refine (refparts_any _ _ ms).mono ?_; rintro e w2 ⟨B, c2, rfl, hp, hb⟩; replace E := Lib.hid (E.out.trans (hb.mono E.out.size)); replace R1 := Lib.hid (R1.out.on hb); clear hb
  rw [HN.out] at hp ⊢
  have R2 := Lib.hid hp
  clear hp
  have hn9 : n ≤ 9223372036854775807 := by obtain ⟨_, q1, q2, _⟩ := R1.out; exact Nat.le_trans q1 q2
  go_wp2_with fail
  go_loopw [28] (fun iv wr => ∃ i : Nat, iv = .int .i64 i ∧ i ≤ n ∧ RdP wr A n c (prt (bs9 s)) ∧ RdP wr B n c2 (prt (bs9 s)) ∧ Below w.heap.size w wr) (fun iv _ => n - (intOf iv).toNat)
  case atStart => exact ⟨0, rfl, Nat.zero_le _, R1.out, R2.out, E.out⟩
  case round =>
    obtain ⟨i, rfl, hi, h1, h2, hb⟩ := hrel
    clear R1 R2 E
    have R1 := Lib.hid h1
    have R2 := Lib.hid h2
    have E := Lib.hid hb
    clear h1 h2 hb
    rcases Nat.lt_or_ge i n with hlt | hge
    · obtain ⟨p1, o1, rfl, q1, q2, q3, t1, q4, q5⟩ := R1.out.at_ (k := i) hlt
      obtain ⟨p2, o2, rfl, y1, y2, y3, t2, y4, y5⟩ := R2.out.at_ (k := i) hlt
      rw [q4] at y4
      obtain rfl := Option.some.inj y4
      generalize st9 t1 = Q at q5 y5
      clear q2 y2 q4 y4
      go_wp2_with fail
      go_quiet (fail)
      go_wp2_with fail
      go_roundw
      case rel => exact ⟨i + 1, by go_num, by omega, R1.out.on (below_drewN _ _), R2.out.on (below_drewN _ _), E.out.trans ((below_drewN _ _).mono E.out.size)⟩
      case measure => simp [intOf] <;> omega
    · clear R1 R2
      go_wp2_with fail
      refine (account_is Hr1.out ms (HM.out.on E.out) (HR.out.on E.out)).mono ?_; rintro e w1 ⟨rfl, hb⟩; replace E := Lib.hid (E.out.trans (hb.mono E.out.size)); clear hb
      go_wp2_with fail
      refine (refaccount_is Hr1.out ms _).mono ?_; rintro e w1 ⟨rfl, hb⟩; replace E := Lib.hid (E.out.trans (hb.mono E.out.size)); clear hb
      go_wp2_with fail
      refine (q9 (currency_is Hr2.out ms _)).mono ?_; rintro e w1 ⟨rfl, hb⟩; replace E := Lib.hid (E.out.trans (hb.mono E.out.size)); clear hb
      go_wp2_with fail
      refine (q9 (refcurrency_is Hr2.out ms _)).mono ?_; rintro e w1 ⟨rfl, hb⟩; replace E := Lib.hid (E.out.trans (hb.mono E.out.size)); clear hb
      go_wp2_with fail
      refine (q9 (tag_is Hr3.out ms _)).mono ?_; rintro e w1 ⟨rfl, hb⟩; replace E := Lib.hid (E.out.trans (hb.mono E.out.size)); clear hb
      go_wp2_with fail
      refine (q9 (reftag_is Hr3.out ms _)).mono ?_; rintro e w1 ⟨rfl, hb⟩; replace E := Lib.hid (E.out.trans (hb.mono E.out.size)); clear hb
      go_wp2_with fail
      refine (q9 (key_is Hr4.out ms _)).mono ?_; rintro e w1 ⟨rfl, hb⟩; replace E := Lib.hid (E.out.trans (hb.mono E.out.size)); clear hb
      go_wp2_with fail
      refine (q9 (refkey_is Hr4.out ms _)).mono ?_; rintro e w1 ⟨rfl, hb⟩; replace E := Lib.hid (E.out.trans (hb.mono E.out.size)); clear hb
      go_wp2_with fail
      refine (q9 (under_is Hr5.out ms mt _)).mono ?_; rintro e w1 ⟨rfl, hb⟩; replace E := Lib.hid (E.out.trans (hb.mono E.out.size)); clear hb
      go_wp2_with fail
      refine (q9 (refunder_is Hr5.out ms mt _)).mono ?_; rintro e w1 ⟨rfl, hb⟩; replace E := Lib.hid (E.out.trans (hb.mono E.out.size)); clear hb
      go_wp2_with fail
      refine (q9 (parent_is HX.out ms _)).mono ?_; rintro e w1 ⟨rfl, hb⟩; replace E := Lib.hid (E.out.trans (hb.mono E.out.size)); clear hb
      go_wp2_with fail
      refine (q9 (refparent_is HX.out ms _)).mono ?_; rintro e w1 ⟨rfl, hb⟩; replace E := Lib.hid (E.out.trans (hb.mono E.out.size)); clear hb
      go_wp2_with fail
      refine (q9 (depth_is Hz1.out ms _)).mono ?_; rintro e w1 ⟨rfl, hb⟩; replace E := Lib.hid (E.out.trans (hb.mono E.out.size)); clear hb
      go_wp2_with fail
      refine (refdepth_is Hz1.out ms _).mono ?_; rintro e w1 ⟨rfl, hb⟩; replace E := Lib.hid (E.out.trans (hb.mono E.out.size)); clear hb
      go_wp2_with fail
      refine (q9 (leaf_is HY.out ms _)).mono ?_; rintro e w1 ⟨rfl, hb⟩; replace E := Lib.hid (E.out.trans (hb.mono E.out.size)); clear hb
      go_wp2_with fail
      refine (refleaf_is HY.out ms _).mono ?_; rintro e w1 ⟨rfl, hb⟩; replace E := Lib.hid (E.out.trans (hb.mono E.out.size)); clear hb
      go_wp2_with fail
      refine (root_is Hz2.out ms (HM.out.on E.out) (HR.out.on E.out)).mono ?_; rintro e w1 ⟨rfl, hb⟩; replace E := Lib.hid (E.out.trans (hb.mono E.out.size)); clear hb
      go_wp2_with fail
      refine (refroot_is Hz2.out ms _).mono ?_; rintro e w1 ⟨rfl, hb⟩; replace E := Lib.hid (E.out.trans (hb.mono E.out.size)); clear hb
      go_wp2_with fail
      refine (awake11 _ (HM.out.on E.out) (HR.out.on E.out)).mono ?_; rintro e w1 ⟨rfl, hb⟩; replace E := Lib.hid (E.out.trans (hb.mono E.out.size)); clear hb
      go_wp2_with fail
      go_ret
      exact ⟨rfl, E.out⟩

end Go.Proofs.YtaaikbbgbnbmkaaDoor
