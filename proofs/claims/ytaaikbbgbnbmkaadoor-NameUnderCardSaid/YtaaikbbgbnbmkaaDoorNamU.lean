/-
  NameUnder answers true.
-/
import Derived.Test.YtaaikbbgbnbmkaaDoorNamO
set_option linter.unusedVariables false
set_option linter.unusedSimpArgs false
namespace Go.Proofs.YtaaikbbgbnbmkaaDoor
open Go.RowKit

theorem und_depth {a b : List Nat} (h : Und a b) : dep b ≤ dep a := by
  rcases h with rfl | rfl | ⟨u, rfl⟩
  · exact Nat.zero_le _
  · exact Nat.le_refl _
  · unfold dep
    rw [if_neg (show b ++ 58 :: u ≠ [] by simp), List.count_append, List.count_cons_self]
    split <;> omega
theorem dep_two {a : List Nat} (h : 2 ≤ dep a) : a = prl a ++ 58 :: lfl a ∧ Und a (prl a) ∧ (prl a ≠ [] → dep (prl a) + 1 = dep a) := by
  rcases last_or a with ⟨h1, _, _⟩ | ⟨h1, h2⟩
  · exfalso
    unfold dep at h
    rw [List.count_eq_zero.2 h1] at h
    split at h <;> omega
  · refine ⟨h1, .inr (.inr ⟨_, h1⟩), fun hne => ?_⟩
    have e := congrArg (List.count 58) h1
    rw [List.count_append, List.count_cons_self, List.count_eq_zero.2 h2] at e
    unfold dep
    rw [if_neg hne, if_neg (fun e => by rw [e] at h1; simp at h1), e]
theorem dep_one {a : List Nat} (h : dep a < 2) : prl a = [] ∧ lfl a = a := by
  rcases last_or a with ⟨_, h1, h2⟩ | ⟨h1, _⟩
  · exact ⟨h1, h2⟩
  · exfalso
    have e := congrArg (List.count 58) h1
    rw [List.count_append, List.count_cons_self] at e
    unfold dep at h
    rw [if_neg (fun e => by rw [e] at h1; simp at h1)] at h
    omega

set_option maxHeartbeats 16000000 in
set_option maxRecDepth 100000 in
theorem under11_law (a b c : ByteArray) (w : World) (hm : MaxLen w) (hr : Roots w) : Calls Tryd.prog 4 #[.string a, .string b, .string c] w (Ret9 w (.bool true)) := by
  have HM := Lib.hid hm
  have HR := Lib.hid hr
  have E : Hid (Below w.heap.size w w) := Below.refl _ _
  clear hm hr
  rcases Nat.lt_or_ge 300 a.size with ha | ha
  · have da : decide ((300 : Int) < (a.size : Int)) = true := decide_eq_true (by omega)
    go_enter Tryd.func4, Tryd.ntmps4
    go_wp2_with fail
    refine (awake11 _ (HM.out.on E.out) (HR.out.on E.out)).mono ?_; rintro e w1 ⟨rfl, hb⟩; replace E := Lib.hid (E.out.trans (hb.mono E.out.size)); clear hb
    go_wp2_with fail
    go_ret
    exact ⟨rfl, E.out⟩
  have da : decide ((300 : Int) < (a.size : Int)) = false := decide_eq_false (by omega)
  have ma : a.size ≤ 1000000 := by omega
  rcases Nat.lt_or_ge 300 b.size with hb | hb
  · have db : decide ((300 : Int) < (b.size : Int)) = true := decide_eq_true (by omega)
    go_enter Tryd.func4, Tryd.ntmps4
    go_wp2_with fail
    refine (awake11 _ (HM.out.on E.out) (HR.out.on E.out)).mono ?_; rintro e w1 ⟨rfl, hb⟩; replace E := Lib.hid (E.out.trans (hb.mono E.out.size)); clear hb
    go_wp2_with fail
    go_ret
    exact ⟨rfl, E.out⟩
  have db : decide ((300 : Int) < (b.size : Int)) = false := decide_eq_false (by omega)
  have mb : b.size ≤ 1000000 := by omega
  rcases Nat.lt_or_ge 300 c.size with hc | hc
  · have dc : decide ((300 : Int) < (c.size : Int)) = true := decide_eq_true (by omega)
    go_enter Tryd.func4, Tryd.ntmps4
    go_wp2_with fail
    refine (awake11 _ (HM.out.on E.out) (HR.out.on E.out)).mono ?_; rintro e w1 ⟨rfl, hb⟩; replace E := Lib.hid (E.out.trans (hb.mono E.out.size)); clear hb
    go_wp2_with fail
    go_ret
    exact ⟨rfl, E.out⟩
  have dc : decide ((300 : Int) < (c.size : Int)) = false := decide_eq_false (by omega)
  have mc : c.size ≤ 1000000 := by omega
  have UAA : Hid (UB (bs9 a) (bs9 a) true) := ⟨fun _ => rfl, fun _ => und_self _⟩
  obtain ⟨uab, hab⟩ := ub_any (bs9 a) (bs9 b)
  have Uab := Lib.hid hab
  clear hab
  obtain ⟨ubc, hbc⟩ := ub_any (bs9 b) (bs9 c)
  have Ubc := Lib.hid hbc
  clear hbc
  obtain ⟨uac, hac⟩ := ub_any (bs9 a) (bs9 c)
  have Uac := Lib.hid hac
  clear hac
  obtain ⟨uba, hba⟩ := ub_any (bs9 b) (bs9 a)
  have Uba := Lib.hid hba
  clear hba
  obtain ⟨da, hda⟩ : ∃ d, dep (bs9 a) = d := ⟨_, rfl⟩
  have DA := Lib.hid hda
  clear hda
  obtain ⟨db, hdb⟩ : ∃ d, dep (bs9 b) = d := ⟨_, rfl⟩
  have DB := Lib.hid hdb
  clear hdb
  obtain ⟨X, hX, hXs⟩ := ex_parent a
  have HX := Lib.hid hX
  clear hX
  have mX : X.size ≤ 1000000 := by omega
  obtain ⟨Y, hY, hYs⟩ := ex_leaf a
  have HY := Lib.hid hY
  clear hY
  obtain ⟨dx, hdx⟩ : ∃ d, dep (bs9 X) = d := ⟨_, rfl⟩
  have DX := Lib.hid hdx
  clear hdx
  have TR : Hid (uab = true → ubc = true → uac = true) := fun h1 h2 => Uac.out.1 (by
    rcases und_trans (Uab.out.2 h1) (Ubc.out.2 h2) with k | ⟨k1, k2⟩
    · exact k
    · exact absurd (und_nil (k1 ▸ Ubc.out.2 h2)) k2)
  have AN : Hid (uab = true → uba = true → a = b) := fun h1 h2 => bs9_inj (und_anti (Uab.out.2 h1) (Uba.out.2 h2))
  have DP : Hid (uab = true → db ≤ da) := fun h1 => by rw [← DA.out, ← DB.out]; exact und_depth (Uab.out.2 h1)
  have TWO : Hid (2 ≤ da → (Und (bs9 a) (bs9 X) ∧ bs9 a = bs9 X ++ 58 :: bs9 Y) ∧ (X.size ≠ 0 → dx + 1 = da)) := fun h => by
    rw [← DA.out] at h
    obtain ⟨k1, k2, k3⟩ := dep_two h
    rw [HX.out] at k1 k2 k3
    rw [HY.out] at k1
    exact ⟨⟨k2, k1⟩, fun h0 => by rw [← DX.out, ← DA.out]; exact k3 (fun e => h0 (by rw [← bs9_len X, e]; rfl))⟩
  have ONE : Hid (da < 2 → X.size = 0 ∧ Y = a) := fun h => by
    rw [← DA.out] at h
    obtain ⟨k1, k2⟩ := dep_one h
    rw [HX.out] at k1
    rw [HY.out] at k2
    exact ⟨by rw [← bs9_len X, k1]; rfl, bs9_inj k2⟩
  cases uab with
  | false =>
    rcases Nat.lt_or_ge da 2 with h2 | h2
    · obtain ⟨hx0, hya⟩ := ONE.out h2
      have e2 : decide ((2 : Int) ≤ (da : Int)) = false := decide_eq_false (by omega)
      have e3 := str_emp hx0
      have HY2 : Hid (lfl (bs9 a) = bs9 a) := by show _ = _; rw [HY.out, hya]
      clear hx0 hya h2
      go_enter Tryd.func4, Tryd.ntmps4
      go_wp2_with fail
      refine (q9 (under_is UAA.out ma ma _)).mono ?_; rintro e w1 ⟨rfl, hb⟩; replace E := Lib.hid (E.out.trans (hb.mono E.out.size)); clear hb
      go_wp2_with fail
      refine (q9 (under_is (b := false) Uab.out ma mb _)).mono ?_; rintro e w1 ⟨rfl, hb⟩; replace E := Lib.hid (E.out.trans (hb.mono E.out.size)); clear hb
      go_wp2_with fail
      refine (q9 (under_is (b := false) Uab.out ma mb _)).mono ?_; rintro e w1 ⟨rfl, hb⟩; replace E := Lib.hid (E.out.trans (hb.mono E.out.size)); clear hb
      go_wp2_with fail
      refine (q9 (under_is (b := false) Uab.out ma mb _)).mono ?_; rintro e w1 ⟨rfl, hb⟩; replace E := Lib.hid (E.out.trans (hb.mono E.out.size)); clear hb
      go_wp2_with fail
      refine (q9 (depth_is DA.out ma _)).mono ?_; rintro e w1 ⟨rfl, hb⟩; replace E := Lib.hid (E.out.trans (hb.mono E.out.size)); clear hb
      go_wp2_with fail
      refine (q9 (parent_is HX.out ma _)).mono ?_; rintro e w1 ⟨rfl, hb⟩; replace E := Lib.hid (E.out.trans (hb.mono E.out.size)); clear hb
      go_wp2_with fail
      refine (q9 (leaf_is HY2.out ma _)).mono ?_; rintro e w1 ⟨rfl, hb⟩; replace E := Lib.hid (E.out.trans (hb.mono E.out.size)); clear hb
      go_wp2_with fail
      refine (awake11 _ (HM.out.on E.out) (HR.out.on E.out)).mono ?_; rintro e w1 ⟨rfl, hb⟩; replace E := Lib.hid (E.out.trans (hb.mono E.out.size)); clear hb
      go_wp2_with fail
      go_ret
      exact ⟨rfl, E.out⟩
    · obtain ⟨⟨hx1, hx2⟩, hx3⟩ := TWO.out h2
      have e2 : decide ((2 : Int) ≤ (da : Int)) = true := decide_eq_true (by omega)
      have UX : Hid (UB (bs9 a) (bs9 X) true) := ⟨fun _ => rfl, fun _ => hx1⟩
      obtain ⟨Z, hZ⟩ : ∃ Z, X ++ ⟨#[58]⟩ = Z := ⟨_, rfl⟩
      have hZb : bs9 Z = bs9 X ++ [58] := by rw [← hZ, bs9_append]; rfl
      have hZs : Z.size ≤ 1000000 := by rw [← bs9_len Z, hZb, List.length_append, bs9_len]; show X.size + 1 ≤ _; omega
      have hadd : ∀ w, (Op.stringOp .add X ⟨#[58]⟩).run Tryd.prog w = .ok (.string Z) w := fun w => add9 hZb.symm (by show X.size + 1 ≤ _; omega) w
      have hadd2 : ∀ w, (Op.stringOp .add Z Y).run Tryd.prog w = .ok (.string a) w := fun w => add9 (by rw [hZb, hx2]; simp) (by omega) w
      clear hx1 hx2 hZ hZb
      rcases Nat.eq_zero_or_pos X.size with hx0 | hx0
      · have e3 := str_emp hx0
        clear hx3 h2 hx0
        go_enter Tryd.func4, Tryd.ntmps4
        go_wp2_with fail
        refine (q9 (under_is UAA.out ma ma _)).mono ?_; rintro e w1 ⟨rfl, hb⟩; replace E := Lib.hid (E.out.trans (hb.mono E.out.size)); clear hb
        go_wp2_with fail
        refine (q9 (under_is (b := false) Uab.out ma mb _)).mono ?_; rintro e w1 ⟨rfl, hb⟩; replace E := Lib.hid (E.out.trans (hb.mono E.out.size)); clear hb
        go_wp2_with fail
        refine (q9 (under_is (b := false) Uab.out ma mb _)).mono ?_; rintro e w1 ⟨rfl, hb⟩; replace E := Lib.hid (E.out.trans (hb.mono E.out.size)); clear hb
        go_wp2_with fail
        refine (q9 (under_is (b := false) Uab.out ma mb _)).mono ?_; rintro e w1 ⟨rfl, hb⟩; replace E := Lib.hid (E.out.trans (hb.mono E.out.size)); clear hb
        go_wp2_with fail
        refine (q9 (depth_is DA.out ma _)).mono ?_; rintro e w1 ⟨rfl, hb⟩; replace E := Lib.hid (E.out.trans (hb.mono E.out.size)); clear hb
        go_wp2_with fail
        refine (q9 (parent_is HX.out ma _)).mono ?_; rintro e w1 ⟨rfl, hb⟩; replace E := Lib.hid (E.out.trans (hb.mono E.out.size)); clear hb
        go_wp2_with fail
        refine (q9 (leaf_is HY.out ma _)).mono ?_; rintro e w1 ⟨rfl, hb⟩; replace E := Lib.hid (E.out.trans (hb.mono E.out.size)); clear hb
        go_wp2_with fail
        refine (q9 (parent_is HX.out ma _)).mono ?_; rintro e w1 ⟨rfl, hb⟩; replace E := Lib.hid (E.out.trans (hb.mono E.out.size)); clear hb
        go_wp2_with fail
        refine (q9 (under_is UX.out ma mX _)).mono ?_; rintro e w1 ⟨rfl, hb⟩; replace E := Lib.hid (E.out.trans (hb.mono E.out.size)); clear hb
        go_wp2_with fail
        refine (q9 (parent_is HX.out ma _)).mono ?_; rintro e w1 ⟨rfl, hb⟩; replace E := Lib.hid (E.out.trans (hb.mono E.out.size)); clear hb
        go_wp2_with fail
        refine (awake11 _ (HM.out.on E.out) (HR.out.on E.out)).mono ?_; rintro e w1 ⟨rfl, hb⟩; replace E := Lib.hid (E.out.trans (hb.mono E.out.size)); clear hb
        go_wp2_with fail
        go_ret
        exact ⟨rfl, E.out⟩
      · have e3 := str_ne hx0
        have e4 : (da : Int) - 1 = (dx : Int) := by have := hx3 (by omega); omega
        have e5 : ((dx : Int) == (dx : Int)) = true := beq_self_eq_true _
        have e6 : da ≤ 1000000 := by have := DA.out; unfold dep at this; have := List.count_le_length (a := 58) (l := bs9 a); rw [bs9_len] at this; split at * <;> omega
        clear hx3 h2 hx0
        go_enter Tryd.func4, Tryd.ntmps4
        go_wp2_with fail
        refine (q9 (under_is UAA.out ma ma _)).mono ?_; rintro e w1 ⟨rfl, hb⟩; replace E := Lib.hid (E.out.trans (hb.mono E.out.size)); clear hb
        go_wp2_with fail
        refine (q9 (under_is (b := false) Uab.out ma mb _)).mono ?_; rintro e w1 ⟨rfl, hb⟩; replace E := Lib.hid (E.out.trans (hb.mono E.out.size)); clear hb
        go_wp2_with fail
        refine (q9 (under_is (b := false) Uab.out ma mb _)).mono ?_; rintro e w1 ⟨rfl, hb⟩; replace E := Lib.hid (E.out.trans (hb.mono E.out.size)); clear hb
        go_wp2_with fail
        refine (q9 (under_is (b := false) Uab.out ma mb _)).mono ?_; rintro e w1 ⟨rfl, hb⟩; replace E := Lib.hid (E.out.trans (hb.mono E.out.size)); clear hb
        go_wp2_with fail
        refine (q9 (depth_is DA.out ma _)).mono ?_; rintro e w1 ⟨rfl, hb⟩; replace E := Lib.hid (E.out.trans (hb.mono E.out.size)); clear hb
        go_wp2_with fail
        refine (q9 (parent_is HX.out ma _)).mono ?_; rintro e w1 ⟨rfl, hb⟩; replace E := Lib.hid (E.out.trans (hb.mono E.out.size)); clear hb
        go_wp2_with fail
        refine (q9 (leaf_is HY.out ma _)).mono ?_; rintro e w1 ⟨rfl, hb⟩; replace E := Lib.hid (E.out.trans (hb.mono E.out.size)); clear hb
        go_wp2_with fail
        refine (q9 (parent_is HX.out ma _)).mono ?_; rintro e w1 ⟨rfl, hb⟩; replace E := Lib.hid (E.out.trans (hb.mono E.out.size)); clear hb
        go_wp2_with fail
        refine (q9 (under_is UX.out ma mX _)).mono ?_; rintro e w1 ⟨rfl, hb⟩; replace E := Lib.hid (E.out.trans (hb.mono E.out.size)); clear hb
        go_wp2_with fail
        refine (q9 (parent_is HX.out ma _)).mono ?_; rintro e w1 ⟨rfl, hb⟩; replace E := Lib.hid (E.out.trans (hb.mono E.out.size)); clear hb
        go_wp2_with fail
        refine (q9 (parent_is HX.out ma _)).mono ?_; rintro e w1 ⟨rfl, hb⟩; replace E := Lib.hid (E.out.trans (hb.mono E.out.size)); clear hb
        go_wp2_with fail
        refine (q9 (depth_is DX.out mX _)).mono ?_; rintro e w1 ⟨rfl, hb⟩; replace E := Lib.hid (E.out.trans (hb.mono E.out.size)); clear hb
        go_wp2_with fail
        refine (q9 (depth_is DA.out ma _)).mono ?_; rintro e w1 ⟨rfl, hb⟩; replace E := Lib.hid (E.out.trans (hb.mono E.out.size)); clear hb
        go_wp2_with fail
        refine (awake11 _ (HM.out.on E.out) (HR.out.on E.out)).mono ?_; rintro e w1 ⟨rfl, hb⟩; replace E := Lib.hid (E.out.trans (hb.mono E.out.size)); clear hb
        go_wp2_with fail
        go_ret
        exact ⟨rfl, E.out⟩
  | true =>
    have dd : decide ((da : Int) < (db : Int)) = false := decide_eq_false (by have := DP.out rfl; omega)
    have dd' : decide (da < db) = false := decide_eq_false (by have := DP.out rfl; omega)
    cases ubc with
    | false =>
      cases uba with
      | false =>
        rcases Nat.lt_or_ge da 2 with h2 | h2
        · obtain ⟨hx0, hya⟩ := ONE.out h2
          have e2 : decide ((2 : Int) ≤ (da : Int)) = false := decide_eq_false (by omega)
          have e3 := str_emp hx0
          have HY2 : Hid (lfl (bs9 a) = bs9 a) := by show _ = _; rw [HY.out, hya]
          clear hx0 hya h2
          go_enter Tryd.func4, Tryd.ntmps4
          go_wp2_with fail
          refine (q9 (under_is UAA.out ma ma _)).mono ?_; rintro e w1 ⟨rfl, hb⟩; replace E := Lib.hid (E.out.trans (hb.mono E.out.size)); clear hb
          go_wp2_with fail
          refine (q9 (under_is (b := true) Uab.out ma mb _)).mono ?_; rintro e w1 ⟨rfl, hb⟩; replace E := Lib.hid (E.out.trans (hb.mono E.out.size)); clear hb
          go_wp2_with fail
          refine (q9 (under_is (b := false) Ubc.out mb mc _)).mono ?_; rintro e w1 ⟨rfl, hb⟩; replace E := Lib.hid (E.out.trans (hb.mono E.out.size)); clear hb
          go_wp2_with fail
          refine (q9 (under_is (b := true) Uab.out ma mb _)).mono ?_; rintro e w1 ⟨rfl, hb⟩; replace E := Lib.hid (E.out.trans (hb.mono E.out.size)); clear hb
          go_wp2_with fail
          refine (q9 (under_is (b := false) Uba.out mb ma _)).mono ?_; rintro e w1 ⟨rfl, hb⟩; replace E := Lib.hid (E.out.trans (hb.mono E.out.size)); clear hb
          go_wp2_with fail
          refine (q9 (under_is (b := true) Uab.out ma mb _)).mono ?_; rintro e w1 ⟨rfl, hb⟩; replace E := Lib.hid (E.out.trans (hb.mono E.out.size)); clear hb
          go_wp2_with fail
          refine (q9 (depth_is DA.out ma _)).mono ?_; rintro e w1 ⟨rfl, hb⟩; replace E := Lib.hid (E.out.trans (hb.mono E.out.size)); clear hb
          go_wp2_with fail
          refine (q9 (depth_is DB.out mb _)).mono ?_; rintro e w1 ⟨rfl, hb⟩; replace E := Lib.hid (E.out.trans (hb.mono E.out.size)); clear hb
          go_wp2_with fail
          refine (q9 (depth_is DA.out ma _)).mono ?_; rintro e w1 ⟨rfl, hb⟩; replace E := Lib.hid (E.out.trans (hb.mono E.out.size)); clear hb
          go_wp2_with fail
          refine (q9 (parent_is HX.out ma _)).mono ?_; rintro e w1 ⟨rfl, hb⟩; replace E := Lib.hid (E.out.trans (hb.mono E.out.size)); clear hb
          go_wp2_with fail
          refine (q9 (leaf_is HY2.out ma _)).mono ?_; rintro e w1 ⟨rfl, hb⟩; replace E := Lib.hid (E.out.trans (hb.mono E.out.size)); clear hb
          go_wp2_with fail
          refine (awake11 _ (HM.out.on E.out) (HR.out.on E.out)).mono ?_; rintro e w1 ⟨rfl, hb⟩; replace E := Lib.hid (E.out.trans (hb.mono E.out.size)); clear hb
          go_wp2_with fail
          go_ret
          exact ⟨rfl, E.out⟩
        · obtain ⟨⟨hx1, hx2⟩, hx3⟩ := TWO.out h2
          have e2 : decide ((2 : Int) ≤ (da : Int)) = true := decide_eq_true (by omega)
          have UX : Hid (UB (bs9 a) (bs9 X) true) := ⟨fun _ => rfl, fun _ => hx1⟩
          obtain ⟨Z, hZ⟩ : ∃ Z, X ++ ⟨#[58]⟩ = Z := ⟨_, rfl⟩
          have hZb : bs9 Z = bs9 X ++ [58] := by rw [← hZ, bs9_append]; rfl
          have hZs : Z.size ≤ 1000000 := by rw [← bs9_len Z, hZb, List.length_append, bs9_len]; show X.size + 1 ≤ _; omega
          have hadd : ∀ w, (Op.stringOp .add X ⟨#[58]⟩).run Tryd.prog w = .ok (.string Z) w := fun w => add9 hZb.symm (by show X.size + 1 ≤ _; omega) w
          have hadd2 : ∀ w, (Op.stringOp .add Z Y).run Tryd.prog w = .ok (.string a) w := fun w => add9 (by rw [hZb, hx2]; simp) (by omega) w
          clear hx1 hx2 hZ hZb
          rcases Nat.eq_zero_or_pos X.size with hx0 | hx0
          · have e3 := str_emp hx0
            clear hx3 h2 hx0
            go_enter Tryd.func4, Tryd.ntmps4
            go_wp2_with fail
            refine (q9 (under_is UAA.out ma ma _)).mono ?_; rintro e w1 ⟨rfl, hb⟩; replace E := Lib.hid (E.out.trans (hb.mono E.out.size)); clear hb
            go_wp2_with fail
            refine (q9 (under_is (b := true) Uab.out ma mb _)).mono ?_; rintro e w1 ⟨rfl, hb⟩; replace E := Lib.hid (E.out.trans (hb.mono E.out.size)); clear hb
            go_wp2_with fail
            refine (q9 (under_is (b := false) Ubc.out mb mc _)).mono ?_; rintro e w1 ⟨rfl, hb⟩; replace E := Lib.hid (E.out.trans (hb.mono E.out.size)); clear hb
            go_wp2_with fail
            refine (q9 (under_is (b := true) Uab.out ma mb _)).mono ?_; rintro e w1 ⟨rfl, hb⟩; replace E := Lib.hid (E.out.trans (hb.mono E.out.size)); clear hb
            go_wp2_with fail
            refine (q9 (under_is (b := false) Uba.out mb ma _)).mono ?_; rintro e w1 ⟨rfl, hb⟩; replace E := Lib.hid (E.out.trans (hb.mono E.out.size)); clear hb
            go_wp2_with fail
            refine (q9 (under_is (b := true) Uab.out ma mb _)).mono ?_; rintro e w1 ⟨rfl, hb⟩; replace E := Lib.hid (E.out.trans (hb.mono E.out.size)); clear hb
            go_wp2_with fail
            refine (q9 (depth_is DA.out ma _)).mono ?_; rintro e w1 ⟨rfl, hb⟩; replace E := Lib.hid (E.out.trans (hb.mono E.out.size)); clear hb
            go_wp2_with fail
            refine (q9 (depth_is DB.out mb _)).mono ?_; rintro e w1 ⟨rfl, hb⟩; replace E := Lib.hid (E.out.trans (hb.mono E.out.size)); clear hb
            go_wp2_with fail
            refine (q9 (depth_is DA.out ma _)).mono ?_; rintro e w1 ⟨rfl, hb⟩; replace E := Lib.hid (E.out.trans (hb.mono E.out.size)); clear hb
            go_wp2_with fail
            refine (q9 (parent_is HX.out ma _)).mono ?_; rintro e w1 ⟨rfl, hb⟩; replace E := Lib.hid (E.out.trans (hb.mono E.out.size)); clear hb
            go_wp2_with fail
            refine (q9 (leaf_is HY.out ma _)).mono ?_; rintro e w1 ⟨rfl, hb⟩; replace E := Lib.hid (E.out.trans (hb.mono E.out.size)); clear hb
            go_wp2_with fail
            refine (q9 (parent_is HX.out ma _)).mono ?_; rintro e w1 ⟨rfl, hb⟩; replace E := Lib.hid (E.out.trans (hb.mono E.out.size)); clear hb
            go_wp2_with fail
            refine (q9 (under_is UX.out ma mX _)).mono ?_; rintro e w1 ⟨rfl, hb⟩; replace E := Lib.hid (E.out.trans (hb.mono E.out.size)); clear hb
            go_wp2_with fail
            refine (q9 (parent_is HX.out ma _)).mono ?_; rintro e w1 ⟨rfl, hb⟩; replace E := Lib.hid (E.out.trans (hb.mono E.out.size)); clear hb
            go_wp2_with fail
            refine (awake11 _ (HM.out.on E.out) (HR.out.on E.out)).mono ?_; rintro e w1 ⟨rfl, hb⟩; replace E := Lib.hid (E.out.trans (hb.mono E.out.size)); clear hb
            go_wp2_with fail
            go_ret
            exact ⟨rfl, E.out⟩
          · have e3 := str_ne hx0
            have e4 : (da : Int) - 1 = (dx : Int) := by have := hx3 (by omega); omega
            have e5 : ((dx : Int) == (dx : Int)) = true := beq_self_eq_true _
            have e6 : da ≤ 1000000 := by have := DA.out; unfold dep at this; have := List.count_le_length (a := 58) (l := bs9 a); rw [bs9_len] at this; split at * <;> omega
            clear hx3 h2 hx0
            go_enter Tryd.func4, Tryd.ntmps4
            go_wp2_with fail
            refine (q9 (under_is UAA.out ma ma _)).mono ?_; rintro e w1 ⟨rfl, hb⟩; replace E := Lib.hid (E.out.trans (hb.mono E.out.size)); clear hb
            go_wp2_with fail
            refine (q9 (under_is (b := true) Uab.out ma mb _)).mono ?_; rintro e w1 ⟨rfl, hb⟩; replace E := Lib.hid (E.out.trans (hb.mono E.out.size)); clear hb
            go_wp2_with fail
            refine (q9 (under_is (b := false) Ubc.out mb mc _)).mono ?_; rintro e w1 ⟨rfl, hb⟩; replace E := Lib.hid (E.out.trans (hb.mono E.out.size)); clear hb
            go_wp2_with fail
            refine (q9 (under_is (b := true) Uab.out ma mb _)).mono ?_; rintro e w1 ⟨rfl, hb⟩; replace E := Lib.hid (E.out.trans (hb.mono E.out.size)); clear hb
            go_wp2_with fail
            refine (q9 (under_is (b := false) Uba.out mb ma _)).mono ?_; rintro e w1 ⟨rfl, hb⟩; replace E := Lib.hid (E.out.trans (hb.mono E.out.size)); clear hb
            go_wp2_with fail
            refine (q9 (under_is (b := true) Uab.out ma mb _)).mono ?_; rintro e w1 ⟨rfl, hb⟩; replace E := Lib.hid (E.out.trans (hb.mono E.out.size)); clear hb
            go_wp2_with fail
            refine (q9 (depth_is DA.out ma _)).mono ?_; rintro e w1 ⟨rfl, hb⟩; replace E := Lib.hid (E.out.trans (hb.mono E.out.size)); clear hb
            go_wp2_with fail
            refine (q9 (depth_is DB.out mb _)).mono ?_; rintro e w1 ⟨rfl, hb⟩; replace E := Lib.hid (E.out.trans (hb.mono E.out.size)); clear hb
            go_wp2_with fail
            refine (q9 (depth_is DA.out ma _)).mono ?_; rintro e w1 ⟨rfl, hb⟩; replace E := Lib.hid (E.out.trans (hb.mono E.out.size)); clear hb
            go_wp2_with fail
            refine (q9 (parent_is HX.out ma _)).mono ?_; rintro e w1 ⟨rfl, hb⟩; replace E := Lib.hid (E.out.trans (hb.mono E.out.size)); clear hb
            go_wp2_with fail
            refine (q9 (leaf_is HY.out ma _)).mono ?_; rintro e w1 ⟨rfl, hb⟩; replace E := Lib.hid (E.out.trans (hb.mono E.out.size)); clear hb
            go_wp2_with fail
            refine (q9 (parent_is HX.out ma _)).mono ?_; rintro e w1 ⟨rfl, hb⟩; replace E := Lib.hid (E.out.trans (hb.mono E.out.size)); clear hb
            go_wp2_with fail
            refine (q9 (under_is UX.out ma mX _)).mono ?_; rintro e w1 ⟨rfl, hb⟩; replace E := Lib.hid (E.out.trans (hb.mono E.out.size)); clear hb
            go_wp2_with fail
            refine (q9 (parent_is HX.out ma _)).mono ?_; rintro e w1 ⟨rfl, hb⟩; replace E := Lib.hid (E.out.trans (hb.mono E.out.size)); clear hb
            go_wp2_with fail
            refine (q9 (parent_is HX.out ma _)).mono ?_; rintro e w1 ⟨rfl, hb⟩; replace E := Lib.hid (E.out.trans (hb.mono E.out.size)); clear hb
            go_wp2_with fail
            refine (q9 (depth_is DX.out mX _)).mono ?_; rintro e w1 ⟨rfl, hb⟩; replace E := Lib.hid (E.out.trans (hb.mono E.out.size)); clear hb
            go_wp2_with fail
            refine (q9 (depth_is DA.out ma _)).mono ?_; rintro e w1 ⟨rfl, hb⟩; replace E := Lib.hid (E.out.trans (hb.mono E.out.size)); clear hb
            go_wp2_with fail
            refine (awake11 _ (HM.out.on E.out) (HR.out.on E.out)).mono ?_; rintro e w1 ⟨rfl, hb⟩; replace E := Lib.hid (E.out.trans (hb.mono E.out.size)); clear hb
            go_wp2_with fail
            go_ret
            exact ⟨rfl, E.out⟩
      | true =>
        obtain rfl : a = b := AN.out rfl rfl
        rcases Nat.lt_or_ge da 2 with h2 | h2
        · obtain ⟨hx0, hya⟩ := ONE.out h2
          have e2 : decide ((2 : Int) ≤ (da : Int)) = false := decide_eq_false (by omega)
          have e3 := str_emp hx0
          have HY2 : Hid (lfl (bs9 a) = bs9 a) := by show _ = _; rw [HY.out, hya]
          clear hx0 hya h2
          go_enter Tryd.func4, Tryd.ntmps4
          go_wp2_with fail
          refine (q9 (under_is UAA.out ma ma _)).mono ?_; rintro e w1 ⟨rfl, hb⟩; replace E := Lib.hid (E.out.trans (hb.mono E.out.size)); clear hb
          go_wp2_with fail
          refine (q9 (under_is (b := true) Uab.out ma mb _)).mono ?_; rintro e w1 ⟨rfl, hb⟩; replace E := Lib.hid (E.out.trans (hb.mono E.out.size)); clear hb
          go_wp2_with fail
          refine (q9 (under_is (b := false) Ubc.out mb mc _)).mono ?_; rintro e w1 ⟨rfl, hb⟩; replace E := Lib.hid (E.out.trans (hb.mono E.out.size)); clear hb
          go_wp2_with fail
          refine (q9 (under_is (b := true) Uab.out ma mb _)).mono ?_; rintro e w1 ⟨rfl, hb⟩; replace E := Lib.hid (E.out.trans (hb.mono E.out.size)); clear hb
          go_wp2_with fail
          refine (q9 (under_is (b := true) Uba.out mb ma _)).mono ?_; rintro e w1 ⟨rfl, hb⟩; replace E := Lib.hid (E.out.trans (hb.mono E.out.size)); clear hb
          go_wp2_with fail
          refine (q9 (under_is (b := true) Uab.out ma mb _)).mono ?_; rintro e w1 ⟨rfl, hb⟩; replace E := Lib.hid (E.out.trans (hb.mono E.out.size)); clear hb
          go_wp2_with fail
          refine (q9 (depth_is DA.out ma _)).mono ?_; rintro e w1 ⟨rfl, hb⟩; replace E := Lib.hid (E.out.trans (hb.mono E.out.size)); clear hb
          go_wp2_with fail
          refine (q9 (depth_is DB.out mb _)).mono ?_; rintro e w1 ⟨rfl, hb⟩; replace E := Lib.hid (E.out.trans (hb.mono E.out.size)); clear hb
          go_wp2_with fail
          refine (q9 (depth_is DA.out ma _)).mono ?_; rintro e w1 ⟨rfl, hb⟩; replace E := Lib.hid (E.out.trans (hb.mono E.out.size)); clear hb
          go_wp2_with fail
          refine (q9 (parent_is HX.out ma _)).mono ?_; rintro e w1 ⟨rfl, hb⟩; replace E := Lib.hid (E.out.trans (hb.mono E.out.size)); clear hb
          go_wp2_with fail
          refine (q9 (leaf_is HY2.out ma _)).mono ?_; rintro e w1 ⟨rfl, hb⟩; replace E := Lib.hid (E.out.trans (hb.mono E.out.size)); clear hb
          go_wp2_with fail
          refine (awake11 _ (HM.out.on E.out) (HR.out.on E.out)).mono ?_; rintro e w1 ⟨rfl, hb⟩; replace E := Lib.hid (E.out.trans (hb.mono E.out.size)); clear hb
          go_wp2_with fail
          go_ret
          exact ⟨rfl, E.out⟩
        · obtain ⟨⟨hx1, hx2⟩, hx3⟩ := TWO.out h2
          have e2 : decide ((2 : Int) ≤ (da : Int)) = true := decide_eq_true (by omega)
          have UX : Hid (UB (bs9 a) (bs9 X) true) := ⟨fun _ => rfl, fun _ => hx1⟩
          obtain ⟨Z, hZ⟩ : ∃ Z, X ++ ⟨#[58]⟩ = Z := ⟨_, rfl⟩
          have hZb : bs9 Z = bs9 X ++ [58] := by rw [← hZ, bs9_append]; rfl
          have hZs : Z.size ≤ 1000000 := by rw [← bs9_len Z, hZb, List.length_append, bs9_len]; show X.size + 1 ≤ _; omega
          have hadd : ∀ w, (Op.stringOp .add X ⟨#[58]⟩).run Tryd.prog w = .ok (.string Z) w := fun w => add9 hZb.symm (by show X.size + 1 ≤ _; omega) w
          have hadd2 : ∀ w, (Op.stringOp .add Z Y).run Tryd.prog w = .ok (.string a) w := fun w => add9 (by rw [hZb, hx2]; simp) (by omega) w
          clear hx1 hx2 hZ hZb
          rcases Nat.eq_zero_or_pos X.size with hx0 | hx0
          · have e3 := str_emp hx0
            clear hx3 h2 hx0
            go_enter Tryd.func4, Tryd.ntmps4
            go_wp2_with fail
            refine (q9 (under_is UAA.out ma ma _)).mono ?_; rintro e w1 ⟨rfl, hb⟩; replace E := Lib.hid (E.out.trans (hb.mono E.out.size)); clear hb
            go_wp2_with fail
            refine (q9 (under_is (b := true) Uab.out ma mb _)).mono ?_; rintro e w1 ⟨rfl, hb⟩; replace E := Lib.hid (E.out.trans (hb.mono E.out.size)); clear hb
            go_wp2_with fail
            refine (q9 (under_is (b := false) Ubc.out mb mc _)).mono ?_; rintro e w1 ⟨rfl, hb⟩; replace E := Lib.hid (E.out.trans (hb.mono E.out.size)); clear hb
            go_wp2_with fail
            refine (q9 (under_is (b := true) Uab.out ma mb _)).mono ?_; rintro e w1 ⟨rfl, hb⟩; replace E := Lib.hid (E.out.trans (hb.mono E.out.size)); clear hb
            go_wp2_with fail
            refine (q9 (under_is (b := true) Uba.out mb ma _)).mono ?_; rintro e w1 ⟨rfl, hb⟩; replace E := Lib.hid (E.out.trans (hb.mono E.out.size)); clear hb
            go_wp2_with fail
            refine (q9 (under_is (b := true) Uab.out ma mb _)).mono ?_; rintro e w1 ⟨rfl, hb⟩; replace E := Lib.hid (E.out.trans (hb.mono E.out.size)); clear hb
            go_wp2_with fail
            refine (q9 (depth_is DA.out ma _)).mono ?_; rintro e w1 ⟨rfl, hb⟩; replace E := Lib.hid (E.out.trans (hb.mono E.out.size)); clear hb
            go_wp2_with fail
            refine (q9 (depth_is DB.out mb _)).mono ?_; rintro e w1 ⟨rfl, hb⟩; replace E := Lib.hid (E.out.trans (hb.mono E.out.size)); clear hb
            go_wp2_with fail
            refine (q9 (depth_is DA.out ma _)).mono ?_; rintro e w1 ⟨rfl, hb⟩; replace E := Lib.hid (E.out.trans (hb.mono E.out.size)); clear hb
            go_wp2_with fail
            refine (q9 (parent_is HX.out ma _)).mono ?_; rintro e w1 ⟨rfl, hb⟩; replace E := Lib.hid (E.out.trans (hb.mono E.out.size)); clear hb
            go_wp2_with fail
            refine (q9 (leaf_is HY.out ma _)).mono ?_; rintro e w1 ⟨rfl, hb⟩; replace E := Lib.hid (E.out.trans (hb.mono E.out.size)); clear hb
            go_wp2_with fail
            refine (q9 (parent_is HX.out ma _)).mono ?_; rintro e w1 ⟨rfl, hb⟩; replace E := Lib.hid (E.out.trans (hb.mono E.out.size)); clear hb
            go_wp2_with fail
            refine (q9 (under_is UX.out ma mX _)).mono ?_; rintro e w1 ⟨rfl, hb⟩; replace E := Lib.hid (E.out.trans (hb.mono E.out.size)); clear hb
            go_wp2_with fail
            refine (q9 (parent_is HX.out ma _)).mono ?_; rintro e w1 ⟨rfl, hb⟩; replace E := Lib.hid (E.out.trans (hb.mono E.out.size)); clear hb
            go_wp2_with fail
            refine (awake11 _ (HM.out.on E.out) (HR.out.on E.out)).mono ?_; rintro e w1 ⟨rfl, hb⟩; replace E := Lib.hid (E.out.trans (hb.mono E.out.size)); clear hb
            go_wp2_with fail
            go_ret
            exact ⟨rfl, E.out⟩
          · have e3 := str_ne hx0
            have e4 : (da : Int) - 1 = (dx : Int) := by have := hx3 (by omega); omega
            have e5 : ((dx : Int) == (dx : Int)) = true := beq_self_eq_true _
            have e6 : da ≤ 1000000 := by have := DA.out; unfold dep at this; have := List.count_le_length (a := 58) (l := bs9 a); rw [bs9_len] at this; split at * <;> omega
            clear hx3 h2 hx0
            go_enter Tryd.func4, Tryd.ntmps4
            go_wp2_with fail
            refine (q9 (under_is UAA.out ma ma _)).mono ?_; rintro e w1 ⟨rfl, hb⟩; replace E := Lib.hid (E.out.trans (hb.mono E.out.size)); clear hb
            go_wp2_with fail
            refine (q9 (under_is (b := true) Uab.out ma mb _)).mono ?_; rintro e w1 ⟨rfl, hb⟩; replace E := Lib.hid (E.out.trans (hb.mono E.out.size)); clear hb
            go_wp2_with fail
            refine (q9 (under_is (b := false) Ubc.out mb mc _)).mono ?_; rintro e w1 ⟨rfl, hb⟩; replace E := Lib.hid (E.out.trans (hb.mono E.out.size)); clear hb
            go_wp2_with fail
            refine (q9 (under_is (b := true) Uab.out ma mb _)).mono ?_; rintro e w1 ⟨rfl, hb⟩; replace E := Lib.hid (E.out.trans (hb.mono E.out.size)); clear hb
            go_wp2_with fail
            refine (q9 (under_is (b := true) Uba.out mb ma _)).mono ?_; rintro e w1 ⟨rfl, hb⟩; replace E := Lib.hid (E.out.trans (hb.mono E.out.size)); clear hb
            go_wp2_with fail
            refine (q9 (under_is (b := true) Uab.out ma mb _)).mono ?_; rintro e w1 ⟨rfl, hb⟩; replace E := Lib.hid (E.out.trans (hb.mono E.out.size)); clear hb
            go_wp2_with fail
            refine (q9 (depth_is DA.out ma _)).mono ?_; rintro e w1 ⟨rfl, hb⟩; replace E := Lib.hid (E.out.trans (hb.mono E.out.size)); clear hb
            go_wp2_with fail
            refine (q9 (depth_is DB.out mb _)).mono ?_; rintro e w1 ⟨rfl, hb⟩; replace E := Lib.hid (E.out.trans (hb.mono E.out.size)); clear hb
            go_wp2_with fail
            refine (q9 (depth_is DA.out ma _)).mono ?_; rintro e w1 ⟨rfl, hb⟩; replace E := Lib.hid (E.out.trans (hb.mono E.out.size)); clear hb
            go_wp2_with fail
            refine (q9 (parent_is HX.out ma _)).mono ?_; rintro e w1 ⟨rfl, hb⟩; replace E := Lib.hid (E.out.trans (hb.mono E.out.size)); clear hb
            go_wp2_with fail
            refine (q9 (leaf_is HY.out ma _)).mono ?_; rintro e w1 ⟨rfl, hb⟩; replace E := Lib.hid (E.out.trans (hb.mono E.out.size)); clear hb
            go_wp2_with fail
            refine (q9 (parent_is HX.out ma _)).mono ?_; rintro e w1 ⟨rfl, hb⟩; replace E := Lib.hid (E.out.trans (hb.mono E.out.size)); clear hb
            go_wp2_with fail
            refine (q9 (under_is UX.out ma mX _)).mono ?_; rintro e w1 ⟨rfl, hb⟩; replace E := Lib.hid (E.out.trans (hb.mono E.out.size)); clear hb
            go_wp2_with fail
            refine (q9 (parent_is HX.out ma _)).mono ?_; rintro e w1 ⟨rfl, hb⟩; replace E := Lib.hid (E.out.trans (hb.mono E.out.size)); clear hb
            go_wp2_with fail
            refine (q9 (parent_is HX.out ma _)).mono ?_; rintro e w1 ⟨rfl, hb⟩; replace E := Lib.hid (E.out.trans (hb.mono E.out.size)); clear hb
            go_wp2_with fail
            refine (q9 (depth_is DX.out mX _)).mono ?_; rintro e w1 ⟨rfl, hb⟩; replace E := Lib.hid (E.out.trans (hb.mono E.out.size)); clear hb
            go_wp2_with fail
            refine (q9 (depth_is DA.out ma _)).mono ?_; rintro e w1 ⟨rfl, hb⟩; replace E := Lib.hid (E.out.trans (hb.mono E.out.size)); clear hb
            go_wp2_with fail
            refine (awake11 _ (HM.out.on E.out) (HR.out.on E.out)).mono ?_; rintro e w1 ⟨rfl, hb⟩; replace E := Lib.hid (E.out.trans (hb.mono E.out.size)); clear hb
            go_wp2_with fail
            go_ret
            exact ⟨rfl, E.out⟩
    | true =>
      obtain rfl : uac = true := TR.out rfl rfl
      cases uba with
      | false =>
        rcases Nat.lt_or_ge da 2 with h2 | h2
        · obtain ⟨hx0, hya⟩ := ONE.out h2
          have e2 : decide ((2 : Int) ≤ (da : Int)) = false := decide_eq_false (by omega)
          have e3 := str_emp hx0
          have HY2 : Hid (lfl (bs9 a) = bs9 a) := by show _ = _; rw [HY.out, hya]
          clear hx0 hya h2
          go_enter Tryd.func4, Tryd.ntmps4
          go_wp2_with fail
          refine (q9 (under_is UAA.out ma ma _)).mono ?_; rintro e w1 ⟨rfl, hb⟩; replace E := Lib.hid (E.out.trans (hb.mono E.out.size)); clear hb
          go_wp2_with fail
          refine (q9 (under_is (b := true) Uab.out ma mb _)).mono ?_; rintro e w1 ⟨rfl, hb⟩; replace E := Lib.hid (E.out.trans (hb.mono E.out.size)); clear hb
          go_wp2_with fail
          refine (q9 (under_is (b := true) Ubc.out mb mc _)).mono ?_; rintro e w1 ⟨rfl, hb⟩; replace E := Lib.hid (E.out.trans (hb.mono E.out.size)); clear hb
          go_wp2_with fail
          refine (q9 (under_is (b := true) Uac.out ma mc _)).mono ?_; rintro e w1 ⟨rfl, hb⟩; replace E := Lib.hid (E.out.trans (hb.mono E.out.size)); clear hb
          go_wp2_with fail
          refine (q9 (under_is (b := true) Uab.out ma mb _)).mono ?_; rintro e w1 ⟨rfl, hb⟩; replace E := Lib.hid (E.out.trans (hb.mono E.out.size)); clear hb
          go_wp2_with fail
          refine (q9 (under_is (b := false) Uba.out mb ma _)).mono ?_; rintro e w1 ⟨rfl, hb⟩; replace E := Lib.hid (E.out.trans (hb.mono E.out.size)); clear hb
          go_wp2_with fail
          refine (q9 (under_is (b := true) Uab.out ma mb _)).mono ?_; rintro e w1 ⟨rfl, hb⟩; replace E := Lib.hid (E.out.trans (hb.mono E.out.size)); clear hb
          go_wp2_with fail
          refine (q9 (depth_is DA.out ma _)).mono ?_; rintro e w1 ⟨rfl, hb⟩; replace E := Lib.hid (E.out.trans (hb.mono E.out.size)); clear hb
          go_wp2_with fail
          refine (q9 (depth_is DB.out mb _)).mono ?_; rintro e w1 ⟨rfl, hb⟩; replace E := Lib.hid (E.out.trans (hb.mono E.out.size)); clear hb
          go_wp2_with fail
          refine (q9 (depth_is DA.out ma _)).mono ?_; rintro e w1 ⟨rfl, hb⟩; replace E := Lib.hid (E.out.trans (hb.mono E.out.size)); clear hb
          go_wp2_with fail
          refine (q9 (parent_is HX.out ma _)).mono ?_; rintro e w1 ⟨rfl, hb⟩; replace E := Lib.hid (E.out.trans (hb.mono E.out.size)); clear hb
          go_wp2_with fail
          refine (q9 (leaf_is HY2.out ma _)).mono ?_; rintro e w1 ⟨rfl, hb⟩; replace E := Lib.hid (E.out.trans (hb.mono E.out.size)); clear hb
          go_wp2_with fail
          refine (awake11 _ (HM.out.on E.out) (HR.out.on E.out)).mono ?_; rintro e w1 ⟨rfl, hb⟩; replace E := Lib.hid (E.out.trans (hb.mono E.out.size)); clear hb
          go_wp2_with fail
          go_ret
          exact ⟨rfl, E.out⟩
        · obtain ⟨⟨hx1, hx2⟩, hx3⟩ := TWO.out h2
          have e2 : decide ((2 : Int) ≤ (da : Int)) = true := decide_eq_true (by omega)
          have UX : Hid (UB (bs9 a) (bs9 X) true) := ⟨fun _ => rfl, fun _ => hx1⟩
          obtain ⟨Z, hZ⟩ : ∃ Z, X ++ ⟨#[58]⟩ = Z := ⟨_, rfl⟩
          have hZb : bs9 Z = bs9 X ++ [58] := by rw [← hZ, bs9_append]; rfl
          have hZs : Z.size ≤ 1000000 := by rw [← bs9_len Z, hZb, List.length_append, bs9_len]; show X.size + 1 ≤ _; omega
          have hadd : ∀ w, (Op.stringOp .add X ⟨#[58]⟩).run Tryd.prog w = .ok (.string Z) w := fun w => add9 hZb.symm (by show X.size + 1 ≤ _; omega) w
          have hadd2 : ∀ w, (Op.stringOp .add Z Y).run Tryd.prog w = .ok (.string a) w := fun w => add9 (by rw [hZb, hx2]; simp) (by omega) w
          clear hx1 hx2 hZ hZb
          rcases Nat.eq_zero_or_pos X.size with hx0 | hx0
          · have e3 := str_emp hx0
            clear hx3 h2 hx0
            go_enter Tryd.func4, Tryd.ntmps4
            go_wp2_with fail
            refine (q9 (under_is UAA.out ma ma _)).mono ?_; rintro e w1 ⟨rfl, hb⟩; replace E := Lib.hid (E.out.trans (hb.mono E.out.size)); clear hb
            go_wp2_with fail
            refine (q9 (under_is (b := true) Uab.out ma mb _)).mono ?_; rintro e w1 ⟨rfl, hb⟩; replace E := Lib.hid (E.out.trans (hb.mono E.out.size)); clear hb
            go_wp2_with fail
            refine (q9 (under_is (b := true) Ubc.out mb mc _)).mono ?_; rintro e w1 ⟨rfl, hb⟩; replace E := Lib.hid (E.out.trans (hb.mono E.out.size)); clear hb
            go_wp2_with fail
            refine (q9 (under_is (b := true) Uac.out ma mc _)).mono ?_; rintro e w1 ⟨rfl, hb⟩; replace E := Lib.hid (E.out.trans (hb.mono E.out.size)); clear hb
            go_wp2_with fail
            refine (q9 (under_is (b := true) Uab.out ma mb _)).mono ?_; rintro e w1 ⟨rfl, hb⟩; replace E := Lib.hid (E.out.trans (hb.mono E.out.size)); clear hb
            go_wp2_with fail
            refine (q9 (under_is (b := false) Uba.out mb ma _)).mono ?_; rintro e w1 ⟨rfl, hb⟩; replace E := Lib.hid (E.out.trans (hb.mono E.out.size)); clear hb
            go_wp2_with fail
            refine (q9 (under_is (b := true) Uab.out ma mb _)).mono ?_; rintro e w1 ⟨rfl, hb⟩; replace E := Lib.hid (E.out.trans (hb.mono E.out.size)); clear hb
            go_wp2_with fail
            refine (q9 (depth_is DA.out ma _)).mono ?_; rintro e w1 ⟨rfl, hb⟩; replace E := Lib.hid (E.out.trans (hb.mono E.out.size)); clear hb
            go_wp2_with fail
            refine (q9 (depth_is DB.out mb _)).mono ?_; rintro e w1 ⟨rfl, hb⟩; replace E := Lib.hid (E.out.trans (hb.mono E.out.size)); clear hb
            go_wp2_with fail
            refine (q9 (depth_is DA.out ma _)).mono ?_; rintro e w1 ⟨rfl, hb⟩; replace E := Lib.hid (E.out.trans (hb.mono E.out.size)); clear hb
            go_wp2_with fail
            refine (q9 (parent_is HX.out ma _)).mono ?_; rintro e w1 ⟨rfl, hb⟩; replace E := Lib.hid (E.out.trans (hb.mono E.out.size)); clear hb
            go_wp2_with fail
            refine (q9 (leaf_is HY.out ma _)).mono ?_; rintro e w1 ⟨rfl, hb⟩; replace E := Lib.hid (E.out.trans (hb.mono E.out.size)); clear hb
            go_wp2_with fail
            refine (q9 (parent_is HX.out ma _)).mono ?_; rintro e w1 ⟨rfl, hb⟩; replace E := Lib.hid (E.out.trans (hb.mono E.out.size)); clear hb
            go_wp2_with fail
            refine (q9 (under_is UX.out ma mX _)).mono ?_; rintro e w1 ⟨rfl, hb⟩; replace E := Lib.hid (E.out.trans (hb.mono E.out.size)); clear hb
            go_wp2_with fail
            refine (q9 (parent_is HX.out ma _)).mono ?_; rintro e w1 ⟨rfl, hb⟩; replace E := Lib.hid (E.out.trans (hb.mono E.out.size)); clear hb
            go_wp2_with fail
            refine (awake11 _ (HM.out.on E.out) (HR.out.on E.out)).mono ?_; rintro e w1 ⟨rfl, hb⟩; replace E := Lib.hid (E.out.trans (hb.mono E.out.size)); clear hb
            go_wp2_with fail
            go_ret
            exact ⟨rfl, E.out⟩
          · have e3 := str_ne hx0
            have e4 : (da : Int) - 1 = (dx : Int) := by have := hx3 (by omega); omega
            have e5 : ((dx : Int) == (dx : Int)) = true := beq_self_eq_true _
            have e6 : da ≤ 1000000 := by have := DA.out; unfold dep at this; have := List.count_le_length (a := 58) (l := bs9 a); rw [bs9_len] at this; split at * <;> omega
            clear hx3 h2 hx0
            go_enter Tryd.func4, Tryd.ntmps4
            go_wp2_with fail
            refine (q9 (under_is UAA.out ma ma _)).mono ?_; rintro e w1 ⟨rfl, hb⟩; replace E := Lib.hid (E.out.trans (hb.mono E.out.size)); clear hb
            go_wp2_with fail
            refine (q9 (under_is (b := true) Uab.out ma mb _)).mono ?_; rintro e w1 ⟨rfl, hb⟩; replace E := Lib.hid (E.out.trans (hb.mono E.out.size)); clear hb
            go_wp2_with fail
            refine (q9 (under_is (b := true) Ubc.out mb mc _)).mono ?_; rintro e w1 ⟨rfl, hb⟩; replace E := Lib.hid (E.out.trans (hb.mono E.out.size)); clear hb
            go_wp2_with fail
            refine (q9 (under_is (b := true) Uac.out ma mc _)).mono ?_; rintro e w1 ⟨rfl, hb⟩; replace E := Lib.hid (E.out.trans (hb.mono E.out.size)); clear hb
            go_wp2_with fail
            refine (q9 (under_is (b := true) Uab.out ma mb _)).mono ?_; rintro e w1 ⟨rfl, hb⟩; replace E := Lib.hid (E.out.trans (hb.mono E.out.size)); clear hb
            go_wp2_with fail
            refine (q9 (under_is (b := false) Uba.out mb ma _)).mono ?_; rintro e w1 ⟨rfl, hb⟩; replace E := Lib.hid (E.out.trans (hb.mono E.out.size)); clear hb
            go_wp2_with fail
            refine (q9 (under_is (b := true) Uab.out ma mb _)).mono ?_; rintro e w1 ⟨rfl, hb⟩; replace E := Lib.hid (E.out.trans (hb.mono E.out.size)); clear hb
            go_wp2_with fail
            refine (q9 (depth_is DA.out ma _)).mono ?_; rintro e w1 ⟨rfl, hb⟩; replace E := Lib.hid (E.out.trans (hb.mono E.out.size)); clear hb
            go_wp2_with fail
            refine (q9 (depth_is DB.out mb _)).mono ?_; rintro e w1 ⟨rfl, hb⟩; replace E := Lib.hid (E.out.trans (hb.mono E.out.size)); clear hb
            go_wp2_with fail
            refine (q9 (depth_is DA.out ma _)).mono ?_; rintro e w1 ⟨rfl, hb⟩; replace E := Lib.hid (E.out.trans (hb.mono E.out.size)); clear hb
            go_wp2_with fail
            refine (q9 (parent_is HX.out ma _)).mono ?_; rintro e w1 ⟨rfl, hb⟩; replace E := Lib.hid (E.out.trans (hb.mono E.out.size)); clear hb
            go_wp2_with fail
            refine (q9 (leaf_is HY.out ma _)).mono ?_; rintro e w1 ⟨rfl, hb⟩; replace E := Lib.hid (E.out.trans (hb.mono E.out.size)); clear hb
            go_wp2_with fail
            refine (q9 (parent_is HX.out ma _)).mono ?_; rintro e w1 ⟨rfl, hb⟩; replace E := Lib.hid (E.out.trans (hb.mono E.out.size)); clear hb
            go_wp2_with fail
            refine (q9 (under_is UX.out ma mX _)).mono ?_; rintro e w1 ⟨rfl, hb⟩; replace E := Lib.hid (E.out.trans (hb.mono E.out.size)); clear hb
            go_wp2_with fail
            refine (q9 (parent_is HX.out ma _)).mono ?_; rintro e w1 ⟨rfl, hb⟩; replace E := Lib.hid (E.out.trans (hb.mono E.out.size)); clear hb
            go_wp2_with fail
            refine (q9 (parent_is HX.out ma _)).mono ?_; rintro e w1 ⟨rfl, hb⟩; replace E := Lib.hid (E.out.trans (hb.mono E.out.size)); clear hb
            go_wp2_with fail
            refine (q9 (depth_is DX.out mX _)).mono ?_; rintro e w1 ⟨rfl, hb⟩; replace E := Lib.hid (E.out.trans (hb.mono E.out.size)); clear hb
            go_wp2_with fail
            refine (q9 (depth_is DA.out ma _)).mono ?_; rintro e w1 ⟨rfl, hb⟩; replace E := Lib.hid (E.out.trans (hb.mono E.out.size)); clear hb
            go_wp2_with fail
            refine (awake11 _ (HM.out.on E.out) (HR.out.on E.out)).mono ?_; rintro e w1 ⟨rfl, hb⟩; replace E := Lib.hid (E.out.trans (hb.mono E.out.size)); clear hb
            go_wp2_with fail
            go_ret
            exact ⟨rfl, E.out⟩
      | true =>
        obtain rfl : a = b := AN.out rfl rfl
        rcases Nat.lt_or_ge da 2 with h2 | h2
        · obtain ⟨hx0, hya⟩ := ONE.out h2
          have e2 : decide ((2 : Int) ≤ (da : Int)) = false := decide_eq_false (by omega)
          have e3 := str_emp hx0
          have HY2 : Hid (lfl (bs9 a) = bs9 a) := by show _ = _; rw [HY.out, hya]
          clear hx0 hya h2
          go_enter Tryd.func4, Tryd.ntmps4
          go_wp2_with fail
          refine (q9 (under_is UAA.out ma ma _)).mono ?_; rintro e w1 ⟨rfl, hb⟩; replace E := Lib.hid (E.out.trans (hb.mono E.out.size)); clear hb
          go_wp2_with fail
          refine (q9 (under_is (b := true) Uab.out ma mb _)).mono ?_; rintro e w1 ⟨rfl, hb⟩; replace E := Lib.hid (E.out.trans (hb.mono E.out.size)); clear hb
          go_wp2_with fail
          refine (q9 (under_is (b := true) Ubc.out mb mc _)).mono ?_; rintro e w1 ⟨rfl, hb⟩; replace E := Lib.hid (E.out.trans (hb.mono E.out.size)); clear hb
          go_wp2_with fail
          refine (q9 (under_is (b := true) Uac.out ma mc _)).mono ?_; rintro e w1 ⟨rfl, hb⟩; replace E := Lib.hid (E.out.trans (hb.mono E.out.size)); clear hb
          go_wp2_with fail
          refine (q9 (under_is (b := true) Uab.out ma mb _)).mono ?_; rintro e w1 ⟨rfl, hb⟩; replace E := Lib.hid (E.out.trans (hb.mono E.out.size)); clear hb
          go_wp2_with fail
          refine (q9 (under_is (b := true) Uba.out mb ma _)).mono ?_; rintro e w1 ⟨rfl, hb⟩; replace E := Lib.hid (E.out.trans (hb.mono E.out.size)); clear hb
          go_wp2_with fail
          refine (q9 (under_is (b := true) Uab.out ma mb _)).mono ?_; rintro e w1 ⟨rfl, hb⟩; replace E := Lib.hid (E.out.trans (hb.mono E.out.size)); clear hb
          go_wp2_with fail
          refine (q9 (depth_is DA.out ma _)).mono ?_; rintro e w1 ⟨rfl, hb⟩; replace E := Lib.hid (E.out.trans (hb.mono E.out.size)); clear hb
          go_wp2_with fail
          refine (q9 (depth_is DB.out mb _)).mono ?_; rintro e w1 ⟨rfl, hb⟩; replace E := Lib.hid (E.out.trans (hb.mono E.out.size)); clear hb
          go_wp2_with fail
          refine (q9 (depth_is DA.out ma _)).mono ?_; rintro e w1 ⟨rfl, hb⟩; replace E := Lib.hid (E.out.trans (hb.mono E.out.size)); clear hb
          go_wp2_with fail
          refine (q9 (parent_is HX.out ma _)).mono ?_; rintro e w1 ⟨rfl, hb⟩; replace E := Lib.hid (E.out.trans (hb.mono E.out.size)); clear hb
          go_wp2_with fail
          refine (q9 (leaf_is HY2.out ma _)).mono ?_; rintro e w1 ⟨rfl, hb⟩; replace E := Lib.hid (E.out.trans (hb.mono E.out.size)); clear hb
          go_wp2_with fail
          refine (awake11 _ (HM.out.on E.out) (HR.out.on E.out)).mono ?_; rintro e w1 ⟨rfl, hb⟩; replace E := Lib.hid (E.out.trans (hb.mono E.out.size)); clear hb
          go_wp2_with fail
          go_ret
          exact ⟨rfl, E.out⟩
        · obtain ⟨⟨hx1, hx2⟩, hx3⟩ := TWO.out h2
          have e2 : decide ((2 : Int) ≤ (da : Int)) = true := decide_eq_true (by omega)
          have UX : Hid (UB (bs9 a) (bs9 X) true) := ⟨fun _ => rfl, fun _ => hx1⟩
          obtain ⟨Z, hZ⟩ : ∃ Z, X ++ ⟨#[58]⟩ = Z := ⟨_, rfl⟩
          have hZb : bs9 Z = bs9 X ++ [58] := by rw [← hZ, bs9_append]; rfl
          have hZs : Z.size ≤ 1000000 := by rw [← bs9_len Z, hZb, List.length_append, bs9_len]; show X.size + 1 ≤ _; omega
          have hadd : ∀ w, (Op.stringOp .add X ⟨#[58]⟩).run Tryd.prog w = .ok (.string Z) w := fun w => add9 hZb.symm (by show X.size + 1 ≤ _; omega) w
          have hadd2 : ∀ w, (Op.stringOp .add Z Y).run Tryd.prog w = .ok (.string a) w := fun w => add9 (by rw [hZb, hx2]; simp) (by omega) w
          clear hx1 hx2 hZ hZb
          rcases Nat.eq_zero_or_pos X.size with hx0 | hx0
          · have e3 := str_emp hx0
            clear hx3 h2 hx0
            go_enter Tryd.func4, Tryd.ntmps4
            go_wp2_with fail
            refine (q9 (under_is UAA.out ma ma _)).mono ?_; rintro e w1 ⟨rfl, hb⟩; replace E := Lib.hid (E.out.trans (hb.mono E.out.size)); clear hb
            go_wp2_with fail
            refine (q9 (under_is (b := true) Uab.out ma mb _)).mono ?_; rintro e w1 ⟨rfl, hb⟩; replace E := Lib.hid (E.out.trans (hb.mono E.out.size)); clear hb
            go_wp2_with fail
            refine (q9 (under_is (b := true) Ubc.out mb mc _)).mono ?_; rintro e w1 ⟨rfl, hb⟩; replace E := Lib.hid (E.out.trans (hb.mono E.out.size)); clear hb
            go_wp2_with fail
            refine (q9 (under_is (b := true) Uac.out ma mc _)).mono ?_; rintro e w1 ⟨rfl, hb⟩; replace E := Lib.hid (E.out.trans (hb.mono E.out.size)); clear hb
            go_wp2_with fail
            refine (q9 (under_is (b := true) Uab.out ma mb _)).mono ?_; rintro e w1 ⟨rfl, hb⟩; replace E := Lib.hid (E.out.trans (hb.mono E.out.size)); clear hb
            go_wp2_with fail
            refine (q9 (under_is (b := true) Uba.out mb ma _)).mono ?_; rintro e w1 ⟨rfl, hb⟩; replace E := Lib.hid (E.out.trans (hb.mono E.out.size)); clear hb
            go_wp2_with fail
            refine (q9 (under_is (b := true) Uab.out ma mb _)).mono ?_; rintro e w1 ⟨rfl, hb⟩; replace E := Lib.hid (E.out.trans (hb.mono E.out.size)); clear hb
            go_wp2_with fail
            refine (q9 (depth_is DA.out ma _)).mono ?_; rintro e w1 ⟨rfl, hb⟩; replace E := Lib.hid (E.out.trans (hb.mono E.out.size)); clear hb
            go_wp2_with fail
            refine (q9 (depth_is DB.out mb _)).mono ?_; rintro e w1 ⟨rfl, hb⟩; replace E := Lib.hid (E.out.trans (hb.mono E.out.size)); clear hb
            go_wp2_with fail
            refine (q9 (depth_is DA.out ma _)).mono ?_; rintro e w1 ⟨rfl, hb⟩; replace E := Lib.hid (E.out.trans (hb.mono E.out.size)); clear hb
            go_wp2_with fail
            refine (q9 (parent_is HX.out ma _)).mono ?_; rintro e w1 ⟨rfl, hb⟩; replace E := Lib.hid (E.out.trans (hb.mono E.out.size)); clear hb
            go_wp2_with fail
            refine (q9 (leaf_is HY.out ma _)).mono ?_; rintro e w1 ⟨rfl, hb⟩; replace E := Lib.hid (E.out.trans (hb.mono E.out.size)); clear hb
            go_wp2_with fail
            refine (q9 (parent_is HX.out ma _)).mono ?_; rintro e w1 ⟨rfl, hb⟩; replace E := Lib.hid (E.out.trans (hb.mono E.out.size)); clear hb
            go_wp2_with fail
            refine (q9 (under_is UX.out ma mX _)).mono ?_; rintro e w1 ⟨rfl, hb⟩; replace E := Lib.hid (E.out.trans (hb.mono E.out.size)); clear hb
            go_wp2_with fail
            refine (q9 (parent_is HX.out ma _)).mono ?_; rintro e w1 ⟨rfl, hb⟩; replace E := Lib.hid (E.out.trans (hb.mono E.out.size)); clear hb
            go_wp2_with fail
            refine (awake11 _ (HM.out.on E.out) (HR.out.on E.out)).mono ?_; rintro e w1 ⟨rfl, hb⟩; replace E := Lib.hid (E.out.trans (hb.mono E.out.size)); clear hb
            go_wp2_with fail
            go_ret
            exact ⟨rfl, E.out⟩
          · have e3 := str_ne hx0
            have e4 : (da : Int) - 1 = (dx : Int) := by have := hx3 (by omega); omega
            have e5 : ((dx : Int) == (dx : Int)) = true := beq_self_eq_true _
            have e6 : da ≤ 1000000 := by have := DA.out; unfold dep at this; have := List.count_le_length (a := 58) (l := bs9 a); rw [bs9_len] at this; split at * <;> omega
            clear hx3 h2 hx0
            go_enter Tryd.func4, Tryd.ntmps4
            go_wp2_with fail
            refine (q9 (under_is UAA.out ma ma _)).mono ?_; rintro e w1 ⟨rfl, hb⟩; replace E := Lib.hid (E.out.trans (hb.mono E.out.size)); clear hb
            go_wp2_with fail
            refine (q9 (under_is (b := true) Uab.out ma mb _)).mono ?_; rintro e w1 ⟨rfl, hb⟩; replace E := Lib.hid (E.out.trans (hb.mono E.out.size)); clear hb
            go_wp2_with fail
            refine (q9 (under_is (b := true) Ubc.out mb mc _)).mono ?_; rintro e w1 ⟨rfl, hb⟩; replace E := Lib.hid (E.out.trans (hb.mono E.out.size)); clear hb
            go_wp2_with fail
            refine (q9 (under_is (b := true) Uac.out ma mc _)).mono ?_; rintro e w1 ⟨rfl, hb⟩; replace E := Lib.hid (E.out.trans (hb.mono E.out.size)); clear hb
            go_wp2_with fail
            refine (q9 (under_is (b := true) Uab.out ma mb _)).mono ?_; rintro e w1 ⟨rfl, hb⟩; replace E := Lib.hid (E.out.trans (hb.mono E.out.size)); clear hb
            go_wp2_with fail
            refine (q9 (under_is (b := true) Uba.out mb ma _)).mono ?_; rintro e w1 ⟨rfl, hb⟩; replace E := Lib.hid (E.out.trans (hb.mono E.out.size)); clear hb
            go_wp2_with fail
            refine (q9 (under_is (b := true) Uab.out ma mb _)).mono ?_; rintro e w1 ⟨rfl, hb⟩; replace E := Lib.hid (E.out.trans (hb.mono E.out.size)); clear hb
            go_wp2_with fail
            refine (q9 (depth_is DA.out ma _)).mono ?_; rintro e w1 ⟨rfl, hb⟩; replace E := Lib.hid (E.out.trans (hb.mono E.out.size)); clear hb
            go_wp2_with fail
            refine (q9 (depth_is DB.out mb _)).mono ?_; rintro e w1 ⟨rfl, hb⟩; replace E := Lib.hid (E.out.trans (hb.mono E.out.size)); clear hb
            go_wp2_with fail
            refine (q9 (depth_is DA.out ma _)).mono ?_; rintro e w1 ⟨rfl, hb⟩; replace E := Lib.hid (E.out.trans (hb.mono E.out.size)); clear hb
            go_wp2_with fail
            refine (q9 (parent_is HX.out ma _)).mono ?_; rintro e w1 ⟨rfl, hb⟩; replace E := Lib.hid (E.out.trans (hb.mono E.out.size)); clear hb
            go_wp2_with fail
            refine (q9 (leaf_is HY.out ma _)).mono ?_; rintro e w1 ⟨rfl, hb⟩; replace E := Lib.hid (E.out.trans (hb.mono E.out.size)); clear hb
            go_wp2_with fail
            refine (q9 (parent_is HX.out ma _)).mono ?_; rintro e w1 ⟨rfl, hb⟩; replace E := Lib.hid (E.out.trans (hb.mono E.out.size)); clear hb
            go_wp2_with fail
            refine (q9 (under_is UX.out ma mX _)).mono ?_; rintro e w1 ⟨rfl, hb⟩; replace E := Lib.hid (E.out.trans (hb.mono E.out.size)); clear hb
            go_wp2_with fail
            refine (q9 (parent_is HX.out ma _)).mono ?_; rintro e w1 ⟨rfl, hb⟩; replace E := Lib.hid (E.out.trans (hb.mono E.out.size)); clear hb
            go_wp2_with fail
            refine (q9 (parent_is HX.out ma _)).mono ?_; rintro e w1 ⟨rfl, hb⟩; replace E := Lib.hid (E.out.trans (hb.mono E.out.size)); clear hb
            go_wp2_with fail
            refine (q9 (depth_is DX.out mX _)).mono ?_; rintro e w1 ⟨rfl, hb⟩; replace E := Lib.hid (E.out.trans (hb.mono E.out.size)); clear hb
            go_wp2_with fail
            refine (q9 (depth_is DA.out ma _)).mono ?_; rintro e w1 ⟨rfl, hb⟩; replace E := Lib.hid (E.out.trans (hb.mono E.out.size)); clear hb
            go_wp2_with fail
            refine (awake11 _ (HM.out.on E.out) (HR.out.on E.out)).mono ?_; rintro e w1 ⟨rfl, hb⟩; replace E := Lib.hid (E.out.trans (hb.mono E.out.size)); clear hb
            go_wp2_with fail
            go_ret
            exact ⟨rfl, E.out⟩

end Go.Proofs.YtaaikbbgbnbmkaaDoor
