/-
  NameGlobs answers true.
-/
import Derived.Test.YtaaikbbgbnbmkaaDoorNamO
set_option linter.unusedVariables false
set_option linter.unusedSimpArgs false
namespace Go.Proofs.YtaaikbbgbnbmkaaDoor
open Go.RowKit

/-- Neither a star nor a question mark. -/
def plC (c : Nat) : Bool := c != 42 && c != 63
theorem pl_gm {s t : ByteArray} (h : (bs9 s).all plC = true) : gm (bs9 s) (bs9 t) ↔ s = t := by
  rw [gm_plain (fun c hc => by
    rw [List.all_eq_true] at h
    have := h c hc
    unfold plC at this
    rw [Bool.and_eq_true, bne_iff_ne, bne_iff_ne] at this
    exact this)]
  exact ⟨bs9_inj, fun e => by rw [e]⟩

set_option maxHeartbeats 16000000 in
set_option maxRecDepth 100000 in
theorem globs11_law (p s t : ByteArray) (w : World) (hm : MaxLen w) (hr : Roots w) : Calls Tryd.prog 6 #[.string p, .string s, .string t] w (Ret9 w (.bool true)) := by
  have HM := Lib.hid hm
  have HR := Lib.hid hr
  have E : Hid (Below w.heap.size w w) := Below.refl _ _
  clear hm hr
  rcases Nat.lt_or_ge 40 p.size with hp | hp
  · have dp : decide ((40 : Int) < (p.size : Int)) = true := decide_eq_true (by omega)
    go_enter Tryd.func6, Tryd.ntmps6
    go_wp2_with fail
    refine (awake11 _ (HM.out.on E.out) (HR.out.on E.out)).mono ?_; rintro e w1 ⟨rfl, hb⟩; replace E := Lib.hid (E.out.trans (hb.mono E.out.size)); clear hb
    go_wp2_with fail
    go_ret
    exact ⟨rfl, E.out⟩
  have dp : decide ((40 : Int) < (p.size : Int)) = false := decide_eq_false (by omega)
  have mp : p.size ≤ 1000000 := by omega
  rcases Nat.lt_or_ge 60 s.size with hs | hs
  · have ds : decide ((60 : Int) < (s.size : Int)) = true := decide_eq_true (by omega)
    go_enter Tryd.func6, Tryd.ntmps6
    go_wp2_with fail
    refine (awake11 _ (HM.out.on E.out) (HR.out.on E.out)).mono ?_; rintro e w1 ⟨rfl, hb⟩; replace E := Lib.hid (E.out.trans (hb.mono E.out.size)); clear hb
    go_wp2_with fail
    go_ret
    exact ⟨rfl, E.out⟩
  have ds : decide ((60 : Int) < (s.size : Int)) = false := decide_eq_false (by omega)
  have ms : s.size ≤ 1000000 := by omega
  rcases Nat.lt_or_ge 60 t.size with ht | ht
  · have dt : decide ((60 : Int) < (t.size : Int)) = true := decide_eq_true (by omega)
    go_enter Tryd.func6, Tryd.ntmps6
    go_wp2_with fail
    refine (awake11 _ (HM.out.on E.out) (HR.out.on E.out)).mono ?_; rintro e w1 ⟨rfl, hb⟩; replace E := Lib.hid (E.out.trans (hb.mono E.out.size)); clear hb
    go_wp2_with fail
    go_ret
    exact ⟨rfl, E.out⟩
  have dt : decide ((60 : Int) < (t.size : Int)) = false := decide_eq_false (by omega)
  have mt : t.size ≤ 1000000 := by omega
  obtain ⟨C, hC, hCs⟩ := ex_common s t
  have mC : C.size ≤ 1000000 := by omega
  have HC := Lib.hid hC
  have HC2 : Hid (com (bs9 t) (bs9 s) = bs9 C) := by show _ = _; rw [com_symm]; exact hC
  have HSS : Hid (com (bs9 s) (bs9 s) = bs9 s) := com_self _
  have U1 : Hid (UB (bs9 s) (bs9 C) true) := ⟨fun _ => rfl, fun _ => by rw [← hC]; exact com_left _ _⟩
  have U2 : Hid (UB (bs9 t) (bs9 C) true) := ⟨fun _ => rfl, fun _ => by rw [← hC]; exact com_right _ _⟩
  obtain ⟨g, hg⟩ := gb_any (bs9 p) (bs9 s)
  have G := Lib.hid hg
  have GA : Hid (GB (bs9 ⟨#[42]⟩) (bs9 s) true) := ⟨fun _ => rfl, fun _ => gm_all _⟩
  obtain ⟨S1, hS1⟩ : ∃ S, s ++ ⟨#[42]⟩ = S := ⟨_, rfl⟩
  obtain ⟨S2, hS2⟩ : ∃ S, (⟨#[42]⟩ : ByteArray) ++ t = S := ⟨_, rfl⟩
  obtain ⟨ST, hST⟩ : ∃ S, s ++ t = S := ⟨_, rfl⟩
  have hb1 : bs9 S1 = bs9 s ++ [42] := by rw [← hS1, bs9_append]; rfl
  have hb2 : bs9 S2 = 42 :: bs9 t := by rw [← hS2, bs9_append]; rfl
  have hb3 : bs9 ST = bs9 s ++ bs9 t := by rw [← hST, bs9_append]
  have mS1 : S1.size ≤ 1000000 := by rw [← bs9_len S1, hb1, List.length_append, bs9_len]; show s.size + 1 ≤ _; omega
  have mS2 : S2.size ≤ 1000000 := by rw [← bs9_len S2, hb2, List.length_cons, bs9_len]; omega
  have mST : ST.size ≤ 1000000 := by rw [← bs9_len ST, hb3, List.length_append, bs9_len, bs9_len]; omega
  have hadd1 : ∀ w, (Op.stringOp .add s ⟨#[42]⟩).run Tryd.prog w = .ok (.string S1) w := fun w => add9 hb1.symm (by show s.size + 1 ≤ _; omega) w
  have hadd2 : ∀ w, (Op.stringOp .add ⟨#[42]⟩ t).run Tryd.prog w = .ok (.string S2) w := fun w => add9 (by rw [hb2]; rfl) (by show 1 + t.size ≤ _; omega) w
  have hadd3 : ∀ w, (Op.stringOp .add s t).run Tryd.prog w = .ok (.string ST) w := fun w => add9 hb3.symm (by omega) w
  have G1 : Hid (GB (bs9 S1) (bs9 ST) true) := ⟨fun _ => rfl, fun _ => by rw [hb1, hb3]; exact gm_ahead _ _⟩
  have G2 : Hid (GB (bs9 S2) (bs9 ST) true) := ⟨fun _ => rfl, fun _ => by rw [hb2, hb3]; exact gm_behind _ _⟩
  have GP : Hid ((bs9 s).all plC = true → ∀ b, (s = t ↔ b = true) → GB (bs9 s) (bs9 t) b) := fun h b hb => (pl_gm h).trans hb
  have HLS : Hid ((bs9 s).length = s.size) := bs9_len s
  clear hC hCs hg hS1 hS2 hST hb1 hb2 hb3
  go_enter Tryd.func6, Tryd.ntmps6
  go_wp2_with fail
  refine (common_is HC.out ms mt _).mono ?_; rintro e w1 ⟨rfl, hb⟩; replace E := Lib.hid (E.out.trans (hb.mono E.out.size)); clear hb
  go_wp2_with fail
  refine (q9 (glob_is G.out mp ms _)).mono ?_; rintro e w1 ⟨rfl, hb⟩; replace E := Lib.hid (E.out.trans (hb.mono E.out.size)); clear hb
  go_wp2_with fail
  refine (refglob_is G.out mp ms _).mono ?_; rintro e w1 ⟨rfl, hb⟩; replace E := Lib.hid (E.out.trans (hb.mono E.out.size)); clear hb
  go_wp2_with fail
  refine (refcommon_is HC.out ms mt _).mono ?_; rintro e w1 ⟨rfl, hb⟩; replace E := Lib.hid (E.out.trans (hb.mono E.out.size)); clear hb
  go_wp2_with fail
  refine (common_is HC2.out mt ms _).mono ?_; rintro e w1 ⟨rfl, hb⟩; replace E := Lib.hid (E.out.trans (hb.mono E.out.size)); clear hb
  go_wp2_with fail
  refine (q9 (glob_is GA.out (by decide) ms _)).mono ?_; rintro e w1 ⟨rfl, hb⟩; replace E := Lib.hid (E.out.trans (hb.mono E.out.size)); clear hb
  go_wp2_with fail
  refine (q9 (glob_is G1.out mS1 mST _)).mono ?_; rintro e w1 ⟨rfl, hb⟩; replace E := Lib.hid (E.out.trans (hb.mono E.out.size)); clear hb
  go_wp2_with fail
  refine (q9 (glob_is G2.out mS2 mST _)).mono ?_; rintro e w1 ⟨rfl, hb⟩; replace E := Lib.hid (E.out.trans (hb.mono E.out.size)); clear hb
  go_wp2_with fail
  obtain ⟨wo, hwo⟩ : ∃ wo : World, wo = w1 := ⟨_, rfl⟩
  subst hwo
  go_loopw [8, 73] (fun pv iv wr => ∃ (v : Bool) (i : Nat), pv = .bool v ∧ iv = .int .i64 i ∧ i ≤ s.size ∧ ((bs9 s).take i).all plC = v ∧ Below w.heap.size w wr) (fun _ iv _ => s.size - (intOf iv).toNat)
  case atStart => exact ⟨true, 0, rfl, rfl, Nat.zero_le _, rfl, E.out⟩
  case round =>
    obtain ⟨v, i, rfl, rfl, hi, hv, hb⟩ := hrel
    clear E
    have E := Lib.hid hb
    have HV := Lib.hid hv
    clear hb hv
    rcases Nat.lt_or_ge i s.size with hlt | hge
    · obtain ⟨x, hx⟩ : ∃ x, x = (s[i]'hlt).toNat := ⟨_, rfl⟩
      have ex : ((s[i]'hlt).toNat : Int) = (x : Int) := by rw [hx]
      have HX : Hid ((bs9 s)[i]? = some x) := by show _ = _; rw [bs9_at s i hlt, hx]
      have HN : Hid (((bs9 s).take (i + 1)).all plC = (v && plC x)) := by
        show _ = _
        rw [List.take_add_one, HX.out, List.all_append, HV.out]
        show (v && (plC x && true)) = _
        rw [Bool.and_true]
      clear hx
      cases v with
      | false =>
        go_wp2_with fail
        go_roundw
        case rel => exact ⟨false, i + 1, rfl, by go_num, by omega, HN.out, E.out⟩
        case measure => simp [intOf] <;> omega
      | true =>
        by_cases h42 : x = 42
        · have d1 : ((x : Int) != 42) = false := by rw [h42]; rfl
          have HN2 : Hid (((bs9 s).take (i + 1)).all plC = false) := by show _ = _; rw [HN.out, h42]; rfl
          clear h42
          go_wp2_with fail
          go_roundw
          case rel => exact ⟨false, i + 1, rfl, by go_num, by omega, HN2.out, E.out⟩
          case measure => simp [intOf] <;> omega
        · have d1 : ((x : Int) != 42) = true := by rw [bne_iff_ne]; omega
          by_cases h63 : x = 63
          · have d2 : ((x : Int) != 63) = false := by rw [h63]; rfl
            have HN2 : Hid (((bs9 s).take (i + 1)).all plC = false) := by show _ = _; rw [HN.out, h63]; rfl
            clear h42 h63
            go_wp2_with fail
            go_roundw
            case rel => exact ⟨false, i + 1, rfl, by go_num, by omega, HN2.out, E.out⟩
            case measure => simp [intOf] <;> omega
          · have d2 : ((x : Int) != 63) = true := by rw [bne_iff_ne]; omega
            have HN2 : Hid (((bs9 s).take (i + 1)).all plC = true) := by show _ = _; rw [HN.out]; unfold plC; rw [bne_iff_ne.2 h42, bne_iff_ne.2 h63]; rfl
            clear h42 h63
            go_wp2_with fail
            go_roundw
            case rel => exact ⟨true, i + 1, rfl, by go_num, by omega, HN2.out, E.out⟩
            case measure => simp [intOf] <;> omega
    · have HA : Hid ((bs9 s).all plC = v) := by have := HV.out; rwa [List.take_of_length_le (by rw [HLS.out]; exact hge)] at this
      cases v with
      | false =>
        rcases Nat.eq_zero_or_pos C.size with c0 | c0
        · have dc := str_emp c0
          clear c0
          go_wp2_with fail
          refine (common_is HSS.out ms ms _).mono ?_; rintro e w1 ⟨rfl, hb⟩; replace E := Lib.hid (E.out.trans (hb.mono E.out.size)); clear hb
          go_wp2_with fail
          refine (awake11 _ (HM.out.on E.out) (HR.out.on E.out)).mono ?_; rintro e w1 ⟨rfl, hb⟩; replace E := Lib.hid (E.out.trans (hb.mono E.out.size)); clear hb
          go_wp2_with fail
          go_ret
          exact ⟨rfl, E.out⟩
        · have dc := str_ne c0
          clear c0
          go_wp2_with fail
          refine (q9 (under_is U1.out ms mC _)).mono ?_; rintro e w1 ⟨rfl, hb⟩; replace E := Lib.hid (E.out.trans (hb.mono E.out.size)); clear hb
          go_wp2_with fail
          refine (q9 (under_is U2.out mt mC _)).mono ?_; rintro e w1 ⟨rfl, hb⟩; replace E := Lib.hid (E.out.trans (hb.mono E.out.size)); clear hb
          go_wp2_with fail
          refine (common_is HSS.out ms ms _).mono ?_; rintro e w1 ⟨rfl, hb⟩; replace E := Lib.hid (E.out.trans (hb.mono E.out.size)); clear hb
          go_wp2_with fail
          refine (awake11 _ (HM.out.on E.out) (HR.out.on E.out)).mono ?_; rintro e w1 ⟨rfl, hb⟩; replace E := Lib.hid (E.out.trans (hb.mono E.out.size)); clear hb
          go_wp2_with fail
          go_ret
          exact ⟨rfl, E.out⟩
      | true =>
        by_cases hst : s = t
        · have ds := eq_yes hst
          have G3 : Hid (GB (bs9 s) (bs9 t) true) := GP.out HA.out true ⟨fun _ => rfl, fun _ => hst⟩
          clear hst
          rcases Nat.eq_zero_or_pos C.size with c0 | c0
          · have dc := str_emp c0
            clear c0
            go_wp2_with fail
            refine (q9 (glob_is G3.out ms mt _)).mono ?_; rintro e w1 ⟨rfl, hb⟩; replace E := Lib.hid (E.out.trans (hb.mono E.out.size)); clear hb
            go_wp2_with fail
            refine (common_is HSS.out ms ms _).mono ?_; rintro e w1 ⟨rfl, hb⟩; replace E := Lib.hid (E.out.trans (hb.mono E.out.size)); clear hb
            go_wp2_with fail
            refine (awake11 _ (HM.out.on E.out) (HR.out.on E.out)).mono ?_; rintro e w1 ⟨rfl, hb⟩; replace E := Lib.hid (E.out.trans (hb.mono E.out.size)); clear hb
            go_wp2_with fail
            go_ret
            exact ⟨rfl, E.out⟩
          · have dc := str_ne c0
            clear c0
            go_wp2_with fail
            refine (q9 (glob_is G3.out ms mt _)).mono ?_; rintro e w1 ⟨rfl, hb⟩; replace E := Lib.hid (E.out.trans (hb.mono E.out.size)); clear hb
            go_wp2_with fail
            refine (q9 (under_is U1.out ms mC _)).mono ?_; rintro e w1 ⟨rfl, hb⟩; replace E := Lib.hid (E.out.trans (hb.mono E.out.size)); clear hb
            go_wp2_with fail
            refine (q9 (under_is U2.out mt mC _)).mono ?_; rintro e w1 ⟨rfl, hb⟩; replace E := Lib.hid (E.out.trans (hb.mono E.out.size)); clear hb
            go_wp2_with fail
            refine (common_is HSS.out ms ms _).mono ?_; rintro e w1 ⟨rfl, hb⟩; replace E := Lib.hid (E.out.trans (hb.mono E.out.size)); clear hb
            go_wp2_with fail
            refine (awake11 _ (HM.out.on E.out) (HR.out.on E.out)).mono ?_; rintro e w1 ⟨rfl, hb⟩; replace E := Lib.hid (E.out.trans (hb.mono E.out.size)); clear hb
            go_wp2_with fail
            go_ret
            exact ⟨rfl, E.out⟩
        · have ds := eq_not hst
          have G3 : Hid (GB (bs9 s) (bs9 t) false) := GP.out HA.out false ⟨fun e => absurd e hst, fun e => by cases e⟩
          clear hst
          rcases Nat.eq_zero_or_pos C.size with c0 | c0
          · have dc := str_emp c0
            clear c0
            go_wp2_with fail
            refine (q9 (glob_is G3.out ms mt _)).mono ?_; rintro e w1 ⟨rfl, hb⟩; replace E := Lib.hid (E.out.trans (hb.mono E.out.size)); clear hb
            go_wp2_with fail
            refine (common_is HSS.out ms ms _).mono ?_; rintro e w1 ⟨rfl, hb⟩; replace E := Lib.hid (E.out.trans (hb.mono E.out.size)); clear hb
            go_wp2_with fail
            refine (awake11 _ (HM.out.on E.out) (HR.out.on E.out)).mono ?_; rintro e w1 ⟨rfl, hb⟩; replace E := Lib.hid (E.out.trans (hb.mono E.out.size)); clear hb
            go_wp2_with fail
            go_ret
            exact ⟨rfl, E.out⟩
          · have dc := str_ne c0
            clear c0
            go_wp2_with fail
            refine (q9 (glob_is G3.out ms mt _)).mono ?_; rintro e w1 ⟨rfl, hb⟩; replace E := Lib.hid (E.out.trans (hb.mono E.out.size)); clear hb
            go_wp2_with fail
            refine (q9 (under_is U1.out ms mC _)).mono ?_; rintro e w1 ⟨rfl, hb⟩; replace E := Lib.hid (E.out.trans (hb.mono E.out.size)); clear hb
            go_wp2_with fail
            refine (q9 (under_is U2.out mt mC _)).mono ?_; rintro e w1 ⟨rfl, hb⟩; replace E := Lib.hid (E.out.trans (hb.mono E.out.size)); clear hb
            go_wp2_with fail
            refine (common_is HSS.out ms ms _).mono ?_; rintro e w1 ⟨rfl, hb⟩; replace E := Lib.hid (E.out.trans (hb.mono E.out.size)); clear hb
            go_wp2_with fail
            refine (awake11 _ (HM.out.on E.out) (HR.out.on E.out)).mono ?_; rintro e w1 ⟨rfl, hb⟩; replace E := Lib.hid (E.out.trans (hb.mono E.out.size)); clear hb
            go_wp2_with fail
            go_ret
            exact ⟨rfl, E.out⟩

end Go.Proofs.YtaaikbbgbnbmkaaDoor
