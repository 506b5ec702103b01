/-
  Layer 7, the document's answers, the first part: digit, groups, whole, put, Scale.
-/
import Derived.Test.YtllcjahekckbfaaGreatDoorTxtF
import Derived.Test.YtllcjahekckbfaaGreatDoorAllDigF
set_option linter.unusedVariables false
set_option linter.unusedSimpArgs false
namespace Go.Proofs.YtllcjahekckbfaaGreatDoor
open Go.RowKit

theorem grp_short {l : List Nat} (h : l.length ≤ 3) : grp l = l := by
  match l, h with
  | [], _ => rfl
  | [a], _ => simp [grp]
  | [a, b], _ => simp [grp]
  | [a, b, c], _ => simp [grp]
theorem grp_app {y : List Nat} (hy : y.length = 3) : ∀ x : List Nat, x ≠ [] → grp (x ++ y) = grp x ++ 44 :: y
  | [], h => absurd rfl h
  | [c], _ => by
    have hne : y ≠ [] := fun e => by rw [e] at hy; cases hy
    show grp (c :: y) = _
    rw [grp_cons]
    unfold grpAt
    rw [if_pos ⟨hne, by rw [hy]⟩, grp_short (by omega)]
    simp [grp]
  | c :: d :: x, _ => by
    have ih := grp_app hy (d :: x) (by simp)
    show grp (c :: ((d :: x) ++ y)) = _
    rw [grp_cons, grp_cons]
    unfold grpAt
    have hl : ((d :: x) ++ y).length % 3 = (d :: x).length % 3 := by rw [List.length_append, hy]; omega
    by_cases h3 : (d :: x).length % 3 = 0
    · rw [if_pos ⟨by simp, by rw [hl]; exact h3⟩, if_pos ⟨by simp, h3⟩, ih]; rfl
    · rw [if_neg (fun h => h3 (by rw [← hl]; exact h.2)), if_neg (fun h => h3 h.2), ih]; rfl

set_option maxRecDepth 100000 in
theorem refDigit_yes {v : Int} (w : World) (h1 : 48 ≤ v) (h2 : v ≤ 57) : Calls Tryz.prog 24 #[.int .u8 v] w fun e w' => e = .returned (.bool true) ∧ w' = w := by
  go_enter Tryz.func24, Tryz.ntmps24
  go_wp2
  go_ret
  exact ⟨rfl, rfl⟩
set_option maxRecDepth 100000 in
theorem refDigit_no {v : Int} (w : World) (h0 : v < 48 ∨ 57 < v) : Calls Tryz.prog 24 #[.int .u8 v] w fun e w' => e = .returned (.bool false) ∧ w' = w := by
  rcases h0 with h | h
  · go_enter Tryz.func24, Tryz.ntmps24
    go_wp2
    go_ret
    exact ⟨rfl, rfl⟩
  · have h2 : 48 ≤ v := by omega
    have h3 : decide (v ≤ 57) = false := decide_eq_false (by omega)
    go_enter Tryz.func24, Tryz.ntmps24
    go_wp2
    go_ret
    exact ⟨rfl, rfl⟩

set_option maxRecDepth 100000 in
theorem refScale7_any (s : ByteArray) (w : World) (hs : s.size ≤ 1000000) : Calls Tryz.prog 16 #[.string s] w (RetVal w (.int .i64 ((bhd (codes s)).length : Nat))) := by
  have HL := Lib.hid (codes_len s)
  go_enter Tryz.func16, Tryz.ntmps16
  go_wp2
  go_loop [6] (fun iv => ∃ j : Nat, j ≤ s.size ∧ iv = .int .i64 j ∧ bhd (codes s) = bhd ((codes s).drop j)) (fun iv => s.size - (intOf iv).toNat)
  case atStart => exact ⟨0, Nat.zero_le _, rfl, rfl⟩
  case round =>
    obtain ⟨j, hj, rfl, hb⟩ := hrel
    have HB := Lib.hid hb
    clear hb
    rcases Nat.lt_or_ge j s.size with hlt | hge
    · have HD := Lib.hid (codes_drop s j hlt)
      obtain ⟨x, hx⟩ : ∃ x, x = (s[j]'hlt).toNat := ⟨_, rfl⟩
      rw [← hx] at HD
      by_cases k1 : x = 46
      · have b1 : (((s[j]'hlt).toNat : Int) == 46) = true := by rw [← hx, k1]; rfl
        have HN : Hid ((bhd (codes s)).length = s.size - j - 1) := by
          show _ = _
          rw [HB.out, HD.out, k1, bhd_cons_eq, List.length_drop, HL.out]; omega
        have e1 : (s.size : Int) - (j : Int) - 1 = ((s.size - j - 1 : Nat) : Int) := by omega
        obtain ⟨m, hm⟩ : ∃ m, m = s.size - j - 1 := ⟨_, rfl⟩
        rw [← hm] at HN e1
        clear k1 hx HD HB hm
        go_wp2
        go_ret
        exact ⟨by rw [HN.out]; rfl, Below.refl _ _⟩
      · have b1 : (((s[j]'hlt).toNat : Int) == 46) = false := by rw [← hx, beq_eq_false_iff_ne]; omega
        have HN : Hid (bhd (codes s) = bhd ((codes s).drop (j + 1))) := by show _ = _; rw [HB.out, HD.out, bhd_cons_ne _ k1]
        clear k1 hx HD HB
        go_wp2
        go_round
        case rel => exact ⟨j + 1, by omega, by go_num, HN.out⟩
        case measure => simp [intOf]; omega
    · obtain rfl : j = s.size := by omega
      have HN : Hid ((bhd (codes s)).length = 0) := by
        show _ = _
        rw [HB.out, List.drop_of_length_le (by rw [HL.out]; exact Nat.le_refl _)]; rfl
      clear HB
      go_wp2
      go_ret
      exact ⟨by rw [HN.out]; rfl, Below.refl _ _⟩

theorem extract_one (s : ByteArray) (j m : Nat) (h : j < s.size) (hm : m = j + 1) : s.extract j m = str [(s[j]'h).toNat] := by
  subst hm
  have e : s = str (codes s) := (str_codes s).symm
  have hd := codes_drop s j h
  conv => lhs; rw [e]
  unfold str
  rw [ByteArray.extract_mk]
  simp only [List.extract_toArray, List.extract_eq_take_drop, ← List.map_drop, ← List.map_take]
  rw [hd, show j + 1 - j = 1 by omega]
  rfl
theorem drop_nil {s : ByteArray} {j : Nat} (h : j = s.size) : (codes s).drop j = [] := List.drop_of_length_le (by rw [codes_len, h]; exact Nat.le_refl _)
theorem gst_digit {c : Nat} {l : List Nat} {r : Nat} {cm : Bool} (h : 48 ≤ c ∧ c ≤ 57) (h2 : ¬ (cm = true ∧ 3 < r + 1)) : gst (c :: l) r cm = gst l (r + 1) cm := by
  rw [gst, if_pos h, if_neg h2]
theorem gst_more {c : Nat} {l : List Nat} {r : Nat} (h : 48 ≤ c ∧ c ≤ 57) (h2 : 3 < r + 1) : gst (c :: l) r true = false := by
  rw [gst, if_pos h, if_pos ⟨rfl, h2⟩]
theorem gst_comma {l : List Nat} {r : Nat} {cm : Bool} (h2 : ¬ (r < 1 ∨ 3 < r ∨ cm = true ∧ r ≠ 3)) : gst (44 :: l) r cm = gst l 0 true := by
  rw [gst, if_neg (by omega), if_pos rfl, if_neg h2]
theorem gst_comma_no {l : List Nat} {r : Nat} {cm : Bool} (h2 : r < 1 ∨ 3 < r ∨ cm = true ∧ r ≠ 3) : gst (44 :: l) r cm = false := by
  rw [gst, if_neg (by omega), if_pos rfl, if_pos h2]
theorem gst_other {c : Nat} {l : List Nat} {r : Nat} {cm : Bool} (h : ¬ (48 ≤ c ∧ c ≤ 57)) (h2 : c ≠ 44) : gst (c :: l) r cm = false := by
  rw [gst, if_neg h, if_neg h2]
theorem nocom_take (s : ByteArray) (j : Nat) (h : j < s.size) : nocom ((codes s).take (j + 1)) = nocom ((codes s).take j) ++ nocom [(s[j]'h).toNat] := by
  rw [codes_take s j h]; unfold nocom; rw [List.filter_append]
/-- What groups answers. -/
def RetGroups (W : World) (l : List Nat) (e : Ending) (w' : World) : Prop := (gst l 0 false = true ∧ RetVal W (.tuple #[.string (str (nocom l)), .bool true]) e w') ∨ (gst l 0 false = false ∧ ∃ S, RetVal W (.tuple #[.string S, .bool false]) e w')

set_option maxRecDepth 100000 in
set_option maxHeartbeats 4000000 in
theorem refGroups_any (s : ByteArray) (w : World) (h0 : 0 < s.size) (hs : s.size ≤ 10000) : Calls Tryz.prog 25 #[.string s] w (RetGroups w (codes s)) := by
  have HL := Lib.hid (codes_len s)
  have HLT := Lib.hid (codes_lt s)
  have HNE : Hid (gst (codes s) 0 false = true → nocom (codes s) ≠ []) := by
    intro h
    have hne : codes s ≠ [] := fun e => by have := codes_len s; rw [e] at this; simp at this; omega
    rw [gst_ungB hne] at h
    exact nocom_ne hne (Bool.and_eq_true_iff.1 h).1
  go_enter Tryz.func25, Tryz.ntmps25
  go_wp2_with fail
  go_loop [4, 5, 6, 10] (fun ov rv cv iv => ∃ (j r : Nat) (cm : Bool) (out : List Nat), j ≤ s.size ∧ iv = .int .i64 j ∧ ov = .string (str out) ∧ rv = .int .i64 r ∧ cv = .bool cm ∧ r ≤ j ∧ out.length ≤ j ∧ (∀ c ∈ out, c < 256) ∧ out = nocom ((codes s).take j) ∧ gst (codes s) 0 false = gst ((codes s).drop j) r cm) (fun _ _ _ iv => s.size - (intOf iv).toNat)
  case atStart => exact ⟨0, 0, false, [], Nat.zero_le _, rfl, rfl, rfl, rfl, Nat.le_refl _, Nat.le_refl _, fun c hc => absurd hc List.not_mem_nil, rfl, rfl⟩
  case round =>
    obtain ⟨j, r, cm, out, hj, rfl, rfl, rfl, rfl, hrj, hol, hlt', hout, hg⟩ := hrel
    have HG := Lib.hid hg
    have HO := Lib.hid hout
    have HB := Lib.hid hlt'
    clear hg hout hlt'
    rcases Nat.lt_or_ge j s.size with hlt | hge
    · have HD := Lib.hid (codes_drop s j hlt)
      have HT := Lib.hid (nocom_take s j hlt)
      have HX1 := Lib.hid (extract_one s j (j + 1) hlt rfl)
      obtain ⟨x, hx⟩ : ∃ x, x = (s[j]'hlt).toNat := ⟨_, rfl⟩
      have hxb : x < 256 := by rw [hx]; exact UInt8.toNat_lt _
      rw [← hx] at HD HT HX1
      have hxx := hx
      by_cases kd : 48 ≤ x ∧ x ≤ 57
      · have h1 : (48 : Int) ≤ ((s[j]'hlt).toNat : Int) := by rw [← hx]; omega
        have h2 : ((s[j]'hlt).toNat : Int) ≤ 57 := by rw [← hx]; omega
        have CD := Lib.hid (refDigit_yes w h1 h2)
        have HNC : Hid (nocom ((codes s).take (j + 1)) = out ++ [x]) := by show _ = _; rw [HT.out, HO.out, nocom_cons_no (by omega)]; rfl
        have ha : ∀ w', (Op.stringOp .add (str out) (str [x])).run Tryz.prog w' = .ok (.string (str (out ++ [x]))) w' := fun w' => str_add _ _ (by simp; omega) w'
        have hsl : ∀ w', (Instr.slice 9 (.string s) (some (.int .i64 (j : Int))) (some (.int .i64 ((j : Int) + 1))) none).run Tryz.prog w' = .ok (.string (str [x])) w' := fun w' => by
          rw [run_slice_string w' _ s _ _ _ _ Tryz.underlying9 (by omega) (by omega) (by omega), show ((j : Int)).toNat = j from rfl, show ((j : Int) + 1).toNat = j + 1 by omega, HX1.out]
        have HLN : Hid ((out ++ [x]).length ≤ j + 1 ∧ ∀ c ∈ out ++ [x], c < 256) := ⟨by rw [List.length_append]; simp; omega, app_lt HB.out (fun c hc => by rw [List.mem_singleton.1 hc]; exact hxb)⟩
        cases cm with
        | false =>
          have HN : Hid (gst (codes s) 0 false = gst ((codes s).drop (j + 1)) (r + 1) false) := by show _ = _; rw [HG.out, HD.out, gst_digit kd (fun h => by cases h.1)]
          clear hx hxx h1 h2 kd HD HT HO HX1 HB
          go_wp2_with fail
          refine CD.out.mono ?_; rintro e w1 ⟨rfl, rfl⟩
          clear CD
          go_wp2_with fail
          go_round
          case rel => exact ⟨j + 1, r + 1, false, out ++ [x], by omega, by go_num, rfl, by go_num, rfl, by omega, HLN.out.1, HLN.out.2, HNC.out.symm, HN.out⟩
          case measure => simp [intOf]; omega
        | true =>
          by_cases k3 : 3 < r + 1
          · have b3 : decide ((3 : Int) < (r : Int) + 1) = true := decide_eq_true (by omega)
            have hb3 : (3 : Int) < (r : Int) + 1 := by omega
            have HN : Hid (gst (codes s) 0 false = false) := by show _ = _; rw [HG.out, HD.out, gst_more kd k3]
            clear hx hxx h1 h2 kd HD HT HO HX1 HB k3
            go_wp2_with fail
            refine CD.out.mono ?_; rintro e w1 ⟨rfl, rfl⟩
            clear CD
            go_wp2_with fail
            go_ret2
            exact .inr ⟨HN.out, _, rfl, Below.refl _ _⟩
          · have b3 : decide ((3 : Int) < (r : Int) + 1) = false := decide_eq_false (by omega)
            have hb3 : (r : Int) + 1 ≤ 3 := by omega
            have HN : Hid (gst (codes s) 0 false = gst ((codes s).drop (j + 1)) (r + 1) true) := by show _ = _; rw [HG.out, HD.out, gst_digit kd (fun h => k3 h.2)]
            clear hx hxx h1 h2 kd HD HT HO HX1 HB k3
            go_wp2_with fail
            refine CD.out.mono ?_; rintro e w1 ⟨rfl, rfl⟩
            clear CD
            go_wp2_with fail
            go_round
            case rel => exact ⟨j + 1, r + 1, true, out ++ [x], by omega, by go_num, rfl, by go_num, rfl, by omega, HLN.out.1, HLN.out.2, HNC.out.symm, HN.out⟩
            case measure => simp [intOf]; omega
      · have h1 : ((s[j]'hlt).toNat : Int) < 48 ∨ 57 < ((s[j]'hlt).toNat : Int) := by rw [← hx]; omega
        have CD := Lib.hid (refDigit_no w h1)
        by_cases kc : x = 44
        · have b1 : (((s[j]'hlt).toNat : Int) == 44) = true := by rw [← hx, kc]; rfl
          have HNC : Hid (nocom ((codes s).take (j + 1)) = out) := by show _ = _; rw [HT.out, HO.out, kc, nocom_cons_yes]; unfold nocom; simp
          by_cases kb : r < 1 ∨ 3 < r ∨ cm = true ∧ r ≠ 3
          · have HN : Hid (gst (codes s) 0 false = false) := by show _ = _; rw [HG.out, HD.out, kc, gst_comma_no kb]
            clear hx hxx h1 kd HD HT HO HX1 HB kc HNC
            rcases Nat.lt_or_ge r 1 with k1 | k1
            · have b2 : decide ((r : Int) < 1) = true := decide_eq_true (by omega)
              have hb2 : (r : Int) < 1 := by omega
              clear kb
              go_wp2_with fail
              refine CD.out.mono ?_; rintro e w1 ⟨rfl, rfl⟩
              clear CD
              go_wp2_with fail
              go_ret2
              exact .inr ⟨HN.out, _, rfl, Below.refl _ _⟩
            · have hb2 : (1 : Int) ≤ (r : Int) := by omega
              have b2 : decide ((r : Int) < 1) = false := decide_eq_false (by omega)
              rcases Nat.lt_or_ge 3 r with k2 | k2
              · have hb3 : (3 : Int) < (r : Int) := by omega
                have b3 : decide ((3 : Int) < (r : Int)) = true := decide_eq_true (by omega)
                clear kb
                go_wp2_with fail
                refine CD.out.mono ?_; rintro e w1 ⟨rfl, rfl⟩
                clear CD
                go_wp2_with fail
                go_ret2
                exact .inr ⟨HN.out, _, rfl, Below.refl _ _⟩
              · obtain ⟨rfl, k3⟩ : cm = true ∧ r ≠ 3 := by
                  rcases kb with h | h | h
                  · omega
                  · omega
                  · exact h
                have hb3 : (r : Int) ≤ 3 := by omega
                have b3 : decide ((3 : Int) < (r : Int)) = false := decide_eq_false (by omega)
                have b4 : ((r : Int) == 3) = false := by rw [beq_eq_false_iff_ne]; omega
                have b5 : ((r : Int) != 3) = true := by rw [bne_iff_ne]; omega
                clear kb k3
                go_wp2_with fail
                refine CD.out.mono ?_; rintro e w1 ⟨rfl, rfl⟩
                clear CD
                go_wp2_with fail
                go_ret2
                exact .inr ⟨HN.out, _, rfl, Below.refl _ _⟩
          · have HN : Hid (gst (codes s) 0 false = gst ((codes s).drop (j + 1)) 0 true) := by show _ = _; rw [HG.out, HD.out, kc, gst_comma kb]
            have hr1 : 1 ≤ r := Decidable.byContradiction fun h => kb (.inl (by omega))
            have hr3 : r ≤ 3 := Decidable.byContradiction fun h => kb (.inr (.inl (by omega)))
            have hb2 : (1 : Int) ≤ (r : Int) := by omega
            have hb3 : (r : Int) ≤ 3 := by omega
            have b2 : decide ((r : Int) < 1) = false := decide_eq_false (by omega)
            have b3 : decide ((3 : Int) < (r : Int)) = false := decide_eq_false (by omega)
            clear hx hxx h1 kd HD HT HO HX1 kc
            cases cm with
            | false =>
              clear kb
              go_wp2_with fail
              refine CD.out.mono ?_; rintro e w1 ⟨rfl, rfl⟩
              clear CD
              go_wp2_with fail
              go_round
              case rel => exact ⟨j + 1, 0, true, out, by omega, by go_num, rfl, rfl, rfl, Nat.zero_le _, by omega, HB.out, HNC.out.symm, HN.out⟩
              case measure => simp [intOf]; omega
            | true =>
              have hr : r = 3 := Decidable.byContradiction fun h => kb (.inr (.inr ⟨rfl, h⟩))
              have b4 : ((r : Int) == 3) = true := by rw [hr]; rfl
              have b5 : ((r : Int) != 3) = false := by rw [hr]; rfl
              clear kb hr
              go_wp2_with fail
              refine CD.out.mono ?_; rintro e w1 ⟨rfl, rfl⟩
              clear CD
              go_wp2_with fail
              go_round
              case rel => exact ⟨j + 1, 0, true, out, by omega, by go_num, rfl, rfl, rfl, Nat.zero_le _, by omega, HB.out, HNC.out.symm, HN.out⟩
              case measure => simp [intOf]; omega
        · have b1 : (((s[j]'hlt).toNat : Int) == 44) = false := by rw [← hx, beq_eq_false_iff_ne]; omega
          have HN : Hid (gst (codes s) 0 false = false) := by show _ = _; rw [HG.out, HD.out, gst_other kd kc]
          clear hx hxx h1 kd HD HT HO HX1 HB kc
          go_wp2_with fail
          refine CD.out.mono ?_; rintro e w1 ⟨rfl, rfl⟩
          clear CD
          go_wp2_with fail
          go_ret2
          exact .inr ⟨HN.out, _, rfl, Below.refl _ _⟩
    · obtain rfl : j = s.size := by omega
      have HE : Hid (gst (codes s) 0 false = (!cm || r == 3)) := by show _ = _; rw [HG.out, drop_nil rfl]; rfl
      have HF : Hid (out = nocom (codes s)) := by show _ = _; rw [HO.out, List.take_of_length_le (by rw [HL.out]; exact Nat.le_refl _)]
      cases hgg : gst (codes s) 0 false with
      | true =>
        have hne : out ≠ [] := by rw [HF.out]; exact HNE.out hgg
        have hSp := str_pos hne
        obtain ⟨he1, he2, he3, he4⟩ := str_ne hSp
        have HGT := Lib.hid hgg
        have HE2 : Hid ((!cm || r == 3) = true) := by show _ = _; rw [← HE.out, HGT.out]
        have HSO : Hid (str out = str (nocom (codes s))) := by show _ = _; rw [HF.out]
        obtain ⟨S, hS⟩ : ∃ S, S = str out := ⟨_, rfl⟩
        rw [← hS] at he1 he2 he3 he4 hSp HSO
        rw [← hS]
        clear hS hgg hne HE HG HO HB HNE
        cases cm with
        | false =>
          go_wp2_with fail
          go_ret2
          exact .inl ⟨HGT.out, by rw [← HSO.out]; exact ⟨rfl, Below.refl _ _⟩⟩
        | true =>
          have hr : r = 3 := by have := HE2.out; simpa using this
          have b4 : ((r : Int) == 3) = true := by rw [hr]; rfl
          clear hr
          go_wp2_with fail
          go_ret2
          exact .inl ⟨HGT.out, by rw [← HSO.out]; exact ⟨rfl, Below.refl _ _⟩⟩
      | false =>
        have HGT := Lib.hid hgg
        have HE2 : Hid ((!cm || r == 3) = false) := by show _ = _; rw [← HE.out, HGT.out]
        obtain ⟨rfl, hr⟩ : cm = true ∧ r ≠ 3 := by
          have := HE2.out
          cases cm with
          | false => simp at this
          | true => exact ⟨rfl, by simpa using this⟩
        have b4 : ((r : Int) == 3) = false := by rw [beq_eq_false_iff_ne]; omega
        rcases Nat.eq_zero_or_pos out.length with ho | ho
        · obtain rfl : out = [] := List.eq_nil_of_length_eq_zero ho
          rw [str_nil]
          clear hgg hr ho HE HG HO HB HNE
          go_wp2_with fail
          go_ret2
          exact .inr ⟨HGT.out, _, rfl, Below.refl _ _⟩
        · have hSp := str_pos (List.length_pos_iff.1 ho)
          obtain ⟨he1, he2, he3, he4⟩ := str_ne hSp
          obtain ⟨S, hS⟩ : ∃ S, S = str out := ⟨_, rfl⟩
          rw [← hS] at he1 he2 he3 he4 hSp
          rw [← hS]
          clear hS hgg hr ho HE HG HO HB HNE
          go_wp2_with fail
          go_ret2
          exact .inr ⟨HGT.out, _, rfl, Below.refl _ _⟩

end Go.Proofs.YtllcjahekckbfaaGreatDoor
