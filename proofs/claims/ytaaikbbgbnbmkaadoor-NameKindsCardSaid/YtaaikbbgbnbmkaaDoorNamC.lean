/-
  Contracts of layer 11, the third part: the document's part, Currency, Tag, Key.
-/
import Derived.Test.YtaaikbbgbnbmkaaDoorNamB
set_option linter.unusedVariables false
set_option linter.unusedSimpArgs false
namespace Go.Proofs.YtaaikbbgbnbmkaaDoor
open Go.RowKit

set_option maxHeartbeats 4000000 in
set_option maxRecDepth 100000 in
theorem reftag_is {s : ByteArray} {r : Bool} (h : tagB (bs9 s) = r) (hs : s.size ≤ 1000000) (w : World) : Calls Tryd.prog 15 #[.string s] w (fun e w' => e = .returned (.bool r) ∧ w' = w) := by
  have H := Lib.hid h
  clear h
  have HL : Hid (∀ (f : Nat → Bool) {i x : Nat}, (bs9 s)[i]? = some x → f x = false → (bs9 s).all f = false) := fun f _ _ h1 h2 => all_no h1 h2
  have HN : Hid ((bs9 s).all tagC = false → r = false) := fun e => by rw [← H.out]; unfold tagB; rw [e, Bool.and_false]
  go_enter Tryd.func15, Tryd.ntmps15
  go_wp2_with fail
  go_loopw [7] (fun iv wr => ∃ i : Nat, iv = .int .i64 i ∧ i ≤ s.size ∧ ((bs9 s).take i).all tagC = true ∧ wr = w) (fun iv _ => s.size - (intOf iv).toNat)
  case atStart => exact ⟨0, rfl, Nat.zero_le _, rfl, rfl⟩
  case round =>
    obtain ⟨i, rfl, hi, hj, rfl⟩ := hrel
    have HJ := Lib.hid hj
    clear hj
    rcases Nat.lt_or_ge i s.size with hlt | hge
    · obtain ⟨x, hx⟩ : ∃ x, x = (s[i]'hlt).toNat := ⟨_, rfl⟩
      have ex : ((s[i]'hlt).toNat : Int) = (x : Int) := by rw [hx]
      have HX : Hid ((bs9 s)[i]? = some x) := by show _ = _; rw [bs9_at s i hlt, hx]
      clear hx
      cases hupB : upB x with
      | true =>
        have VupB := Lib.hid hupB
        clear hupB
        have HJ2 : Hid (((bs9 s).take (i + 1)).all tagC = true) := all_step HX.out HJ.out (by simp [tagC, VupB.out])
        go_wp2_with fail
        refine (up_is VupB.out _).mono ?_; rintro e w1 ⟨rfl, rfl⟩
        go_wp2_with fail
        go_roundw
        case rel => exact ⟨i + 1, by go_num, by omega, HJ2.out, trivial⟩
        case measure => simp [intOf] <;> omega
      | false =>
        have VupB := Lib.hid hupB
        clear hupB
        cases hlwB : lwB x with
        | true =>
          have VlwB := Lib.hid hlwB
          clear hlwB
          have HJ2 : Hid (((bs9 s).take (i + 1)).all tagC = true) := all_step HX.out HJ.out (by simp [tagC, VlwB.out])
          go_wp2_with fail
          refine (up_is VupB.out _).mono ?_; rintro e w1 ⟨rfl, rfl⟩
          go_wp2_with fail
          refine (lw_is VlwB.out _).mono ?_; rintro e w1 ⟨rfl, rfl⟩
          go_wp2_with fail
          go_roundw
          case rel => exact ⟨i + 1, by go_num, by omega, HJ2.out, trivial⟩
          case measure => simp [intOf] <;> omega
        | false =>
          have VlwB := Lib.hid hlwB
          clear hlwB
          cases hdgB : dgB x with
          | true =>
            have VdgB := Lib.hid hdgB
            clear hdgB
            have HJ2 : Hid (((bs9 s).take (i + 1)).all tagC = true) := all_step HX.out HJ.out (by simp [tagC, VdgB.out])
            go_wp2_with fail
            refine (up_is VupB.out _).mono ?_; rintro e w1 ⟨rfl, rfl⟩
            go_wp2_with fail
            refine (lw_is VlwB.out _).mono ?_; rintro e w1 ⟨rfl, rfl⟩
            go_wp2_with fail
            refine (dg_is VdgB.out _).mono ?_; rintro e w1 ⟨rfl, rfl⟩
            go_wp2_with fail
            go_roundw
            case rel => exact ⟨i + 1, by go_num, by omega, HJ2.out, trivial⟩
            case measure => simp [intOf] <;> omega
          | false =>
            have VdgB := Lib.hid hdgB
            clear hdgB
            by_cases k45 : x = 45
            · have d45 : ((x : Int) != 45) = false := by rw [k45]; rfl
              have HJ2 : Hid (((bs9 s).take (i + 1)).all tagC = true) := all_step HX.out HJ.out (by simp [tagC, k45])
              clear k45
              go_wp2_with fail
              refine (up_is VupB.out _).mono ?_; rintro e w1 ⟨rfl, rfl⟩
              go_wp2_with fail
              refine (lw_is VlwB.out _).mono ?_; rintro e w1 ⟨rfl, rfl⟩
              go_wp2_with fail
              refine (dg_is VdgB.out _).mono ?_; rintro e w1 ⟨rfl, rfl⟩
              go_wp2_with fail
              go_roundw
              case rel => exact ⟨i + 1, by go_num, by omega, HJ2.out, trivial⟩
              case measure => simp [intOf] <;> omega
            · have d45 : ((x : Int) != 45) = true := by rw [bne_iff_ne]; omega
              by_cases k95 : x = 95
              · have d95 : ((x : Int) != 95) = false := by rw [k95]; rfl
                have HJ2 : Hid (((bs9 s).take (i + 1)).all tagC = true) := all_step HX.out HJ.out (by simp [tagC, k95])
                clear k45
                clear k95
                go_wp2_with fail
                refine (up_is VupB.out _).mono ?_; rintro e w1 ⟨rfl, rfl⟩
                go_wp2_with fail
                refine (lw_is VlwB.out _).mono ?_; rintro e w1 ⟨rfl, rfl⟩
                go_wp2_with fail
                refine (dg_is VdgB.out _).mono ?_; rintro e w1 ⟨rfl, rfl⟩
                go_wp2_with fail
                go_roundw
                case rel => exact ⟨i + 1, by go_num, by omega, HJ2.out, trivial⟩
                case measure => simp [intOf] <;> omega
              · have d95 : ((x : Int) != 95) = true := by rw [bne_iff_ne]; omega
                by_cases k47 : x = 47
                · have d47 : ((x : Int) != 47) = false := by rw [k47]; rfl
                  have HJ2 : Hid (((bs9 s).take (i + 1)).all tagC = true) := all_step HX.out HJ.out (by simp [tagC, k47])
                  clear k45
                  clear k95
                  clear k47
                  go_wp2_with fail
                  refine (up_is VupB.out _).mono ?_; rintro e w1 ⟨rfl, rfl⟩
                  go_wp2_with fail
                  refine (lw_is VlwB.out _).mono ?_; rintro e w1 ⟨rfl, rfl⟩
                  go_wp2_with fail
                  refine (dg_is VdgB.out _).mono ?_; rintro e w1 ⟨rfl, rfl⟩
                  go_wp2_with fail
                  go_roundw
                  case rel => exact ⟨i + 1, by go_num, by omega, HJ2.out, trivial⟩
                  case measure => simp [intOf] <;> omega
                · have d47 : ((x : Int) != 47) = true := by rw [bne_iff_ne]; omega
                  by_cases k46 : x = 46
                  · have d46 : ((x : Int) != 46) = false := by rw [k46]; rfl
                    have HJ2 : Hid (((bs9 s).take (i + 1)).all tagC = true) := all_step HX.out HJ.out (by simp [tagC, k46])
                    clear k45
                    clear k95
                    clear k47
                    clear k46
                    go_wp2_with fail
                    refine (up_is VupB.out _).mono ?_; rintro e w1 ⟨rfl, rfl⟩
                    go_wp2_with fail
                    refine (lw_is VlwB.out _).mono ?_; rintro e w1 ⟨rfl, rfl⟩
                    go_wp2_with fail
                    refine (dg_is VdgB.out _).mono ?_; rintro e w1 ⟨rfl, rfl⟩
                    go_wp2_with fail
                    go_roundw
                    case rel => exact ⟨i + 1, by go_num, by omega, HJ2.out, trivial⟩
                    case measure => simp [intOf] <;> omega
                  · have d46 : ((x : Int) != 46) = true := by rw [bne_iff_ne]; omega
                    have E : Hid (r = false) := HN.out (HL.out tagC HX.out (by simp [tagC, VupB.out, VlwB.out, VdgB.out, k45, k95, k47, k46]))
                    clear k45
                    clear k95
                    clear k47
                    clear k46
                    go_wp2_with fail
                    refine (up_is VupB.out _).mono ?_; rintro e w1 ⟨rfl, rfl⟩
                    go_wp2_with fail
                    refine (lw_is VlwB.out _).mono ?_; rintro e w1 ⟨rfl, rfl⟩
                    go_wp2_with fail
                    refine (dg_is VdgB.out _).mono ?_; rintro e w1 ⟨rfl, rfl⟩
                    go_wp2_with fail
                    go_ret
                    exact ⟨rb9 E.out.symm, rfl⟩
    · have HA : Hid ((bs9 s).all tagC = true) := all_end (by rw [bs9_len]; omega) HJ.out
      rcases Nat.eq_zero_or_pos s.size with h0 | h0
      · have d := emp_yes h0
        have E : Hid (r = false) := by show _ = _; rw [← H.out, nil_of h0]; rfl
        go_wp2_with fail
        go_ret
        exact ⟨rb9 E.out.symm, rfl⟩
      · have d := emp_not h0
        have E : Hid (r = true) := by show _ = _; rw [← H.out]; unfold tagB; rw [(fst_of h0).1, HA.out]; rfl
        go_wp2_with fail
        go_ret
        exact ⟨rb9 E.out.symm, rfl⟩

set_option maxHeartbeats 4000000 in
set_option maxRecDepth 100000 in
theorem refkey_is {s : ByteArray} {r : Bool} (h : keyB (bs9 s) = r) (hs : s.size ≤ 1000000) (w : World) : Calls Tryd.prog 17 #[.string s] w (fun e w' => e = .returned (.bool r) ∧ w' = w) := by
  have H := Lib.hid h
  clear h
  have HL : Hid (∀ (f : Nat → Bool) {i x : Nat}, (bs9 s)[i]? = some x → f x = false → (bs9 s).all f = false) := fun f _ _ h1 h2 => all_no h1 h2
  have HN : Hid ((bs9 s).all keyC = false → r = false) := fun e => by rw [← H.out]; unfold keyB; rw [e, Bool.and_false]
  rcases Nat.eq_zero_or_pos s.size with h0 | h0
  · have d := str_emp h0
    have E : Hid (r = false) := by show _ = _; rw [← H.out, nil_of h0]; rfl
    go_enter Tryd.func17, Tryd.ntmps17
    go_wp2_with fail
    go_ret
    exact ⟨rb9 E.out.symm, rfl⟩
  have d := str_ne h0
  obtain ⟨g1, g2, g3⟩ := fst_of h0
  obtain ⟨x0, hx0⟩ : ∃ x, (s[0]'h0).toNat = x := ⟨_, rfl⟩
  have ex0 : ((s[0]'h0).toNat : Int) = (x0 : Int) := by rw [hx0]
  have HB : Hid (r = (lwB x0 && (bs9 s).all keyC)) := by show _ = _; rw [← H.out]; unfold keyB; rw [g1, g2, hx0]; rfl
  clear g1 g2 g3 hx0
  cases hc : lwB x0 with
  | false =>
    have E : Hid (r = false) := by show _ = _; rw [HB.out, hc]; rfl
    have HC := Lib.hid hc
    clear hc
    go_enter Tryd.func17, Tryd.ntmps17
    go_wp2_with fail
    refine (lw_is HC.out _).mono ?_; rintro e w1 ⟨rfl, hw⟩; obtain rfl := hw.symm
    go_wp2_with fail
    go_ret
    exact ⟨rb9 E.out.symm, rfl⟩
  | true =>
    have HE : Hid ((bs9 s).all keyC = true → r = true) := fun e => by rw [HB.out, hc, e]; rfl
    have HC := Lib.hid hc
    clear hc
    go_enter Tryd.func17, Tryd.ntmps17
    go_wp2_with fail
    refine (lw_is HC.out _).mono ?_; rintro e w1 ⟨rfl, hw⟩; obtain rfl := hw.symm
    go_wp2_with fail
    go_loopw [15] (fun iv wr => ∃ i : Nat, iv = .int .i64 i ∧ i ≤ s.size ∧ ((bs9 s).take i).all keyC = true ∧ wr = w) (fun iv _ => s.size - (intOf iv).toNat)
    case atStart => exact ⟨0, rfl, Nat.zero_le _, rfl, rfl⟩
    case round =>
      obtain ⟨i, rfl, hi, hj, rfl⟩ := hrel
      have HJ := Lib.hid hj
      clear hj
      rcases Nat.lt_or_ge i s.size with hlt | hge
      · obtain ⟨x, hx⟩ : ∃ x, x = (s[i]'hlt).toNat := ⟨_, rfl⟩
        have ex : ((s[i]'hlt).toNat : Int) = (x : Int) := by rw [hx]
        have HX : Hid ((bs9 s)[i]? = some x) := by show _ = _; rw [bs9_at s i hlt, hx]
        clear hx
        cases hupB : upB x with
        | true =>
          have VupB := Lib.hid hupB
          clear hupB
          have HJ2 : Hid (((bs9 s).take (i + 1)).all keyC = true) := all_step HX.out HJ.out (by simp [keyC, VupB.out])
          go_wp2_with fail
          refine (up_is VupB.out _).mono ?_; rintro e w1 ⟨rfl, rfl⟩
          go_wp2_with fail
          go_roundw
          case rel => exact ⟨i + 1, by go_num, by omega, HJ2.out, trivial⟩
          case measure => simp [intOf] <;> omega
        | false =>
          have VupB := Lib.hid hupB
          clear hupB
          cases hlwB : lwB x with
          | true =>
            have VlwB := Lib.hid hlwB
            clear hlwB
            have HJ2 : Hid (((bs9 s).take (i + 1)).all keyC = true) := all_step HX.out HJ.out (by simp [keyC, VlwB.out])
            go_wp2_with fail
            refine (up_is VupB.out _).mono ?_; rintro e w1 ⟨rfl, rfl⟩
            go_wp2_with fail
            refine (lw_is VlwB.out _).mono ?_; rintro e w1 ⟨rfl, rfl⟩
            go_wp2_with fail
            go_roundw
            case rel => exact ⟨i + 1, by go_num, by omega, HJ2.out, trivial⟩
            case measure => simp [intOf] <;> omega
          | false =>
            have VlwB := Lib.hid hlwB
            clear hlwB
            cases hdgB : dgB x with
            | true =>
              have VdgB := Lib.hid hdgB
              clear hdgB
              have HJ2 : Hid (((bs9 s).take (i + 1)).all keyC = true) := all_step HX.out HJ.out (by simp [keyC, VdgB.out])
              go_wp2_with fail
              refine (up_is VupB.out _).mono ?_; rintro e w1 ⟨rfl, rfl⟩
              go_wp2_with fail
              refine (lw_is VlwB.out _).mono ?_; rintro e w1 ⟨rfl, rfl⟩
              go_wp2_with fail
              refine (dg_is VdgB.out _).mono ?_; rintro e w1 ⟨rfl, rfl⟩
              go_wp2_with fail
              go_roundw
              case rel => exact ⟨i + 1, by go_num, by omega, HJ2.out, trivial⟩
              case measure => simp [intOf] <;> omega
            | false =>
              have VdgB := Lib.hid hdgB
              clear hdgB
              by_cases k45 : x = 45
              · have d45 : ((x : Int) != 45) = false := by rw [k45]; rfl
                have HJ2 : Hid (((bs9 s).take (i + 1)).all keyC = true) := all_step HX.out HJ.out (by simp [keyC, k45])
                clear k45
                go_wp2_with fail
                refine (up_is VupB.out _).mono ?_; rintro e w1 ⟨rfl, rfl⟩
                go_wp2_with fail
                refine (lw_is VlwB.out _).mono ?_; rintro e w1 ⟨rfl, rfl⟩
                go_wp2_with fail
                refine (dg_is VdgB.out _).mono ?_; rintro e w1 ⟨rfl, rfl⟩
                go_wp2_with fail
                go_roundw
                case rel => exact ⟨i + 1, by go_num, by omega, HJ2.out, trivial⟩
                case measure => simp [intOf] <;> omega
              · have d45 : ((x : Int) != 45) = true := by rw [bne_iff_ne]; omega
                by_cases k95 : x = 95
                · have d95 : ((x : Int) != 95) = false := by rw [k95]; rfl
                  have HJ2 : Hid (((bs9 s).take (i + 1)).all keyC = true) := all_step HX.out HJ.out (by simp [keyC, k95])
                  clear k45
                  clear k95
                  go_wp2_with fail
                  refine (up_is VupB.out _).mono ?_; rintro e w1 ⟨rfl, rfl⟩
                  go_wp2_with fail
                  refine (lw_is VlwB.out _).mono ?_; rintro e w1 ⟨rfl, rfl⟩
                  go_wp2_with fail
                  refine (dg_is VdgB.out _).mono ?_; rintro e w1 ⟨rfl, rfl⟩
                  go_wp2_with fail
                  go_roundw
                  case rel => exact ⟨i + 1, by go_num, by omega, HJ2.out, trivial⟩
                  case measure => simp [intOf] <;> omega
                · have d95 : ((x : Int) != 95) = true := by rw [bne_iff_ne]; omega
                  have E : Hid (r = false) := HN.out (HL.out keyC HX.out (by simp [keyC, VupB.out, VlwB.out, VdgB.out, k45, k95]))
                  clear k45
                  clear k95
                  go_wp2_with fail
                  refine (up_is VupB.out _).mono ?_; rintro e w1 ⟨rfl, rfl⟩
                  go_wp2_with fail
                  refine (lw_is VlwB.out _).mono ?_; rintro e w1 ⟨rfl, rfl⟩
                  go_wp2_with fail
                  refine (dg_is VdgB.out _).mono ?_; rintro e w1 ⟨rfl, rfl⟩
                  go_wp2_with fail
                  go_ret
                  exact ⟨rb9 E.out.symm, rfl⟩
      · have HA : Hid ((bs9 s).all keyC = true) := all_end (by rw [bs9_len]; omega) HJ.out
        have E : Hid (r = true) := HE.out HA.out
        go_wp2_with fail
        go_ret
        exact ⟨rb9 E.out.symm, rfl⟩

set_option maxHeartbeats 4000000 in
set_option maxRecDepth 100000 in
theorem refpart_is {s : ByteArray} {r : Bool} (h : prtB (bs9 s) = r) (hs : s.size ≤ 1000000) (w : World) : Calls Tryd.prog 35 #[.string s] w (fun e w' => e = .returned (.bool r) ∧ w' = w) := by
  have H := Lib.hid h
  clear h
  have HL : Hid (∀ (f : Nat → Bool) {i x : Nat}, (bs9 s)[i]? = some x → f x = false → (bs9 s).all f = false) := fun f _ _ h1 h2 => all_no h1 h2
  have HN : Hid ((bs9 s).all prtC = false → r = false) := fun e => by rw [← H.out]; unfold prtB; rw [e, Bool.and_false]
  rcases Nat.eq_zero_or_pos s.size with h0 | h0
  · have d := str_emp h0
    have E : Hid (r = false) := by show _ = _; rw [← H.out, nil_of h0]; rfl
    go_enter Tryd.func35, Tryd.ntmps35
    go_wp2_with fail
    go_ret
    exact ⟨rb9 E.out.symm, rfl⟩
  have d := str_ne h0
  obtain ⟨g1, g2, g3⟩ := fst_of h0
  obtain ⟨x0, hx0⟩ : ∃ x, (s[0]'h0).toNat = x := ⟨_, rfl⟩
  have ex0 : ((s[0]'h0).toNat : Int) = (x0 : Int) := by rw [hx0]
  have HB : Hid (r = (ud x0 && (bs9 s).all prtC)) := by show _ = _; rw [← H.out]; unfold prtB; rw [g1, g2, hx0]; rfl
  clear g1 g2 g3 hx0
  cases hc : upB x0 with
  | true =>
    have HE : Hid ((bs9 s).all prtC = true → r = true) := fun e => by rw [HB.out, e, ud, hc]; rfl
    have HC := Lib.hid hc
    clear hc
    go_enter Tryd.func35, Tryd.ntmps35
    go_wp2_with fail
    refine (up_is HC.out _).mono ?_; rintro e w1 ⟨rfl, hw⟩; obtain rfl := hw.symm
    go_wp2_with fail
    go_loopw [20] (fun iv wr => ∃ i : Nat, iv = .int .i64 i ∧ i ≤ s.size ∧ ((bs9 s).take i).all prtC = true ∧ wr = w) (fun iv _ => s.size - (intOf iv).toNat)
    case atStart => exact ⟨0, rfl, Nat.zero_le _, rfl, rfl⟩
    case round =>
      obtain ⟨i, rfl, hi, hj, rfl⟩ := hrel
      have HJ := Lib.hid hj
      clear hj
      rcases Nat.lt_or_ge i s.size with hlt | hge
      · obtain ⟨x, hx⟩ : ∃ x, x = (s[i]'hlt).toNat := ⟨_, rfl⟩
        have ex : ((s[i]'hlt).toNat : Int) = (x : Int) := by rw [hx]
        have HX : Hid ((bs9 s)[i]? = some x) := by show _ = _; rw [bs9_at s i hlt, hx]
        clear hx
        cases hupB : upB x with
        | true =>
          have VupB := Lib.hid hupB
          clear hupB
          have HJ2 : Hid (((bs9 s).take (i + 1)).all prtC = true) := all_step HX.out HJ.out (by simp [prtC, VupB.out])
          go_wp2_with fail
          refine (up_is VupB.out _).mono ?_; rintro e w1 ⟨rfl, rfl⟩
          go_wp2_with fail
          go_roundw
          case rel => exact ⟨i + 1, by go_num, by omega, HJ2.out, trivial⟩
          case measure => simp [intOf] <;> omega
        | false =>
          have VupB := Lib.hid hupB
          clear hupB
          cases hlwB : lwB x with
          | true =>
            have VlwB := Lib.hid hlwB
            clear hlwB
            have HJ2 : Hid (((bs9 s).take (i + 1)).all prtC = true) := all_step HX.out HJ.out (by simp [prtC, VlwB.out])
            go_wp2_with fail
            refine (up_is VupB.out _).mono ?_; rintro e w1 ⟨rfl, rfl⟩
            go_wp2_with fail
            refine (lw_is VlwB.out _).mono ?_; rintro e w1 ⟨rfl, rfl⟩
            go_wp2_with fail
            go_roundw
            case rel => exact ⟨i + 1, by go_num, by omega, HJ2.out, trivial⟩
            case measure => simp [intOf] <;> omega
          | false =>
            have VlwB := Lib.hid hlwB
            clear hlwB
            cases hdgB : dgB x with
            | true =>
              have VdgB := Lib.hid hdgB
              clear hdgB
              have HJ2 : Hid (((bs9 s).take (i + 1)).all prtC = true) := all_step HX.out HJ.out (by simp [prtC, VdgB.out])
              go_wp2_with fail
              refine (up_is VupB.out _).mono ?_; rintro e w1 ⟨rfl, rfl⟩
              go_wp2_with fail
              refine (lw_is VlwB.out _).mono ?_; rintro e w1 ⟨rfl, rfl⟩
              go_wp2_with fail
              refine (dg_is VdgB.out _).mono ?_; rintro e w1 ⟨rfl, rfl⟩
              go_wp2_with fail
              go_roundw
              case rel => exact ⟨i + 1, by go_num, by omega, HJ2.out, trivial⟩
              case measure => simp [intOf] <;> omega
            | false =>
              have VdgB := Lib.hid hdgB
              clear hdgB
              by_cases k45 : x = 45
              · have d45 : ((x : Int) != 45) = false := by rw [k45]; rfl
                have HJ2 : Hid (((bs9 s).take (i + 1)).all prtC = true) := all_step HX.out HJ.out (by simp [prtC, k45])
                clear k45
                go_wp2_with fail
                refine (up_is VupB.out _).mono ?_; rintro e w1 ⟨rfl, rfl⟩
                go_wp2_with fail
                refine (lw_is VlwB.out _).mono ?_; rintro e w1 ⟨rfl, rfl⟩
                go_wp2_with fail
                refine (dg_is VdgB.out _).mono ?_; rintro e w1 ⟨rfl, rfl⟩
                go_wp2_with fail
                go_roundw
                case rel => exact ⟨i + 1, by go_num, by omega, HJ2.out, trivial⟩
                case measure => simp [intOf] <;> omega
              · have d45 : ((x : Int) != 45) = true := by rw [bne_iff_ne]; omega
                have E : Hid (r = false) := HN.out (HL.out prtC HX.out (by simp [prtC, VupB.out, VlwB.out, VdgB.out, k45]))
                clear k45
                go_wp2_with fail
                refine (up_is VupB.out _).mono ?_; rintro e w1 ⟨rfl, rfl⟩
                go_wp2_with fail
                refine (lw_is VlwB.out _).mono ?_; rintro e w1 ⟨rfl, rfl⟩
                go_wp2_with fail
                refine (dg_is VdgB.out _).mono ?_; rintro e w1 ⟨rfl, rfl⟩
                go_wp2_with fail
                go_ret
                exact ⟨rb9 E.out.symm, rfl⟩
      · have HA : Hid ((bs9 s).all prtC = true) := all_end (by rw [bs9_len]; omega) HJ.out
        have E : Hid (r = true) := HE.out HA.out
        go_wp2_with fail
        go_ret
        exact ⟨rb9 E.out.symm, rfl⟩
  | false =>
   cases hc2 : dgB x0 with
   | true =>
    have HE : Hid ((bs9 s).all prtC = true → r = true) := fun e => by rw [HB.out, e, ud, hc, hc2]; rfl
    have HC := Lib.hid hc
    have HC2 := Lib.hid hc2
    clear hc hc2
    go_enter Tryd.func35, Tryd.ntmps35
    go_wp2_with fail
    refine (up_is HC.out _).mono ?_; rintro e w1 ⟨rfl, hw⟩; obtain rfl := hw.symm
    go_wp2_with fail
    refine (dg_is HC2.out _).mono ?_; rintro e w1 ⟨rfl, hw⟩; obtain rfl := hw.symm
    go_wp2_with fail
    go_loopw [20] (fun iv wr => ∃ i : Nat, iv = .int .i64 i ∧ i ≤ s.size ∧ ((bs9 s).take i).all prtC = true ∧ wr = w) (fun iv _ => s.size - (intOf iv).toNat)
    case atStart => exact ⟨0, rfl, Nat.zero_le _, rfl, rfl⟩
    case round =>
      obtain ⟨i, rfl, hi, hj, rfl⟩ := hrel
      have HJ := Lib.hid hj
      clear hj
      rcases Nat.lt_or_ge i s.size with hlt | hge
      · obtain ⟨x, hx⟩ : ∃ x, x = (s[i]'hlt).toNat := ⟨_, rfl⟩
        have ex : ((s[i]'hlt).toNat : Int) = (x : Int) := by rw [hx]
        have HX : Hid ((bs9 s)[i]? = some x) := by show _ = _; rw [bs9_at s i hlt, hx]
        clear hx
        cases hupB : upB x with
        | true =>
          have VupB := Lib.hid hupB
          clear hupB
          have HJ2 : Hid (((bs9 s).take (i + 1)).all prtC = true) := all_step HX.out HJ.out (by simp [prtC, VupB.out])
          go_wp2_with fail
          refine (up_is VupB.out _).mono ?_; rintro e w1 ⟨rfl, rfl⟩
          go_wp2_with fail
          go_roundw
          case rel => exact ⟨i + 1, by go_num, by omega, HJ2.out, trivial⟩
          case measure => simp [intOf] <;> omega
        | false =>
          have VupB := Lib.hid hupB
          clear hupB
          cases hlwB : lwB x with
          | true =>
            have VlwB := Lib.hid hlwB
            clear hlwB
            have HJ2 : Hid (((bs9 s).take (i + 1)).all prtC = true) := all_step HX.out HJ.out (by simp [prtC, VlwB.out])
            go_wp2_with fail
            refine (up_is VupB.out _).mono ?_; rintro e w1 ⟨rfl, rfl⟩
            go_wp2_with fail
            refine (lw_is VlwB.out _).mono ?_; rintro e w1 ⟨rfl, rfl⟩
            go_wp2_with fail
            go_roundw
            case rel => exact ⟨i + 1, by go_num, by omega, HJ2.out, trivial⟩
            case measure => simp [intOf] <;> omega
          | false =>
            have VlwB := Lib.hid hlwB
            clear hlwB
            cases hdgB : dgB x with
            | true =>
              have VdgB := Lib.hid hdgB
              clear hdgB
              have HJ2 : Hid (((bs9 s).take (i + 1)).all prtC = true) := all_step HX.out HJ.out (by simp [prtC, VdgB.out])
              go_wp2_with fail
              refine (up_is VupB.out _).mono ?_; rintro e w1 ⟨rfl, rfl⟩
              go_wp2_with fail
              refine (lw_is VlwB.out _).mono ?_; rintro e w1 ⟨rfl, rfl⟩
              go_wp2_with fail
              refine (dg_is VdgB.out _).mono ?_; rintro e w1 ⟨rfl, rfl⟩
              go_wp2_with fail
              go_roundw
              case rel => exact ⟨i + 1, by go_num, by omega, HJ2.out, trivial⟩
              case measure => simp [intOf] <;> omega
            | false =>
              have VdgB := Lib.hid hdgB
              clear hdgB
              by_cases k45 : x = 45
              · have d45 : ((x : Int) != 45) = false := by rw [k45]; rfl
                have HJ2 : Hid (((bs9 s).take (i + 1)).all prtC = true) := all_step HX.out HJ.out (by simp [prtC, k45])
                clear k45
                go_wp2_with fail
                refine (up_is VupB.out _).mono ?_; rintro e w1 ⟨rfl, rfl⟩
                go_wp2_with fail
                refine (lw_is VlwB.out _).mono ?_; rintro e w1 ⟨rfl, rfl⟩
                go_wp2_with fail
                refine (dg_is VdgB.out _).mono ?_; rintro e w1 ⟨rfl, rfl⟩
                go_wp2_with fail
                go_roundw
                case rel => exact ⟨i + 1, by go_num, by omega, HJ2.out, trivial⟩
                case measure => simp [intOf] <;> omega
              · have d45 : ((x : Int) != 45) = true := by rw [bne_iff_ne]; omega
                have E : Hid (r = false) := HN.out (HL.out prtC HX.out (by simp [prtC, VupB.out, VlwB.out, VdgB.out, k45]))
                clear k45
                go_wp2_with fail
                refine (up_is VupB.out _).mono ?_; rintro e w1 ⟨rfl, rfl⟩
                go_wp2_with fail
                refine (lw_is VlwB.out _).mono ?_; rintro e w1 ⟨rfl, rfl⟩
                go_wp2_with fail
                refine (dg_is VdgB.out _).mono ?_; rintro e w1 ⟨rfl, rfl⟩
                go_wp2_with fail
                go_ret
                exact ⟨rb9 E.out.symm, rfl⟩
      · have HA : Hid ((bs9 s).all prtC = true) := all_end (by rw [bs9_len]; omega) HJ.out
        have E : Hid (r = true) := HE.out HA.out
        go_wp2_with fail
        go_ret
        exact ⟨rb9 E.out.symm, rfl⟩
   | false =>
    have E : Hid (r = false) := by show _ = _; rw [HB.out, ud, hc, hc2]; rfl
    have HC := Lib.hid hc
    have HC2 := Lib.hid hc2
    clear hc hc2
    go_enter Tryd.func35, Tryd.ntmps35
    go_wp2_with fail
    refine (up_is HC.out _).mono ?_; rintro e w1 ⟨rfl, hw⟩; obtain rfl := hw.symm
    go_wp2_with fail
    refine (dg_is HC2.out _).mono ?_; rintro e w1 ⟨rfl, hw⟩; obtain rfl := hw.symm
    go_wp2_with fail
    go_ret
    exact ⟨rb9 E.out.symm, rfl⟩

set_option maxHeartbeats 4000000 in
set_option maxRecDepth 100000 in
theorem refcurrency_is {s : ByteArray} {r : Bool} (h : curB (bs9 s) = r) (hs : s.size ≤ 1000000) (w : World) : Calls Tryd.prog 13 #[.string s] w (fun e w' => e = .returned (.bool r) ∧ w' = w) := by
  have H := Lib.hid h
  clear h
  have HL : Hid (∀ (f : Nat → Bool) {i x : Nat}, (bs9 s)[i]? = some x → f x = false → (bs9 s).all f = false) := fun f _ _ h1 h2 => all_no h1 h2
  have HN : Hid ((bs9 s).all curC = false → r = false) := fun e => by rw [← H.out]; unfold curB; rw [e, Bool.and_false, Bool.false_and]
  rcases Nat.eq_zero_or_pos s.size with h0 | h0
  · have E : Hid (r = false) := by show _ = _; rw [← H.out, nil_of h0]; rfl
    have d1 : decide ((s.size : Int) < 1) = true := decide_eq_true (by omega)
    go_enter Tryd.func13, Tryd.ntmps13
    go_wp2_with fail
    go_ret
    exact ⟨rb9 E.out.symm, rfl⟩
  have d1 : decide ((s.size : Int) < 1) = false := decide_eq_false (by omega)
  rcases Nat.lt_or_ge 24 s.size with h24 | h24
  · have E : Hid (r = false) := by show _ = _; rw [← H.out]; unfold curB; rw [(fst_of h0).1, bs9_len, decide_eq_false (by omega)]; rfl
    have d2 : decide ((24 : Int) < (s.size : Int)) = true := decide_eq_true (by omega)
    go_enter Tryd.func13, Tryd.ntmps13
    go_wp2_with fail
    go_ret
    exact ⟨rb9 E.out.symm, rfl⟩
  have d2 : decide ((24 : Int) < (s.size : Int)) = false := decide_eq_false (by omega)
  obtain ⟨g1, g2, g3⟩ := fst_of h0
  obtain ⟨m, hm⟩ : ∃ m, m + 1 = s.size := ⟨s.size - 1, by omega⟩
  have em : (s.size : Int) - 1 = (m : Int) := by omega
  have hms : m < s.size := by omega
  obtain ⟨m1, m2⟩ := lst_of hms hm
  obtain ⟨x0, hx0⟩ : ∃ x, (s[0]'h0).toNat = x := ⟨_, rfl⟩
  have ex0 : ((s[0]'h0).toNat : Int) = (x0 : Int) := by rw [hx0]
  obtain ⟨y, hy⟩ : ∃ y, (s[m]'hms).toNat = y := ⟨_, rfl⟩
  have ey : ((s[m]'hms).toNat : Int) = (y : Int) := by rw [hy]
  have HB : Hid (r = (upB x0 && (bs9 s).all curC && ud y)) := by show _ = _; rw [← H.out]; unfold curB; rw [g1, g2, m1, hx0, hy, bs9_len, decide_eq_true (by omega)]; rfl
  clear g1 g2 g3 hx0 m1 m2 hy
  cases hc : upB x0 with
  | false =>
    have E : Hid (r = false) := by show _ = _; rw [HB.out, hc]; rfl
    have HC := Lib.hid hc
    clear hc
    go_enter Tryd.func13, Tryd.ntmps13
    go_wp2_with fail
    refine (up_is HC.out _).mono ?_; rintro e w1 ⟨rfl, hw⟩; obtain rfl := hw.symm
    go_wp2_with fail
    go_ret
    exact ⟨rb9 E.out.symm, rfl⟩
  | true =>
   cases hc2 : upB y with
   | true =>
    have HE : Hid ((bs9 s).all curC = true → r = true) := fun e => by rw [HB.out, e, ud, hc, hc2]; rfl
    have HC := Lib.hid hc
    have HC2 := Lib.hid hc2
    clear hc hc2
    go_enter Tryd.func13, Tryd.ntmps13
    go_wp2_with fail
    refine (up_is HC.out _).mono ?_; rintro e w1 ⟨rfl, hw⟩; obtain rfl := hw.symm
    go_wp2_with fail
    refine (up_is HC2.out _).mono ?_; rintro e w1 ⟨rfl, hw⟩; obtain rfl := hw.symm
    go_wp2_with fail
    go_loopw [39] (fun iv wr => ∃ i : Nat, iv = .int .i64 i ∧ i ≤ s.size ∧ ((bs9 s).take i).all curC = true ∧ wr = w) (fun iv _ => s.size - (intOf iv).toNat)
    case atStart => exact ⟨0, rfl, Nat.zero_le _, rfl, rfl⟩
    case round =>
      obtain ⟨i, rfl, hi, hj, rfl⟩ := hrel
      have HJ := Lib.hid hj
      clear hj
      rcases Nat.lt_or_ge i s.size with hlt | hge
      · obtain ⟨x, hx⟩ : ∃ x, x = (s[i]'hlt).toNat := ⟨_, rfl⟩
        have ex : ((s[i]'hlt).toNat : Int) = (x : Int) := by rw [hx]
        have HX : Hid ((bs9 s)[i]? = some x) := by show _ = _; rw [bs9_at s i hlt, hx]
        clear hx
        cases hupB : upB x with
        | true =>
          have VupB := Lib.hid hupB
          clear hupB
          have HJ2 : Hid (((bs9 s).take (i + 1)).all curC = true) := all_step HX.out HJ.out (by simp [curC, VupB.out])
          go_wp2_with fail
          refine (up_is VupB.out _).mono ?_; rintro e w1 ⟨rfl, rfl⟩
          go_wp2_with fail
          go_roundw
          case rel => exact ⟨i + 1, by go_num, by omega, HJ2.out, trivial⟩
          case measure => simp [intOf] <;> omega
        | false =>
          have VupB := Lib.hid hupB
          clear hupB
          cases hdgB : dgB x with
          | true =>
            have VdgB := Lib.hid hdgB
            clear hdgB
            have HJ2 : Hid (((bs9 s).take (i + 1)).all curC = true) := all_step HX.out HJ.out (by simp [curC, VdgB.out])
            go_wp2_with fail
            refine (up_is VupB.out _).mono ?_; rintro e w1 ⟨rfl, rfl⟩
            go_wp2_with fail
            refine (dg_is VdgB.out _).mono ?_; rintro e w1 ⟨rfl, rfl⟩
            go_wp2_with fail
            go_roundw
            case rel => exact ⟨i + 1, by go_num, by omega, HJ2.out, trivial⟩
            case measure => simp [intOf] <;> omega
          | false =>
            have VdgB := Lib.hid hdgB
            clear hdgB
            by_cases k39 : x = 39
            · have d39 : ((x : Int) != 39) = false := by rw [k39]; rfl
              have HJ2 : Hid (((bs9 s).take (i + 1)).all curC = true) := all_step HX.out HJ.out (by simp [curC, k39])
              clear k39
              go_wp2_with fail
              refine (up_is VupB.out _).mono ?_; rintro e w1 ⟨rfl, rfl⟩
              go_wp2_with fail
              refine (dg_is VdgB.out _).mono ?_; rintro e w1 ⟨rfl, rfl⟩
              go_wp2_with fail
              go_roundw
              case rel => exact ⟨i + 1, by go_num, by omega, HJ2.out, trivial⟩
              case measure => simp [intOf] <;> omega
            · have d39 : ((x : Int) != 39) = true := by rw [bne_iff_ne]; omega
              by_cases k46 : x = 46
              · have d46 : ((x : Int) != 46) = false := by rw [k46]; rfl
                have HJ2 : Hid (((bs9 s).take (i + 1)).all curC = true) := all_step HX.out HJ.out (by simp [curC, k46])
                clear k39
                clear k46
                go_wp2_with fail
                refine (up_is VupB.out _).mono ?_; rintro e w1 ⟨rfl, rfl⟩
                go_wp2_with fail
                refine (dg_is VdgB.out _).mono ?_; rintro e w1 ⟨rfl, rfl⟩
                go_wp2_with fail
                go_roundw
                case rel => exact ⟨i + 1, by go_num, by omega, HJ2.out, trivial⟩
                case measure => simp [intOf] <;> omega
              · have d46 : ((x : Int) != 46) = true := by rw [bne_iff_ne]; omega
                by_cases k95 : x = 95
                · have d95 : ((x : Int) != 95) = false := by rw [k95]; rfl
                  have HJ2 : Hid (((bs9 s).take (i + 1)).all curC = true) := all_step HX.out HJ.out (by simp [curC, k95])
                  clear k39
                  clear k46
                  clear k95
                  go_wp2_with fail
                  refine (up_is VupB.out _).mono ?_; rintro e w1 ⟨rfl, rfl⟩
                  go_wp2_with fail
                  refine (dg_is VdgB.out _).mono ?_; rintro e w1 ⟨rfl, rfl⟩
                  go_wp2_with fail
                  go_roundw
                  case rel => exact ⟨i + 1, by go_num, by omega, HJ2.out, trivial⟩
                  case measure => simp [intOf] <;> omega
                · have d95 : ((x : Int) != 95) = true := by rw [bne_iff_ne]; omega
                  by_cases k45 : x = 45
                  · have d45 : ((x : Int) != 45) = false := by rw [k45]; rfl
                    have HJ2 : Hid (((bs9 s).take (i + 1)).all curC = true) := all_step HX.out HJ.out (by simp [curC, k45])
                    clear k39
                    clear k46
                    clear k95
                    clear k45
                    go_wp2_with fail
                    refine (up_is VupB.out _).mono ?_; rintro e w1 ⟨rfl, rfl⟩
                    go_wp2_with fail
                    refine (dg_is VdgB.out _).mono ?_; rintro e w1 ⟨rfl, rfl⟩
                    go_wp2_with fail
                    go_roundw
                    case rel => exact ⟨i + 1, by go_num, by omega, HJ2.out, trivial⟩
                    case measure => simp [intOf] <;> omega
                  · have d45 : ((x : Int) != 45) = true := by rw [bne_iff_ne]; omega
                    have E : Hid (r = false) := HN.out (HL.out curC HX.out (by simp [curC, VupB.out, VdgB.out, k39, k46, k95, k45]))
                    clear k39
                    clear k46
                    clear k95
                    clear k45
                    go_wp2_with fail
                    refine (up_is VupB.out _).mono ?_; rintro e w1 ⟨rfl, rfl⟩
                    go_wp2_with fail
                    refine (dg_is VdgB.out _).mono ?_; rintro e w1 ⟨rfl, rfl⟩
                    go_wp2_with fail
                    go_ret
                    exact ⟨rb9 E.out.symm, rfl⟩
      · have HA : Hid ((bs9 s).all curC = true) := all_end (by rw [bs9_len]; omega) HJ.out
        have E : Hid (r = true) := HE.out HA.out
        go_wp2_with fail
        go_ret
        exact ⟨rb9 E.out.symm, rfl⟩
   | false =>
    cases hc3 : dgB y with
    | true =>
     have HE : Hid ((bs9 s).all curC = true → r = true) := fun e => by rw [HB.out, e, ud, hc, hc2, hc3]; rfl
     have HC := Lib.hid hc
     have HC2 := Lib.hid hc2
     have HC3 := Lib.hid hc3
     clear hc hc2 hc3
     go_enter Tryd.func13, Tryd.ntmps13
     go_wp2_with fail
     refine (up_is HC.out _).mono ?_; rintro e w1 ⟨rfl, hw⟩; obtain rfl := hw.symm
     go_wp2_with fail
     refine (up_is HC2.out _).mono ?_; rintro e w1 ⟨rfl, hw⟩; obtain rfl := hw.symm
     go_wp2_with fail
     refine (dg_is HC3.out _).mono ?_; rintro e w1 ⟨rfl, hw⟩; obtain rfl := hw.symm
     go_wp2_with fail
     go_loopw [39] (fun iv wr => ∃ i : Nat, iv = .int .i64 i ∧ i ≤ s.size ∧ ((bs9 s).take i).all curC = true ∧ wr = w) (fun iv _ => s.size - (intOf iv).toNat)
     case atStart => exact ⟨0, rfl, Nat.zero_le _, rfl, rfl⟩
     case round =>
       obtain ⟨i, rfl, hi, hj, rfl⟩ := hrel
       have HJ := Lib.hid hj
       clear hj
       rcases Nat.lt_or_ge i s.size with hlt | hge
       · obtain ⟨x, hx⟩ : ∃ x, x = (s[i]'hlt).toNat := ⟨_, rfl⟩
         have ex : ((s[i]'hlt).toNat : Int) = (x : Int) := by rw [hx]
         have HX : Hid ((bs9 s)[i]? = some x) := by show _ = _; rw [bs9_at s i hlt, hx]
         clear hx
         cases hupB : upB x with
         | true =>
           have VupB := Lib.hid hupB
           clear hupB
           have HJ2 : Hid (((bs9 s).take (i + 1)).all curC = true) := all_step HX.out HJ.out (by simp [curC, VupB.out])
           go_wp2_with fail
           refine (up_is VupB.out _).mono ?_; rintro e w1 ⟨rfl, rfl⟩
           go_wp2_with fail
           go_roundw
           case rel => exact ⟨i + 1, by go_num, by omega, HJ2.out, trivial⟩
           case measure => simp [intOf] <;> omega
         | false =>
           have VupB := Lib.hid hupB
           clear hupB
           cases hdgB : dgB x with
           | true =>
             have VdgB := Lib.hid hdgB
             clear hdgB
             have HJ2 : Hid (((bs9 s).take (i + 1)).all curC = true) := all_step HX.out HJ.out (by simp [curC, VdgB.out])
             go_wp2_with fail
             refine (up_is VupB.out _).mono ?_; rintro e w1 ⟨rfl, rfl⟩
             go_wp2_with fail
             refine (dg_is VdgB.out _).mono ?_; rintro e w1 ⟨rfl, rfl⟩
             go_wp2_with fail
             go_roundw
             case rel => exact ⟨i + 1, by go_num, by omega, HJ2.out, trivial⟩
             case measure => simp [intOf] <;> omega
           | false =>
             have VdgB := Lib.hid hdgB
             clear hdgB
             by_cases k39 : x = 39
             · have d39 : ((x : Int) != 39) = false := by rw [k39]; rfl
               have HJ2 : Hid (((bs9 s).take (i + 1)).all curC = true) := all_step HX.out HJ.out (by simp [curC, k39])
               clear k39
               go_wp2_with fail
               refine (up_is VupB.out _).mono ?_; rintro e w1 ⟨rfl, rfl⟩
               go_wp2_with fail
               refine (dg_is VdgB.out _).mono ?_; rintro e w1 ⟨rfl, rfl⟩
               go_wp2_with fail
               go_roundw
               case rel => exact ⟨i + 1, by go_num, by omega, HJ2.out, trivial⟩
               case measure => simp [intOf] <;> omega
             · have d39 : ((x : Int) != 39) = true := by rw [bne_iff_ne]; omega
               by_cases k46 : x = 46
               · have d46 : ((x : Int) != 46) = false := by rw [k46]; rfl
                 have HJ2 : Hid (((bs9 s).take (i + 1)).all curC = true) := all_step HX.out HJ.out (by simp [curC, k46])
                 clear k39
                 clear k46
                 go_wp2_with fail
                 refine (up_is VupB.out _).mono ?_; rintro e w1 ⟨rfl, rfl⟩
                 go_wp2_with fail
                 refine (dg_is VdgB.out _).mono ?_; rintro e w1 ⟨rfl, rfl⟩
                 go_wp2_with fail
                 go_roundw
                 case rel => exact ⟨i + 1, by go_num, by omega, HJ2.out, trivial⟩
                 case measure => simp [intOf] <;> omega
               · have d46 : ((x : Int) != 46) = true := by rw [bne_iff_ne]; omega
                 by_cases k95 : x = 95
                 · have d95 : ((x : Int) != 95) = false := by rw [k95]; rfl
                   have HJ2 : Hid (((bs9 s).take (i + 1)).all curC = true) := all_step HX.out HJ.out (by simp [curC, k95])
                   clear k39
                   clear k46
                   clear k95
                   go_wp2_with fail
                   refine (up_is VupB.out _).mono ?_; rintro e w1 ⟨rfl, rfl⟩
                   go_wp2_with fail
                   refine (dg_is VdgB.out _).mono ?_; rintro e w1 ⟨rfl, rfl⟩
                   go_wp2_with fail
                   go_roundw
                   case rel => exact ⟨i + 1, by go_num, by omega, HJ2.out, trivial⟩
                   case measure => simp [intOf] <;> omega
                 · have d95 : ((x : Int) != 95) = true := by rw [bne_iff_ne]; omega
                   by_cases k45 : x = 45
                   · have d45 : ((x : Int) != 45) = false := by rw [k45]; rfl
                     have HJ2 : Hid (((bs9 s).take (i + 1)).all curC = true) := all_step HX.out HJ.out (by simp [curC, k45])
                     clear k39
                     clear k46
                     clear k95
                     clear k45
                     go_wp2_with fail
                     refine (up_is VupB.out _).mono ?_; rintro e w1 ⟨rfl, rfl⟩
                     go_wp2_with fail
                     refine (dg_is VdgB.out _).mono ?_; rintro e w1 ⟨rfl, rfl⟩
                     go_wp2_with fail
                     go_roundw
                     case rel => exact ⟨i + 1, by go_num, by omega, HJ2.out, trivial⟩
                     case measure => simp [intOf] <;> omega
                   · have d45 : ((x : Int) != 45) = true := by rw [bne_iff_ne]; omega
                     have E : Hid (r = false) := HN.out (HL.out curC HX.out (by simp [curC, VupB.out, VdgB.out, k39, k46, k95, k45]))
                     clear k39
                     clear k46
                     clear k95
                     clear k45
                     go_wp2_with fail
                     refine (up_is VupB.out _).mono ?_; rintro e w1 ⟨rfl, rfl⟩
                     go_wp2_with fail
                     refine (dg_is VdgB.out _).mono ?_; rintro e w1 ⟨rfl, rfl⟩
                     go_wp2_with fail
                     go_ret
                     exact ⟨rb9 E.out.symm, rfl⟩
       · have HA : Hid ((bs9 s).all curC = true) := all_end (by rw [bs9_len]; omega) HJ.out
         have E : Hid (r = true) := HE.out HA.out
         go_wp2_with fail
         go_ret
         exact ⟨rb9 E.out.symm, rfl⟩
    | false =>
     have E : Hid (r = false) := by show _ = _; rw [HB.out, ud, hc2, hc3, Bool.and_comm]; rfl
     have HC := Lib.hid hc
     have HC2 := Lib.hid hc2
     have HC3 := Lib.hid hc3
     clear hc hc2 hc3
     go_enter Tryd.func13, Tryd.ntmps13
     go_wp2_with fail
     refine (up_is HC.out _).mono ?_; rintro e w1 ⟨rfl, hw⟩; obtain rfl := hw.symm
     go_wp2_with fail
     refine (up_is HC2.out _).mono ?_; rintro e w1 ⟨rfl, hw⟩; obtain rfl := hw.symm
     go_wp2_with fail
     refine (dg_is HC3.out _).mono ?_; rintro e w1 ⟨rfl, hw⟩; obtain rfl := hw.symm
     go_wp2_with fail
     go_ret
     exact ⟨rb9 E.out.symm, rfl⟩

end Go.Proofs.YtaaikbbgbnbmkaaDoor
