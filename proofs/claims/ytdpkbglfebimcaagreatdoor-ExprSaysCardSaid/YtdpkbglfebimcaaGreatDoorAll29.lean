/- What the proof needs, texts TxtF, TxtH, TxtI, TxtJ, in one text. -/
import Derived.Test.YtdpkbglfebimcaaGreatDoorAll28
import Derived.Test.YtdpkbglfebimcaaGreatDoorAll24
import Derived.Test.YtdpkbglfebimcaaGreatDoorAll22
set_option linter.unusedVariables false
set_option linter.unusedSimpArgs false
set_option maxRecDepth 100000
set_option maxHeartbeats 32000000
namespace Go.Proofs.YtdpkbglfebimcaaGreatDoor.Num
open Go.RowKit
section
variable {w : World} {s : ByteArray} {i : Int} {k : Nat}
variable {A : Option Addr} {n c t : Nat} {x : ByteArray}
end
section
variable {o : Oper} {ρ : Operand → Value} {x y : Operand} {w : World}
end
theorem refDigit_yes {v : Int} (w : World) (h1 : 48 ≤ v) (h2 : v ≤ 57) : Calls Tryz.prog 154 #[.int .u8 v] w fun e w' => e = .returned (.bool true) ∧ w' = w := by
 go_enter Tryz.func154, Tryz.ntmps154
 go_wp2
 go_ret
 exact ⟨rfl, rfl⟩
theorem refDigit_no {v : Int} (w : World) (h0 : v < 48 ∨ 57 < v) : Calls Tryz.prog 154 #[.int .u8 v] w fun e w' => e = .returned (.bool false) ∧ w' = w := by
 rcases h0 with h | h
 ·go_enter Tryz.func154, Tryz.ntmps154
  go_wp2
  go_ret
  exact ⟨rfl, rfl⟩
 ·have h2 : 48 ≤ v := by omega
  have h3 : decide (v ≤ 57) = false := decide_eq_false (by omega)
  go_enter Tryz.func154, Tryz.ntmps154
  go_wp2
  go_ret
  exact ⟨rfl, rfl⟩
theorem extract_one (s : ByteArray) (j m : Nat) (h : j < s.size) (hm : m = j + 1) : s.extract j m = str [(s[j]'h).toNat] := by
 subst hm
 have e : s = str (codes s) := (str_codes s).symm
 have hd := codes_drop s j h
 conv => lhs; rw [e]
 unfold str
 rw [ByteArray.extract_mk]
 simp only [List.extract_toArray, List.extract_eq_take_drop, ← List.map_drop, ← List.map_take]
 rw [hd, show j + 1 - j = 1 by omega]
 rfl
theorem drop_nil {s : ByteArray} {j : Nat} (h : j = s.size) : (codes s).drop j = [] := List.drop_of_length_le (by rw [codes_len, h]; exact Nat.le_refl _)
theorem gst_digit {c : Nat} {l : List Nat} {r : Nat} {cm : Bool} (h : 48 ≤ c ∧ c ≤ 57) (h2 : ¬ (cm = true ∧ 3 < r + 1)) : gst (c :: l) r cm = gst l (r + 1) cm := by
 rw [gst, if_pos h, if_neg h2]
theorem gst_more {c : Nat} {l : List Nat} {r : Nat} (h : 48 ≤ c ∧ c ≤ 57) (h2 : 3 < r + 1) : gst (c :: l) r true = false := by
 rw [gst, if_pos h, if_pos ⟨rfl, h2⟩]
theorem gst_comma {l : List Nat} {r : Nat} {cm : Bool} (h2 : ¬ (r < 1 ∨ 3 < r ∨ cm = true ∧ r ≠ 3)) : gst (44 :: l) r cm = gst l 0 true := by
 rw [gst, if_neg (by omega), if_pos rfl, if_neg h2]
theorem gst_comma_no {l : List Nat} {r : Nat} {cm : Bool} (h2 : r < 1 ∨ 3 < r ∨ cm = true ∧ r ≠ 3) : gst (44 :: l) r cm = false := by
 rw [gst, if_neg (by omega), if_pos rfl, if_pos h2]
theorem gst_other {c : Nat} {l : List Nat} {r : Nat} {cm : Bool} (h : ¬ (48 ≤ c ∧ c ≤ 57)) (h2 : c ≠ 44) : gst (c :: l) r cm = false := by
 rw [gst, if_neg h, if_neg h2]
theorem nocom_take (s : ByteArray) (j : Nat) (h : j < s.size) : nocom ((codes s).take (j + 1)) = nocom ((codes s).take j) ++ nocom [(s[j]'h).toNat] := by
 rw [codes_take s j h]; unfold nocom; rw [List.filter_append]
def RetGroups (W : World) (l : List Nat) (e : Ending) (w' : World) : Prop := (gst l 0 false = true ∧ RetVal W (.tuple #[.string (str (nocom l)), .bool true]) e w') ∨ (gst l 0 false = false ∧ ∃ S, RetVal W (.tuple #[.string S, .bool false]) e w')
theorem refGroups_any (s : ByteArray) (w : World) (h0 : 0 < s.size) (hs : s.size ≤ 10000) : Calls Tryz.prog 155 #[.string s] w (RetGroups w (codes s)) := by
 have HL := Lib.hid (codes_len s)
 have HLT := Lib.hid (codes_lt s)
 have HNE : Hid (gst (codes s) 0 false = true → nocom (codes s) ≠ []) := by
  intro h
  have hne : codes s ≠ [] := fun e => by have := codes_len s; rw [e] at this; simp at this; omega
  rw [gst_ungB hne] at h
  exact nocom_ne hne (Bool.and_eq_true_iff.1 h).1
 go_enter Tryz.func155, Tryz.ntmps155
 go_wp2_with fail
 go_loop [4, 5, 6, 10] (fun ov rv cv iv => ∃ (j r : Nat) (cm : Bool) (out : List Nat), j ≤ s.size ∧ iv = .int .i64 j ∧ ov = .string (str out) ∧ rv = .int .i64 r ∧ cv = .bool cm ∧ r ≤ j ∧ out.length ≤ j ∧ (∀ c ∈ out, c < 256) ∧ out = nocom ((codes s).take j) ∧ gst (codes s) 0 false = gst ((codes s).drop j) r cm) (fun _ _ _ iv => s.size - (intOf iv).toNat)
 case atStart => exact ⟨0, 0, false, [], Nat.zero_le _, rfl, rfl, rfl, rfl, Nat.le_refl _, Nat.le_refl _, fun c hc => absurd hc List.not_mem_nil, rfl, rfl⟩
 case round =>
  obtain ⟨j, r, cm, out, hj, rfl, rfl, rfl, rfl, hrj, hol, hlt', hout, hg⟩ := hrel
  have HG := Lib.hid hg
  have HO := Lib.hid hout
  have HB := Lib.hid hlt'
  clear hg hout hlt'
  rcases Nat.lt_or_ge j s.size with hlt | hge
  ·have HD := Lib.hid (codes_drop s j hlt)
   have HT := Lib.hid (nocom_take s j hlt)
   have HX1 := Lib.hid (extract_one s j (j + 1) hlt rfl)
   obtain ⟨x, hx⟩ : ∃ x, x = (s[j]'hlt).toNat := ⟨_, rfl⟩
   have hxb : x < 256 := by rw [hx]; exact UInt8.toNat_lt _
   rw [← hx] at HD HT HX1
   have hxx := hx
   by_cases kd : 48 ≤ x ∧ x ≤ 57
   ·have h1 : (48 : Int) ≤ ((s[j]'hlt).toNat : Int) := by rw [← hx]; omega
    have h2 : ((s[j]'hlt).toNat : Int) ≤ 57 := by rw [← hx]; omega
    have CD := Lib.hid (refDigit_yes w h1 h2)
    have HNC : Hid (nocom ((codes s).take (j + 1)) = out ++ [x]) := by show _ = _; rw [HT.out, HO.out, nocom_cons_no (by omega)]; rfl
    have ha : ∀ w', (Op.stringOp .add (str out) (str [x])).run Tryz.prog w' = .ok (.string (str (out ++ [x]))) w' := fun w' => str_add _ _ (by simp; omega) w'
    have hsl : ∀ w', (Instr.slice 9 (.string s) (some (.int .i64 (j : Int))) (some (.int .i64 ((j : Int) + 1))) none).run Tryz.prog w' = .ok (.string (str [x])) w' := fun w' => by
     rw [run_slice_string w' _ s _ _ _ _ Tryz.underlying9 (by omega) (by omega) (by omega), show ((j : Int)).toNat = j from rfl, show ((j : Int) + 1).toNat = j + 1 by omega, HX1.out]
    have HLN : Hid ((out ++ [x]).length ≤ j + 1 ∧ ∀ c ∈ out ++ [x], c < 256) := ⟨by rw [List.length_append]; simp; omega, app_lt HB.out (fun c hc => by rw [List.mem_singleton.1 hc]; exact hxb)⟩
    cases cm with
    | false =>
     have HN : Hid (gst (codes s) 0 false = gst ((codes s).drop (j + 1)) (r + 1) false) := by show _ = _; rw [HG.out, HD.out, gst_digit kd (fun h => by cases h.1)]
     clear hx hxx h1 h2 kd HD HT HO HX1 HB
     go_wp2_with fail
     refine CD.out.mono ?_; rintro e w1 ⟨rfl, rfl⟩
     clear CD
     go_wp2_with fail
     go_round
     case rel => exact ⟨j + 1, r + 1, false, out ++ [x], by omega, by go_num, rfl, by go_num, rfl, by omega, HLN.out.1, HLN.out.2, HNC.out.symm, HN.out⟩
     case measure => simp [intOf]; omega
    | true =>
     by_cases k3 : 3 < r + 1
     ·have b3 : decide ((3 : Int) < (r : Int) + 1) = true := decide_eq_true (by omega)
      have hb3 : (3 : Int) < (r : Int) + 1 := by omega
      have HN : Hid (gst (codes s) 0 false = false) := by show _ = _; rw [HG.out, HD.out, gst_more kd k3]
      clear hx hxx h1 h2 kd HD HT HO HX1 HB k3
      go_wp2_with fail
      refine CD.out.mono ?_; rintro e w1 ⟨rfl, rfl⟩
      clear CD
      go_wp2_with fail
      go_ret2
      exact .inr ⟨HN.out, _, rfl, Below.refl _ _⟩
     ·have b3 : decide ((3 : Int) < (r : Int) + 1) = false := decide_eq_false (by omega)
      have hb3 : (r : Int) + 1 ≤ 3 := by omega
      have HN : Hid (gst (codes s) 0 false = gst ((codes s).drop (j + 1)) (r + 1) true) := by show _ = _; rw [HG.out, HD.out, gst_digit kd (fun h => k3 h.2)]
      clear hx hxx h1 h2 kd HD HT HO HX1 HB k3
      go_wp2_with fail
      refine CD.out.mono ?_; rintro e w1 ⟨rfl, rfl⟩
      clear CD
      go_wp2_with fail
      go_round
      case rel => exact ⟨j + 1, r + 1, true, out ++ [x], by omega, by go_num, rfl, by go_num, rfl, by omega, HLN.out.1, HLN.out.2, HNC.out.symm, HN.out⟩
      case measure => simp [intOf]; omega
   ·have h1 : ((s[j]'hlt).toNat : Int) < 48 ∨ 57 < ((s[j]'hlt).toNat : Int) := by rw [← hx]; omega
    have CD := Lib.hid (refDigit_no w h1)
    by_cases kc : x = 44
    ·have b1 : (((s[j]'hlt).toNat : Int) == 44) = true := by rw [← hx, kc]; rfl
     have HNC : Hid (nocom ((codes s).take (j + 1)) = out) := by show _ = _; rw [HT.out, HO.out, kc, nocom_cons_yes]; unfold nocom; simp
     by_cases kb : r < 1 ∨ 3 < r ∨ cm = true ∧ r ≠ 3
     ·have HN : Hid (gst (codes s) 0 false = false) := by show _ = _; rw [HG.out, HD.out, kc, gst_comma_no kb]
      clear hx hxx h1 kd HD HT HO HX1 HB kc HNC
      rcases Nat.lt_or_ge r 1 with k1 | k1
      ·have b2 : decide ((r : Int) < 1) = true := decide_eq_true (by omega)
       have hb2 : (r : Int) < 1 := by omega
       clear kb
       go_wp2_with fail
       refine CD.out.mono ?_; rintro e w1 ⟨rfl, rfl⟩
       clear CD
       go_wp2_with fail
       go_ret2
       exact .inr ⟨HN.out, _, rfl, Below.refl _ _⟩
      ·have hb2 : (1 : Int) ≤ (r : Int) := by omega
       have b2 : decide ((r : Int) < 1) = false := decide_eq_false (by omega)
       rcases Nat.lt_or_ge 3 r with k2 | k2
       ·have hb3 : (3 : Int) < (r : Int) := by omega
        have b3 : decide ((3 : Int) < (r : Int)) = true := decide_eq_true (by omega)
        clear kb
        go_wp2_with fail
        refine CD.out.mono ?_; rintro e w1 ⟨rfl, rfl⟩
        clear CD
        go_wp2_with fail
        go_ret2
        exact .inr ⟨HN.out, _, rfl, Below.refl _ _⟩
       ·obtain ⟨rfl, k3⟩ : cm = true ∧ r ≠ 3 := by
         rcases kb with h | h | h
         ·omega
         ·omega
         ·exact h
        have hb3 : (r : Int) ≤ 3 := by omega
        have b3 : decide ((3 : Int) < (r : Int)) = false := decide_eq_false (by omega)
        have b4 : ((r : Int) == 3) = false := by rw [beq_eq_false_iff_ne]; omega
        have b5 : ((r : Int) != 3) = true := by rw [bne_iff_ne]; omega
        clear kb k3
        go_wp2_with fail
        refine CD.out.mono ?_; rintro e w1 ⟨rfl, rfl⟩
        clear CD
        go_wp2_with fail
        go_ret2
        exact .inr ⟨HN.out, _, rfl, Below.refl _ _⟩
     ·have HN : Hid (gst (codes s) 0 false = gst ((codes s).drop (j + 1)) 0 true) := by show _ = _; rw [HG.out, HD.out, kc, gst_comma kb]
      have hr1 : 1 ≤ r := Decidable.byContradiction fun h => kb (.inl (by omega))
      have hr3 : r ≤ 3 := Decidable.byContradiction fun h => kb (.inr (.inl (by omega)))
      have hb2 : (1 : Int) ≤ (r : Int) := by omega
      have hb3 : (r : Int) ≤ 3 := by omega
      have b2 : decide ((r : Int) < 1) = false := decide_eq_false (by omega)
      have b3 : decide ((3 : Int) < (r : Int)) = false := decide_eq_false (by omega)
      clear hx hxx h1 kd HD HT HO HX1 kc
      cases cm with
      | false =>
       clear kb
       go_wp2_with fail
       refine CD.out.mono ?_; rintro e w1 ⟨rfl, rfl⟩
       clear CD
       go_wp2_with fail
       go_round
       case rel => exact ⟨j + 1, 0, true, out, by omega, by go_num, rfl, rfl, rfl, Nat.zero_le _, by omega, HB.out, HNC.out.symm, HN.out⟩
       case measure => simp [intOf]; omega
      | true =>
       have hr : r = 3 := Decidable.byContradiction fun h => kb (.inr (.inr ⟨rfl, h⟩))
       have b4 : ((r : Int) == 3) = true := by rw [hr]; rfl
       have b5 : ((r : Int) != 3) = false := by rw [hr]; rfl
       clear kb hr
       go_wp2_with fail
       refine CD.out.mono ?_; rintro e w1 ⟨rfl, rfl⟩
       clear CD
       go_wp2_with fail
       go_round
       case rel => exact ⟨j + 1, 0, true, out, by omega, by go_num, rfl, rfl, rfl, Nat.zero_le _, by omega, HB.out, HNC.out.symm, HN.out⟩
       case measure => simp [intOf]; omega
    ·have b1 : (((s[j]'hlt).toNat : Int) == 44) = false := by rw [← hx, beq_eq_false_iff_ne]; omega
     have HN : Hid (gst (codes s) 0 false = false) := by show _ = _; rw [HG.out, HD.out, gst_other kd kc]
     clear hx hxx h1 kd HD HT HO HX1 HB kc
     go_wp2_with fail
     refine CD.out.mono ?_; rintro e w1 ⟨rfl, rfl⟩
     clear CD
     go_wp2_with fail
     go_ret2
     exact .inr ⟨HN.out, _, rfl, Below.refl _ _⟩
  ·obtain rfl : j = s.size := by omega
   have HE : Hid (gst (codes s) 0 false = (!cm || r == 3)) := by show _ = _; rw [HG.out, drop_nil rfl]; rfl
   have HF : Hid (out = nocom (codes s)) := by show _ = _; rw [HO.out, List.take_of_length_le (by rw [HL.out]; exact Nat.le_refl _)]
   cases hgg : gst (codes s) 0 false with
   | true =>
    have hne : out ≠ [] := by rw [HF.out]; exact HNE.out hgg
    have hSp := str_pos hne
    obtain ⟨he1, he2, he3, he4⟩ := str_ne hSp
    have HGT := Lib.hid hgg
    have HE2 : Hid ((!cm || r == 3) = true) := by show _ = _; rw [← HE.out, HGT.out]
    have HSO : Hid (str out = str (nocom (codes s))) := by show _ = _; rw [HF.out]
    obtain ⟨S, hS⟩ : ∃ S, S = str out := ⟨_, rfl⟩
    rw [← hS] at he1 he2 he3 he4 hSp HSO
    rw [← hS]
    clear hS hgg hne HE HG HO HB HNE
    cases cm with
    | false =>
     go_wp2_with fail
     go_ret2
     exact .inl ⟨HGT.out, by rw [← HSO.out]; exact ⟨rfl, Below.refl _ _⟩⟩
    | true =>
     have hr : r = 3 := by have := HE2.out; simpa using this
     have b4 : ((r : Int) == 3) = true := by rw [hr]; rfl
     clear hr
     go_wp2_with fail
     go_ret2
     exact .inl ⟨HGT.out, by rw [← HSO.out]; exact ⟨rfl, Below.refl _ _⟩⟩
   | false =>
    have HGT := Lib.hid hgg
    have HE2 : Hid ((!cm || r == 3) = false) := by show _ = _; rw [← HE.out, HGT.out]
    obtain ⟨rfl, hr⟩ : cm = true ∧ r ≠ 3 := by
     have := HE2.out
     cases cm with
     | false => simp at this
     | true => exact ⟨rfl, by simpa using this⟩
    have b4 : ((r : Int) == 3) = false := by rw [beq_eq_false_iff_ne]; omega
    rcases Nat.eq_zero_or_pos out.length with ho | ho
    ·obtain rfl : out = [] := List.eq_nil_of_length_eq_zero ho
     rw [str_nil]
     clear hgg hr ho HE HG HO HB HNE
     go_wp2_with fail
     go_ret2
     exact .inr ⟨HGT.out, _, rfl, Below.refl _ _⟩
    ·have hSp := str_pos (List.length_pos_iff.1 ho)
     obtain ⟨he1, he2, he3, he4⟩ := str_ne hSp
     obtain ⟨S, hS⟩ : ∃ S, S = str out := ⟨_, rfl⟩
     rw [← hS] at he1 he2 he3 he4 hSp
     rw [← hS]
     clear hS hgg hr ho HE HG HO HB HNE
     go_wp2_with fail
     go_ret2
     exact .inr ⟨HGT.out, _, rfl, Below.refl _ _⟩
theorem refGroups_empty (w : World) : Calls Tryz.prog 155 #[.string ⟨#[]⟩] w (RetVal w (.tuple #[.string ⟨#[]⟩, .bool false])) := by
 go_enter Tryz.func155, Tryz.ntmps155
 go_wp2_with fail
 go_loop [4, 5, 6, 10] (fun ov rv cv iv => ov = .string ⟨#[]⟩ ∧ rv = .int .i64 0 ∧ cv = .bool false ∧ iv = .int .i64 0) (fun _ _ _ _ => 0)
 case atStart => exact ⟨rfl, rfl, rfl, rfl⟩
 case round =>
  obtain ⟨rfl, rfl, rfl, rfl⟩ := hrel
  go_wp2_with fail
  go_ret2
  exact ⟨rfl, Below.refl _ _⟩
def RetNo (W : World) (e : Ending) (w' : World) : Prop := ∃ S, RetVal W (.tuple #[.string S, .bool false]) e w'
theorem groups_no {l : List Nat} (hl : ∀ c ∈ l, c < 256) (hs : l.length ≤ 10000) (h : l = [] ∨ gst l 0 false = false) (w : World) : Calls Tryz.prog 155 #[.string (str l)] w (RetNo w) := by
 by_cases h0 : l = []
 ·subst h0
  exact (refGroups_empty w).mono fun e w' h => ⟨_, h⟩
 ·have hc := codes_str hl
  refine (refGroups_any (str l) w (str_pos h0) (by rw [str_size]; exact hs)).mono fun e w' hr => ?_
  rw [hc] at hr
  rcases hr with ⟨h1, -⟩ | ⟨-, h2⟩
  ·rcases h with h | h
   ·exact absurd h h0
   ·rw [h] at h1; cases h1
  ·exact h2
theorem groups_yes {l : List Nat} (hl : ∀ c ∈ l, c < 256) (hs : l.length ≤ 10000) (h0 : l ≠ []) (h : gst l 0 false = true) (w : World) : Calls Tryz.prog 155 #[.string (str l)] w (RetVal w (.tuple #[.string (str (nocom l)), .bool true])) := by
 have hc := codes_str hl
 refine (refGroups_any (str l) w (str_pos h0) (by rw [str_size]; exact hs)).mono fun e w' hr => ?_
 rw [hc] at hr
 rcases hr with ⟨-, h2⟩ | ⟨h1, -⟩
 ·exact h2
 ·rw [h] at h1; cases h1
theorem dotB_cons_ne {x : Nat} {l : List Nat} (h : x ≠ 46) : dotB (x :: l) = dotB l := by
 unfold dotB
 rw [Bool.eq_iff_iff, List.contains_iff_mem, List.contains_iff_mem, List.mem_cons]
 constructor
 ·rintro (e | e)
  ·exact absurd e.symm h
  ·exact e
 ·exact Or.inr
theorem dotB_cons_eq {l : List Nat} : dotB (46 :: l) = true := by unfold dotB; simp
theorem ahd_nodot {l : List Nat} (h : dotB l = false) : ahd l = l := by
 induction l with
 | nil => rfl
 | cons c l ih =>
  have hc : c ≠ 46 := fun e => by subst e; rw [dotB_cons_eq] at h; cases h
  rw [dotB_cons_ne hc] at h
  rw [ahd_cons_ne _ hc, ih h]
theorem dgB_cons {x : Nat} {l : List Nat} : dgB (x :: l) = true ↔ (48 ≤ x ∧ x ≤ 57) ∧ dgB l = true := by
 rw [dgB_iff, digs_cons, dgB_iff]
theorem dgB_cons_yes {x : Nat} {l : List Nat} (h : 48 ≤ x ∧ x ≤ 57) : dgB (x :: l) = dgB l := by
 rw [Bool.eq_iff_iff, dgB_cons]; exact ⟨fun h' => h'.2, fun h' => ⟨h, h'⟩⟩
theorem dgB_cons_no {x : Nat} {l : List Nat} (h : ¬ (48 ≤ x ∧ x ≤ 57)) : dgB (x :: l) = false := by
 cases hx : dgB (x :: l) with
 | false => rfl
 | true => exact absurd (dgB_cons.1 hx).1 h
theorem sign_facts {s : ByteArray} {r : List Nat} {nb : Bool} (hs : s.size ≤ 1000) (h3 : (nb = false ∧ codes s = r ∧ r.head? ≠ some 45 ∧ r.head? ≠ some 43) ∨ (nb = true ∧ codes s = 45 :: r) ∨ (nb = false ∧ codes s = 43 :: r)) (hr : r ≠ []) :
    ∃ (S : ByteArray) (hs0 : 0 < s.size), codes S = r ∧ S.size = r.length ∧ 0 < S.size ∧ S.size ≤ 1000 ∧ (∀ c ∈ r, c < 256) ∧
      ((nb = false ∧ S = s ∧ (((s[0]'hs0).toNat : Int) == 45) = false ∧ (((s[0]'hs0).toNat : Int) == 43) = false) ∨ (nb = true ∧ (((s[0]'hs0).toNat : Int) == 45) = true ∧ s.extract 1 s.size = S) ∨
       (nb = false ∧ (((s[0]'hs0).toNat : Int) == 45) = false ∧ (((s[0]'hs0).toNat : Int) == 43) = true ∧ s.extract 1 s.size = S)) := by
  have hlt : ∀ c ∈ codes s, c < 256 := codes_lt s
  have hll := codes_len s
  rcases h3 with ⟨rfl, hL, hh⟩ | ⟨rfl, hL⟩ | ⟨rfl, hL⟩
  · have hs0 : 0 < s.size := by rw [← hll, hL]; exact List.length_pos_iff.2 hr
    have e := codes_head s hs0
    rw [hL] at e
    rw [e] at hh
    have hx : (s[0]'hs0).toNat ≠ 45 ∧ (s[0]'hs0).toNat ≠ 43 := by simpa using hh
    exact ⟨s, hs0, hL, by rw [← hll, hL], hs0, hs, fun c hc => hlt c (by rw [hL]; exact hc), .inl ⟨rfl, rfl, by rw [beq_eq_false_iff_ne]; omega, by rw [beq_eq_false_iff_ne]; omega⟩⟩
  · have hs0 : 0 < s.size := by rw [← hll, hL]; simp
    have hrlt : ∀ c ∈ r, c < 256 := fun c hc => hlt c (by rw [hL]; exact List.mem_cons_of_mem _ hc)
    have hrl : r.length ≤ 1000 := by rw [hL] at hll; simp at hll; omega
    have hx : (s[0]'hs0).toNat = 45 := by
      have e := codes_head s hs0
      rw [hL] at e
      injection e with e _
      exact e.symm
    exact ⟨str r, hs0, codes_str hrlt, str_size r, str_pos hr, by rw [str_size]; exact hrl, hrlt, .inr (.inl ⟨rfl, by rw [hx]; rfl, by rw [extract_from s 1 _ rfl, hL]; rfl⟩)⟩
  · have hs0 : 0 < s.size := by rw [← hll, hL]; simp
    have hrlt : ∀ c ∈ r, c < 256 := fun c hc => hlt c (by rw [hL]; exact List.mem_cons_of_mem _ hc)
    have hrl : r.length ≤ 1000 := by rw [hL] at hll; simp at hll; omega
    have hx : (s[0]'hs0).toNat = 43 := by
      have e := codes_head s hs0
      rw [hL] at e
      injection e with e _
      exact e.symm
    exact ⟨str r, hs0, codes_str hrlt, str_size r, str_pos hr, by rw [str_size]; exact hrl, hrlt, .inr (.inr ⟨rfl, by rw [hx]; rfl, by rw [hx]; rfl, by rw [extract_from s 1 _ rfl, hL]; rfl⟩)⟩
theorem rr_short (s : ByteArray) (w : World) (h3 : codes s = [] ∨ codes s = [45] ∨ codes s = [43]) : Calls Tryz.prog 121 #[.string s] w (RetErr w 2) := by
 have hll := codes_len s
 rcases h3 with hL | hL | hL
 ·have hsr : s = str [] := by rw [← hL, str_codes]
  rw [str_nil] at hsr
  subst hsr
  clear hL hll
  go_enter Tryz.func121, Tryz.ntmps121
  go_wp2_with fail
  generalize hW : World.alloc w _ = W0
  have E0 : St w W0 [] [(w.heap.size, .bool false, .slice none 0 0, .int .i64 0)] := by rw [← hW]; exact (St.start w (l := []) (fun q hq => absurd hq List.not_mem_nil)).lay rfl
  have E := Lib.hid E0
  clear hW E0
  obtain ⟨e0, e1, e2, _, _, _, _⟩ := St.az (g := w.heap.size) E (by simp)
  exact bodyPost_ret (v := .tuple #[.agg #[.bool false, .slice none 0 0, .int .i64 0], .int .i64 2]) (by simp [results, Tryz.results121, go_sem, e0, e1, e2]) rfl ⟨rfl, E.out.bel⟩
 all_goals
  have hs0 : 0 < s.size := by rw [← hll, hL]; simp
  have hx := codes_head s hs0
  rw [hL] at hx
  injection hx with hx _
  have hext : s.extract 1 s.size = ⟨#[]⟩ := by rw [extract_from s 1 _ rfl, hL]; exact str_nil
  have hs1 : s.size = 1 := by rw [← hll, hL]; rfl
  have hs2 : s.size ≤ 1000 := by omega
  obtain ⟨he1, he2, he3, he4⟩ := str_ne hs0
 ·have b1 : (((s[0]'hs0).toNat : Int) == 45) = true := by rw [← hx]; rfl
  clear hx hL hll hs1
  go_enter Tryz.func121, Tryz.ntmps121
  go_wp2_with fail
  generalize hW : World.alloc w _ = W0
  have E0 : St w W0 [] [(w.heap.size, .bool false, .slice none 0 0, .int .i64 0)] := by rw [← hW]; exact (St.start w (l := []) (fun q hq => absurd hq List.not_mem_nil)).lay rfl
  have E := Lib.hid E0
  clear hW E0
  obtain ⟨e0, e1, e2, _, _, _, _⟩ := St.az (g := w.heap.size) E (by simp)
  exact bodyPost_ret (v := .tuple #[.agg #[.bool false, .slice none 0 0, .int .i64 0], .int .i64 2]) (by simp [results, Tryz.results121, go_sem, e0, e1, e2]) rfl ⟨rfl, E.out.bel⟩
 ·have b1 : (((s[0]'hs0).toNat : Int) == 45) = false := by rw [← hx]; rfl
  have b2 : (((s[0]'hs0).toNat : Int) == 43) = true := by rw [← hx]; rfl
  clear hx hL hll hs1
  go_enter Tryz.func121, Tryz.ntmps121
  go_wp2_with fail
  generalize hW : World.alloc w _ = W0
  have E0 : St w W0 [] [(w.heap.size, .bool false, .slice none 0 0, .int .i64 0)] := by rw [← hW]; exact (St.start w (l := []) (fun q hq => absurd hq List.not_mem_nil)).lay rfl
  have E := Lib.hid E0
  clear hW E0
  obtain ⟨e0, e1, e2, _, _, _, _⟩ := St.az (g := w.heap.size) E (by simp)
  exact bodyPost_ret (v := .tuple #[.agg #[.bool false, .slice none 0 0, .int .i64 0], .int .i64 2]) (by simp [results, Tryz.results121, go_sem, e0, e1, e2]) rfl ⟨rfl, E.out.bel⟩
theorem rr_taild (s : ByteArray) (r : List Nat) (nb : Bool) (w : World) (hs : s.size ≤ 1000) (h3 : (nb = false ∧ codes s = r ∧ r.head? ≠ some 45 ∧ r.head? ≠ some 43) ∨ (nb = true ∧ codes s = 45 :: r) ∨ (nb = false ∧ codes s = 43 :: r)) (hr : r ≠ []) (hd : dotB r = true) (hb : bhd r = []) :
  Calls Tryz.prog 121 #[.string s] w (RetErr w 3) := by
 obtain ⟨S, hs0, hSc, hSs, hSp, hSb, hrlt, h4⟩ := sign_facts hs h3 hr
 clear h3
 obtain ⟨he1, he2, he3, he4⟩ := str_ne hs0
 obtain ⟨hf1, hf2, hf3, hf4⟩ := str_ne hSp
 have hrl : r.length ≤ 1000 := by omega
 have hab := ahd_bhd_len r
 obtain ⟨Q, hQ⟩ : ∃ Q, Q = str (bhd r) := ⟨_, rfl⟩
 have hQc : codes Q = bhd r := by rw [hQ]; exact codes_str (fun c hc => hrlt c (bhd_sub _ c hc))
 have hQs : Q.size = (bhd r).length := by rw [hQ]; exact str_size _
 have hQb : Q.size ≤ 1000 := by omega
 rw [hb, str_nil] at hQ
 subst hQ
 obtain ⟨P, hP⟩ : ∃ P, P = str (ahd r) := ⟨_, rfl⟩
 have HSC := Lib.hid hSc
 have HSL := Lib.hid hSs
 have HD := Lib.hid hd
 have HQC := Lib.hid hQc
 have HB := Lib.hid hb
 have HP := Lib.hid hP
 clear hSc hSs hd hab hrlt hrl hr hQc hQs hb hP
 rcases h4 with ⟨rfl, rfl, b1, b2⟩ | ⟨rfl, b1, hext⟩ | ⟨rfl, b1, b2, hext⟩
 all_goals
  go_enter Tryz.func121, Tryz.ntmps121
  go_wp2_with fail
  generalize hW : World.alloc w _ = W0
  have E0 : St w W0 [] [(w.heap.size, .bool false, .slice none 0 0, .int .i64 0)] := by rw [← hW]; exact (St.start w (l := []) (fun q hq => absurd hq List.not_mem_nil)).lay rfl
  have E := Lib.hid E0
  clear hW E0
  go_loop [5, 6, 36] (fun pv qv iv => pv = .string S ∧ qv = .string ⟨#[]⟩ ∧ ∃ j : Nat, j ≤ S.size ∧ iv = .int .i64 j ∧ ahd r = r.take j ++ ahd (r.drop j) ∧ bhd r = bhd (r.drop j) ∧ dotB r = dotB (r.drop j)) (fun _ _ iv => S.size - (intOf iv).toNat)
  case atStart => exact ⟨rfl, rfl, 0, Nat.zero_le _, rfl, rfl, rfl, rfl⟩
  case round =>
   obtain ⟨rfl, rfl, j, hj, rfl, ha, hb, hd⟩ := hrel
   have RA := Lib.hid ha
   have RB := Lib.hid hb
   have RD := Lib.hid hd
   clear ha hb hd
   rcases Nat.lt_or_ge j S.size with hlt | hge
   ·have HX : Hid (r.drop j = (S[j]'hlt).toNat :: r.drop (j + 1)) := (by show _ = _; have e := codes_drop S j hlt; rw [HSC.out] at e; exact e)
    have HTK : Hid (r.take (j + 1) = r.take j ++ [(S[j]'hlt).toNat]) := (by show _ = _; have e := codes_take S j hlt; rw [HSC.out] at e; exact e)
    obtain ⟨x, hx⟩ : ∃ x, x = (S[j]'hlt).toNat := ⟨_, rfl⟩
    rw [← hx] at HX HTK
    by_cases kx : x = 46
    ·have c1 : (((S[j]'hlt).toNat : Int) == 46) = true := by rw [← hx, kx]; rfl
     have eP : S.extract 0 j = P := by rw [extract_to, HSC.out, HP.out, RA.out, HX.out, kx, ahd_cons_eq, List.append_nil]
     have eQ : S.extract (j + 1) S.size = ⟨#[]⟩ := by rw [extract_from S (j + 1) _ rfl, HSC.out, ← str_nil, ← HB.out, RB.out, HX.out, kx, bhd_cons_eq]
     have j1 : j ≤ S.size := by omega
     have j2 : j + 1 ≤ S.size := by omega
     clear hx kx HX HTK RA RB RD
     go_wp2_with fail
     go_quiet (fail)
     rename_i nq
     replace E := Lib.hid (St.step (w' := World.drewN W0 nq) E.out Below.of_quiet)
     generalize World.drewN W0 nq = W1 at E ⊢
     obtain ⟨r0, r1, r2, rf0, rf1, rf2, rlt⟩ := St.az (g := w.heap.size) E (by simp)
     go_wp2_with fail
     have EF := Lib.hid (St.sz E.out (g := w.heap.size) (by simp) (.bool false) (.slice none 0 0) (.int .i64 0))
     obtain ⟨e0, e1, e2, _, _, _, _⟩ := St.az (g := w.heap.size) EF (by simp)
     exact bodyPost_ret (v := .tuple #[.agg #[.bool false, .slice none 0 0, .int .i64 0], .int .i64 3]) (by simp [results, Tryz.results121, go_sem, e0, e1, e2]) rfl ⟨rfl, EF.out.bel⟩
    ·have c1 : (((S[j]'hlt).toNat : Int) == 46) = false := by rw [← hx, beq_eq_false_iff_ne]; omega
     have N1 : Hid (ahd r = r.take (j + 1) ++ ahd (r.drop (j + 1))) := by show _ = _; rw [RA.out, HX.out, ahd_cons_ne _ kx, HTK.out, List.append_assoc]; rfl
     have N2 : Hid (bhd r = bhd (r.drop (j + 1))) := by show _ = _; rw [RB.out, HX.out, bhd_cons_ne _ kx]
     have N3 : Hid (dotB r = dotB (r.drop (j + 1))) := by show _ = _; rw [RD.out, HX.out, dotB_cons_ne kx]
     clear hx kx HX HTK RA RB RD
     go_wp2_with fail
     go_round
     case rel => exact ⟨rfl, rfl, j + 1, by omega, by go_num, N1.out, N2.out, N3.out⟩
     case measure => simp [intOf]; omega
   ·obtain rfl : j = S.size := by omega
    exact absurd (HD.out.symm.trans (RD.out.trans (show dotB (r.drop S.size) = false by rw [List.drop_of_length_le (by rw [HSL.out]; exact Nat.le_refl _)]; rfl))) (by decide)
theorem rr_tdigd (s : ByteArray) (r : List Nat) (nb : Bool) (w : World) (hs : s.size ≤ 1000) (h3 : (nb = false ∧ codes s = r ∧ r.head? ≠ some 45 ∧ r.head? ≠ some 43) ∨ (nb = true ∧ codes s = 45 :: r) ∨ (nb = false ∧ codes s = 43 :: r)) (hr : r ≠ []) (hd : dotB r = true) (hb : bhd r ≠ []) (ht : dgB (bhd r) = false) :
  Calls Tryz.prog 121 #[.string s] w (RetErr w 3) := by
 obtain ⟨S, hs0, hSc, hSs, hSp, hSb, hrlt, h4⟩ := sign_facts hs h3 hr
 clear h3
 obtain ⟨he1, he2, he3, he4⟩ := str_ne hs0
 obtain ⟨hf1, hf2, hf3, hf4⟩ := str_ne hSp
 have hrl : r.length ≤ 1000 := by omega
 have hab := ahd_bhd_len r
 obtain ⟨Q, hQ⟩ : ∃ Q, Q = str (bhd r) := ⟨_, rfl⟩
 have hQc : codes Q = bhd r := by rw [hQ]; exact codes_str (fun c hc => hrlt c (bhd_sub _ c hc))
 have hQs : Q.size = (bhd r).length := by rw [hQ]; exact str_size _
 have hQb : Q.size ≤ 1000 := by omega
 have hQp : 0 < Q.size := by rw [hQs]; exact List.length_pos_iff.2 hb
 obtain ⟨hq1, hq2, hq3, hq4⟩ := str_ne hQp
 obtain ⟨P, hP⟩ : ∃ P, P = str (ahd r) := ⟨_, rfl⟩
 have HSC := Lib.hid hSc
 have HSL := Lib.hid hSs
 have HD := Lib.hid hd
 have HQC := Lib.hid hQc
 have HQ := Lib.hid hQ
 have HB := Lib.hid hb
 have HP := Lib.hid hP
 have HT := Lib.hid ht
 clear hSc hSs hd hab hrlt hrl hr hQc hQs hQ hb hP ht
 rcases h4 with ⟨rfl, rfl, b1, b2⟩ | ⟨rfl, b1, hext⟩ | ⟨rfl, b1, b2, hext⟩
 all_goals
  go_enter Tryz.func121, Tryz.ntmps121
  go_wp2_with fail
  generalize hW : World.alloc w _ = W0
  have E0 : St w W0 [] [(w.heap.size, .bool false, .slice none 0 0, .int .i64 0)] := by rw [← hW]; exact (St.start w (l := []) (fun q hq => absurd hq List.not_mem_nil)).lay rfl
  have E := Lib.hid E0
  clear hW E0
  go_loop [5, 6, 36] (fun pv qv iv => pv = .string S ∧ qv = .string ⟨#[]⟩ ∧ ∃ j : Nat, j ≤ S.size ∧ iv = .int .i64 j ∧ ahd r = r.take j ++ ahd (r.drop j) ∧ bhd r = bhd (r.drop j) ∧ dotB r = dotB (r.drop j)) (fun _ _ iv => S.size - (intOf iv).toNat)
  case atStart => exact ⟨rfl, rfl, 0, Nat.zero_le _, rfl, rfl, rfl, rfl⟩
  case round =>
   obtain ⟨rfl, rfl, j, hj, rfl, ha, hb, hd⟩ := hrel
   have RA := Lib.hid ha
   have RB := Lib.hid hb
   have RD := Lib.hid hd
   clear ha hb hd
   rcases Nat.lt_or_ge j S.size with hlt | hge
   ·have HX : Hid (r.drop j = (S[j]'hlt).toNat :: r.drop (j + 1)) := (by show _ = _; have e := codes_drop S j hlt; rw [HSC.out] at e; exact e)
    have HTK : Hid (r.take (j + 1) = r.take j ++ [(S[j]'hlt).toNat]) := (by show _ = _; have e := codes_take S j hlt; rw [HSC.out] at e; exact e)
    obtain ⟨x, hx⟩ : ∃ x, x = (S[j]'hlt).toNat := ⟨_, rfl⟩
    rw [← hx] at HX HTK
    by_cases kx : x = 46
    ·have c1 : (((S[j]'hlt).toNat : Int) == 46) = true := by rw [← hx, kx]; rfl
     have eP : S.extract 0 j = P := by rw [extract_to, HSC.out, HP.out, RA.out, HX.out, kx, ahd_cons_eq, List.append_nil]
     have eQ : S.extract (j + 1) S.size = Q := by rw [extract_from S (j + 1) _ rfl, HSC.out, HQ.out, RB.out, HX.out, kx, bhd_cons_eq]
     have j1 : j ≤ S.size := by omega
     have j2 : j + 1 ≤ S.size := by omega
     clear hx kx HX HTK RA RB RD
     go_wp2_with fail
     go_quiet (fail)
     rename_i nq
     replace E := Lib.hid (St.step (w' := World.drewN W0 nq) E.out Below.of_quiet)
     generalize World.drewN W0 nq = W1 at E ⊢
     go_wp2_with fail
     go_loop [56] (fun iv => ∃ k : Nat, k ≤ Q.size ∧ iv = .int .i64 k ∧ dgB (bhd r) = dgB ((bhd r).drop k)) (fun iv => Q.size - (intOf iv).toNat)
     case atStart => exact ⟨0, Nat.zero_le _, rfl, rfl⟩
     case round =>
      obtain ⟨k, hk, rfl, hdk⟩ := hrel
      have RK := Lib.hid hdk
      clear hdk
      rcases Nat.lt_or_ge k Q.size with hkl | hkg
      ·have HX : Hid ((bhd r).drop k = (Q[k]'hkl).toNat :: (bhd r).drop (k + 1)) := (by show _ = _; have e := codes_drop Q k hkl; rw [HQC.out] at e; exact e)
       obtain ⟨x, hx⟩ : ∃ x, x = (Q[k]'hkl).toNat := ⟨_, rfl⟩
       rw [← hx] at HX
       by_cases kx : 48 ≤ x ∧ x ≤ 57
       ·have CD := Lib.hid (refDigit_yes (v := ((Q[k]'hkl).toNat : Int)) W1 (by rw [← hx]; omega) (by rw [← hx]; omega))
        have N1 : Hid (dgB (bhd r) = dgB ((bhd r).drop (k + 1))) := by show _ = _; rw [RK.out, HX.out, dgB_cons_yes kx]
        clear hx kx HX RK
        go_wp2_with fail
        refine CD.out.mono ?_; rintro e w2 ⟨rfl, rfl⟩
        clear CD
        go_wp2_with fail
        go_round
        case rel => exact ⟨k + 1, by omega, by go_num, N1.out⟩
        case measure => simp [intOf]; omega
       ·have CD := Lib.hid (refDigit_no (v := ((Q[k]'hkl).toNat : Int)) W1 (by rw [← hx]; omega))
        clear hx kx HX RK
        go_wp2_with fail
        refine CD.out.mono ?_; rintro e w2 ⟨rfl, rfl⟩
        clear CD
        obtain ⟨r0, r1, r2, rf0, rf1, rf2, rlt⟩ := St.az (g := w.heap.size) E (by simp)
        go_wp2_with fail
        have EF := Lib.hid (St.sz E.out (g := w.heap.size) (by simp) (.bool false) (.slice none 0 0) (.int .i64 0))
        obtain ⟨e0, e1, e2, _, _, _, _⟩ := St.az (g := w.heap.size) EF (by simp)
        exact bodyPost_ret (v := .tuple #[.agg #[.bool false, .slice none 0 0, .int .i64 0], .int .i64 3]) (by simp [results, Tryz.results121, go_sem, e0, e1, e2]) rfl ⟨rfl, EF.out.bel⟩
      ·exact absurd (HT.out.symm.trans (RK.out.trans (show dgB ((bhd r).drop k) = true by rw [List.drop_of_length_le (by have e := codes_len Q; rw [HQC.out] at e; rw [e]; exact hkg)]; rfl))) (by decide)
    ·have c1 : (((S[j]'hlt).toNat : Int) == 46) = false := by rw [← hx, beq_eq_false_iff_ne]; omega
     have N1 : Hid (ahd r = r.take (j + 1) ++ ahd (r.drop (j + 1))) := by show _ = _; rw [RA.out, HX.out, ahd_cons_ne _ kx, HTK.out, List.append_assoc]; rfl
     have N2 : Hid (bhd r = bhd (r.drop (j + 1))) := by show _ = _; rw [RB.out, HX.out, bhd_cons_ne _ kx]
     have N3 : Hid (dotB r = dotB (r.drop (j + 1))) := by show _ = _; rw [RD.out, HX.out, dotB_cons_ne kx]
     clear hx kx HX HTK RA RB RD
     go_wp2_with fail
     go_round
     case rel => exact ⟨rfl, rfl, j + 1, by omega, by go_num, N1.out, N2.out, N3.out⟩
     case measure => simp [intOf]; omega
   ·obtain rfl : j = S.size := by omega
    exact absurd (HD.out.symm.trans (RD.out.trans (show dotB (r.drop S.size) = false by rw [List.drop_of_length_le (by rw [HSL.out]; exact Nat.le_refl _)]; rfl))) (by decide)
theorem rr_ungd (s : ByteArray) (r : List Nat) (nb : Bool) (w : World) (hs : s.size ≤ 1000) (h3 : (nb = false ∧ codes s = r ∧ r.head? ≠ some 45 ∧ r.head? ≠ some 43) ∨ (nb = true ∧ codes s = 45 :: r) ∨ (nb = false ∧ codes s = 43 :: r)) (hr : r ≠ []) (hd : dotB r = true) (hb : bhd r ≠ []) (ht : dgB (bhd r) = true) (hg : ahd r = [] ∨ gst (ahd r) 0 false = false) :
  Calls Tryz.prog 121 #[.string s] w (RetErr w 3) := by
 obtain ⟨S, hs0, hSc, hSs, hSp, hSb, hrlt, h4⟩ := sign_facts hs h3 hr
 clear h3
 obtain ⟨he1, he2, he3, he4⟩ := str_ne hs0
 obtain ⟨hf1, hf2, hf3, hf4⟩ := str_ne hSp
 have hrl : r.length ≤ 1000 := by omega
 have hab := ahd_bhd_len r
 obtain ⟨Q, hQ⟩ : ∃ Q, Q = str (bhd r) := ⟨_, rfl⟩
 have hQc : codes Q = bhd r := by rw [hQ]; exact codes_str (fun c hc => hrlt c (bhd_sub _ c hc))
 have hQs : Q.size = (bhd r).length := by rw [hQ]; exact str_size _
 have hQb : Q.size ≤ 1000 := by omega
 have hQp : 0 < Q.size := by rw [hQs]; exact List.length_pos_iff.2 hb
 obtain ⟨hq1, hq2, hq3, hq4⟩ := str_ne hQp
 obtain ⟨P, hP⟩ : ∃ P, P = str (ahd r) := ⟨_, rfl⟩
 have CG : Hid (∀ w', Calls Tryz.prog 155 #[.string P] w' (RetNo w')) := fun w' => by
  rw [hP]; exact groups_no (fun c hc => hrlt c (ahd_sub _ c hc)) (by omega) hg w'
 clear hg
 have HSC := Lib.hid hSc
 have HSL := Lib.hid hSs
 have HD := Lib.hid hd
 have HQC := Lib.hid hQc
 have HQ := Lib.hid hQ
 have HB := Lib.hid hb
 have HP := Lib.hid hP
 have HT := Lib.hid ht
 clear hSc hSs hd hab hrlt hrl hr hQc hQs hQ hb hP ht
 rcases h4 with ⟨rfl, rfl, b1, b2⟩ | ⟨rfl, b1, hext⟩ | ⟨rfl, b1, b2, hext⟩
 all_goals
  go_enter Tryz.func121, Tryz.ntmps121
  go_wp2_with fail
  generalize hW : World.alloc w _ = W0
  have E0 : St w W0 [] [(w.heap.size, .bool false, .slice none 0 0, .int .i64 0)] := by rw [← hW]; exact (St.start w (l := []) (fun q hq => absurd hq List.not_mem_nil)).lay rfl
  have E := Lib.hid E0
  clear hW E0
  go_loop [5, 6, 36] (fun pv qv iv => pv = .string S ∧ qv = .string ⟨#[]⟩ ∧ ∃ j : Nat, j ≤ S.size ∧ iv = .int .i64 j ∧ ahd r = r.take j ++ ahd (r.drop j) ∧ bhd r = bhd (r.drop j) ∧ dotB r = dotB (r.drop j)) (fun _ _ iv => S.size - (intOf iv).toNat)
  case atStart => exact ⟨rfl, rfl, 0, Nat.zero_le _, rfl, rfl, rfl, rfl⟩
  case round =>
   obtain ⟨rfl, rfl, j, hj, rfl, ha, hb, hd⟩ := hrel
   have RA := Lib.hid ha
   have RB := Lib.hid hb
   have RD := Lib.hid hd
   clear ha hb hd
   rcases Nat.lt_or_ge j S.size with hlt | hge
   ·have HX : Hid (r.drop j = (S[j]'hlt).toNat :: r.drop (j + 1)) := (by show _ = _; have e := codes_drop S j hlt; rw [HSC.out] at e; exact e)
    have HTK : Hid (r.take (j + 1) = r.take j ++ [(S[j]'hlt).toNat]) := (by show _ = _; have e := codes_take S j hlt; rw [HSC.out] at e; exact e)
    obtain ⟨x, hx⟩ : ∃ x, x = (S[j]'hlt).toNat := ⟨_, rfl⟩
    rw [← hx] at HX HTK
    by_cases kx : x = 46
    ·have c1 : (((S[j]'hlt).toNat : Int) == 46) = true := by rw [← hx, kx]; rfl
     have eP : S.extract 0 j = P := by rw [extract_to, HSC.out, HP.out, RA.out, HX.out, kx, ahd_cons_eq, List.append_nil]
     have eQ : S.extract (j + 1) S.size = Q := by rw [extract_from S (j + 1) _ rfl, HSC.out, HQ.out, RB.out, HX.out, kx, bhd_cons_eq]
     have j1 : j ≤ S.size := by omega
     have j2 : j + 1 ≤ S.size := by omega
     clear hx kx HX HTK RA RB RD
     go_wp2_with fail
     go_quiet (fail)
     rename_i nq
     replace E := Lib.hid (St.step (w' := World.drewN W0 nq) E.out Below.of_quiet)
     generalize World.drewN W0 nq = W1 at E ⊢
     go_wp2_with fail
     go_loop [56] (fun iv => ∃ k : Nat, k ≤ Q.size ∧ iv = .int .i64 k ∧ dgB (bhd r) = dgB ((bhd r).drop k)) (fun iv => Q.size - (intOf iv).toNat)
     case atStart => exact ⟨0, Nat.zero_le _, rfl, rfl⟩
     case round =>
      obtain ⟨k, hk, rfl, hdk⟩ := hrel
      have RK := Lib.hid hdk
      clear hdk
      rcases Nat.lt_or_ge k Q.size with hkl | hkg
      ·have HX : Hid ((bhd r).drop k = (Q[k]'hkl).toNat :: (bhd r).drop (k + 1)) := (by show _ = _; have e := codes_drop Q k hkl; rw [HQC.out] at e; exact e)
       obtain ⟨x, hx⟩ : ∃ x, x = (Q[k]'hkl).toNat := ⟨_, rfl⟩
       rw [← hx] at HX
       by_cases kx : 48 ≤ x ∧ x ≤ 57
       ·have CD := Lib.hid (refDigit_yes (v := ((Q[k]'hkl).toNat : Int)) W1 (by rw [← hx]; omega) (by rw [← hx]; omega))
        have N1 : Hid (dgB (bhd r) = dgB ((bhd r).drop (k + 1))) := by show _ = _; rw [RK.out, HX.out, dgB_cons_yes kx]
        clear hx kx HX RK
        go_wp2_with fail
        refine CD.out.mono ?_; rintro e w2 ⟨rfl, rfl⟩
        clear CD
        go_wp2_with fail
        go_round
        case rel => exact ⟨k + 1, by omega, by go_num, N1.out⟩
        case measure => simp [intOf]; omega
       ·exact absurd (HT.out.symm.trans (RK.out.trans (show dgB ((bhd r).drop k) = false by rw [HX.out, dgB_cons_no kx]))) (by decide)
      ·obtain rfl : k = Q.size := by omega
       clear RK
       go_wp2_with fail
       refine (CG.out _).mono ?_; rintro e w3 ⟨SX, rfl, hb1⟩; replace E := Lib.hid (St.step E.out hb1); clear hb1
       obtain ⟨r0, r1, r2, rf0, rf1, rf2, rlt⟩ := St.az (g := w.heap.size) E (by simp)
       go_wp2_with fail
       have EF := Lib.hid (St.sz E.out (g := w.heap.size) (by simp) (.bool false) (.slice none 0 0) (.int .i64 0))
       obtain ⟨e0, e1, e2, _, _, _, _⟩ := St.az (g := w.heap.size) EF (by simp)
       exact bodyPost_ret (v := .tuple #[.agg #[.bool false, .slice none 0 0, .int .i64 0], .int .i64 3]) (by simp [results, Tryz.results121, go_sem, e0, e1, e2]) rfl ⟨rfl, EF.out.bel⟩
    ·have c1 : (((S[j]'hlt).toNat : Int) == 46) = false := by rw [← hx, beq_eq_false_iff_ne]; omega
     have N1 : Hid (ahd r = r.take (j + 1) ++ ahd (r.drop (j + 1))) := by show _ = _; rw [RA.out, HX.out, ahd_cons_ne _ kx, HTK.out, List.append_assoc]; rfl
     have N2 : Hid (bhd r = bhd (r.drop (j + 1))) := by show _ = _; rw [RB.out, HX.out, bhd_cons_ne _ kx]
     have N3 : Hid (dotB r = dotB (r.drop (j + 1))) := by show _ = _; rw [RD.out, HX.out, dotB_cons_ne kx]
     clear hx kx HX HTK RA RB RD
     go_wp2_with fail
     go_round
     case rel => exact ⟨rfl, rfl, j + 1, by omega, by go_num, N1.out, N2.out, N3.out⟩
     case measure => simp [intOf]; omega
   ·obtain rfl : j = S.size := by omega
    exact absurd (HD.out.symm.trans (RD.out.trans (show dotB (r.drop S.size) = false by rw [List.drop_of_length_le (by rw [HSL.out]; exact Nat.le_refl _)]; rfl))) (by decide)
theorem rr_okd (s : ByteArray) (r : List Nat) (nb : Bool) (w : World) (hs : s.size ≤ 1000) (h3 : (nb = false ∧ codes s = r ∧ r.head? ≠ some 45 ∧ r.head? ≠ some 43) ∨ (nb = true ∧ codes s = 45 :: r) ∨ (nb = false ∧ codes s = 43 :: r)) (hr : r ≠ []) (hd : dotB r = true) (hb : bhd r ≠ []) (ht : dgB (bhd r) = true) (ha : ahd r ≠ []) (hg : gst (ahd r) 0 false = true) (hdg : digs (digsOf r)) :
  Calls Tryz.prog 121 #[.string s] w (RetDecE w (sgn nb (pv (digsOf r))) (bhd r).length) := by
 obtain ⟨S, hs0, hSc, hSs, hSp, hSb, hrlt, h4⟩ := sign_facts hs h3 hr
 clear h3
 obtain ⟨he1, he2, he3, he4⟩ := str_ne hs0
 obtain ⟨hf1, hf2, hf3, hf4⟩ := str_ne hSp
 have hrl : r.length ≤ 1000 := by omega
 have hab := ahd_bhd_len r
 obtain ⟨Q, hQ⟩ : ∃ Q, Q = str (bhd r) := ⟨_, rfl⟩
 have hQc : codes Q = bhd r := by rw [hQ]; exact codes_str (fun c hc => hrlt c (bhd_sub _ c hc))
 have hQs : Q.size = (bhd r).length := by rw [hQ]; exact str_size _
 have hQb : Q.size ≤ 1000 := by omega
 have hQp : 0 < Q.size := by rw [hQs]; exact List.length_pos_iff.2 hb
 obtain ⟨hq1, hq2, hq3, hq4⟩ := str_ne hQp
 obtain ⟨P, hP⟩ : ∃ P, P = str (ahd r) := ⟨_, rfl⟩
 have CG : Hid (∀ w', Calls Tryz.prog 155 #[.string P] w' (RetVal w' (.tuple #[.string (str (nocom (ahd r))), .bool true]))) := fun w' => by
  rw [hP]; exact groups_yes (fun c hc => hrlt c (ahd_sub _ c hc)) (by omega) ha hg w'
 have hdl := digsOf_len r
 have hnl := nocom_len (ahd r)
 have hnc := codes_str (l := nocom (ahd r)) (fun c hc => hrlt c (ahd_sub _ c (nocom_sub _ c hc)))
 have hne : nocom (ahd r) ≠ [] := by
  have e := gst_ungB ha
  rw [hg] at e
  exact nocom_ne ha (Bool.and_eq_true_iff.1 e.symm).1
 have hadd : ∀ w', (Op.stringOp .add (str (nocom (ahd r))) Q).run Tryz.prog w' = .ok (.string (str (digsOf r))) w' := fun w' => str_add7 (by rw [hnc, hQc]; unfold digsOf; rfl) (by rw [str_size]; omega) w'
 have hVc : codes (str (digsOf r)) = digsOf r := codes_str (app_lt (fun c hc => hrlt c (ahd_sub _ c (nocom_sub _ c hc))) (fun c hc => hrlt c (bhd_sub _ c hc)))
 have hVs : (str (digsOf r)).size = (digsOf r).length := str_size _
 have hVp : 0 < (str (digsOf r)).size := by
  rw [hVs]; unfold digsOf; rw [List.length_append]
  have := List.length_pos_iff.2 hne
  omega
 have CP : Hid (∀ w', Calls Tryz.prog 98 #[.string (str (digsOf r))] w' (RetParse w' (digsOf r))) := fun w' => by
  have e := refParse_any (str (digsOf r)) w' hVp (by omega)
  rw [hVc] at e; exact e
 obtain ⟨V, hV⟩ : ∃ V, V = str (digsOf r) := ⟨_, rfl⟩
 obtain ⟨U, hU⟩ : ∃ U, U = str (nocom (ahd r)) := ⟨_, rfl⟩
 rw [← hV, ← hU] at hadd
 rw [← hV] at CP
 rw [← hU] at CG
 have HG := Lib.hid hdg
 have HNUM : Hid (∀ b, (sgn b (pv (digsOf r))).natAbs = pv (digsOf r)) := fun b => abs_sgn _ _
 clear hV hU hVp hVs hVc hdl hne hnc hnl hg hdg ha
 have HBL : Hid (Q.size = (bhd r).length) := hQs
 have HSC := Lib.hid hSc
 have HSL := Lib.hid hSs
 have HD := Lib.hid hd
 have HQC := Lib.hid hQc
 have HQ := Lib.hid hQ
 have HB := Lib.hid hb
 have HP := Lib.hid hP
 have HT := Lib.hid ht
 clear hSc hSs hd hab hrlt hrl hr hQc hQs hQ hb hP ht
 rcases h4 with ⟨rfl, rfl, b1, b2⟩ | ⟨rfl, b1, hext⟩ | ⟨rfl, b1, b2, hext⟩
 all_goals
  go_enter Tryz.func121, Tryz.ntmps121
  go_wp2_with fail
  generalize hW : World.alloc w _ = W0
  have E0 : St w W0 [] [(w.heap.size, .bool false, .slice none 0 0, .int .i64 0)] := by rw [← hW]; exact (St.start w (l := []) (fun q hq => absurd hq List.not_mem_nil)).lay rfl
  have E := Lib.hid E0
  clear hW E0
  go_loop [5, 6, 36] (fun pv qv iv => pv = .string S ∧ qv = .string ⟨#[]⟩ ∧ ∃ j : Nat, j ≤ S.size ∧ iv = .int .i64 j ∧ ahd r = r.take j ++ ahd (r.drop j) ∧ bhd r = bhd (r.drop j) ∧ dotB r = dotB (r.drop j)) (fun _ _ iv => S.size - (intOf iv).toNat)
  case atStart => exact ⟨rfl, rfl, 0, Nat.zero_le _, rfl, rfl, rfl, rfl⟩
  case round =>
   obtain ⟨rfl, rfl, j, hj, rfl, ha, hb, hd⟩ := hrel
   have RA := Lib.hid ha
   have RB := Lib.hid hb
   have RD := Lib.hid hd
   clear ha hb hd
   rcases Nat.lt_or_ge j S.size with hlt | hge
   ·have HX : Hid (r.drop j = (S[j]'hlt).toNat :: r.drop (j + 1)) := (by show _ = _; have e := codes_drop S j hlt; rw [HSC.out] at e; exact e)
    have HTK : Hid (r.take (j + 1) = r.take j ++ [(S[j]'hlt).toNat]) := (by show _ = _; have e := codes_take S j hlt; rw [HSC.out] at e; exact e)
    obtain ⟨x, hx⟩ : ∃ x, x = (S[j]'hlt).toNat := ⟨_, rfl⟩
    rw [← hx] at HX HTK
    by_cases kx : x = 46
    ·have c1 : (((S[j]'hlt).toNat : Int) == 46) = true := by rw [← hx, kx]; rfl
     have eP : S.extract 0 j = P := by rw [extract_to, HSC.out, HP.out, RA.out, HX.out, kx, ahd_cons_eq, List.append_nil]
     have eQ : S.extract (j + 1) S.size = Q := by rw [extract_from S (j + 1) _ rfl, HSC.out, HQ.out, RB.out, HX.out, kx, bhd_cons_eq]
     have j1 : j ≤ S.size := by omega
     have j2 : j + 1 ≤ S.size := by omega
     clear hx kx HX HTK RA RB RD
     go_wp2_with fail
     go_quiet (fail)
     rename_i nq
     replace E := Lib.hid (St.step (w' := World.drewN W0 nq) E.out Below.of_quiet)
     generalize World.drewN W0 nq = W1 at E ⊢
     go_wp2_with fail
     go_loop [56] (fun iv => ∃ k : Nat, k ≤ Q.size ∧ iv = .int .i64 k ∧ dgB (bhd r) = dgB ((bhd r).drop k)) (fun iv => Q.size - (intOf iv).toNat)
     case atStart => exact ⟨0, Nat.zero_le _, rfl, rfl⟩
     case round =>
      obtain ⟨k, hk, rfl, hdk⟩ := hrel
      have RK := Lib.hid hdk
      clear hdk
      rcases Nat.lt_or_ge k Q.size with hkl | hkg
      ·have HX : Hid ((bhd r).drop k = (Q[k]'hkl).toNat :: (bhd r).drop (k + 1)) := (by show _ = _; have e := codes_drop Q k hkl; rw [HQC.out] at e; exact e)
       obtain ⟨x, hx⟩ : ∃ x, x = (Q[k]'hkl).toNat := ⟨_, rfl⟩
       rw [← hx] at HX
       by_cases kx : 48 ≤ x ∧ x ≤ 57
       ·have CD := Lib.hid (refDigit_yes (v := ((Q[k]'hkl).toNat : Int)) W1 (by rw [← hx]; omega) (by rw [← hx]; omega))
        have N1 : Hid (dgB (bhd r) = dgB ((bhd r).drop (k + 1))) := by show _ = _; rw [RK.out, HX.out, dgB_cons_yes kx]
        clear hx kx HX RK
        go_wp2_with fail
        refine CD.out.mono ?_; rintro e w2 ⟨rfl, rfl⟩
        clear CD
        go_wp2_with fail
        go_round
        case rel => exact ⟨k + 1, by omega, by go_num, N1.out⟩
        case measure => simp [intOf]; omega
       ·exact absurd (HT.out.symm.trans (RK.out.trans (show dgB ((bhd r).drop k) = false by rw [HX.out, dgB_cons_no kx]))) (by decide)
      ·obtain rfl : k = Q.size := by omega
       clear RK
       go_wp2_with fail
       refine (CG.out _).mono ?_; rintro e w3 ⟨rfl, hb1⟩; replace E := Lib.hid (St.step E.out hb1); clear hb1
       go_wp2_with fail
       clear hadd
       refine (CP.out _).mono ?_
       rintro e w4 (⟨-, A4, n4, c4, rfl, h4, hb1⟩ | ⟨hd, -⟩)
       rotate_left
       ·exact absurd HG.out hd
       replace E := Lib.hid (St.push E.out hb1 h4)
       have HPO := Lib.hid (num_pos h4)
       clear hb1 h4
       obtain ⟨r0, r1, r2, rf0, rf1, rf2, rlt⟩ := St.az (g := w.heap.size) E (by simp)
       go_wp2_with fail
       first | (have EF := Lib.hid (St.sz E.out (g := w.heap.size) (by simp) (.bool (decide (0 < n4))) (.slice A4 n4 c4) (.int .i64 (Q.size : Int))); obtain ⟨e0, e1, e2, _, _, _, _⟩ := St.at_ (x0 := .bool (decide (0 < n4))) (x1 := .slice A4 n4 c4) (x2 := .int .i64 (Q.size : Int)) (g := w.heap.size) EF (by simp); exact bodyPost_ret (v := .tuple #[.agg #[.bool (decide (0 < n4)), .slice A4 n4 c4, .int .i64 (Q.size : Int)], .int .i64 0]) (by simp [results, Tryz.results121, go_sem, e0, e1, e2]) rfl ⟨A4, n4, c4, by rw [ng_sgn, ← HBL.out, HPO.out]; simp, by rw [HNUM.out]; exact St.got EF (by simp), EF.out.bel⟩) | (have EF := Lib.hid (St.sz E.out (g := w.heap.size) (by simp) (.bool false) (.slice A4 n4 c4) (.int .i64 (Q.size : Int))); obtain ⟨e0, e1, e2, _, _, _, _⟩ := St.at_ (x0 := .bool false) (x1 := .slice A4 n4 c4) (x2 := .int .i64 (Q.size : Int)) (g := w.heap.size) EF (by simp); exact bodyPost_ret (v := .tuple #[.agg #[.bool false, .slice A4 n4 c4, .int .i64 (Q.size : Int)], .int .i64 0]) (by simp [results, Tryz.results121, go_sem, e0, e1, e2]) rfl ⟨A4, n4, c4, by rw [ng_sgn, ← HBL.out]; simp, by rw [HNUM.out]; exact St.got EF (by simp), EF.out.bel⟩)
    ·have c1 : (((S[j]'hlt).toNat : Int) == 46) = false := by rw [← hx, beq_eq_false_iff_ne]; omega
     have N1 : Hid (ahd r = r.take (j + 1) ++ ahd (r.drop (j + 1))) := by show _ = _; rw [RA.out, HX.out, ahd_cons_ne _ kx, HTK.out, List.append_assoc]; rfl
     have N2 : Hid (bhd r = bhd (r.drop (j + 1))) := by show _ = _; rw [RB.out, HX.out, bhd_cons_ne _ kx]
     have N3 : Hid (dotB r = dotB (r.drop (j + 1))) := by show _ = _; rw [RD.out, HX.out, dotB_cons_ne kx]
     clear hx kx HX HTK RA RB RD
     go_wp2_with fail
     go_round
     case rel => exact ⟨rfl, rfl, j + 1, by omega, by go_num, N1.out, N2.out, N3.out⟩
     case measure => simp [intOf]; omega
   ·obtain rfl : j = S.size := by omega
    exact absurd (HD.out.symm.trans (RD.out.trans (show dotB (r.drop S.size) = false by rw [List.drop_of_length_le (by rw [HSL.out]; exact Nat.le_refl _)]; rfl))) (by decide)
theorem rr_ungw (s : ByteArray) (r : List Nat) (nb : Bool) (w : World) (hs : s.size ≤ 1000) (h3 : (nb = false ∧ codes s = r ∧ r.head? ≠ some 45 ∧ r.head? ≠ some 43) ∨ (nb = true ∧ codes s = 45 :: r) ∨ (nb = false ∧ codes s = 43 :: r)) (hr : r ≠ []) (hd : dotB r = false) (hg : ahd r = [] ∨ gst (ahd r) 0 false = false) :
  Calls Tryz.prog 121 #[.string s] w (RetErr w 3) := by
 obtain ⟨S, hs0, hSc, hSs, hSp, hSb, hrlt, h4⟩ := sign_facts hs h3 hr
 clear h3
 obtain ⟨he1, he2, he3, he4⟩ := str_ne hs0
 obtain ⟨hf1, hf2, hf3, hf4⟩ := str_ne hSp
 have hrl : r.length ≤ 1000 := by omega
 have hab := ahd_bhd_len r
 have hah := ahd_nodot hd
 have hbh := bhd_nil hd
 have hSr : S = str r := by rw [← hSc, str_codes]
 have CG : Hid (∀ w', Calls Tryz.prog 155 #[.string S] w' (RetNo w')) := fun w' => by
  have e := groups_no (l := ahd r) (fun c hc => hrlt c (ahd_sub _ c hc)) (by omega) hg w'
  rw [hah] at e; rw [hSr]; exact e
 clear hg hah hbh hSr
 have HSC := Lib.hid hSc
 have HSL := Lib.hid hSs
 have HD := Lib.hid hd
 clear hSc hSs hd hab hrlt hrl hr
 rcases h4 with ⟨rfl, rfl, b1, b2⟩ | ⟨rfl, b1, hext⟩ | ⟨rfl, b1, b2, hext⟩
 all_goals
  go_enter Tryz.func121, Tryz.ntmps121
  go_wp2_with fail
  generalize hW : World.alloc w _ = W0
  have E0 : St w W0 [] [(w.heap.size, .bool false, .slice none 0 0, .int .i64 0)] := by rw [← hW]; exact (St.start w (l := []) (fun q hq => absurd hq List.not_mem_nil)).lay rfl
  have E := Lib.hid E0
  clear hW E0
  go_loop [5, 6, 36] (fun pv qv iv => pv = .string S ∧ qv = .string ⟨#[]⟩ ∧ ∃ j : Nat, j ≤ S.size ∧ iv = .int .i64 j ∧ ahd r = r.take j ++ ahd (r.drop j) ∧ bhd r = bhd (r.drop j) ∧ dotB r = dotB (r.drop j)) (fun _ _ iv => S.size - (intOf iv).toNat)
  case atStart => exact ⟨rfl, rfl, 0, Nat.zero_le _, rfl, rfl, rfl, rfl⟩
  case round =>
   obtain ⟨rfl, rfl, j, hj, rfl, ha, hb, hd⟩ := hrel
   have RA := Lib.hid ha
   have RB := Lib.hid hb
   have RD := Lib.hid hd
   clear ha hb hd
   rcases Nat.lt_or_ge j S.size with hlt | hge
   ·have HX : Hid (r.drop j = (S[j]'hlt).toNat :: r.drop (j + 1)) := (by show _ = _; have e := codes_drop S j hlt; rw [HSC.out] at e; exact e)
    have HTK : Hid (r.take (j + 1) = r.take j ++ [(S[j]'hlt).toNat]) := (by show _ = _; have e := codes_take S j hlt; rw [HSC.out] at e; exact e)
    obtain ⟨x, hx⟩ : ∃ x, x = (S[j]'hlt).toNat := ⟨_, rfl⟩
    rw [← hx] at HX HTK
    by_cases kx : x = 46
    ·exact absurd (HD.out.symm.trans (RD.out.trans (show dotB (r.drop j) = true by rw [HX.out, kx]; exact dotB_cons_eq))) (by decide)
    ·have c1 : (((S[j]'hlt).toNat : Int) == 46) = false := by rw [← hx, beq_eq_false_iff_ne]; omega
     have N1 : Hid (ahd r = r.take (j + 1) ++ ahd (r.drop (j + 1))) := by show _ = _; rw [RA.out, HX.out, ahd_cons_ne _ kx, HTK.out, List.append_assoc]; rfl
     have N2 : Hid (bhd r = bhd (r.drop (j + 1))) := by show _ = _; rw [RB.out, HX.out, bhd_cons_ne _ kx]
     have N3 : Hid (dotB r = dotB (r.drop (j + 1))) := by show _ = _; rw [RD.out, HX.out, dotB_cons_ne kx]
     clear hx kx HX HTK RA RB RD
     go_wp2_with fail
     go_round
     case rel => exact ⟨rfl, rfl, j + 1, by omega, by go_num, N1.out, N2.out, N3.out⟩
     case measure => simp [intOf]; omega
   ·obtain rfl : j = S.size := by omega
    clear RA RB RD
    have hz0 : (ByteArray.mk #[]).size = 0 := rfl
    go_wp2_with fail
    go_loop [56] (fun iv => iv = .int .i64 0) (fun _ => 0)
    case atStart => exact rfl
    case round =>
     obtain rfl := hrel
     go_wp2_with fail
     refine (CG.out _).mono ?_; rintro e w3 ⟨SX, rfl, hb1⟩; replace E := Lib.hid (St.step E.out hb1); clear hb1
     obtain ⟨r0, r1, r2, rf0, rf1, rf2, rlt⟩ := St.az (g := w.heap.size) E (by simp)
     go_wp2_with fail
     have EF := Lib.hid (St.sz E.out (g := w.heap.size) (by simp) (.bool false) (.slice none 0 0) (.int .i64 0))
     obtain ⟨e0, e1, e2, _, _, _, _⟩ := St.az (g := w.heap.size) EF (by simp)
     exact bodyPost_ret (v := .tuple #[.agg #[.bool false, .slice none 0 0, .int .i64 0], .int .i64 3]) (by simp [results, Tryz.results121, go_sem, e0, e1, e2]) rfl ⟨rfl, EF.out.bel⟩
theorem rr_okw (s : ByteArray) (r : List Nat) (nb : Bool) (w : World) (hs : s.size ≤ 1000) (h3 : (nb = false ∧ codes s = r ∧ r.head? ≠ some 45 ∧ r.head? ≠ some 43) ∨ (nb = true ∧ codes s = 45 :: r) ∨ (nb = false ∧ codes s = 43 :: r)) (hr : r ≠ []) (hd : dotB r = false) (ha : ahd r ≠ []) (hg : gst (ahd r) 0 false = true) (hdg : digs (digsOf r)) :
  Calls Tryz.prog 121 #[.string s] w (RetDecE w (sgn nb (pv (digsOf r))) (bhd r).length) := by
 obtain ⟨S, hs0, hSc, hSs, hSp, hSb, hrlt, h4⟩ := sign_facts hs h3 hr
 clear h3
 obtain ⟨he1, he2, he3, he4⟩ := str_ne hs0
 obtain ⟨hf1, hf2, hf3, hf4⟩ := str_ne hSp
 have hrl : r.length ≤ 1000 := by omega
 have hab := ahd_bhd_len r
 have hah := ahd_nodot hd
 have hbh := bhd_nil hd
 have hSr : S = str r := by rw [← hSc, str_codes]
 have CG : Hid (∀ w', Calls Tryz.prog 155 #[.string S] w' (RetVal w' (.tuple #[.string (str (nocom (ahd r))), .bool true]))) := fun w' => by
  have e := groups_yes (l := ahd r) (fun c hc => hrlt c (ahd_sub _ c hc)) (by omega) ha hg w'
  rw [hah] at e; rw [hSr, hah]; exact e
 have hdl := digsOf_len r
 have hnl := nocom_len (ahd r)
 have hnc := codes_str (l := nocom (ahd r)) (fun c hc => hrlt c (ahd_sub _ c (nocom_sub _ c hc)))
 have hne : nocom (ahd r) ≠ [] := by
  have e := gst_ungB ha
  rw [hg] at e
  exact nocom_ne ha (Bool.and_eq_true_iff.1 e.symm).1
 have hadd : ∀ w', (Op.stringOp .add (str (nocom (ahd r))) ⟨#[]⟩).run Tryz.prog w' = .ok (.string (str (digsOf r))) w' := fun w' => str_add7 (by rw [hnc]; unfold digsOf; rw [hbh]; rfl) (by rw [str_size]; show _ + 0 ≤ _; omega) w'
 have hVc : codes (str (digsOf r)) = digsOf r := codes_str (app_lt (fun c hc => hrlt c (ahd_sub _ c (nocom_sub _ c hc))) (fun c hc => hrlt c (bhd_sub _ c hc)))
 have hVs : (str (digsOf r)).size = (digsOf r).length := str_size _
 have hVp : 0 < (str (digsOf r)).size := by
  rw [hVs]; unfold digsOf; rw [List.length_append]
  have := List.length_pos_iff.2 hne
  omega
 have CP : Hid (∀ w', Calls Tryz.prog 98 #[.string (str (digsOf r))] w' (RetParse w' (digsOf r))) := fun w' => by
  have e := refParse_any (str (digsOf r)) w' hVp (by omega)
  rw [hVc] at e; exact e
 obtain ⟨V, hV⟩ : ∃ V, V = str (digsOf r) := ⟨_, rfl⟩
 obtain ⟨U, hU⟩ : ∃ U, U = str (nocom (ahd r)) := ⟨_, rfl⟩
 rw [← hV, ← hU] at hadd
 rw [← hV] at CP
 rw [← hU] at CG
 have HG := Lib.hid hdg
 have HNUM : Hid (∀ b, (sgn b (pv (digsOf r))).natAbs = pv (digsOf r)) := fun b => abs_sgn _ _
 clear hV hU hVp hVs hVc hdl hne hnc hnl hg hdg ha
 have HBL : Hid ((bhd r).length = 0) := (by show _ = _; rw [hbh]; rfl)
 clear hah hbh hSr
 have HSC := Lib.hid hSc
 have HSL := Lib.hid hSs
 have HD := Lib.hid hd
 clear hSc hSs hd hab hrlt hrl hr
 rcases h4 with ⟨rfl, rfl, b1, b2⟩ | ⟨rfl, b1, hext⟩ | ⟨rfl, b1, b2, hext⟩
 all_goals
  go_enter Tryz.func121, Tryz.ntmps121
  go_wp2_with fail
  generalize hW : World.alloc w _ = W0
  have E0 : St w W0 [] [(w.heap.size, .bool false, .slice none 0 0, .int .i64 0)] := by rw [← hW]; exact (St.start w (l := []) (fun q hq => absurd hq List.not_mem_nil)).lay rfl
  have E := Lib.hid E0
  clear hW E0
  go_loop [5, 6, 36] (fun pv qv iv => pv = .string S ∧ qv = .string ⟨#[]⟩ ∧ ∃ j : Nat, j ≤ S.size ∧ iv = .int .i64 j ∧ ahd r = r.take j ++ ahd (r.drop j) ∧ bhd r = bhd (r.drop j) ∧ dotB r = dotB (r.drop j)) (fun _ _ iv => S.size - (intOf iv).toNat)
  case atStart => exact ⟨rfl, rfl, 0, Nat.zero_le _, rfl, rfl, rfl, rfl⟩
  case round =>
   obtain ⟨rfl, rfl, j, hj, rfl, ha, hb, hd⟩ := hrel
   have RA := Lib.hid ha
   have RB := Lib.hid hb
   have RD := Lib.hid hd
   clear ha hb hd
   rcases Nat.lt_or_ge j S.size with hlt | hge
   ·have HX : Hid (r.drop j = (S[j]'hlt).toNat :: r.drop (j + 1)) := (by show _ = _; have e := codes_drop S j hlt; rw [HSC.out] at e; exact e)
    have HTK : Hid (r.take (j + 1) = r.take j ++ [(S[j]'hlt).toNat]) := (by show _ = _; have e := codes_take S j hlt; rw [HSC.out] at e; exact e)
    obtain ⟨x, hx⟩ : ∃ x, x = (S[j]'hlt).toNat := ⟨_, rfl⟩
    rw [← hx] at HX HTK
    by_cases kx : x = 46
    ·exact absurd (HD.out.symm.trans (RD.out.trans (show dotB (r.drop j) = true by rw [HX.out, kx]; exact dotB_cons_eq))) (by decide)
    ·have c1 : (((S[j]'hlt).toNat : Int) == 46) = false := by rw [← hx, beq_eq_false_iff_ne]; omega
     have N1 : Hid (ahd r = r.take (j + 1) ++ ahd (r.drop (j + 1))) := by show _ = _; rw [RA.out, HX.out, ahd_cons_ne _ kx, HTK.out, List.append_assoc]; rfl
     have N2 : Hid (bhd r = bhd (r.drop (j + 1))) := by show _ = _; rw [RB.out, HX.out, bhd_cons_ne _ kx]
     have N3 : Hid (dotB r = dotB (r.drop (j + 1))) := by show _ = _; rw [RD.out, HX.out, dotB_cons_ne kx]
     clear hx kx HX HTK RA RB RD
     go_wp2_with fail
     go_round
     case rel => exact ⟨rfl, rfl, j + 1, by omega, by go_num, N1.out, N2.out, N3.out⟩
     case measure => simp [intOf]; omega
   ·obtain rfl : j = S.size := by omega
    clear RA RB RD
    have hz0 : (ByteArray.mk #[]).size = 0 := rfl
    go_wp2_with fail
    go_loop [56] (fun iv => iv = .int .i64 0) (fun _ => 0)
    case atStart => exact rfl
    case round =>
     obtain rfl := hrel
     go_wp2_with fail
     refine (CG.out _).mono ?_; rintro e w3 ⟨rfl, hb1⟩; replace E := Lib.hid (St.step E.out hb1); clear hb1
     go_wp2_with fail
     clear hadd
     refine (CP.out _).mono ?_
     rintro e w4 (⟨-, A4, n4, c4, rfl, h4, hb1⟩ | ⟨hd, -⟩)
     rotate_left
     ·exact absurd HG.out hd
     replace E := Lib.hid (St.push E.out hb1 h4)
     have HPO := Lib.hid (num_pos h4)
     clear hb1 h4
     obtain ⟨r0, r1, r2, rf0, rf1, rf2, rlt⟩ := St.az (g := w.heap.size) E (by simp)
     go_wp2_with fail
     first | (have EF := Lib.hid (St.sz E.out (g := w.heap.size) (by simp) (.bool (decide (0 < n4))) (.slice A4 n4 c4) (.int .i64 0)); obtain ⟨e0, e1, e2, _, _, _, _⟩ := St.at_ (x0 := .bool (decide (0 < n4))) (x1 := .slice A4 n4 c4) (x2 := .int .i64 0) (g := w.heap.size) EF (by simp); exact bodyPost_ret (v := .tuple #[.agg #[.bool (decide (0 < n4)), .slice A4 n4 c4, .int .i64 0], .int .i64 0]) (by simp [results, Tryz.results121, go_sem, e0, e1, e2]) rfl ⟨A4, n4, c4, by rw [ng_sgn, HBL.out, HPO.out]; simp, by rw [HNUM.out]; exact St.got EF (by simp), EF.out.bel⟩) | (have EF := Lib.hid (St.sz E.out (g := w.heap.size) (by simp) (.bool false) (.slice A4 n4 c4) (.int .i64 0)); obtain ⟨e0, e1, e2, _, _, _, _⟩ := St.at_ (x0 := .bool false) (x1 := .slice A4 n4 c4) (x2 := .int .i64 0) (g := w.heap.size) EF (by simp); exact bodyPost_ret (v := .tuple #[.agg #[.bool false, .slice A4 n4 c4, .int .i64 0], .int .i64 0]) (by simp [results, Tryz.results121, go_sem, e0, e1, e2]) rfl ⟨A4, n4, c4, by rw [ng_sgn, HBL.out]; simp, by rw [HNUM.out]; exact St.got EF (by simp), EF.out.bel⟩)
theorem rr_any (s : ByteArray) (r : List Nat) (nb : Bool) (w : World) (hs : s.size ≤ 1000) (h3 : (nb = false ∧ codes s = r ∧ r.head? ≠ some 45 ∧ r.head? ≠ some 43) ∨ (nb = true ∧ codes s = 45 :: r) ∨ (nb = false ∧ codes s = 43 :: r)) (hrs : rst (codes s) = r) (hsg : sgnB (codes s) = nb) : Calls Tryz.prog 121 #[.string s] w (RetRead w (codes s)) := by
 by_cases hr : r = []
 ·exact (rr_short s w (by rcases h3 with ⟨_, h, _⟩ | ⟨_, h⟩ | ⟨_, h⟩ <;> rw [h, hr] <;> simp)).mono fun e w' h => .inl ⟨by rw [hrs]; exact hr, h⟩
 have hf := frm_parts r
 have hNO : ∀ {e w'}, frmB r = false → RetErr w 3 e w' → RetRead w (codes s) e w' := fun hb h => .inr (.inl ⟨by rw [hrs]; exact hr, by rw [hrs]; exact hb, h⟩)
 have hdgs : dgB (digsOf r) = (dgB (nocom (ahd r)) && dgB (bhd r)) := by
  rw [Bool.eq_iff_iff, Bool.and_eq_true, dgB_iff, dgB_iff, dgB_iff]; exact digs_append
 have hgs : ahd r ≠ [] → gst (ahd r) 0 false = (ungB (ahd r) && dgB (nocom (ahd r))) := gst_ungB
 cases hd : dotB r with
 | true =>
  by_cases hb : bhd r = []
  ·exact (rr_taild s r nb w hs h3 hr hd hb).mono fun e w' h => hNO (by rw [hf, hd, hb]; simp) h
  have hb' : (bhd r == []) = false := by simpa using hb
  cases ht : dgB (bhd r) with
  | false => exact (rr_tdigd s r nb w hs h3 hr hd hb ht).mono fun e w' h => hNO (by rw [hf, hdgs, ht]; simp) h
  | true =>
   by_cases ha : ahd r = []
   ·exact (rr_ungd s r nb w hs h3 hr hd hb ht (.inl ha)).mono fun e w' h => hNO (by rw [hf, ha]; rfl) h
   have ha' : (ahd r != []) = true := by simpa using ha
   cases hg : gst (ahd r) 0 false with
   | false => exact (rr_ungd s r nb w hs h3 hr hd hb ht (.inr hg)).mono fun e w' h => hNO (by rw [hf, hdgs, ht, Bool.and_true, Bool.and_assoc, ← hgs ha, hg, Bool.and_false]) h
   | true =>
    have e1 := Bool.and_eq_true_iff.1 ((hgs ha).symm.trans hg)
    have hdg : digs (digsOf r) := dgB_iff.1 (by rw [hdgs, ht, e1.2]; rfl)
    have hfr : frmB r = true := by rw [hf, hd, hb', ha', e1.1, dgB_iff.2 hdg]; rfl
    exact (rr_okd s r nb w hs h3 hr hd hb ht ha hg hdg).mono fun e w' h => .inr (.inr ⟨by rw [hrs]; exact hr, by rw [hrs]; exact hfr, by unfold numD; rw [hsg, hrs]; exact h⟩)
 | false =>
  have ht : dgB (bhd r) = true := by rw [bhd_nil hd]; rfl
  by_cases ha : ahd r = []
  ·exact (rr_ungw s r nb w hs h3 hr hd (.inl ha)).mono fun e w' h => hNO (by rw [hf, ha]; rfl) h
  have ha' : (ahd r != []) = true := by simpa using ha
  cases hg : gst (ahd r) 0 false with
  | false => exact (rr_ungw s r nb w hs h3 hr hd (.inr hg)).mono fun e w' h => hNO (by rw [hf, hdgs, ht, Bool.and_true, Bool.and_assoc, ← hgs ha, hg, Bool.and_false]) h
  | true =>
   have e1 := Bool.and_eq_true_iff.1 ((hgs ha).symm.trans hg)
   have hdg : digs (digsOf r) := dgB_iff.1 (by rw [hdgs, ht, e1.2]; rfl)
   have hfr : frmB r = true := by rw [hf, hd, ha', e1.1, dgB_iff.2 hdg]; rfl
   exact (rr_okw s r nb w hs h3 hr hd ha hg hdg).mono fun e w' h => .inr (.inr ⟨by rw [hrs]; exact hr, by rw [hrs]; exact hfr, by unfold numD; rw [hsg, hrs]; exact h⟩)
theorem rr_n (s : ByteArray) (r : List Nat) (w : World) (hs : s.size ≤ 1000) (hL : codes s = r) (hh : r.head? ≠ some 45 ∧ r.head? ≠ some 43) : Calls Tryz.prog 121 #[.string s] w (RetRead w (codes s)) :=
 rr_any s r false w hs (.inl ⟨rfl, hL, hh⟩) (by rw [hL]; unfold rst; rw [if_neg (fun h => h.elim hh.1 hh.2)]) (by rw [hL]; unfold sgnB; simpa using hh.1)
theorem refRead_any (s : ByteArray) (w : World) (hs : s.size ≤ 1000) : Calls Tryz.prog 121 #[.string s] w (RetRead w (codes s)) := by
 cases hL : codes s with
 | nil => rw [← hL]; exact rr_n s [] w hs hL (by simp)
 | cons c r =>
  rw [← hL]
  by_cases h1 : c = 45
  ·subst h1; exact rr_any s r true w hs (.inr (.inl ⟨rfl, hL⟩)) (by rw [hL]; exact rst_minus.1) (by rw [hL]; exact rst_minus.2)
  ·by_cases h2 : c = 43
   ·subst h2; exact rr_any s r false w hs (.inr (.inr ⟨rfl, hL⟩)) (by rw [hL]; exact rst_plus.1) (by rw [hL]; exact rst_plus.2)
   ·exact rr_n s (c :: r) w hs hL (by simp [h1, h2])
end Go.Proofs.YtdpkbglfebimcaaGreatDoor.Num
