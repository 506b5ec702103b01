/-
  Layer 7, contracts, the second part: signed, Scale, ungrouped.
-/
import Derived.Test.YtllcjahekckbfaaGreatDoorTxtA
set_option linter.unusedVariables false
set_option linter.unusedSimpArgs false
namespace Go.Proofs.YtllcjahekckbfaaGreatDoor
open Go.RowKit

theorem extract_from (s : ByteArray) (k m : Nat) (hm : m = s.size) : s.extract k m = str ((codes s).drop k) := by
  subst hm
  have e : s = str (codes s) := (str_codes s).symm
  have e2 : s.size = (codes s).length := (codes_len s).symm
  rw [e2]
  conv => lhs; rw [e]
  unfold str
  rw [ByteArray.extract_mk]
  simp only [List.extract_toArray, List.extract_eq_take_drop, List.map_drop]
  rw [List.take_of_length_le]
  rw [List.length_drop, List.length_map, e]
  simp [codes, str]
theorem size_zero {s : ByteArray} (h : s.size = 0) : s = ⟨#[]⟩ := by
  have e : codes s = [] := List.eq_nil_of_length_eq_zero (by rw [codes_len]; exact h)
  rw [← str_codes s, e]; rfl
theorem codes_head (s : ByteArray) (h : 0 < s.size) : codes s = (s[0]'h).toNat :: (codes s).drop 1 := by
  have hl : 0 < (codes s).length := by rw [codes_len]; exact h
  have hg := codes_get s 0 h
  cases hc : codes s with
  | nil => rw [hc] at hl; cases hl
  | cons x l =>
    rw [hc] at hg
    have : x = (s[0]'h).toNat := hg
    rw [this]; rfl
theorem codes_drop (s : ByteArray) (j : Nat) (h : j < s.size) : (codes s).drop j = (s[j]'h).toNat :: (codes s).drop (j + 1) := by
  have hl : j < (codes s).length := by rw [codes_len]; exact h
  rw [List.drop_eq_getElem_cons hl]
  congr 1
  rw [← codes_get s j h]
  unfold gd
  rw [List.getD_eq_getElem?_getD, List.getElem?_eq_getElem hl]; rfl
theorem codes_empty : codes ⟨#[]⟩ = [] := rfl
theorem rst_plain {c : Nat} {l : List Nat} (h1 : c ≠ 45) (h2 : c ≠ 43) : rst (c :: l) = c :: l ∧ sgnB (c :: l) = false := by
  unfold rst sgnB; simp [h1, h2]
theorem rst_minus {l : List Nat} : rst (45 :: l) = l ∧ sgnB (45 :: l) = true := by
  unfold rst sgnB; simp
theorem rst_plus {l : List Nat} : rst (43 :: l) = l ∧ sgnB (43 :: l) = false := by
  unfold rst sgnB; simp

set_option maxRecDepth 100000 in
theorem signed_any (s : ByteArray) (w : World) (hs : s.size ≤ 1000000) : Calls Tryz.prog 20 #[.string s] w (RetVal w (.tuple #[.bool (sgnB (codes s)), .string (str (rst (codes s)))])) := by
  rcases Nat.eq_zero_or_pos s.size with h0 | h0
  · obtain rfl := size_zero h0
    clear h0 hs
    go_enter Tryz.func20, Tryz.ntmps20
    go_wp2
    go_ret2
    exact ⟨rfl, Below.refl _ _⟩
  · obtain ⟨he1, he2, he3, he4⟩ := str_ne h0
    have HC := Lib.hid (codes_head s h0)
    have HX := Lib.hid (extract_from s 1 _ rfl)
    obtain ⟨c, hc⟩ : ∃ c, c = (s[0]'h0).toNat := ⟨_, rfl⟩
    rw [← hc] at HC
    by_cases h1 : c = 45
    · have b1 : (((s[0]'h0).toNat : Int) == 45) = true := by rw [← hc, h1]; rfl
      have HE : Hid (sgnB (codes s) = true ∧ s.extract 1 s.size = str (rst (codes s))) := by
        have e := HC.out
        rw [h1] at e
        refine ⟨?_, ?_⟩
        · rw [e]; exact rst_minus.2
        · rw [HX.out]
          conv => rhs; rw [e]
          rw [rst_minus.1]
      clear hc h1 HC HX
      go_enter Tryz.func20, Tryz.ntmps20
      go_wp2
      go_ret2
      exact ⟨by rw [HE.out.1, ← HE.out.2]; rfl, Below.refl _ _⟩
    · by_cases h2 : c = 43
      · have b1 : (((s[0]'h0).toNat : Int) == 45) = false := by rw [← hc, h2]; rfl
        have b2 : (((s[0]'h0).toNat : Int) == 43) = true := by rw [← hc, h2]; rfl
        have HE : Hid (sgnB (codes s) = false ∧ s.extract 1 s.size = str (rst (codes s))) := by
          have e := HC.out
          rw [h2] at e
          refine ⟨?_, ?_⟩
          · rw [e]; exact rst_plus.2
          · rw [HX.out]
            conv => rhs; rw [e]
            rw [rst_plus.1]
        clear hc h1 h2 HC HX
        go_enter Tryz.func20, Tryz.ntmps20
        go_wp2
        go_ret2
        exact ⟨by rw [HE.out.1, ← HE.out.2]; rfl, Below.refl _ _⟩
      · have b1 : (((s[0]'h0).toNat : Int) == 45) = false := by rw [← hc, beq_eq_false_iff_ne]; omega
        have b2 : (((s[0]'h0).toNat : Int) == 43) = false := by rw [← hc, beq_eq_false_iff_ne]; omega
        have HE : Hid (sgnB (codes s) = false ∧ s = str (rst (codes s))) := by
          refine ⟨?_, ?_⟩
          · rw [HC.out]; exact (rst_plain h1 h2).2
          · conv => rhs; rw [HC.out, (rst_plain h1 h2).1, ← HC.out, str_codes]
        clear hc h1 h2 HC HX
        go_enter Tryz.func20, Tryz.ntmps20
        go_wp2
        go_ret2
        exact ⟨by rw [HE.out.1, ← HE.out.2]; rfl, Below.refl _ _⟩

set_option maxRecDepth 100000 in
theorem scale_any (s : ByteArray) (w : World) (hs : s.size ≤ 1000000) (hm : MaxLen w) : Calls Tryz.prog 15 #[.string s] w (RetVal w (.int .i64 ((bhd (codes s)).length : Nat))) := by
  have C := Lib.hid (scut_any s w hs hm)
  have HS := Lib.hid (str_size (bhd (codes s)))
  go_enter Tryz.func15, Tryz.ntmps15
  go_wp2_with fail
  refine C.out.mono ?_; rintro e w1 ⟨rfl, hb1⟩
  have HB1 := Lib.hid hb1
  clear hb1 C
  go_wp2_with fail
  go_ret
  exact ⟨by rw [← HS.out]; rfl, HB1.out⟩

/-- What ungrouped answers. -/
def ungS (l : List Nat) : ByteArray := if ungB l then str (nocom l) else ⟨#[]⟩
theorem ungS_yes {l : List Nat} (h : ungB l = true) : ungS l = str (nocom l) := by unfold ungS; rw [if_pos h]
theorem ungS_no {l : List Nat} (h : ungB l = false) : ungS l = ⟨#[]⟩ := by unfold ungS; rw [h]; rfl
set_option maxRecDepth 100000 in
set_option maxHeartbeats 2000000 in
theorem ungrouped_any (s : ByteArray) (w : World) (h0 : 0 < s.size) (hs : s.size ≤ 1000000) (hm : MaxLen w) :
    Calls Tryz.prog 22 #[.string s] w (RetVal w (.tuple #[.string (ungS (codes s)), .bool (ungB (codes s))])) := by
  have C := Lib.hid (scontains_any s w)
  have R := Lib.hid (sreplace_any s w hs hm)
  by_cases hc : (codes s).contains 44 = true
  · have hcB : comB (codes s) = true := hc
    rw [hcB] at C
    clear hcB
    have HC := Lib.hid (codes_head s h0)
    obtain ⟨c, hcc⟩ : ∃ c, c = (s[0]'h0).toNat := ⟨_, rfl⟩
    rw [← hcc] at HC
    have HU : Hid (ungB (codes s) = (decide (c ≠ 44) && gok (codes s))) := by
      show _ = _
      have e : (codes s).head? = some c := by rw [HC.out]; rfl
      unfold ungB
      rw [if_pos hc, e]
      congr 1
      rw [Bool.eq_iff_iff]; simp
    by_cases h1 : c = 44
    · have b1 : (((s[0]'h0).toNat : Int) == 44) = true := by rw [← hcc, h1]; rfl
      have HE : Hid (ungB (codes s) = false) := by show _ = _; rw [HU.out, h1]; rfl
      clear HU h1 hcc HC hc R
      go_enter Tryz.func22, Tryz.ntmps22
      go_wp2_with fail
      refine C.out.mono ?_; rintro e w1 ⟨rfl, rfl⟩
      clear C
      go_wp2_with fail
      go_ret2
      exact ⟨by rw [ungS_no HE.out, HE.out]; rfl, Below.refl _ _⟩
    · have b1 : (((s[0]'h0).toNat : Int) == 44) = false := by rw [← hcc, beq_eq_false_iff_ne]; omega
      have HE : Hid (ungB (codes s) = gok (codes s)) := by show _ = _; rw [HU.out, decide_eq_true h1]; rfl
      have HL := Lib.hid (codes_len s)
      clear HU h1 hcc HC hc
      go_enter Tryz.func22, Tryz.ntmps22
      go_wp2_with fail
      refine C.out.mono ?_; rintro e w1 ⟨rfl, rfl⟩
      clear C
      go_wp2_with fail
      go_loop [14] (fun iv => ∃ j : Nat, j ≤ s.size ∧ iv = .int .i64 j ∧ gok (codes s) = gok ((codes s).drop j)) (fun iv => s.size - (intOf iv).toNat)
      case atStart => exact ⟨0, Nat.zero_le _, rfl, rfl⟩
      case round =>
        obtain ⟨j, hj, rfl, hg⟩ := hrel
        have HG := Lib.hid hg
        clear hg
        rcases Nat.lt_or_ge j s.size with hlt | hge
        · have HD := Lib.hid (codes_drop s j hlt)
          obtain ⟨x, hx⟩ : ∃ x, x = (s[j]'hlt).toNat := ⟨_, rfl⟩
          rw [← hx] at HD
          have HG2 : Hid (gok (codes s) = (((x == 44) == decide ((s.size - j) % 4 = 0)) && gok ((codes s).drop (j + 1)))) := by
            show _ = _
            rw [HG.out, HD.out, gok_at]
            have e : ((codes s).drop (j + 1)).length + 1 = s.size - j := by rw [List.length_drop, HL.out]; omega
            rw [e]
          have em : ((s.size : Int) - (j : Int)) % 4 = (((s.size - j) % 4 : Nat) : Int) := by omega
          obtain ⟨y, hy⟩ : ∃ y, y = (s.size - j) % 4 := ⟨_, rfl⟩
          rw [← hy] at HG2 em
          by_cases k1 : x = 44
          · have b2 : (((s[j]'hlt).toNat : Int) == 44) = true := by rw [← hx, k1]; rfl
            by_cases k2 : y = 0
            · have b3 : ((y : Int) == 0) = true := by rw [k2]; rfl
              have HN : Hid (gok (codes s) = gok ((codes s).drop (j + 1))) := by show _ = _; rw [HG2.out, k1, k2]; rfl
              clear k1 k2 hx hy HG HG2 HD
              go_wp2_with fail
              go_round
              case rel => exact ⟨j + 1, by omega, by go_num, HN.out⟩
              case measure => simp [intOf]; omega
            · have b3 : ((y : Int) == 0) = false := by rw [beq_eq_false_iff_ne]; omega
              have HN : Hid (gok (codes s) = false) := by show _ = _; rw [HG2.out, k1, decide_eq_false k2]; rfl
              clear k1 k2 hx hy HG HG2 HD
              go_wp2_with fail
              go_ret2
              exact ⟨by rw [ungS_no (HE.out.trans HN.out), HE.out, HN.out]; rfl, Below.refl _ _⟩
          · have b2 : (((s[j]'hlt).toNat : Int) == 44) = false := by rw [← hx, beq_eq_false_iff_ne]; omega
            by_cases k2 : y = 0
            · have b3 : ((y : Int) == 0) = true := by rw [k2]; rfl
              have HN : Hid (gok (codes s) = false) := by
                show _ = _
                have k3 : (x == 44) = false := by simpa using k1
                rw [HG2.out, k3, k2]; rfl
              clear k1 k2 hx hy HG HG2 HD
              go_wp2_with fail
              go_ret2
              exact ⟨by rw [ungS_no (HE.out.trans HN.out), HE.out, HN.out]; rfl, Below.refl _ _⟩
            · have b3 : ((y : Int) == 0) = false := by rw [beq_eq_false_iff_ne]; omega
              have HN : Hid (gok (codes s) = gok ((codes s).drop (j + 1))) := by
                show _ = _
                have k3 : (x == 44) = false := by simpa using k1
                rw [HG2.out, k3, decide_eq_false k2]; rfl
              clear k1 k2 hx hy HG HG2 HD
              go_wp2_with fail
              go_round
              case rel => exact ⟨j + 1, by omega, by go_num, HN.out⟩
              case measure => simp [intOf]; omega
        · obtain rfl : j = s.size := by omega
          have HT : Hid (gok (codes s) = true) := by
            show _ = _
            rw [HG.out, List.drop_of_length_le (by rw [HL.out]; exact Nat.le_refl _)]; rfl
          clear HG
          go_wp2_with fail
          refine R.out.mono ?_; rintro e w2 ⟨rfl, hb2⟩
          have HB2 := Lib.hid hb2
          clear hb2 R
          go_wp2_with fail
          go_ret2
          exact ⟨by rw [ungS_yes (HE.out.trans HT.out), HE.out, HT.out]; rfl, HB2.out⟩
  · have hc' : (codes s).contains 44 = false := by simpa using hc
    have HE : Hid (ungB (codes s) = true ∧ nocom (codes s) = codes s) := by
      constructor
      · unfold ungB; rw [hc']; rfl
      · unfold nocom
        rw [List.filter_eq_self]
        intro b hb
        have : b ≠ 44 := fun e => by rw [e] at hb; exact hc (List.contains_iff_mem.2 hb)
        simpa using this
    have hcB : comB (codes s) = false := hc'
    rw [hcB] at C
    clear hc hc' R hcB
    go_enter Tryz.func22, Tryz.ntmps22
    go_wp2_with fail
    refine C.out.mono ?_; rintro e w1 ⟨rfl, rfl⟩
    clear C
    go_wp2_with fail
    go_ret2
    exact ⟨by rw [ungS_yes HE.out.1, HE.out.1, HE.out.2, str_codes]; rfl, Below.refl _ _⟩

end Go.Proofs.YtllcjahekckbfaaGreatDoor
