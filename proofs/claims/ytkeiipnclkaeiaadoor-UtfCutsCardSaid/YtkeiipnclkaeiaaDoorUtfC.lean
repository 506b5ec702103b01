/-
  Contracts of layer 9, the third part: the document's Size.
-/
import Derived.Test.YtkeiipnclkaeiaaDoorUtfB
set_option linter.unusedVariables false
set_option linter.unusedSimpArgs false
namespace Go.Proofs.YtkeiipnclkaeiaaDoor
open Go.RowKit

theorem szl_out {a : Nat} (t : List Nat) (h : (128 ≤ a ∧ a < 194) ∨ 245 ≤ a) : szl (a :: t) = 0 := by
  rw [szl_cons]
  split
  · rfl
  · cases hg : go9 (a - mk9 (tld a)) t (tld a - 1) with
    | none => rfl
    | some x =>
      have hb := go9_bd _ hg
      refine if_neg ?_
      rintro ⟨h1, h2⟩
      unfold Sg at h1
      by_cases k1 : a < 192
      · rw [show tld a = 1 from tld_is (by omega)] at hb h2
        have : mk9 1 = 0 := rfl
        rw [this, Nat.sub_self, Nat.pow_zero] at hb
        unfold lng at h2
        rw [if_neg (by omega)] at h2
        split at h2 <;> (try split at h2) <;> omega
      · by_cases k2 : a < 194
        · rw [show tld a = 2 from tld_is (by omega)] at hb h2
          have : mk9 2 = 192 := rfl
          rw [this, show 2 - 1 = 1 from rfl, Nat.pow_one] at hb
          unfold lng at h2
          rw [if_pos (by omega)] at h2
          omega
        · rw [show tld a = 4 from tld_is (by omega)] at hb h2
          have : mk9 4 = 240 := rfl
          rw [this, show 64 ^ (4 - 1) = 262144 from rfl] at hb
          omega
theorem and32 (b : Nat) (h : b < 256) : bits .and .u32 (b : Int) 63 = ((b % 64 : Nat) : Int) := by
  have := bits_mask .u32 32 (by decide) wraps_u32' 6 (by decide) (b : Int) (by omega) (by omega)
  rw [show ((2 : Int) ^ 6 - 1) = 63 from rfl] at this
  rw [this]; omega
theorem or32 (x b : Nat) (hx : x < 2 ^ 25) (hb : b < 64) : bits .or .u32 ((x * 64 : Nat) : Int) (b : Int) = ((x * 64 + b : Nat) : Int) := by
  rw [bits_join .u32 32 (by decide) wraps_u32' 6 _ _ (by omega) (by omega) (by omega) (by omega) (by omega) (by omega)]; omega

set_option maxHeartbeats 4000000 in
set_option maxRecDepth 100000 in
theorem refsize_2 (s : ByteArray) (w : World) (hs : s.size ≤ 1000000) (h0 : 0 < s.size) (a : Nat) (ha : (s[0]'h0).toNat = a) (ha1 : 194 ≤ a) (ha2 : a < 224) : Calls Tryd.prog 11 #[.string s] w (Ret9 w (.int .i64 (szl (bs9 s) : Nat))) := by
  obtain ⟨z, hz⟩ : ∃ z, szl (bs9 s) = z := ⟨_, rfl⟩
  rw [hz]
  have hne : (s.toList == []) = false := by simpa using toList9 (by omega)
  have hb0 := bs9_get s 0 h0
  rw [List.drop_zero, ha] at hb0
  have HL := Lib.hid (bs9_len s)
  have HB := Lib.hid hb0
  have HZ := Lib.hid hz
  have HN : Hid (tld a = 2) := tld_is (by omega)
  clear hz hb0
  have e1 : bits .and .u32 (a : Int) 31 = ((a - 192 : Nat) : Int) := by
    have := bits_mask .u32 32 (by decide) wraps_u32' 5 (by decide) (a : Int) (by omega) (by omega)
    rw [show ((2 : Int) ^ 5 - 1) = 31 from rfl] at this
    rw [this]; omega
  have f0 : decide ((a : Int) < 128) = false := decide_eq_false (by omega)
  have f1 : decide ((194 : Int) ≤ (a : Int)) = true := decide_eq_true (by omega)
  have f2 : decide ((a : Int) < 224) = true := decide_eq_true (by omega)
  obtain ⟨y0, hy0⟩ : ∃ y, a - 192 = y := ⟨_, rfl⟩
  have hyb : y0 < 32 := by omega
  clear ha1 ha2
  go_enter Tryd.func11, Tryd.ntmps11
  rcases Nat.lt_or_ge s.size 2 with hlt | hge
  · have E : Hid (z = 0) := by
      show _ = _
      rw [← HZ.out, HB.out]
      have := HL.out
      rw [HB.out, List.length_cons] at this
      exact szl_short _ _ (by rw [HN.out]; omega)
    go_wp2_with fail
    go_ret
    exact ⟨by rw [E.out]; rfl, Below.refl _ _⟩
  · obtain ⟨T, hT0⟩ : ∃ T, (bs9 s).drop 1 = T := ⟨_, rfl⟩
    have HZ' : Hid (z = fin9 2 (go9 (a - 192) T 1)) := by
      show _ = _
      have := HL.out
      rw [HB.out, List.length_cons, hT0] at this
      rw [← HZ.out, HB.out, hT0, szl_cons, HN.out, if_neg (by omega)]; rfl
    have HT0 := Lib.hid hT0
    clear hT0 HZ
    rw [hy0] at e1 HZ'
    go_wp2_with fail
    go_loop [6, 7] (fun xv iv => ∃ (x i : Nat), xv = .int .u32 x ∧ iv = .int .i64 i ∧ 1 ≤ i ∧ i ≤ 2 ∧ ((i = 1 ∧ x < 32) ∨ (i = 2 ∧ x < 2048)) ∧ go9 y0 T 1 = go9 x ((bs9 s).drop i) (2 - i)) (fun _ iv => 2 - (intOf iv).toNat)
    case atStart => exact ⟨y0, 1, rfl, rfl, Nat.le_refl _, by omega, by omega, by rw [HT0.out]⟩
    case round =>
      obtain ⟨x, i, rfl, rfl, hi1, hin, hx, hg⟩ := hrel
      have HG := Lib.hid hg
      clear hg
      rcases Nat.lt_or_ge i 2 with hi | hi
      · have hlt : i < s.size := by omega
        have hx30 : x < 32 := by omega
        obtain ⟨b, hb⟩ : ∃ b, (s[i]'hlt).toNat = b := ⟨_, rfl⟩
        have hbb : b < 256 := by rw [← hb]; exact UInt8.toNat_lt _
        have HD := Lib.hid (bs9_get s i hlt)
        rw [hb] at HD
        by_cases hc : cn9 b
        · obtain ⟨y, hy⟩ : ∃ y, x * 64 + (b - 128) = y := ⟨_, rfl⟩
          have h63 : bits .and .u32 (b : Int) 63 = ((b % 64 : Nat) : Int) := and32 b hbb
          obtain ⟨c, hbc⟩ : ∃ c, b % 64 = c := ⟨_, rfl⟩
          rw [hbc] at h63
          have hor : bits .or .u32 ((x : Int) * 64) (c : Int) = (y : Int) := by
            unfold cn9 at hc
            have := or32 x c (by omega) (by omega)
            rw [show ((x : Int) * 64) = ((x * 64 : Nat) : Int) by omega, this, ← hy]
            omega
          have HY : Hid (go9 y0 T 1 = go9 y ((bs9 s).drop (i + 1)) (2 - (i + 1))) := by
            show _ = _
            rw [HG.out, HD.out, show 2 - i = (2 - (i + 1)) + 1 by omega, go9, if_pos hc, hy]
          have hyb : (i + 1 = 1 ∧ y < 32) ∨ (i + 1 = 2 ∧ y < 2048) := by unfold cn9 at hc; omega
          have HYB := Lib.hid hyb
          have D : Hid (decide (cn9 b) = true) := decide_eq_true hc
          clear hc hy hyb hbc
          go_wp2_with fail
          refine (cont_any b _).mono ?_; rintro e w2 ⟨rfl, rfl⟩
          rw [D.out]
          go_wp2_with fail
          go_round
          case rel => exact ⟨y, i + 1, by go_num, by go_num, by omega, by omega, HYB.out, HY.out⟩
          case measure => simp [intOf]; omega
        · have E : Hid (z = 0) := by
            show _ = _
            obtain ⟨k, hk⟩ : ∃ k, 2 - i = k + 1 := ⟨1 - i, by omega⟩
            rw [HZ'.out, HG.out, HD.out, hk, go9, if_neg hc]; rfl
          have D : Hid (decide (cn9 b) = false) := decide_eq_false hc
          clear hc
          go_wp2_with fail
          refine (cont_any b _).mono ?_; rintro e w2 ⟨rfl, rfl⟩
          rw [D.out]
          go_wp2_with fail
          go_ret
          exact ⟨by rw [E.out]; rfl, Below.refl _ _⟩
      · obtain rfl : i = 2 := by omega
        have hxb : x < 2048 := by omega
        have E : Hid (z = if Sg x ∧ lng x = 2 then 2 else 0) := by
          show _ = _
          rw [HZ'.out, HG.out, Nat.sub_self, go9]; rfl
        clear hx
        by_cases q1 : x < 128
        · have d1 : decide ((x : Int) < 128) = true := decide_eq_true (by omega)
          have E2 : Hid (z = 0) := by show _ = _; rw [E.out, if_neg]; rintro ⟨_, h⟩; unfold lng at h; (repeat' split at h) <;> omega
          clear q1 hxb
          go_wp2_with fail
          go_ret
          exact ⟨by rw [E2.out]; rfl, Below.refl _ _⟩
        · have d1 : decide ((x : Int) < 128) = false := decide_eq_false (by omega)
          by_cases q2 : 1114111 < x
          · have d2 : decide ((1114111 : Int) < (x : Int)) = true := decide_eq_true (by omega)
            have E2 : Hid (z = 0) := by show _ = _; rw [E.out, if_neg]; rintro ⟨h, _⟩; unfold Sg at h; omega
            clear q1 q2 hxb
            go_wp2_with fail
            go_ret
            exact ⟨by rw [E2.out]; rfl, Below.refl _ _⟩
          · have d2 : decide ((1114111 : Int) < (x : Int)) = false := decide_eq_false (by omega)
            by_cases q3 : 55296 ≤ x
            · have d3 : decide ((55296 : Int) ≤ (x : Int)) = true := decide_eq_true (by omega)
              by_cases q4 : x < 57344
              · have d4 : decide ((x : Int) < 57344) = true := decide_eq_true (by omega)
                have E2 : Hid (z = 0) := by show _ = _; rw [E.out, if_neg]; rintro ⟨h, _⟩; unfold Sg at h; omega
                clear q1 q2 q3 q4 hxb
                go_wp2_with fail
                go_ret
                exact ⟨by rw [E2.out]; rfl, Below.refl _ _⟩
              · have d4 : decide ((x : Int) < 57344) = false := decide_eq_false (by omega)
                have E2 : Hid (z = 2) := by show _ = _; rw [E.out, if_pos ⟨by unfold Sg; omega, lng_is (by omega)⟩]
                clear q1 q2 q3 q4 hxb
                go_wp2_with fail
                go_ret
                exact ⟨by rw [E2.out]; rfl, Below.refl _ _⟩
            · have d3 : decide ((55296 : Int) ≤ (x : Int)) = false := decide_eq_false (by omega)
              have E2 : Hid (z = 2) := by show _ = _; rw [E.out, if_pos ⟨by unfold Sg; omega, lng_is (by omega)⟩]
              clear q1 q2 q3 hxb
              go_wp2_with fail
              go_ret
              exact ⟨by rw [E2.out]; rfl, Below.refl _ _⟩

set_option maxHeartbeats 4000000 in
set_option maxRecDepth 100000 in
theorem refsize_3 (s : ByteArray) (w : World) (hs : s.size ≤ 1000000) (h0 : 0 < s.size) (a : Nat) (ha : (s[0]'h0).toNat = a) (ha1 : 224 ≤ a) (ha2 : a < 240) : Calls Tryd.prog 11 #[.string s] w (Ret9 w (.int .i64 (szl (bs9 s) : Nat))) := by
  obtain ⟨z, hz⟩ : ∃ z, szl (bs9 s) = z := ⟨_, rfl⟩
  rw [hz]
  have hne : (s.toList == []) = false := by simpa using toList9 (by omega)
  have hb0 := bs9_get s 0 h0
  rw [List.drop_zero, ha] at hb0
  have HL := Lib.hid (bs9_len s)
  have HB := Lib.hid hb0
  have HZ := Lib.hid hz
  have HN : Hid (tld a = 3) := tld_is (by omega)
  clear hz hb0
  have e1 : bits .and .u32 (a : Int) 15 = ((a - 224 : Nat) : Int) := by
    have := bits_mask .u32 32 (by decide) wraps_u32' 4 (by decide) (a : Int) (by omega) (by omega)
    rw [show ((2 : Int) ^ 4 - 1) = 15 from rfl] at this
    rw [this]; omega
  have f0 : decide ((a : Int) < 128) = false := decide_eq_false (by omega)
  have f1 : decide ((194 : Int) ≤ (a : Int)) = true := decide_eq_true (by omega)
  have f2 : decide ((a : Int) < 224) = false := decide_eq_false (by omega)
  have f3 : decide ((224 : Int) ≤ (a : Int)) = true := decide_eq_true (by omega)
  have f4 : decide ((a : Int) < 240) = true := decide_eq_true (by omega)
  obtain ⟨y0, hy0⟩ : ∃ y, a - 224 = y := ⟨_, rfl⟩
  have hyb : y0 < 16 := by omega
  clear ha1 ha2
  go_enter Tryd.func11, Tryd.ntmps11
  rcases Nat.lt_or_ge s.size 3 with hlt | hge
  · have E : Hid (z = 0) := by
      show _ = _
      rw [← HZ.out, HB.out]
      have := HL.out
      rw [HB.out, List.length_cons] at this
      exact szl_short _ _ (by rw [HN.out]; omega)
    go_wp2_with fail
    go_ret
    exact ⟨by rw [E.out]; rfl, Below.refl _ _⟩
  · obtain ⟨T, hT0⟩ : ∃ T, (bs9 s).drop 1 = T := ⟨_, rfl⟩
    have HZ' : Hid (z = fin9 3 (go9 (a - 224) T 2)) := by
      show _ = _
      have := HL.out
      rw [HB.out, List.length_cons, hT0] at this
      rw [← HZ.out, HB.out, hT0, szl_cons, HN.out, if_neg (by omega)]; rfl
    have HT0 := Lib.hid hT0
    clear hT0 HZ
    rw [hy0] at e1 HZ'
    go_wp2_with fail
    go_loop [6, 7] (fun xv iv => ∃ (x i : Nat), xv = .int .u32 x ∧ iv = .int .i64 i ∧ 1 ≤ i ∧ i ≤ 3 ∧ ((i = 1 ∧ x < 16) ∨ (i = 2 ∧ x < 1024) ∨ (i = 3 ∧ x < 65536)) ∧ go9 y0 T 2 = go9 x ((bs9 s).drop i) (3 - i)) (fun _ iv => 3 - (intOf iv).toNat)
    case atStart => exact ⟨y0, 1, rfl, rfl, Nat.le_refl _, by omega, by omega, by rw [HT0.out]⟩
    case round =>
      obtain ⟨x, i, rfl, rfl, hi1, hin, hx, hg⟩ := hrel
      have HG := Lib.hid hg
      clear hg
      rcases Nat.lt_or_ge i 3 with hi | hi
      · have hlt : i < s.size := by omega
        have hx30 : x < 1024 := by omega
        obtain ⟨b, hb⟩ : ∃ b, (s[i]'hlt).toNat = b := ⟨_, rfl⟩
        have hbb : b < 256 := by rw [← hb]; exact UInt8.toNat_lt _
        have HD := Lib.hid (bs9_get s i hlt)
        rw [hb] at HD
        by_cases hc : cn9 b
        · obtain ⟨y, hy⟩ : ∃ y, x * 64 + (b - 128) = y := ⟨_, rfl⟩
          have h63 : bits .and .u32 (b : Int) 63 = ((b % 64 : Nat) : Int) := and32 b hbb
          obtain ⟨c, hbc⟩ : ∃ c, b % 64 = c := ⟨_, rfl⟩
          rw [hbc] at h63
          have hor : bits .or .u32 ((x : Int) * 64) (c : Int) = (y : Int) := by
            unfold cn9 at hc
            have := or32 x c (by omega) (by omega)
            rw [show ((x : Int) * 64) = ((x * 64 : Nat) : Int) by omega, this, ← hy]
            omega
          have HY : Hid (go9 y0 T 2 = go9 y ((bs9 s).drop (i + 1)) (3 - (i + 1))) := by
            show _ = _
            rw [HG.out, HD.out, show 3 - i = (3 - (i + 1)) + 1 by omega, go9, if_pos hc, hy]
          have hyb : (i + 1 = 1 ∧ y < 16) ∨ (i + 1 = 2 ∧ y < 1024) ∨ (i + 1 = 3 ∧ y < 65536) := by unfold cn9 at hc; omega
          have HYB := Lib.hid hyb
          have D : Hid (decide (cn9 b) = true) := decide_eq_true hc
          clear hc hy hyb hbc
          go_wp2_with fail
          refine (cont_any b _).mono ?_; rintro e w2 ⟨rfl, rfl⟩
          rw [D.out]
          go_wp2_with fail
          go_round
          case rel => exact ⟨y, i + 1, by go_num, by go_num, by omega, by omega, HYB.out, HY.out⟩
          case measure => simp [intOf]; omega
        · have E : Hid (z = 0) := by
            show _ = _
            obtain ⟨k, hk⟩ : ∃ k, 3 - i = k + 1 := ⟨2 - i, by omega⟩
            rw [HZ'.out, HG.out, HD.out, hk, go9, if_neg hc]; rfl
          have D : Hid (decide (cn9 b) = false) := decide_eq_false hc
          clear hc
          go_wp2_with fail
          refine (cont_any b _).mono ?_; rintro e w2 ⟨rfl, rfl⟩
          rw [D.out]
          go_wp2_with fail
          go_ret
          exact ⟨by rw [E.out]; rfl, Below.refl _ _⟩
      · obtain rfl : i = 3 := by omega
        have hxb : x < 65536 := by omega
        have E : Hid (z = if Sg x ∧ lng x = 3 then 3 else 0) := by
          show _ = _
          rw [HZ'.out, HG.out, Nat.sub_self, go9]; rfl
        clear hx
        by_cases q1 : x < 2048
        · have d1 : decide ((x : Int) < 2048) = true := decide_eq_true (by omega)
          have E2 : Hid (z = 0) := by show _ = _; rw [E.out, if_neg]; rintro ⟨_, h⟩; unfold lng at h; (repeat' split at h) <;> omega
          clear q1 hxb
          go_wp2_with fail
          go_ret
          exact ⟨by rw [E2.out]; rfl, Below.refl _ _⟩
        · have d1 : decide ((x : Int) < 2048) = false := decide_eq_false (by omega)
          by_cases q2 : 1114111 < x
          · have d2 : decide ((1114111 : Int) < (x : Int)) = true := decide_eq_true (by omega)
            have E2 : Hid (z = 0) := by show _ = _; rw [E.out, if_neg]; rintro ⟨h, _⟩; unfold Sg at h; omega
            clear q1 q2 hxb
            go_wp2_with fail
            go_ret
            exact ⟨by rw [E2.out]; rfl, Below.refl _ _⟩
          · have d2 : decide ((1114111 : Int) < (x : Int)) = false := decide_eq_false (by omega)
            by_cases q3 : 55296 ≤ x
            · have d3 : decide ((55296 : Int) ≤ (x : Int)) = true := decide_eq_true (by omega)
              by_cases q4 : x < 57344
              · have d4 : decide ((x : Int) < 57344) = true := decide_eq_true (by omega)
                have E2 : Hid (z = 0) := by show _ = _; rw [E.out, if_neg]; rintro ⟨h, _⟩; unfold Sg at h; omega
                clear q1 q2 q3 q4 hxb
                go_wp2_with fail
                go_ret
                exact ⟨by rw [E2.out]; rfl, Below.refl _ _⟩
              · have d4 : decide ((x : Int) < 57344) = false := decide_eq_false (by omega)
                have E2 : Hid (z = 3) := by show _ = _; rw [E.out, if_pos ⟨by unfold Sg; omega, lng_is (by omega)⟩]
                clear q1 q2 q3 q4 hxb
                go_wp2_with fail
                go_ret
                exact ⟨by rw [E2.out]; rfl, Below.refl _ _⟩
            · have d3 : decide ((55296 : Int) ≤ (x : Int)) = false := decide_eq_false (by omega)
              have E2 : Hid (z = 3) := by show _ = _; rw [E.out, if_pos ⟨by unfold Sg; omega, lng_is (by omega)⟩]
              clear q1 q2 q3 hxb
              go_wp2_with fail
              go_ret
              exact ⟨by rw [E2.out]; rfl, Below.refl _ _⟩

set_option maxHeartbeats 4000000 in
set_option maxRecDepth 100000 in
theorem refsize_4 (s : ByteArray) (w : World) (hs : s.size ≤ 1000000) (h0 : 0 < s.size) (a : Nat) (ha : (s[0]'h0).toNat = a) (ha1 : 240 ≤ a) (ha2 : a < 245) : Calls Tryd.prog 11 #[.string s] w (Ret9 w (.int .i64 (szl (bs9 s) : Nat))) := by
  obtain ⟨z, hz⟩ : ∃ z, szl (bs9 s) = z := ⟨_, rfl⟩
  rw [hz]
  have hne : (s.toList == []) = false := by simpa using toList9 (by omega)
  have hb0 := bs9_get s 0 h0
  rw [List.drop_zero, ha] at hb0
  have HL := Lib.hid (bs9_len s)
  have HB := Lib.hid hb0
  have HZ := Lib.hid hz
  have HN : Hid (tld a = 4) := tld_is (by omega)
  clear hz hb0
  have e1 : bits .and .u32 (a : Int) 7 = ((a - 240 : Nat) : Int) := by
    have := bits_mask .u32 32 (by decide) wraps_u32' 3 (by decide) (a : Int) (by omega) (by omega)
    rw [show ((2 : Int) ^ 3 - 1) = 7 from rfl] at this
    rw [this]; omega
  have f0 : decide ((a : Int) < 128) = false := decide_eq_false (by omega)
  have f1 : decide ((194 : Int) ≤ (a : Int)) = true := decide_eq_true (by omega)
  have f2 : decide ((a : Int) < 224) = false := decide_eq_false (by omega)
  have f3 : decide ((224 : Int) ≤ (a : Int)) = true := decide_eq_true (by omega)
  have f4 : decide ((a : Int) < 240) = false := decide_eq_false (by omega)
  have f5 : decide ((240 : Int) ≤ (a : Int)) = true := decide_eq_true (by omega)
  have f6 : decide ((a : Int) < 245) = true := decide_eq_true (by omega)
  obtain ⟨y0, hy0⟩ : ∃ y, a - 240 = y := ⟨_, rfl⟩
  have hyb : y0 < 5 := by omega
  clear ha1 ha2
  go_enter Tryd.func11, Tryd.ntmps11
  rcases Nat.lt_or_ge s.size 4 with hlt | hge
  · have E : Hid (z = 0) := by
      show _ = _
      rw [← HZ.out, HB.out]
      have := HL.out
      rw [HB.out, List.length_cons] at this
      exact szl_short _ _ (by rw [HN.out]; omega)
    go_wp2_with fail
    go_ret
    exact ⟨by rw [E.out]; rfl, Below.refl _ _⟩
  · obtain ⟨T, hT0⟩ : ∃ T, (bs9 s).drop 1 = T := ⟨_, rfl⟩
    have HZ' : Hid (z = fin9 4 (go9 (a - 240) T 3)) := by
      show _ = _
      have := HL.out
      rw [HB.out, List.length_cons, hT0] at this
      rw [← HZ.out, HB.out, hT0, szl_cons, HN.out, if_neg (by omega)]; rfl
    have HT0 := Lib.hid hT0
    clear hT0 HZ
    rw [hy0] at e1 HZ'
    go_wp2_with fail
    go_loop [6, 7] (fun xv iv => ∃ (x i : Nat), xv = .int .u32 x ∧ iv = .int .i64 i ∧ 1 ≤ i ∧ i ≤ 4 ∧ ((i = 1 ∧ x < 5) ∨ (i = 2 ∧ x < 320) ∨ (i = 3 ∧ x < 20480) ∨ (i = 4 ∧ x < 1310720)) ∧ go9 y0 T 3 = go9 x ((bs9 s).drop i) (4 - i)) (fun _ iv => 4 - (intOf iv).toNat)
    case atStart => exact ⟨y0, 1, rfl, rfl, Nat.le_refl _, by omega, by omega, by rw [HT0.out]⟩
    case round =>
      obtain ⟨x, i, rfl, rfl, hi1, hin, hx, hg⟩ := hrel
      have HG := Lib.hid hg
      clear hg
      rcases Nat.lt_or_ge i 4 with hi | hi
      · have hlt : i < s.size := by omega
        have hx30 : x < 20480 := by omega
        obtain ⟨b, hb⟩ : ∃ b, (s[i]'hlt).toNat = b := ⟨_, rfl⟩
        have hbb : b < 256 := by rw [← hb]; exact UInt8.toNat_lt _
        have HD := Lib.hid (bs9_get s i hlt)
        rw [hb] at HD
        by_cases hc : cn9 b
        · obtain ⟨y, hy⟩ : ∃ y, x * 64 + (b - 128) = y := ⟨_, rfl⟩
          have h63 : bits .and .u32 (b : Int) 63 = ((b % 64 : Nat) : Int) := and32 b hbb
          obtain ⟨c, hbc⟩ : ∃ c, b % 64 = c := ⟨_, rfl⟩
          rw [hbc] at h63
          have hor : bits .or .u32 ((x : Int) * 64) (c : Int) = (y : Int) := by
            unfold cn9 at hc
            have := or32 x c (by omega) (by omega)
            rw [show ((x : Int) * 64) = ((x * 64 : Nat) : Int) by omega, this, ← hy]
            omega
          have HY : Hid (go9 y0 T 3 = go9 y ((bs9 s).drop (i + 1)) (4 - (i + 1))) := by
            show _ = _
            rw [HG.out, HD.out, show 4 - i = (4 - (i + 1)) + 1 by omega, go9, if_pos hc, hy]
          have hyb : (i + 1 = 1 ∧ y < 5) ∨ (i + 1 = 2 ∧ y < 320) ∨ (i + 1 = 3 ∧ y < 20480) ∨ (i + 1 = 4 ∧ y < 1310720) := by unfold cn9 at hc; omega
          have HYB := Lib.hid hyb
          have D : Hid (decide (cn9 b) = true) := decide_eq_true hc
          clear hc hy hyb hbc
          go_wp2_with fail
          refine (cont_any b _).mono ?_; rintro e w2 ⟨rfl, rfl⟩
          rw [D.out]
          go_wp2_with fail
          go_round
          case rel => exact ⟨y, i + 1, by go_num, by go_num, by omega, by omega, HYB.out, HY.out⟩
          case measure => simp [intOf]; omega
        · have E : Hid (z = 0) := by
            show _ = _
            obtain ⟨k, hk⟩ : ∃ k, 4 - i = k + 1 := ⟨3 - i, by omega⟩
            rw [HZ'.out, HG.out, HD.out, hk, go9, if_neg hc]; rfl
          have D : Hid (decide (cn9 b) = false) := decide_eq_false hc
          clear hc
          go_wp2_with fail
          refine (cont_any b _).mono ?_; rintro e w2 ⟨rfl, rfl⟩
          rw [D.out]
          go_wp2_with fail
          go_ret
          exact ⟨by rw [E.out]; rfl, Below.refl _ _⟩
      · obtain rfl : i = 4 := by omega
        have hxb : x < 1310720 := by omega
        have E : Hid (z = if Sg x ∧ lng x = 4 then 4 else 0) := by
          show _ = _
          rw [HZ'.out, HG.out, Nat.sub_self, go9]; rfl
        clear hx
        by_cases q1 : x < 65536
        · have d1 : decide ((x : Int) < 65536) = true := decide_eq_true (by omega)
          have E2 : Hid (z = 0) := by show _ = _; rw [E.out, if_neg]; rintro ⟨_, h⟩; unfold lng at h; (repeat' split at h) <;> omega
          clear q1 hxb
          go_wp2_with fail
          go_ret
          exact ⟨by rw [E2.out]; rfl, Below.refl _ _⟩
        · have d1 : decide ((x : Int) < 65536) = false := decide_eq_false (by omega)
          by_cases q2 : 1114111 < x
          · have d2 : decide ((1114111 : Int) < (x : Int)) = true := decide_eq_true (by omega)
            have E2 : Hid (z = 0) := by show _ = _; rw [E.out, if_neg]; rintro ⟨h, _⟩; unfold Sg at h; omega
            clear q1 q2 hxb
            go_wp2_with fail
            go_ret
            exact ⟨by rw [E2.out]; rfl, Below.refl _ _⟩
          · have d2 : decide ((1114111 : Int) < (x : Int)) = false := decide_eq_false (by omega)
            by_cases q3 : 55296 ≤ x
            · have d3 : decide ((55296 : Int) ≤ (x : Int)) = true := decide_eq_true (by omega)
              by_cases q4 : x < 57344
              · have d4 : decide ((x : Int) < 57344) = true := decide_eq_true (by omega)
                have E2 : Hid (z = 0) := by show _ = _; rw [E.out, if_neg]; rintro ⟨h, _⟩; unfold Sg at h; omega
                clear q1 q2 q3 q4 hxb
                go_wp2_with fail
                go_ret
                exact ⟨by rw [E2.out]; rfl, Below.refl _ _⟩
              · have d4 : decide ((x : Int) < 57344) = false := decide_eq_false (by omega)
                have E2 : Hid (z = 4) := by show _ = _; rw [E.out, if_pos ⟨by unfold Sg; omega, lng_is (by omega)⟩]
                clear q1 q2 q3 q4 hxb
                go_wp2_with fail
                go_ret
                exact ⟨by rw [E2.out]; rfl, Below.refl _ _⟩
            · have d3 : decide ((55296 : Int) ≤ (x : Int)) = false := decide_eq_false (by omega)
              have E2 : Hid (z = 4) := by show _ = _; rw [E.out, if_pos ⟨by unfold Sg; omega, lng_is (by omega)⟩]
              clear q1 q2 q3 hxb
              go_wp2_with fail
              go_ret
              exact ⟨by rw [E2.out]; rfl, Below.refl _ _⟩

set_option maxHeartbeats 4000000 in
set_option maxRecDepth 100000 in
theorem refsize_any (s : ByteArray) (w : World) (hs : s.size ≤ 1000000) : Calls Tryd.prog 11 #[.string s] w (Ret9 w (.int .i64 (szl (bs9 s) : Nat))) := by
  rcases Nat.eq_zero_or_pos s.size with h0 | h0
  · obtain rfl := size_empty h0
    go_enter Tryd.func11, Tryd.ntmps11
    go_wp2
    go_ret
    exact ⟨rfl, Below.refl _ _⟩
  · obtain ⟨a, ha⟩ : ∃ a, (s[0]'h0).toNat = a := ⟨_, rfl⟩
    have hab : a < 256 := by rw [← ha]; exact UInt8.toNat_lt _
    by_cases c2 : 194 ≤ a ∧ a < 224
    · exact refsize_2 s w hs h0 a ha c2.1 c2.2
    by_cases c3 : 224 ≤ a ∧ a < 240
    · exact refsize_3 s w hs h0 a ha c3.1 c3.2
    by_cases c4 : 240 ≤ a ∧ a < 245
    · exact refsize_4 s w hs h0 a ha c4.1 c4.2
    obtain ⟨z, hz⟩ : ∃ z, szl (bs9 s) = z := ⟨_, rfl⟩
    rw [hz]
    have hne : (s.toList == []) = false := by simpa using toList9 (by omega)
    have hb0 := bs9_get s 0 h0
    rw [List.drop_zero, ha] at hb0
    have HB := Lib.hid hb0
    have HZ := Lib.hid hz
    clear hz hb0
    go_enter Tryd.func11, Tryd.ntmps11
    by_cases k1 : a < 128
    · have E : Hid (z = 1) := by
        show _ = _
        rw [← HZ.out, HB.out, szl_cons, show tld a = 1 from tld_is (by omega)]
        rw [if_neg (by omega)]
        show fin9 1 (go9 (a - 0) _ 0) = 1
        rw [go9]; exact if_pos ⟨by unfold Sg; omega, by unfold lng; rw [if_pos (by omega)]⟩
      clear c2 c3 c4
      go_wp2_with fail
      go_ret
      exact ⟨by rw [E.out]; rfl, Below.refl _ _⟩
    · have E : Hid (z = 0) := by show _ = _; rw [← HZ.out, HB.out]; exact szl_out _ (by omega)
      by_cases k2 : a < 194
      · clear c2 c3 c4
        go_wp2_with fail
        go_ret
        exact ⟨by rw [E.out]; rfl, Below.refl _ _⟩
      · have k3 : 245 ≤ a := by omega
        clear c2 c3 c4 k1 k2
        go_wp2_with fail
        go_ret
        exact ⟨by rw [E.out]; rfl, Below.refl _ _⟩

end Go.Proofs.YtkeiipnclkaeiaaDoor
