/- What the proofs of this layer need of the layer Dig, in one text. -/
import Derived.Test.YthlhpgphmfnlgaaGreatAllDigA
import Derived.Test.YthlhpgphmfnlgaaGreatAllDivB
set_option maxRecDepth 100000
set_option maxHeartbeats 32000000
set_option linter.unusedVariables false
set_option linter.unusedSimpArgs false
/-
 Contracts of layer 4, the first part: Count, Noughts, Drop.
-/
namespace Go.Proofs.YthlhpgphmfnlgaaGreat
open Go.RowKit
def nd0 (x : Nat) : Nat := if x = 0 then 0 else nd x
theorem nd0_step {x : Nat} (h : 0 < x) : nd0 x = nd0 (x / 10) + 1 := by
 unfold nd0
 rw [if_neg (by omega)]
 rcases Nat.lt_or_ge x 10 with h1 | h1
 · rw [if_pos (by omega), nd_lt h1]
 · rw [if_neg (by omega), nd_ge h1]
theorem nd0_zero : nd0 0 = 0 := rfl
theorem nd0_pos {x : Nat} (h : 0 < x) : nd0 x = nd x := by unfold nd0; rw [if_neg (by omega)]
theorem nd_le_len {a n : Nat} (h : (dg a).length = n) : nd a ≤ 9 * n + 1 := by
 refine nd_le_of_lt (9 * n) (Nat.lt_of_lt_of_le (lt_pow_dg a) ?_)
 rw [h, pow9]
 exact Nat.pow_le_pow_right (by omega) (by omega)
theorem count_any (A : Option Addr) (n c a B : Nat) (w : World) (h : Num w B A n c a) (hn : n ≤ 1000000) :
   Calls Tryz.prog 116 #[.slice A n c] w fun e w' => e = .returned (.int .i64 (nd a : Nat)) ∧ w = w' := by
 have hm := h.room
 have hcap := h.cap
 unfold maxLen at hm
 rcases Nat.eq_zero_or_pos n with h0 | h0
 · subst h0
   obtain rfl : a = 0 := dg_eq_nil.1 (List.eq_nil_of_length_eq_zero h.len)
   go_enter Tryz.func116, Tryz.ntmps116
   go_wp2
   go_ret
   exact ⟨by rw [nd_lt (by omega)]; rfl, rfl⟩
 · obtain ⟨m, rfl⟩ : ∃ m, n = m + 1 := ⟨n - 1, by omega⟩
   obtain ⟨b, o, rfl, _, hc⟩ := h.at_ (show m < m + 1 by omega)
   have N0 := nd_limbs h.len
   have NE := Lib.hid N0.1
   have NL := nd_le_len h.len
   have hg := gd_lt (limbs_dg a) m
   have hg0 := N0.2.1
   obtain ⟨x, hx⟩ : ∃ x, x = gd (dg a) m := ⟨_, rfl⟩
   rw [← hx] at hc NE hg hg0
   clear hx N0 h
   obtain ⟨T, hT⟩ : ∃ T, T = nd a := ⟨_, rfl⟩
   rw [← hT] at NE NL ⊢
   clear hT
   have e1 : ((m + 1 : Nat) : Int) - 1 = (m : Int) := by omega
   go_enter Tryz.func116, Tryz.ntmps116
   go_wp2
   go_loop [4, 5] (fun cv xv => ∃ C y : Nat, cv = .int .i64 C ∧ xv = .int .u32 y ∧ y < 1000000000 ∧ C + nd0 y = T) (fun _ xv => (intOf xv).toNat)
   case atStart => exact ⟨9 * m, x, by go_num, rfl, hg, by rw [nd0_pos hg0]; exact NE.out.symm⟩
   case round =>
     obtain ⟨C, y, rfl, rfl, hy, hC⟩ := hrel
     have HC := Lib.hid hC
     have hCT : C ≤ T := by omega
     clear hC
     rcases Nat.eq_zero_or_pos y with h1 | h1
     · subst h1
       have HE : Hid (C = T) := by have := HC.out; rw [nd0_zero] at this; exact this
       go_wp2
       go_ret
       exact ⟨by rw [HE.out]; rfl, rfl⟩
     · have hs := nd0_step h1
       have HS := Lib.hid hs
       clear hs
       go_wp2
       go_round
       case rel => exact ⟨C + 1, y / 10, by go_num, by go_num, by omega, by have := HC.out; rw [HS.out] at this; omega⟩
       case measure => simp [intOf]; omega
theorem gd_take' {xs : List Nat} {i j : Nat} (h : j < i) : gd (xs.take i) j = gd xs j := by
 unfold gd; rw [List.getD_eq_getElem?_getD, List.getD_eq_getElem?_getD, List.getElem?_take_of_lt h]
theorem tz_start {a i : Nat} (hz : ∀ j, j < i → gd (dg a) j = 0) (hx : gd (dg a) i ≠ 0) : tz a = 9 * i + tz (gd (dg a) i) := by
 have h1 := (val_take_mod a i)
 have h0 : a % 1000000000 ^ i = 0 := by
   rw [← h1.1]
   refine val_of_gd_zero fun j => ?_
   rcases Nat.lt_or_ge j i with hj | hj
   · rw [gd_take' hj, hz j hj]
   · exact gd_of_ge (by rw [List.length_take]; omega)
 have h2 := val_drop (dg a) i
 rw [h1.2] at h2
 have hg := gd_lt (limbs_dg a) i
 have hm : a / 1000000000 ^ i % 1000000000 = gd (dg a) i := by
   generalize gd (dg a) i = x at *
   generalize val ((dg a).drop (i + 1)) = y at *
   omega
 have hb : 0 < a / 1000000000 ^ i := by omega
 have e : a = a / 1000000000 ^ i * 10 ^ (9 * i) := by
   rw [← pow9]
   have := Nat.div_add_mod a (1000000000 ^ i)
   rw [h0, Nat.add_zero, Nat.mul_comm] at this
   exact this.symm
 have e2 := tz_mul hb (9 * i)
 rw [← e] at e2
 rw [e2, tz_limb (b := a / 1000000000 ^ i) (by omega), hm]; omega
theorem noughts_any (A : Option Addr) (n c a B : Nat) (w : World) (h : Num w B A n c a) (hn : n ≤ 1000000) :
   Calls Tryz.prog 77 #[.slice A n c] w fun e w' => e = .returned (.int .i64 (tz a : Nat)) ∧ w = w' := by
 have hm := h.room
 have hcap := h.cap
 unfold maxLen at hm
 have H := Lib.hid h
 have NL : tz a ≤ 9000001 := by
   rcases Nat.eq_zero_or_pos a with h0 | h0
   · subst h0; rw [tz_zero]; omega
   · have := tz_lt h0
     have := nd_le_len h.len
     omega
 clear h
 go_enter Tryz.func77, Tryz.ntmps77
 go_wp2
 go_loop [8] (fun iv => ∃ i : Nat, i ≤ n ∧ iv = .int .i64 i ∧ ∀ j, j < i → gd (dg a) j = 0) (fun iv => n - (intOf iv).toNat)
 case atStart => exact ⟨0, Nat.zero_le _, rfl, fun j hj => absurd hj (by omega)⟩
 case round =>
   obtain ⟨i, hi, rfl, hz⟩ := hrel
   have HZ := Lib.hid hz
   clear hz
   rcases Nat.lt_or_ge i n with hlt | hge
   · obtain ⟨b, o, rfl, _, hc⟩ := H.out.at_ hlt
     have hg := gd_lt (limbs_dg a) i
     obtain ⟨x, hx⟩ : ∃ x, x = gd (dg a) i := ⟨_, rfl⟩
     have HX := Lib.hid hx
     rw [← hx] at hc hg
     clear hx
     rcases Nat.eq_zero_or_pos x with h0 | h0
     · subst h0
       go_wp2
       go_round
       case rel => exact ⟨i + 1, by omega, by go_num, fun j hj => by rcases Nat.lt_or_ge j i with h | h; (· exact HZ.out j h); (· obtain rfl : j = i := (by omega); exact HX.out.symm)⟩
       case measure => simp [intOf]; omega
     · have hne : ((x : Int) == 0) = false := by simp; omega
       have hT := tz_start HZ.out (by rw [← HX.out]; omega)
       rw [← HX.out] at hT
       have HT := Lib.hid hT
       have hb : 9 * i ≤ tz a := by omega
       clear hT
       go_wp2
       go_loop [4, 5] (fun xv cv => ∃ C y : Nat, cv = .int .i64 C ∧ xv = .int .u32 y ∧ 0 < y ∧ y < 1000000000 ∧ tz a = C + tz y) (fun xv _ => (intOf xv).toNat)
       case atStart => exact ⟨9 * i, x, by go_num, rfl, h0, hg, HT.out⟩
       case round =>
         obtain ⟨C, y, rfl, rfl, hy0, hy, hC⟩ := hrel
         have HC := Lib.hid hC
         have hCT : C ≤ tz a := by omega
         clear hC
         by_cases hr : y % 10 = 0
         · have HS := Lib.hid (tz_yes hy0 hr)
           have hr' : (y : Int) % 10 = 0 := by omega
           clear hr
           go_wp2
           go_round
           case rel => exact ⟨C + 1, y / 10, by go_num, by go_num, by omega, by omega, by have := HC.out; rw [HS.out] at this; omega⟩
           case measure => simp [intOf]; omega
         · have HS := Lib.hid (tz_no hr)
           have hr' : (((y : Int) % 10) == 0) = false := by simp; omega
           have HE : Hid (C = tz a) := by have := HC.out; rw [HS.out] at this; exact this.symm
           clear hr
           go_wp2
           go_ret
           exact ⟨by rw [HE.out]; rfl, rfl⟩
   · have HE : Hid (tz a = 0) := by
       have : a = 0 := by
         rw [← val_dg a]
         refine val_of_gd_zero fun j => ?_
         rcases Nat.lt_or_ge j i with hj | hj
         · exact HZ.out j hj
         · exact gd_of_ge (by rw [H.out.len]; omega)
       show _ = _
       rw [this, tz_zero]
     go_wp2
     go_ret
     exact ⟨by rw [HE.out]; rfl, rfl⟩
theorem drop_any (A : Option Addr) (n c a k : Nat) (w : World) (h : Num w w.heap.size A n c a) (hn : n ≤ 1000000) (hk : k ≤ 9223372036854775807) :
   Calls Tryz.prog 78 #[.slice A n c, .int .i64 k] w (RetSub w (a / 10 ^ k)) := by
 have hm := h.room
 have hcap := h.cap
 unfold maxLen at hm
 obtain ⟨q, hq⟩ : ∃ q, q = k / 9 := ⟨_, rfl⟩
 obtain ⟨r, hr⟩ : ∃ r, r = k % 9 := ⟨_, rfl⟩
 have e1 : (k : Int) / 9 = (q : Int) := by omega
 have e2 : (k : Int) % 9 = (r : Int) := by omega
 have hr9 : r < 9 := by omega
 have EK : Hid (k = 9 * q + r) := by show _ = _; omega
 clear hq hr
 rcases Nat.lt_or_ge q n with hlt | hge
 · obtain ⟨b, o, rfl, hb, _⟩ := h.at_ hlt
   have HD := Lib.hid (h.rest (Nat.le_of_lt hlt) (some ⟨b, o + q, none⟩) (fun _ => rfl) (fun h => by cases h))
   have HK : Hid (a / 1000000000 ^ q / 10 ^ r = a / 10 ^ k) := by
     show _ = _
     rw [EK.out, pow9, Nat.div_div_eq_div_mul, ← Nat.pow_add]
   have HN : Hid (Num w w.heap.size (some ⟨b, o + q, none⟩) (n - q) (c - q) (a / 1000000000 ^ q)) := by
     have := HD.out
     rw [dg_rest] at this
     exact this
   clear h HD EK
   go_enter Tryz.func78, Tryz.ntmps78
   go_wp2
   go_loop [7, 21] (fun tv iv => ∃ j : Nat, j ≤ r ∧ iv = .int .i64 j ∧ tv = .int .u32 (10 ^ j : Nat)) (fun _ iv => r - (intOf iv).toNat)
   case atStart => exact ⟨0, Nat.zero_le _, rfl, rfl⟩
   case round =>
     obtain ⟨j, hj, rfl, rfl⟩ := hrel
     have hp := ten_le (show j ≤ 8 by omega)
     have hp0 : 0 < 10 ^ j := Nat.pow_pos (by omega)
     obtain ⟨P, hP⟩ : ∃ P, P = 10 ^ j := ⟨_, rfl⟩
     rw [← hP] at hp hp0 ⊢
     have HP := Lib.hid hP
     clear hP
     rcases Nat.lt_or_ge j r with h1 | h1
     · go_wp2
       go_round
       case rel => exact ⟨j + 1, by omega, by go_num, by rw [Nat.pow_succ, ← HP.out]; go_num⟩
       case measure => simp [intOf]; omega
     · obtain rfl : j = r := by omega
       go_wp2_with fail
       refine (dsmall_is (q := a / 10 ^ k) (r := a / 1000000000 ^ q % P) HN.out (by omega) hp0 (by omega) rfl (by rw [HP.out]; exact HK.out) rfl).mono ?_; rintro e w2 ⟨A2, n2, c2, rfl, h2, hb2⟩
       have H2 := Lib.hid h2
       have HB2 := Lib.hid hb2
       clear h2 hb2
       go_wp2_with fail
       go_ret2
       exact ⟨_, _, _, rfl, H2.out, HB2.out⟩
 · have HZ : Hid (a / 10 ^ k = 0) := by
     show _ = _
     refine Nat.div_eq_of_lt (Nat.lt_of_lt_of_le (lt_pow_dg a) ?_)
     rw [h.len, pow9]
     exact Nat.pow_le_pow_right (by omega) (by have := EK.out; omega)
   clear h EK
   go_enter Tryz.func78, Tryz.ntmps78
   go_wp2
   go_ret2
   exact ⟨none, 0, 0, rfl, by rw [Num, HZ.out, dg_zero]; exact Lim.nil, Below.refl _ _⟩
end Go.Proofs.YthlhpgphmfnlgaaGreat
