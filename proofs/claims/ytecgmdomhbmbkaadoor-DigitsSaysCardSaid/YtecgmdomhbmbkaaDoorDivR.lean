/-
  Contracts of layer 3: the document's Div, Small, Near, Gcd.
-/
import Derived.Test.YtecgmdomhbmbkaaDoorDivC
import Derived.Test.YtecgmdomhbmbkaaDoorMulT
namespace Go.Proofs.YtecgmdomhbmbkaaDoor
open Go.RowKit

theorem refDiv_zero (A A' : Option Addr) (n c c' : Nat) (w : World) :
    Calls Tryd.prog 42 #[.slice A n c, .slice A' 0 c'] w (RetVal w (.tuple #[.slice none 0 0, .slice none 0 0, .int .i64 4])) := by
  go_enter Tryd.func42, Tryd.ntmps42
  go_wp2
  go_ret3
  exact ⟨rfl, Below.refl _ _⟩

theorem refCmp_is {s : Int} {A A' : Option Addr} {n c n' c' a b : Nat} {w : World} (h : Num w w.heap.size A n c a) (h' : Num w w.heap.size A' n' c' b) (hs : cmpN a b = s) :
    Calls Tryd.prog 30 #[.slice A n c, .slice A' n' c'] w (RetVal w (.int .i64 s)) := by
  subst hs; exact refCmp_any A A' n c n' c' a b w h h'
theorem refTrim_is {A : Option Addr} {n c m : Nat} {xs : List Nat} {w : World} (h : Lim w w.heap.size A n c xs) (hx : limbs xs) (hn : n ≤ 1000000000) (hm : val xs = m) :
    Calls Tryd.prog 35 #[.slice A n c] w (RetNum w m) := by
  subst hm; exact refTrim_any n A n c xs w h hx (Nat.le_refl _) hn
theorem refSub_is {A A' : Option Addr} {n c n' c' a b m : Nat} {w : World} (h : Num w w.heap.size A n c a) (h' : Num w w.heap.size A' n' c' b) (hn : n ≤ 100000000) (hab : b ≤ a) (hm : a - b = m) :
    Calls Tryd.prog 51 #[.slice A n c, .slice A' n' c'] w (RetSub w m) := by
  subst hm; exact refSub_ge A A' n c n' c' a b w h h' hn hab

theorem limbs_fit {xs : List Nat} (h : limbs xs) : ∀ x ∈ xs, x < 4294967296 := fun x hx => by have := h x hx; omega
theorem rdiv_step {xs zs : List Nat} {k b r R q : Nat} (h : val (xs.drop (k + 1)) = b * val zs + r) (hR : R = gd xs k + 1000000000 * r) (hq : q = R / b) : val (xs.drop k) = b * val (q :: zs) + R % b := by
  rw [val_drop, h, val, hq]
  have e := Nat.div_add_mod R b
  generalize R / b = Q at *
  generalize R % b = s at *
  generalize val zs = z at *
  rw [Nat.mul_add, Nat.mul_add, Nat.mul_left_comm b 1000000000]
  omega
theorem rdiv_half {b L H R : Nat} (h1 : b * L ≤ R) (h2 : R < b * H) (h : H = L + 1) : L = R / b ∧ R - b * L = R % b := by
  subst h
  have hb : 0 < b := by
    rcases Nat.eq_zero_or_pos b with h0 | h0
    · subst h0; omega
    · exact h0
  have e1 : R / b = L := by
    apply Nat.le_antisymm
    · have : R / b < L + 1 := Nat.div_lt_of_lt_mul h2
      omega
    · rw [Nat.le_div_iff_mul_le hb, Nat.mul_comm]; exact h1
  refine ⟨e1.symm, ?_⟩
  have := Nat.div_add_mod R b
  rw [e1] at this
  omega
theorem rdiv_len {b r g n : Nat} (hr : r < b) (hg : g < 1000000000) (hn : (dg b).length = n) : (dg (g + 1000000000 * r)).length ≤ n + 1 := by
  apply dg_len_le
  have := lt_pow_dg b
  rw [hn] at this
  rw [Nat.pow_succ]
  omega
theorem rdiv_top {b r g : Nat} (hr : r < b) (hg : g < 1000000000) : g + 1000000000 * r < b * 1000000000 := by omega

set_option maxHeartbeats 2000000 in
set_option maxRecDepth 100000 in
theorem refDiv_any (A A' : Option Addr) (n c n' c' a b : Nat) (w : World) (h : Num w w.heap.size A n c a) (h' : Num w w.heap.size A' n' c' b) (hn : n ≤ 10000) (hn' : n' ≤ 10000) (hb : 0 < b) :
    Calls Tryd.prog 42 #[.slice A n c, .slice A' n' c'] w (RetDiv w (a / b) (a % b)) := by
  obtain ⟨i0, hi, hz0, hz1, hz2⟩ := info_parts info_limb
  have hp := dg_len_pos h'.len hb
  have hne : ((n' : Int) == 0) = false := by simp; omega
  have hm := h.room
  have hcap := h.cap
  unfold maxLen at hm
  have H := Lib.hid h
  have H' := Lib.hid h'
  clear h h'
  go_enter Tryd.func42, Tryd.ntmps42
  go_wp2
  go_loopw [7, 8, 9] (fun ov rv iv wr => ∃ (k m : Nat) (A7 : Option Addr) (c7 : Nat) (zs : List Nat) (A8 : Option Addr) (n8 c8 r : Nat), k ≤ n ∧ iv = .int .i64 ((k : Int) - 1) ∧ ov = .slice A7 m c7 ∧ rv = .slice A8 n8 c8 ∧ m ≤ n - k ∧ n8 ≤ n' ∧ Lim wr wr.heap.size A7 m c7 zs ∧ limbs zs ∧ Num wr wr.heap.size A8 n8 c8 r ∧ r < b ∧ val ((dg a).drop k) = b * val zs + r ∧ Below w.heap.size w wr) (fun _ _ iv _ => (intOf iv + 1).toNat)
  case atStart => exact ⟨n, 0, none, 0, [], none, 0, 0, 0, Nat.le_refl _, rfl, rfl, rfl, Nat.zero_le _, Nat.zero_le _, Lim.nil, limbs_nil, by rw [Num, dg_zero]; exact Lim.nil, hb, by rw [List.drop_of_length_le (by rw [H.out.len]; exact Nat.le_refl _)]; simp [val], Below.refl _ _⟩
  case round =>
    obtain ⟨k, m, A7, c7, zs, A8, n8, c8, r, hk, rfl, rfl, rfl, hmk, hn8, hz, hzl, hr, hrb, hval, hb0⟩ := hrel
    have HZ := Lib.hid hz
    have HZL := Lib.hid hzl
    have HR := Lib.hid hr
    have HV := Lib.hid hval
    have HB := Lib.hid hb0
    have HRB := Lib.hid hrb
    clear hz hzl hr hval hb0 hrb
    rcases Nat.eq_zero_or_pos k with h0 | h0
    · subst h0
      have HE : Hid (val zs = a / b ∧ r = a % b) := by
        have := HV.out
        rw [List.drop_zero, val_dg] at this
        exact sdiv_end this HRB.out
      have HC := Lib.hid (refTrim_is HZ.out HZL.out (by omega) HE.out.1)
      go_wp2_with fail
      refine HC.out.mono ?_; rintro e w2 ⟨A2, n2, c2, rfl, h2, hb2⟩
      have H2 := Lib.hid h2
      have HR2 := Lib.hid ((HR.out.below hb2).more hb2.size)
      have HB2 := Lib.hid (HB.out.trans (hb2.mono HB.out.size))
      clear h2 hb2
      go_wp2_with fail
      go_ret3
      exact ⟨_, _, _, _, _, _, rfl, H2.out, by rw [← HE.out.2]; exact HR2.out, HB2.out⟩
    · obtain ⟨i, rfl⟩ : ∃ i, k = i + 1 := ⟨k - 1, by omega⟩
      have eK : ((i + 1 : Nat) : Int) - 1 = (i : Int) := by omega
      rw [eK]
      clear eK
      obtain ⟨b1, o1, rfl, _, hc⟩ := (H.out.below HB.out).at_ (show i < n by omega)
      have hg := gd_lt (limbs_dg a) i
      obtain ⟨R, hR⟩ : ∃ R, R = gd (dg a) i + 1000000000 * r := ⟨_, rfl⟩
      have LR : Hid ((dg R).length ≤ n' + 1) := by show _ ≤ _; rw [hR]; exact rdiv_len HRB.out hg H'.out.len
      have TR : Hid (R < b * 1000000000) := by show _ < _; rw [hR]; exact rdiv_top HRB.out hg
      have ER := Lib.hid hR
      have HL3 : Hid (limbs ([gd (dg a) i] ++ dg r)) := limbs_append.2 ⟨limbs_cons.2 ⟨hg, limbs_nil⟩, limbs_dg _⟩
      clear hR
      go_wp2_with (first | (at_builtin; go_must (refine wpList_append_lim rfl (.tmp 27) (.tmp 28) 22 23 rfl wr.heap.size 36 36 i0 Tryd.underlying22 Tryd.underlying23 hi hz0 hz1 hz2 (some ⟨wr.heap.size, 0, none⟩) 1 1 [gd (dg a) i] rfl (own_one wr _ _ rfl wr.heap.size (Nat.le_refl _)) _ A8 n8 c8 (dg r) rfl (HR.out.below ((Below.refl _ _).alloc (Nat.le_refl _) _)) (by omega) (by simp) ?_; intro A3 c3 w3 hown hgr; have X3 := Lib.hid (Lim.of_own hown (limbs_fit HL3.out)); have HB3 := Lib.hid ((((Below.refl _ _).alloc (Nat.le_refl _) _).grown hgr (by simp) (fun g hg => own_block_le hg) : Below wr.heap.size wr w3)); clear hown hgr)) | fail)
      have hv3 : val ([gd (dg a) i] ++ dg r) = R := by rw [List.singleton_append, val, val_dg]; exact ER.out.symm
      refine (refTrim_is X3.out HL3.out (by omega) hv3).mono ?_; rintro e w4 ⟨A4, n4, c4, rfl, h4, hb4⟩
      have hn4 : n4 ≤ n' + 1 := by rw [← h4.len]; exact LR.out
      have HB4 := Lib.hid (HB3.out.trans (hb4.mono HB3.out.size))
      have H4 := Lib.hid h4
      have HZ4 := Lib.hid ((HZ.out.below HB4.out).more HB4.out.size)
      have HB04 := Lib.hid (HB.out.trans (HB4.out.mono HB.out.size))
      have HP4 := Lib.hid ((H'.out.below HB04.out).more HB04.out.size)
      clear h4 hb4 hv3 X3 HB3 HZ HR
      go_wp2_with fail
      obtain ⟨wo, rfl⟩ : ∃ wo : World, wo = w4 := ⟨_, rfl⟩
      go_loopw [10, 11] (fun lv hv wr2 => ∃ L U : Nat, L < U ∧ U ≤ 1000000000 ∧ lv = .int .u64 L ∧ hv = .int .u64 U ∧ b * L ≤ R ∧ R < b * U ∧ Below wo.heap.size wo wr2) (fun lv hv _ => (intOf hv - intOf lv).toNat)
      case atStart => exact ⟨0, 1000000000, by omega, Nat.le_refl _, rfl, rfl, by omega, TR.out, Below.refl _ _⟩
      case round =>
        obtain ⟨L, U, hLU, hU, rfl, rfl, hlo, hhi, hb5⟩ := hrel
        have HLO := Lib.hid hlo
        have HHI := Lib.hid hhi
        have HB5 := Lib.hid hb5
        have H5 := Lib.hid ((H4.out.below hb5).more hb5.size)
        have HP5 := Lib.hid ((HP4.out.below hb5).more hb5.size)
        have HZ5 := Lib.hid ((HZ4.out.below hb5).more hb5.size)
        clear hlo hhi hb5
        rcases Nat.lt_or_ge 1 (U - L) with hd | hd
        · obtain ⟨M, hM⟩ : ∃ M, M = (L + U) / 2 := ⟨_, rfl⟩
          have eM : ((L : Int) + (U : Int)) / 2 = (M : Int) := by omega
          have hM1 : L < M := by omega
          have hM2 : M < U := by omega
          have HM := Lib.hid hM
          clear hM
          have EM := Lib.hid eM
          have hMd : ((L : Int) + (U : Int)) / 2 ≤ 1000000000 := by omega
          go_wp2_with fail
          refine (refTimes_is (m := b * M) HP5.out (by omega) (by omega) rfl).mono ?_; rintro e w6 ⟨A6, n6, c6, rfl, h6, hb6⟩
          have H6 := Lib.hid h6
          have HR6 := Lib.hid ((H5.out.below hb6).more hb6.size)
          have HB6 := Lib.hid (HB5.out.trans (hb6.mono HB5.out.size))
          clear h6 hb6
          rcases Nat.lt_or_ge R (b * M) with hc | hc
          · have CC := Lib.hid (refCmp_is H6.out HR6.out (cmpN_gt hc))
            have HC := Lib.hid hc
            clear hc
            go_wp2_with fail
            refine CC.out.mono ?_; rintro e w7 ⟨rfl, hb7⟩
            have HB7 := Lib.hid (HB6.out.trans (hb7.mono HB6.out.size))
            clear hb7
            go_wp2_with fail
            go_roundw
            case rel => exact ⟨L, M, hM1, by omega, rfl, rfl, HLO.out, HC.out, HB7.out⟩
            case measure => simp [intOf]; omega
          · obtain ⟨s, hs, hs0⟩ : ∃ s, cmpN (b * M) R = s ∧ s ≤ 0 := ⟨_, rfl, by
              rcases Int.lt_or_le 0 (cmpN (b * M) R) with h1 | h1
              · rw [cmpN_pos] at h1; omega
              · exact h1⟩
            have CC := Lib.hid (refCmp_is H6.out HR6.out hs)
            have HC := Lib.hid hc
            clear hc hs
            go_wp2_with fail
            refine CC.out.mono ?_; rintro e w7 ⟨rfl, hb7⟩
            have HB7 := Lib.hid (HB6.out.trans (hb7.mono HB6.out.size))
            clear hb7
            go_wp2_with fail
            go_roundw
            case rel => exact ⟨M, U, hM2, hU, rfl, rfl, HC.out, HHI.out, HB7.out⟩
            case measure => simp [intOf]; omega
        · have hUL : U = L + 1 := by omega
          have RH := Lib.hid (rdiv_half HLO.out HHI.out hUL)
          subst hUL
          have hL : L < 1000000000 := by omega
          have HL3 : Hid (limbs ([L] ++ zs)) := limbs_append.2 ⟨limbs_cons.2 ⟨hL, limbs_nil⟩, HZL.out⟩
          clear hd
          go_wp2_with (first | (at_builtin; go_must (refine wpList_append_lim rfl (.tmp 50) (.tmp 51) 22 22 rfl wr.heap.size 36 36 i0 Tryd.underlying22 Tryd.underlying22 hi hz0 hz1 hz2 (some ⟨wr.heap.size, 0, none⟩) 1 1 [L] rfl (own_one wr _ _ rfl wr.heap.size (Nat.le_refl _)) _ A7 m c7 zs rfl (HZ5.out.below ((Below.refl _ _).alloc (Nat.le_refl _) _)) (by omega) (by simp) ?_; intro A9 c9 w9 hown hgr; have X9 := Lib.hid (Lim.of_own hown (limbs_fit HL3.out)); have HB9 := Lib.hid ((((Below.refl _ _).alloc (Nat.le_refl _) _).grown hgr (by simp) (fun g hg => own_block_le hg) : Below wr.heap.size wr w9)); clear hown hgr)) | fail)
          have HP9 := Lib.hid ((HP5.out.below HB9.out).more HB9.out.size)
          have HR9 := Lib.hid ((H5.out.below HB9.out).more HB9.out.size)
          have HB10 := Lib.hid (HB5.out.trans (HB9.out.mono HB5.out.size))
          refine (refTimes_is (m := b * L) HP9.out (by omega) (by omega) rfl).mono ?_; rintro e w11 ⟨A11, n11, c11, rfl, h11, hb11⟩
          have H11 := Lib.hid h11
          have HR11 := Lib.hid ((HR9.out.below hb11).more hb11.size)
          have X11 := Lib.hid ((X9.out.below hb11).more hb11.size)
          have HB11 := Lib.hid (HB10.out.trans (hb11.mono HB10.out.size))
          clear h11 hb11
          go_wp2_with fail
          refine (refSub_is HR11.out H11.out (by omega) HLO.out RH.out.2).mono ?_; rintro e w12 ⟨A12, n12, c12, rfl, h12, hb12⟩
          have hn12 : n12 ≤ n' := by
            rw [← h12.len, ← H'.out.len]; exact dg_len_mono (Nat.le_of_lt (Nat.mod_lt _ hb))
          have H12 := Lib.hid h12
          have X12 := Lib.hid ((X11.out.below hb12).more hb12.size)
          have HB12 := Lib.hid (HB11.out.trans (hb12.mono HB11.out.size))
          clear h12 hb12
          go_wp2_with fail
          go_roundw
          case rel =>
            exact ⟨i, 1 + m, A9, c9, [L] ++ zs, A12, n12, c12, R % b, by omega, by go_num, rfl, rfl, by omega, hn12, X12.out, HL3.out, H12.out, Nat.mod_lt _ hb, rdiv_step HV.out ER.out RH.out.1, HB04.out.trans (HB12.out.mono HB04.out.size)⟩
          case measure => simp [intOf]
theorem refDiv_is {A A' : Option Addr} {n c n' c' a b q r : Nat} {w : World} (h : Num w w.heap.size A n c a) (h' : Num w w.heap.size A' n' c' b) (hn : n ≤ 10000) (hn' : n' ≤ 10000) (hb : 0 < b) (hq : a / b = q) (hr : a % b = r) :
    Calls Tryd.prog 42 #[.slice A n c, .slice A' n' c'] w (RetDiv w q r) := by
  subst hq; subst hr
  exact refDiv_any A A' n c n' c' a b w h h' hn hn' hb

theorem rsmall_zero (A : Option Addr) (n c : Nat) (w : World) :
    Calls Tryd.prog 29 #[.slice A n c, .int .u32 0] w (RetVal w (.tuple #[.slice none 0 0, .int .u32 0, .int .i64 4])) := by
  go_enter Tryd.func29, Tryd.ntmps29
  go_wp2_with fail
  refine (refMk_any 0 _ rfl (by decide) _).mono ?_; rintro e w1 ⟨A1, n1, c1, rfl, h1, hb1⟩
  obtain rfl : n1 = 0 := h1.len.symm.trans (by rw [dg_zero]; rfl)
  have HB1 := Lib.hid hb1
  clear h1 hb1
  go_wp2_with fail
  refine (refDiv_zero A A1 n c c1 w1).mono ?_; rintro e w2 ⟨rfl, hb2⟩
  have HB2 := Lib.hid (HB1.out.trans (hb2.mono HB1.out.size))
  clear hb2
  go_wp2_with fail
  go_ret3
  exact ⟨rfl, HB2.out⟩
theorem rsmall_is {A : Option Addr} {n c a N q r : Nat} {v : Int} {w : World} (h : Num w w.heap.size A n c a) (hn : n ≤ 10000) (hN0 : 0 < N) (hN : N < 4294967296) (hv : v = N) (hq : a / N = q) (hr : a % N = r) :
    Calls Tryd.prog 29 #[.slice A n c, .int .u32 v] w (RetSmall w q r) := by
  subst hv
  have hrl : r < 4294967296 := by rw [← hr]; exact Nat.lt_trans (Nat.mod_lt _ hN0) hN
  have H := Lib.hid h
  have HQ := Lib.hid hq
  have HR := Lib.hid hr
  have HN := Lib.hid hN
  clear h hq hr
  go_enter Tryd.func29, Tryd.ntmps29
  go_wp2_with fail
  refine (refMk_any N _ rfl (by omega) _).mono ?_; rintro e w1 ⟨A1, n1, c1, rfl, h1, hb1⟩
  have hn1 : n1 ≤ 3 := by have := len_of_u64 (show N < 18446744073709551616 by omega); rwa [h1.len] at this
  have H0 := Lib.hid ((H.out.below hb1).more hb1.size)
  have H1 := Lib.hid h1
  have HB1 := Lib.hid hb1
  clear h1 hb1
  go_wp2_with fail
  refine (refDiv_is H0.out H1.out hn (by omega) hN0 HQ.out HR.out).mono ?_; rintro e w2 ⟨A2, n2, c2, A3, n3, c3, rfl, h2, h3, hb2⟩
  have H2 := Lib.hid h2
  have H3 := Lib.hid h3
  have HB2 := Lib.hid (HB1.out.trans (hb2.mono HB1.out.size))
  clear h2 h3 hb2
  go_wp2_with fail
  refine (refSmall_yes A3 n3 c3 r w2 H3.out (by unfold top64; omega)).mono ?_; rintro e w3 ⟨rfl, hb3⟩
  have H2 := Lib.hid ((H2.out.below hb3).more hb3.size)
  have HB3 := Lib.hid (HB2.out.trans (hb3.mono HB2.out.size))
  clear hb3
  go_wp2_with fail
  go_ret3
  exact ⟨_, _, _, rfl, H2.out, HB3.out⟩

theorem refAdd_is {A A' : Option Addr} {n c n' c' a b m : Nat} {w : World} (h : Num w w.heap.size A n c a) (h' : Num w w.heap.size A' n' c' b) (hn : n ≤ 100000000) (hn' : n' ≤ 100000000) (hm : a + b = m) :
    Calls Tryd.prog 24 #[.slice A n c, .slice A' n' c'] w (RetNum w m) := by
  subst hm; exact refAdd_any A A' n c n' c' a b w h h' hn hn'
end Go.Proofs.YtecgmdomhbmbkaaDoor
