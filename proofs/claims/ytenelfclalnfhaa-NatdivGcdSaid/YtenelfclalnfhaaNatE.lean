/-
  Contract of layer 1: Sub.
-/
import Derived.Test.YtenelfclalnfhaaNatD
import Derived.Test.YtenelfclalnfhaaNatMathB
namespace Go.Proofs.Ytenelfclalnfhaa
open Go.RowKit

theorem sub_lt (A A' : Option Addr) (n c n' c' a b : Nat) (w : World) (h : Num w w.heap.size A n c a) (h' : Num w w.heap.size A' n' c' b) (hab : a < b) :
    Calls Try.prog 24 #[.slice A n c, .slice A' n' c'] w (RetVal w (.tuple #[.slice none 0 0, .int .i64 1])) := by
  have H := Lib.hid h
  have H' := Lib.hid h'
  have e := cmpN_lt hab
  have C := cmp_any A A' n c n' c' a b w h h'
  rw [e] at C
  have CC := Lib.hid C
  clear h h' hab e C
  go_enter Try.func24, Try.ntmps24
  go_wp2
  go_step3
  go_wp2_with (go_at_call 19; refine CC.out.mono ?_; rintro e w1 ⟨rfl, hb1⟩; have HB1 := Lib.hid hb1; clear hb1)
  try rw [Exit.noGoto_ret]
  go_ret2
  exact ⟨rfl, HB1.out⟩

def RetSub (W : World) (m : Nat) (e : Ending) (w' : World) : Prop :=
  ∃ A n c, e = .returned (.tuple #[.slice A n c, .int .i64 0]) ∧ Num w' w'.heap.size A n c m ∧ Below W.heap.size W w'

set_option maxHeartbeats 1000000 in
set_option maxRecDepth 100000 in
theorem sub_ge (A A' : Option Addr) (n c n' c' a b : Nat) (w : World) (h : Num w w.heap.size A n c a) (h' : Num w w.heap.size A' n' c' b) (hn : n ≤ 1000000000) (hab : b ≤ a) :
    Calls Try.prog 24 #[.slice A n c, .slice A' n' c'] w (RetSub w (a - b)) := by
  obtain ⟨i0, hi, hz0, hz1, hz2⟩ := info_parts info_limb
  have HAB := Lib.hid hab
  have hnn : n' ≤ n := by have := dg_len_mono hab; rw [h.len, h'.len] at this; exact this
  have H := Lib.hid h
  have H' := Lib.hid h'
  have C := cmp_any A A' n c n' c' a b w h h'
  have hc : 0 ≤ cmpN a b := by
    rcases Int.lt_or_le (cmpN a b) 0 with h1 | h1
    · rw [cmpN_neg] at h1; omega
    · exact h1
  clear h h' hab
  have CC := Lib.hid C
  clear C
  generalize cmpN a b = s at *
  go_enter Try.func24, Try.ntmps24
  go_wp2
  go_step3
  go_wp2_with (first | (go_at_call 19; refine CC.out.mono ?_; rintro e w1 ⟨rfl, hb1⟩; have HB1 := Lib.hid hb1; clear hb1) | (at_make; go_must (refine wpList_make_full _ rfl _ _ 23 rfl w1.heap.size 24 i0 (.int .u32 0) 1 Try.underlying23 hi hz0 hz1 _ _ _ _ n rfl rfl (by omega) (by omega) (by rw [hz2]; omega) (by unfold maxLen; omega) (Nat.le_refl _) ?_; intro w2 hown1 hgr1; have M1 : Hid (Own w2 w1.heap.size (List.replicate n 0)) := Own.of_made hown1; have HB2 : Hid (Below w.heap.size w w2) := HB1.out.grown hgr1 HB1.out.size (fun k hk => by cases hk); clear hown1 hgr1)) | ((with_reducible show wpList _ _ _ (⟨some 19, _, _, _, _, _⟩ :: _) _ _); go_must (refine wpList_copy_splice rfl (.tmp 17) (.tmp 18) 23 23 rfl 24 Try.underlying23 info_one _ _ _ _ _ _ rfl rfl w1.heap.size 0 (vals (List.replicate n 0)) 24 M1.out (vals (dg a)) (copy_len H.out (Nat.le_refl n)).1 (fun hp => ⟨rfl, lim_src (H.out.below HB2.out) hp⟩) (copy_len H.out (Nat.le_refl n)).2 (vals_one _) w.heap.size w HB2.out HB1.out.size ?_; intro w3 hg2 hb2; have O2 := Lib.hid (own_copied H.out (Nat.le_refl n) hg2); have HB3 := Lib.hid hb2; clear hg2 hb2)))
  go_step3
  go_wp2
  have SZ := HB1.out.size
  have e0 : val (dg a ++ List.replicate (n - n) 0) = a := by rw [val_append, val_zeros, val_dg, Nat.mul_zero, Nat.add_zero]
  have hz0 : limbs (dg a ++ List.replicate (n - n) 0) := limbs_append.2 ⟨limbs_dg a, fun x hx => by rw [(List.mem_replicate.1 hx).2]; omega⟩
  have hl0 : (dg a ++ List.replicate (n - n) 0).length = n := by rw [List.length_append, List.length_replicate, H.out.len]; omega
  have E0 := Lib.hid e0
  have Z0 := Lib.hid hz0
  have L0 := Lib.hid hl0
  clear e0 hz0 hl0 hc
  go_loopw [7, 22] (fun cv iv wr => ∃ (i bw : Nat) (zs : List Nat), i ≤ n ∧ iv = .int .i64 i ∧ cv = .int .u32 bw ∧ bw ≤ 1 ∧ zs.length = n ∧ limbs zs ∧ val zs + b = a + bw * 1000000000 ^ i + 1000000000 ^ i * val ((dg b).drop i) ∧ Own wr w1.heap.size zs ∧ Below w.heap.size w wr) (fun _ iv _ => n - (intOf iv).toNat)
  case atStart =>
    exact ⟨0, 0, _, Nat.zero_le _, rfl, rfl, Nat.zero_le _, L0.out, Z0.out, by rw [E0.out, List.drop_zero, val_dg]; omega, O2.out, HB3.out⟩
  case round =>
    obtain ⟨i, bw, zs, hi1, rfl, rfl, hbw, hlen, hlim, hval, hown, hb⟩ := hrel
    clear O2 E0 Z0 L0 M1 HB2 HB3
    have OW := Lib.hid hown
    have HL := Lib.hid hlim
    have HV := Lib.hid hval
    have HB := Lib.hid hb
    have LN := Lib.hid hlen
    clear hown hlim hval hb hlen
    rcases Nat.lt_or_ge i n with hin | hin
    · have hcell := OW.out.cell (i := i) (by rw [LN.out]; exact hin)
      have hfr := OW.out.frozen i
      have hz := gd_lt HL.out i
      rcases Nat.lt_or_ge i n' with him | him
      · obtain ⟨b2, o2, rfl, _, hc2⟩ := (H'.out.below HB.out).at_ him
        have hy := gd_lt (limbs_dg b) i
        rcases Nat.lt_or_ge (gd zs i) (bw + gd (dg b) i) with hs | hs
        · have HS := Lib.hid hs
          have hd : decide (((gd zs i : Nat) : Int) < (bw : Nat) + (gd (dg b) i : Nat)) = true := by rw [decide_eq_true_iff]; omega
          clear hs
          go_wp2
          go_roundw
          case rel =>
            have hv : ((gd zs i : Nat) : Int) + 1000000000 = ((gd zs i + 1000000000 : Nat) : Int) := by omega
            have hv2 : ((gd zs i : Nat) : Int) + 1000000000 - ((bw : Nat) + (gd (dg b) i : Nat)) = ((gd zs i + 1000000000 - (bw + gd (dg b) i) : Nat) : Int) := by omega
            have h2 := (OW.out.store i _ _ hv).store i _ _ hv2
            rw [List.set_set] at h2
            exact ⟨i + 1, 1, zs.set i (gd zs i + 1000000000 - (bw + gd (dg b) i)), by omega, by go_num, rfl, Nat.le_refl _, by rw [List.length_set]; exact LN.out, limbs_set HL.out i (by have := HS.out; omega), sub_step HV.out (by rw [LN.out]; exact hin) (by omega), h2, (HB.out.setCell SZ _).setCell SZ _⟩
          case measure => simp [intOf]; omega
        · have HS := Lib.hid hs
          have hd : decide (((gd zs i : Nat) : Int) < (bw : Nat) + (gd (dg b) i : Nat)) = false := by rw [decide_eq_false_iff_not]; omega
          clear hs
          go_wp2
          go_roundw
          case rel =>
            have hv2 : (((gd zs i : Nat) : Int) - ((bw : Nat) + (gd (dg b) i : Nat))) % 4294967296 = ((gd zs i - (bw + gd (dg b) i) : Nat) : Int) := by have := HS.out; omega
            exact ⟨i + 1, 0, zs.set i (gd zs i - (bw + gd (dg b) i)), by omega, by go_num, rfl, Nat.zero_le _, by rw [List.length_set]; exact LN.out, limbs_set HL.out i (by omega), sub_step HV.out (by rw [LN.out]; exact hin) (by have := HS.out; omega), OW.out.store i _ _ hv2, HB.out.setCell SZ _⟩
          case measure => simp [intOf]; omega
      · have hyz : gd (dg b) i = 0 := gd_of_ge (by rw [H'.out.len]; exact him)
        have HY := Lib.hid hyz
        clear hyz
        rcases Nat.eq_zero_or_pos bw with h0 | h0
        · subst h0
          have LZ := OW.out.lim HL.out (by rw [LN.out]; omega)
          rw [LN.out] at LZ
          have HLZ := Lib.hid LZ
          clear LZ
          have eab := sub_break HV.out (show (dg b).length ≤ i by rw [H'.out.len]; exact him)
          have EAB := Lib.hid eab
          clear eab
          go_wp2_with (go_at_call 46; refine (cut_any _ _ _ _ _ _ HLZ.out HL.out).mono ?_; rintro e w' ⟨⟨A2, n2, c2, rfl, hn2, h2⟩, rfl⟩; have H2 := Lib.hid h2; clear h2)
          try rw [Exit.noGoto_ret]
          go_ret2
          exact ⟨_, _, _, rfl, by rw [← EAB.out]; exact H2.out, HB.out⟩
        · obtain rfl : bw = 1 := by omega
          rcases Nat.lt_or_ge (gd zs i) 1 with hs | hs
          · have HS := Lib.hid hs
            have hd : decide (((gd zs i : Nat) : Int) < 1) = true := by rw [decide_eq_true_iff]; omega
            clear hs
            go_wp2
            go_roundw
            case rel =>
              have hv : ((gd zs i : Nat) : Int) + 1000000000 = ((gd zs i + 1000000000 : Nat) : Int) := by omega
              have hv2 : ((gd zs i : Nat) : Int) + 1000000000 - 1 = ((gd zs i + 1000000000 - 1 : Nat) : Int) := by omega
              have h2 := (OW.out.store i _ _ hv).store i _ _ hv2
              rw [List.set_set] at h2
              exact ⟨i + 1, 1, zs.set i (gd zs i + 1000000000 - 1), by omega, by go_num, rfl, Nat.le_refl _, by rw [List.length_set]; exact LN.out, limbs_set HL.out i (by have := HS.out; omega), sub_step HV.out (by rw [LN.out]; exact hin) (by have := HY.out; omega), h2, (HB.out.setCell SZ _).setCell SZ _⟩
            case measure => simp [intOf]; omega
          · have HS := Lib.hid hs
            have hd : decide (((gd zs i : Nat) : Int) < 1) = false := by rw [decide_eq_false_iff_not]; omega
            clear hs
            go_wp2
            go_roundw
            case rel =>
              have hv2 : (((gd zs i : Nat) : Int) - 1) % 4294967296 = ((gd zs i - 1 : Nat) : Int) := by have := HS.out; omega
              exact ⟨i + 1, 0, zs.set i (gd zs i - 1), by omega, by go_num, rfl, Nat.zero_le _, by rw [List.length_set]; exact LN.out, limbs_set HL.out i (by omega), sub_step HV.out (by rw [LN.out]; exact hin) (by have := HS.out; have := HY.out; omega), OW.out.store i _ _ hv2, HB.out.setCell SZ _⟩
            case measure => simp [intOf]; omega
    · obtain rfl : i = n := by omega
      have LZ := OW.out.lim HL.out (by rw [LN.out]; omega)
      rw [LN.out] at LZ
      have HLZ := Lib.hid LZ
      clear LZ
      have eab := sub_end HV.out HL.out LN.out rfl (by rw [H'.out.len]; omega) HAB.out
      have EAB := Lib.hid eab
      clear eab
      go_wp2_with (go_at_call 46; refine (cut_any _ _ _ _ _ _ HLZ.out HL.out).mono ?_; rintro e w' ⟨⟨A2, n2, c2, rfl, hn2, h2⟩, rfl⟩; have H2 := Lib.hid h2; clear h2)
      try rw [Exit.noGoto_ret]
      go_ret2
      exact ⟨_, _, _, rfl, by rw [← EAB.out]; exact H2.out, HB.out⟩

end Go.Proofs.Ytenelfclalnfhaa
