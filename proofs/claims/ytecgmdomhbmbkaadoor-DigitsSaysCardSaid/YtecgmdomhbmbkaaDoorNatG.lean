/-
  Contracts of layer 1: the document's Add and Sub.
-/
import Derived.Test.YtecgmdomhbmbkaaDoorNatE
import Derived.Test.YtecgmdomhbmbkaaDoorNatF
import Derived.Test.YtecgmdomhbmbkaaDoorNatMathB
namespace Go.Proofs.YtecgmdomhbmbkaaDoor
open Go.RowKit

set_option maxHeartbeats 1000000 in
theorem refAdd_any (A A' : Option Addr) (n c n' c' a b : Nat) (w : World) (h : Num w w.heap.size A n c a) (h' : Num w w.heap.size A' n' c' b) (hn : n ≤ 100000000) (hn' : n' ≤ 100000000) :
    Calls Tryd.prog 24 #[.slice A n c, .slice A' n' c'] w (RetNum w (a + b)) := by
  obtain ⟨i0, hi, hz0, hz1, hz2⟩ := info_parts info_limb
  have H := Lib.hid h
  have H' := Lib.hid h'
  clear h h'
  obtain ⟨M, hM1, hM2, hM3⟩ : ∃ M, n ≤ M ∧ n' ≤ M ∧ ((n < n' ∧ M ≤ n') ∨ (n' ≤ n ∧ M ≤ n)) := ⟨max n n', by omega, by omega, by omega⟩
  have PA := Lib.hid (pow_of_len H.out.len hM1)
  have PB := Lib.hid (pow_of_len H'.out.len hM2)
  rcases hM3 with ⟨hle, hM3⟩ | ⟨hle, hM3⟩
  all_goals
    go_enter Tryd.func24, Tryd.ntmps24
    go_wp2
    go_loopw [5, 6, 7] (fun v ov iv wr => ∃ (i o : Nat) (A2 : Option Addr) (c2 : Nat) (zs : List Nat), i ≤ M + 1 ∧ iv = .int .i64 i ∧ ov = .int .u64 o ∧ v = .slice A2 i c2 ∧ o ≤ 1 ∧ wr.ownsRow w.heap.size 36 1 (.slice A2 i c2) i (vals zs) ∧ limbs zs ∧ val zs + 1000000000 ^ i * o + 1000000000 ^ i * (val ((dg a).drop i) + val ((dg b).drop i)) = a + b ∧ Below w.heap.size w wr) (fun _ _ iv _ => M + 1 - (intOf iv).toNat)
    case atStart => exact ⟨0, 0, none, 0, [], Nat.zero_le _, rfl, rfl, rfl, Nat.zero_le _, World.ownsRow_nil _ _ _ _, limbs_nil, by rw [List.drop_zero, List.drop_zero, val_dg, val_dg]; simp [val], Below.refl _ _⟩
    case round =>
      obtain ⟨i, o, A2, c2, zs, hi1, rfl, rfl, rfl, ho, hown, hlim, hval, hb⟩ := hrel
      have HO := Lib.hid hown
      have HL := Lib.hid hlim
      have HV := Lib.hid hval
      have HB := Lib.hid hb
      have HZ : Hid (zs.length = i) := by have := hown.1; rw [vals_len, Nat.mul_one] at this; exact this
      clear hown hlim hval hb
      rcases Nat.lt_or_ge i (M + 1) with hin | hin
      · have hx := gd_lt (limbs_dg a) i
        have hy := gd_lt (limbs_dg b) i
        have H1 := Lib.hid (H.out.below HB.out)
        have H1' := Lib.hid (H'.out.below HB.out)
        go_wp2_with (first | (go_at_call 34; first | ((with_reducible refine (at_any A n c i _ (dg a) _ H1.out).mono ?_); rintro e w' ⟨rfl, rfl⟩) | ((with_reducible refine (at_any A' n' c' i _ (dg b) _ H1'.out).mono ?_); rintro e w' ⟨rfl, rfl⟩)) | (at_builtin; go_must (refine wpList_append_lim rfl (.tmp 28) (.tmp 32) 22 22 rfl w.heap.size 36 36 i0 Tryd.underlying22 Tryd.underlying22 hi hz0 hz1 hz2 A2 i c2 zs rfl (HO.out.alloc _) _ _ 1 1 [(o + (gd (dg a) i + gd (dg b) i)) % 1000000000] rfl (Lim.one _ _ _ (by omega) (by omega) _) (by omega) (Nat.le_trans HB.out.size (by simp)) ?_; intro A3 c3 w3 hown hgr)))
        go_roundw
        case rel =>
          exact ⟨i + 1, (o + (gd (dg a) i + gd (dg b) i)) / 1000000000, A3, c3, _, by omega, by go_num, by go_num, rfl, by omega, hown, limbs_append.2 ⟨HL.out, limbs_cons.2 ⟨by omega, limbs_nil⟩⟩, refAdd_step HZ.out HV.out rfl, (HB.out.alloc HB.out.size _).grown hgr (Nat.le_trans HB.out.size (by simp)) (fun g hg => (HO.out.lt g hg).1)⟩
        case measure => simp [intOf]; omega
      · obtain rfl : i = M + 1 := by omega
        have HE := Lib.hid (refAdd_end HV.out rfl (by rw [H.out.len]; omega) (by rw [H'.out.len]; omega) PA.out PB.out)
        have HT : Hid (Calls Tryd.prog 35 #[.slice A2 (M + 1) c2] wr (RetLim wr (dg (val zs)))) :=
          refTrim_any (M + 1) A2 (M + 1) c2 zs wr (Lim.of_own HO.out (fun x hx => by have := HL.out x hx; omega)) HL (Nat.le_refl _) (by omega)
        go_wp2_with (go_at_call 35; go_must (refine HT.out.mono ?_; rintro e w' ⟨A3, n3, c3, rfl, h3, hb3⟩; have H3 := Lib.hid h3; have HB3 := Lib.hid hb3; clear h3 hb3))
        go_ret
        exact ⟨_, _, _, rfl, by rw [← HE.out]; exact H3.out, HB.out.trans (HB3.out.mono HB.out.size)⟩

theorem refSub_lt (A A' : Option Addr) (n c n' c' a b : Nat) (w : World) (h : Num w w.heap.size A n c a) (h' : Num w w.heap.size A' n' c' b) (hab : a < b) :
    Calls Tryd.prog 51 #[.slice A n c, .slice A' n' c'] w (RetVal w (.tuple #[.slice none 0 0, .int .i64 1])) := by
  have e := cmpN_lt hab
  have C := refCmp_any A A' n c n' c' a b w h h'
  rw [e] at C
  have CC := Lib.hid C
  clear h h' hab e C
  go_enter Tryd.func51, Tryd.ntmps51
  go_wp2_with (go_at_call 30; refine CC.out.mono ?_; rintro e w1 ⟨rfl, hb1⟩; have HB1 := Lib.hid hb1; clear hb1)
  go_ret2
  exact ⟨rfl, HB1.out⟩

set_option maxHeartbeats 1000000 in
theorem refSub_ge (A A' : Option Addr) (n c n' c' a b : Nat) (w : World) (h : Num w w.heap.size A n c a) (h' : Num w w.heap.size A' n' c' b) (hn : n ≤ 100000000) (hab : b ≤ a) :
    Calls Tryd.prog 51 #[.slice A n c, .slice A' n' c'] w (RetSub w (a - b)) := by
  obtain ⟨i0, hi, hz0, hz1, hz2⟩ := info_parts info_limb
  have HAB := Lib.hid hab
  have hnn : n' ≤ n := by have := dg_len_mono hab; rw [h.len, h'.len] at this; exact this
  have H := Lib.hid h
  have H' := Lib.hid h'
  have C := refCmp_any A A' n c n' c' a b w h h'
  have hc : 0 ≤ cmpN a b := by
    rcases Int.lt_or_le (cmpN a b) 0 with h1 | h1
    · rw [cmpN_neg] at h1; omega
    · exact h1
  clear h h' hab
  have CC := Lib.hid C
  clear C
  generalize cmpN a b = s at *
  go_enter Tryd.func51, Tryd.ntmps51
  go_wp2_with (go_at_call 30; refine CC.out.mono ?_; rintro e w1 ⟨rfl, hb1⟩; have HB1 := Lib.hid hb1; clear hb1)
  clear hc CC
  go_loopw [6, 7, 8] (fun v lv iv wr => ∃ (i l : Nat) (A2 : Option Addr) (c2 : Nat) (zs : List Nat), i ≤ n ∧ iv = .int .i64 i ∧ lv = .int .u64 l ∧ v = .slice A2 i c2 ∧ l ≤ 1 ∧ wr.ownsRow w.heap.size 36 1 (.slice A2 i c2) i (vals zs) ∧ limbs zs ∧ val zs + 1000000000 ^ i * val ((dg a).drop i) + b = a + l * 1000000000 ^ i + 1000000000 ^ i * val ((dg b).drop i) ∧ Below w.heap.size w wr) (fun _ _ iv _ => n - (intOf iv).toNat)
  case atStart => exact ⟨0, 0, none, 0, [], Nat.zero_le _, rfl, rfl, rfl, Nat.zero_le _, World.ownsRow_nil _ _ _ _, limbs_nil, by rw [List.drop_zero, List.drop_zero, val_dg, val_dg]; simp [val], HB1.out⟩
  case round =>
    obtain ⟨i, l, A2, c2, zs, hi1, rfl, rfl, rfl, ho, hown, hlim, hval, hb⟩ := hrel
    have HO := Lib.hid hown
    have HL := Lib.hid hlim
    have HV := Lib.hid hval
    have HB := Lib.hid hb
    have HZ : Hid (zs.length = i) := by have := hown.1; rw [vals_len, Nat.mul_one] at this; exact this
    clear hown hlim hval hb
    rcases Nat.lt_or_ge i n with hin | hin
    · have hx := gd_lt (limbs_dg a) i
      have hy := gd_lt (limbs_dg b) i
      have H1 := Lib.hid (H.out.below HB.out)
      have H1' := Lib.hid (H'.out.below HB.out)
      go_wp2_with (first | (go_at_call 34; first | ((with_reducible refine (at_any A n c i _ (dg a) _ H1.out).mono ?_); rintro e w' ⟨rfl, rfl⟩) | ((with_reducible refine (at_any A' n' c' i _ (dg b) _ H1'.out).mono ?_); rintro e w' ⟨rfl, rfl⟩)) | (at_builtin; go_must (refine wpList_append_lim rfl (.tmp 32) (.tmp 36) 22 22 rfl w.heap.size 36 36 i0 Tryd.underlying22 Tryd.underlying22 hi hz0 hz1 hz2 A2 i c2 zs rfl (HO.out.alloc _) _ _ 1 1 [(gd (dg a) i + 1000000000 - gd (dg b) i - l) % 1000000000] rfl (Lim.one _ _ _ (by omega) (by omega) _) (by omega) (Nat.le_trans HB.out.size (by simp)) ?_; intro A3 c3 w3 hown hgr)))
      go_roundw
      case rel =>
        have hq : (gd (dg a) i + 1000000000 - gd (dg b) i - l) / 1000000000 ≤ 1 := by omega
        exact ⟨i + 1, 1 - (gd (dg a) i + 1000000000 - gd (dg b) i - l) / 1000000000, A3, c3, _, by omega, by go_num, ret_u64 (by omega), rfl, by omega, hown, limbs_append.2 ⟨HL.out, limbs_cons.2 ⟨by omega, limbs_nil⟩⟩, refSub_step HZ.out HV.out (by omega) hq, (HB.out.alloc HB.out.size _).grown hgr (Nat.le_trans HB.out.size (by simp)) (fun g hg => (HO.out.lt g hg).1)⟩
      case measure => simp [intOf]; omega
    · obtain rfl : i = n := by omega
      have HE := Lib.hid (refSub_end HV.out HL.out HZ.out rfl (by rw [H.out.len]; omega) (by rw [H'.out.len]; omega) HAB.out)
      have HT : Hid (Calls Tryd.prog 35 #[.slice A2 i c2] wr (RetLim wr (dg (val zs)))) :=
        refTrim_any i A2 i c2 zs wr (Lim.of_own HO.out (fun x hx => by have := HL.out x hx; omega)) HL (Nat.le_refl _) (by omega)
      go_wp2_with (go_at_call 35; go_must (refine HT.out.mono ?_; rintro e w' ⟨A3, n3, c3, rfl, h3, hb3⟩; have H3 := Lib.hid h3; have HB3 := Lib.hid hb3; clear h3 hb3))
      go_ret2
      exact ⟨_, _, _, rfl, by rw [← HE.out]; exact H3.out, HB.out.trans (HB3.out.mono HB.out.size)⟩

end Go.Proofs.YtecgmdomhbmbkaaDoor
