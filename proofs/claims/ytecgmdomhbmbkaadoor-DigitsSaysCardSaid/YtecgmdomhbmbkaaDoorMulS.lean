/-
  The document's number: digits of ten, each as great as it comes, as limbs.
-/
import Derived.Test.YtecgmdomhbmbkaaDoorMulR
namespace Go.Proofs.YtecgmdomhbmbkaaDoor
open Go.RowKit

theorem num_prod {o u : Nat} (hu : u ≤ 100000000) : o % 10 * u ≤ 900000000 := Nat.le_trans (Nat.mul_le_mul (show o % 10 ≤ 9 by omega) hu) (by omega)
theorem num_small {o o' x : Nat} {xs : List Nat} {i : Nat} (h : x + 10 ^ 9 * (o' + ten (xs.drop (i + 9))) = o + ten (xs.drop i)) (hi : xs.length ≤ i) (ho : 0 < o) : o' < o := by
  rw [List.drop_of_length_le hi, List.drop_of_length_le (by omega), ten] at h
  omega
theorem pow_le_8 {k : Nat} (hk : k < 9) : 10 ^ k ≤ 100000000 := Nat.le_trans (Nat.pow_le_pow_right (by omega) (show k ≤ 8 by omega)) (by decide)

theorem num_i64 {a b : Int} (h : a = b) : Value.int .i64 a = .int .i64 b := by rw [h]
theorem num_lt9 {x k : Nat} (h : x < 10 ^ (k + 1)) (hk : k < 9) : x < 1000000000 :=
  Nat.lt_of_lt_of_le h (Nat.le_trans (Nat.pow_le_pow_right (by omega) (show k + 1 ≤ 9 by omega)) (by decide))
theorem num_meas {n i M o o2 : Nat} (hi : i < n) (ho : o2 ≤ M) : (n - (i + 9)) * (M + 1) + o2 < (n - i) * (M + 1) + o := by
  have h1 : (n - (i + 9)) * (M + 1) ≤ (n - i - 1) * (M + 1) := Nat.mul_le_mul_right _ (by omega)
  have h2 : (n - i) * (M + 1) = (n - i - 1) * (M + 1) + (M + 1) := by rw [← Nat.succ_mul]; congr 1; omega
  omega

set_option maxHeartbeats 2000000 in
set_option maxRecDepth 100000 in
theorem number_any (A : Option Addr) (n c M : Nat) (xs : List Nat) (w : World) (h : Dig w w.heap.size A n c xs) (hn : n ≤ 100000000) (hM : M ≤ 100000000) (hx : ∀ j, gd xs j ≤ M) :
    Calls Tryd.prog 47 #[.slice A n c] w (RetNum w (ten xs)) := by
  obtain ⟨i0, hi, hz0, hz1, hz2⟩ := info_parts info_limb
  have hm := h.room
  have hcap := h.cap
  unfold maxLen at hm
  have H := Lib.hid h
  have HX := Lib.hid hx
  clear h hx
  go_enter Tryd.func47, Tryd.ntmps47
  go_wp2
  go_loopw [3, 4, 5] (fun v ov iv wr => ∃ (j i o : Nat) (A2 : Option Addr) (c2 : Nat) (zs : List Nat), iv = .int .i64 i ∧ Hid (i = 9 * j) ∧ ov = .int .i64 o ∧ o ≤ M ∧ j + o ≤ n + M + 1 ∧ v = .slice A2 j c2 ∧ wr.ownsRow w.heap.size 36 1 (.slice A2 j c2) j (vals zs) ∧ limbs zs ∧ Hid (val zs + 1000000000 ^ j * (o + ten (xs.drop i)) = ten xs) ∧ Below w.heap.size w wr) (fun _ ov iv _ => (n - (intOf iv).toNat) * (M + 1) + (intOf ov).toNat)
  case atStart => exact ⟨0, 0, 0, none, 0, [], rfl, rfl, rfl, Nat.zero_le _, by omega, rfl, World.ownsRow_nil _ _ _ _, limbs_nil, by show _ = _; rw [List.drop_zero]; simp [val], Below.refl _ _⟩
  case round =>
    obtain ⟨j, i, o, A2, c2, zs, rfl, HI, rfl, ho, hjo, rfl, hown, hlim, HV, hb⟩ := hrel
    have HO := Lib.hid hown
    have HB := Lib.hid hb
    have HL := Lib.hid hlim
    have HZ : Hid (zs.length = j) := by have := hown.1; rw [vals_len, Nat.mul_one] at this; exact this
    have hi9 : i ≤ 9 * (n + M + 1) := by have := HI.out; omega
    clear hown hb hlim
    have hgo : (i < n) ∨ (n ≤ i ∧ 0 < o) ∨ (n ≤ i ∧ o = 0) := by omega
    rcases hgo with hin | ⟨hin, h0⟩ | ⟨hin, h0⟩
    case inr.inr =>
      subst h0
      have HE := Lib.hid (number_end HV.out (show xs.length ≤ i by rw [H.out.len]; exact hin))
      have HT : Hid (Calls Tryd.prog 35 #[.slice A2 j c2] wr (RetLim wr (dg (val zs)))) :=
        refTrim_any j A2 j c2 zs wr (Lim.of_own HO.out (fun x hx => by have := HL.out x hx; omega)) HL (Nat.le_refl _) (by omega)
      clear HV
      go_wp2_with (go_at_call 35; go_must (refine HT.out.mono ?_; rintro e w' ⟨A3, n3, c3, rfl, h3, hb3⟩; have H3 := Lib.hid h3; have HB3 := Lib.hid hb3; clear h3 hb3))
      go_ret
      exact ⟨_, _, _, rfl, by rw [← HE.out]; exact H3.out, HB.out.trans (HB3.out.mono HB.out.size)⟩
    all_goals
      obtain ⟨wo, rfl⟩ : ∃ wo : World, wo = wr := ⟨_, rfl⟩
      go_wp2
      go_loop [4, 6, 7, 8] (fun ov xv uv kv => ∃ (k o2 x u : Nat), k ≤ 9 ∧ kv = .int .i64 ((i : Int) + k) ∧ ov = .int .i64 o2 ∧ o2 ≤ M ∧ xv = .int .i64 x ∧ uv = .int .i64 u ∧ Hid (u = 10 ^ k) ∧ u ≤ 1000000000 ∧ Hid (x < 10 ^ k) ∧ x < 1000000000 ∧ Hid (x + 10 ^ k * (o2 + ten (xs.drop (i + k))) = o + ten (xs.drop i))) (fun _ _ _ kv => i + 9 - (intOf kv).toNat)
      case atStart => exact ⟨0, o, 0, 1, Nat.zero_le _, by go_num, rfl, ho, rfl, rfl, rfl, by omega, by show _ < _; simp, by omega, by show _ = _; simp⟩
      case round =>
        obtain ⟨k, o2, x, u, hk, rfl, rfl, ho2, rfl, rfl, HU, hu, HXL, hxl, HS⟩ := hrel
        rcases Nat.lt_or_ge k 9 with hk9 | hk9
        · have hu8 : u ≤ 100000000 := by rw [HU.out]; exact pow_le_8 hk9
          have HU2 : Hid (u * 10 = 10 ^ (k + 1)) := by show _ = _; rw [HU.out, Nat.pow_succ]
          rcases Nat.lt_or_ge (i + k) n with hik | hik
          · first
            | (exfalso; omega)
            | (obtain ⟨b5, o5, rfl, _, hc⟩ := (H.out.below HB.out).at_ hik
               have hd := HX.out (i + k)
               have HN := Lib.hid (number_step HS.out)
               have HLT := Lib.hid (number_lt HXL.out (show (o2 + gd xs (i + k)) % 10 < 10 by omega))
               have hpn : (o2 + gd xs (i + k)) % 10 * u ≤ 900000000 := num_prod hu8
               have E : Hid ((((o2 : Nat) : Int) + ((gd xs (i + k) : Nat) : Int)) % 10 * (u : Nat) = (((o2 + gd xs (i + k)) % 10 * u : Nat) : Int)) := by show _ = _; rw [Int.natCast_mul, Int.natCast_emod, Int.natCast_add]; try rfl
               have hp0 : 0 ≤ (((o2 : Nat) : Int) + ((gd xs (i + k) : Nat) : Int)) % 10 * (u : Nat) := by rw [E.out]; omega
               have hp1 : (((o2 : Nat) : Int) + ((gd xs (i + k) : Nat) : Int)) % 10 * (u : Nat) ≤ 900000000 := by rw [E.out]; omega
               clear hpn HS
               rw [← HU.out] at HN HLT
               go_wp2
               go_round
               case rel => exact ⟨k + 1, (o2 + gd xs (i + k)) / 10, x + (o2 + gd xs (i + k)) % 10 * u, u * 10, by omega, by go_num, by go_num, by omega, num_i64 (by rw [E.out]; omega), by go_num, HU2.out, by omega, HLT.out, num_lt9 HLT.out hk9, HN.out⟩
               case measure => simp [intOf]; omega)
          · have hd : Hid (gd xs (i + k) = 0) := gd_of_ge (by rw [H.out.len]; exact hik)
            have HN := number_step HS.out
            have HLT := number_lt HXL.out (show o2 % 10 < 10 by omega)
            rw [hd.out, Nat.add_zero] at HN
            have HN := Lib.hid HN
            have HLT := Lib.hid HLT
            have hpn : o2 % 10 * u ≤ 900000000 := num_prod hu8
            have E : Hid (((o2 : Nat) : Int) % 10 * (u : Nat) = ((o2 % 10 * u : Nat) : Int)) := by show _ = _; rw [Int.natCast_mul, Int.natCast_emod]; try rfl
            have hp0 : 0 ≤ ((o2 : Nat) : Int) % 10 * (u : Nat) := by rw [E.out]; omega
            have hp1 : ((o2 : Nat) : Int) % 10 * (u : Nat) ≤ 900000000 := by rw [E.out]; omega
            clear hpn HS
            rw [← HU.out] at HN HLT
            go_wp2
            go_round
            case rel => exact ⟨k + 1, o2 / 10, x + o2 % 10 * u, u * 10, by omega, by go_num, by go_num, by omega, num_i64 (by rw [E.out]; omega), by go_num, HU2.out, by omega, HLT.out, num_lt9 HLT.out hk9, HN.out⟩
            case measure => simp [intOf]; omega
        · obtain rfl : k = 9 := by omega
          have HS9 : Hid (x + 10 ^ 9 * (o2 + ten (xs.drop (i + 9))) = o + ten (xs.drop i)) := HS
          go_wp2_with (at_builtin; go_must (refine wpList_append_lim rfl (.tmp 46) (.tmp 49) 22 22 rfl w.heap.size 36 36 i0 Tryd.underlying22 Tryd.underlying22 hi hz0 hz1 hz2 A2 j c2 zs rfl (HO.out.alloc _) _ _ 1 1 [x] rfl (Lim.one _ _ _ (by omega) (by omega) _) (by omega) (Nat.le_trans HB.out.size (by simp)) ?_; intro A3 c3 w3 hown hgr))
          go_roundw
          case rel => exact ⟨j + 1, i + 9, o2, A3, c3, zs ++ [x], by go_num, by show _ = _; rw [HI.out]; omega, rfl, ho2, (by first | (have := HI.out; omega) | (have := num_small HS9.out (show xs.length ≤ i by rw [H.out.len]; exact hin) h0; omega)), rfl, hown, limbs_append.2 ⟨HL.out, limbs_cons.2 ⟨hxl, limbs_nil⟩⟩, number_limb HV.out HS9.out HZ.out, (HB.out.alloc HB.out.size _).grown hgr (Nat.le_trans HB.out.size (by simp)) (fun g hg => (HO.out.lt g hg).1)⟩
          case measure =>
            simp only [intOf]
            rw [show ((i : Int) + 9).toNat = i + 9 by omega, Int.toNat_natCast, Int.toNat_natCast, Int.toNat_natCast]
            first | exact num_meas hin ho2 | (rw [show n - (i + 9) = 0 by omega, show n - i = 0 by omega]; have := num_small HS9.out (show xs.length ≤ i by rw [H.out.len]; exact hin) h0; omega)

end Go.Proofs.YtecgmdomhbmbkaaDoor
