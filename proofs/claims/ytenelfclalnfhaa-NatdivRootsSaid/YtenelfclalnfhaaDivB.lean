/-
  Contracts of layer 3, the second part: take, putBack: what is taken off a row of a room, and put back.
-/
import Derived.Test.YtenelfclalnfhaaDivA
namespace Go.Proofs.Ytenelfclalnfhaa
open Go.RowKit

/-- What take hands back: whether it was too much; the room's limbs have turned, but none from place m on. -/
def RetTake (W : World) (g len m Z C : Nat) (zs : List Nat) (e : Ending) (w' : World) : Prop :=
  ∃ (cy : Nat) (ys : List Nat), e = .returned (.bool (decide (0 < cy))) ∧ Own w' g ys ∧ ys.length = len ∧ limbs ys ∧ Above m zs ys ∧ val ys + C = Z + cy * 1000000000 ^ m ∧ Kept g W w'

set_option maxHeartbeats 2000000 in
set_option maxRecDepth 100000 in
theorem take_any (A' : Option Addr) (g i n' c' m l b cr : Nat) (zs : List Nat) (w : World) (ho : Hid (Own w g zs)) (hl : Hid (limbs zs)) (hm : zs.length = m) (him : i + n' + 1 ≤ m) (hmm : m ≤ 1000000000)
    (h' : Num w g A' n' c' b) (hlim : l < 1000000000) (hcr : n' + 1 ≤ cr) :
    Calls Try.prog 51 #[.slice (some ⟨g, i, none⟩) (n' + 1) cr, .slice A' n' c', .int .u32 l] w (RetTake w g m (i + (n' + 1)) (val zs) (1000000000 ^ i * (l * b)) zs) := by
  have hm' := h'.room
  have hn' := h'.cap
  unfold maxLen at hm'
  have H' := Lib.hid h'
  have HM := Lib.hid hm
  clear h' hm
  go_enter Try.func51, Try.ntmps51
  go_wp2
  go_loopw [7, 12] (fun cv iv wr => ∃ (k cy : Nat) (ys : List Nat), k ≤ n' + 1 ∧ iv = .int .i64 k ∧ cv = .int .u64 cy ∧ cy ≤ 1000000000 ∧ ys.length = m ∧ limbs ys ∧ Above (i + (n' + 1)) zs ys ∧ val ys + 1000000000 ^ i * (l * b) = val zs + 1000000000 ^ (i + k) * (cy + l * val ((dg b).drop k)) ∧ Own wr g ys ∧ Kept g w wr) (fun _ iv _ => n' + 1 - (intOf iv).toNat)
  case atStart =>
    exact ⟨0, 0, zs, Nat.zero_le _, rfl, rfl, by omega, HM.out, hl.out, Above.refl _ _, by rw [List.drop_zero, val_dg, Nat.add_zero, Nat.zero_add], ho.out, Kept.refl _ _⟩
  case round =>
    obtain ⟨k, cy, ys, hk, rfl, rfl, hcy, hlen, hly, hab, hval, hown, hkp⟩ := hrel
    have OW := Lib.hid hown
    have HL := Lib.hid hly
    have HV := Lib.hid hval
    have HK := Lib.hid hkp
    have LN := Lib.hid hlen
    have HA := Lib.hid hab
    clear hown hly hval hkp hlen hab
    rcases Nat.lt_or_ge k (n' + 1) with hkn | hkn
    · have hcell := OW.out.cell (i := i + k) (by rw [LN.out]; omega)
      have hfr := OW.out.frozen (i + k)
      have hx := gd_lt HL.out (i + k)
      rcases Nat.lt_or_ge k n' with hkn' | hkn'
      · obtain ⟨b2, o2, rfl, _, hc2⟩ := (H'.out.below (HK.out.below (Nat.le_refl _))).at_ hkn'
        have hy := gd_lt (limbs_dg b) k
        have hp := row_mul_le hy hlim
        have E : Hid (((gd (dg b) k : Nat) : Int) * (l : Nat) = ((gd (dg b) k * l : Nat) : Int)) := by show _ = _; rw [Int.natCast_mul]
        have hp0 : 0 ≤ ((gd (dg b) k : Nat) : Int) * (l : Nat) := by rw [E.out]; omega
        have hp1 : ((gd (dg b) k : Nat) : Int) * (l : Nat) ≤ 999999998000000001 := by rw [E.out]; omega
        clear hp
        rcases Nat.lt_or_ge (gd ys (i + k)) ((cy + gd (dg b) k * l) % 1000000000) with hs | hs
        · have hd : decide (((gd ys (i + k) : Nat) : Int) < (((cy : Nat) : Int) + ((gd (dg b) k : Nat) : Int) * (l : Nat)) % 1000000000) = true := by rw [decide_eq_true_iff, E.out]; omega
          have HS := Lib.hid hs
          clear hs
          go_wp2
          go_roundw
          case rel =>
            have ev : ((cy : Int) + ((gd (dg b) k : Nat) : Int) * (l : Nat)) = ((cy + gd (dg b) k * l : Nat) : Int) := by rw [E.out]; omega
            rw [ev]
            have HR := fun cy' v h => take_step (cy' := cy') (v := v) HV.out (show i + k < ys.length by rw [LN.out]; omega) h
            have hs := HS.out
            have hpn : gd (dg b) k * l ≤ 999999998000000001 := row_mul_le hy hlim
            generalize cy + gd (dg b) k * l = t at *
            have hv : ((gd ys (i + k) : Nat) : Int) + 1000000000 = ((gd ys (i + k) + 1000000000 : Nat) : Int) := by omega
            have hv2 : ((gd ys (i + k) : Nat) : Int) + 1000000000 - ((t : Nat) : Int) % 1000000000 = ((gd ys (i + k) + 1000000000 - t % 1000000000 : Nat) : Int) := by omega
            have h2 := (OW.out.store (i + k) _ _ hv).store (i + k) _ _ hv2
            rw [List.set_set] at h2
            exact ⟨k + 1, t / 1000000000 + 1, ys.set (i + k) (gd ys (i + k) + 1000000000 - t % 1000000000), by omega, by go_num, rfl, by omega, by rw [List.length_set]; exact LN.out, limbs_set HL.out _ (by omega), HA.out.set (by omega) (by rw [LN.out]; omega), HR _ _ (by omega), h2, (HK.out.setCell _ _).setCell _ _⟩
          case measure => simp [intOf]; omega
        · have hd : decide (((gd ys (i + k) : Nat) : Int) < (((cy : Nat) : Int) + ((gd (dg b) k : Nat) : Int) * (l : Nat)) % 1000000000) = false := by rw [decide_eq_false_iff_not, E.out]; omega
          have HS := Lib.hid hs
          clear hs
          go_wp2
          go_roundw
          case rel =>
            have ev : ((cy : Int) + ((gd (dg b) k : Nat) : Int) * (l : Nat)) = ((cy + gd (dg b) k * l : Nat) : Int) := by rw [E.out]; omega
            rw [ev]
            have HR := fun cy' v h => take_step (cy' := cy') (v := v) HV.out (show i + k < ys.length by rw [LN.out]; omega) h
            have hs := HS.out
            have hpn : gd (dg b) k * l ≤ 999999998000000001 := row_mul_le hy hlim
            generalize cy + gd (dg b) k * l = t at *
            have hv2 : (((gd ys (i + k) : Nat) : Int) - ((t : Nat) : Int) % 1000000000) % 4294967296 = ((gd ys (i + k) - t % 1000000000 : Nat) : Int) := by omega
            exact ⟨k + 1, t / 1000000000, ys.set (i + k) (gd ys (i + k) - t % 1000000000), by omega, by go_num, rfl, by omega, by rw [List.length_set]; exact LN.out, limbs_set HL.out _ (by omega), HA.out.set (by omega) (by rw [LN.out]; omega), HR _ _ (by omega), OW.out.store (i + k) _ _ hv2, HK.out.setCell _ _⟩
          case measure => simp [intOf]; omega
      · have hy0 : gd (dg b) k = 0 := gd_of_ge (by rw [H'.out.len]; exact hkn')
        have HY := Lib.hid hy0
        clear hy0
        rcases Nat.lt_or_ge (gd ys (i + k)) (cy % 1000000000) with hs | hs
        · have hd : decide (((gd ys (i + k) : Nat) : Int) < ((cy : Nat) : Int) % 1000000000) = true := by rw [decide_eq_true_iff]; omega
          have HS := Lib.hid hs
          clear hs
          go_wp2
          go_roundw
          case rel =>
            have HR := fun cy' v h => take_step (cy' := cy') (v := v) HV.out (show i + k < ys.length by rw [LN.out]; omega) h
            have hs := HS.out
            rw [HY.out, Nat.zero_mul, Nat.add_zero] at HR
            have hv : ((gd ys (i + k) : Nat) : Int) + 1000000000 = ((gd ys (i + k) + 1000000000 : Nat) : Int) := by omega
            have hv2 : ((gd ys (i + k) : Nat) : Int) + 1000000000 - ((cy : Nat) : Int) % 1000000000 = ((gd ys (i + k) + 1000000000 - cy % 1000000000 : Nat) : Int) := by omega
            have h2 := (OW.out.store (i + k) _ _ hv).store (i + k) _ _ hv2
            rw [List.set_set] at h2
            exact ⟨k + 1, cy / 1000000000 + 1, ys.set (i + k) (gd ys (i + k) + 1000000000 - cy % 1000000000), by omega, by go_num, rfl, by omega, by rw [List.length_set]; exact LN.out, limbs_set HL.out _ (by omega), HA.out.set (by omega) (by rw [LN.out]; omega), HR _ _ (by omega), h2, (HK.out.setCell _ _).setCell _ _⟩
          case measure => simp [intOf]; omega
        · have hd : decide (((gd ys (i + k) : Nat) : Int) < ((cy : Nat) : Int) % 1000000000) = false := by rw [decide_eq_false_iff_not]; omega
          have HS := Lib.hid hs
          clear hs
          go_wp2
          go_roundw
          case rel =>
            have HR := fun cy' v h => take_step (cy' := cy') (v := v) HV.out (show i + k < ys.length by rw [LN.out]; omega) h
            have hs := HS.out
            rw [HY.out, Nat.zero_mul, Nat.add_zero] at HR
            have hv2 : (((gd ys (i + k) : Nat) : Int) - ((cy : Nat) : Int) % 1000000000) % 4294967296 = ((gd ys (i + k) - cy % 1000000000 : Nat) : Int) := by omega
            exact ⟨k + 1, cy / 1000000000, ys.set (i + k) (gd ys (i + k) - cy % 1000000000), by omega, by go_num, rfl, by omega, by rw [List.length_set]; exact LN.out, limbs_set HL.out _ (by omega), HA.out.set (by omega) (by rw [LN.out]; omega), HR _ _ (by omega), OW.out.store (i + k) _ _ hv2, HK.out.setCell _ _⟩
          case measure => simp [intOf]; omega
    · obtain rfl : k = n' + 1 := by omega
      go_wp2
      go_ret
      have HE := take_end HV.out (by rw [H'.out.len]; omega)
      rw [Nat.mul_comm _ cy] at HE
      exact ⟨cy, ys, rfl, OW.out, LN.out, HL.out, HA.out, HE, HK.out⟩

/-- What putBack hands back. -/
def RetPut (W : World) (g len m T : Nat) (zs : List Nat) (e : Ending) (w' : World) : Prop :=
  ∃ (cy : Nat) (ys : List Nat), e = .returned (.tuple #[]) ∧ Own w' g ys ∧ ys.length = len ∧ limbs ys ∧ Above m zs ys ∧ val ys + cy * 1000000000 ^ m = T ∧ Kept g W w'

set_option maxHeartbeats 1000000 in
set_option maxRecDepth 100000 in
theorem putBack_any (A' : Option Addr) (g i n' c' m b cr : Nat) (zs : List Nat) (w : World) (ho : Hid (Own w g zs)) (hl : Hid (limbs zs)) (hm : zs.length = m) (him : i + n' + 1 ≤ m) (hmm : m ≤ 1000000000)
    (h' : Num w g A' n' c' b) (hcr : n' + 1 ≤ cr) :
    Calls Try.prog 52 #[.slice (some ⟨g, i, none⟩) (n' + 1) cr, .slice A' n' c'] w (RetPut w g m (i + (n' + 1)) (val zs + 1000000000 ^ i * b) zs) := by
  have hm' := h'.room
  have hn' := h'.cap
  unfold maxLen at hm'
  have H' := Lib.hid h'
  have HM := Lib.hid hm
  clear h' hm
  go_enter Try.func52, Try.ntmps52
  go_wp2
  go_loopw [4, 9] (fun cv iv wr => ∃ (k cy : Nat) (ys : List Nat), k ≤ n' + 1 ∧ iv = .int .i64 k ∧ cv = .int .u32 cy ∧ cy ≤ 1 ∧ ys.length = m ∧ limbs ys ∧ Above (i + (n' + 1)) zs ys ∧ val ys + 1000000000 ^ (i + k) * (cy + val ((dg b).drop k)) = val zs + 1000000000 ^ i * b ∧ Own wr g ys ∧ Kept g w wr) (fun _ iv _ => n' + 1 - (intOf iv).toNat)
  case atStart =>
    exact ⟨0, 0, zs, Nat.zero_le _, rfl, rfl, by omega, HM.out, hl.out, Above.refl _ _, by rw [List.drop_zero, val_dg, Nat.add_zero, Nat.zero_add], ho.out, Kept.refl _ _⟩
  case round =>
    obtain ⟨k, cy, ys, hk, rfl, rfl, hcy, hlen, hly, hab, hval, hown, hkp⟩ := hrel
    have OW := Lib.hid hown
    have HL := Lib.hid hly
    have HV := Lib.hid hval
    have HK := Lib.hid hkp
    have LN := Lib.hid hlen
    have HA := Lib.hid hab
    clear hown hly hval hkp hlen hab
    rcases Nat.lt_or_ge k (n' + 1) with hkn | hkn
    · have hcell := OW.out.cell (i := i + k) (by rw [LN.out]; omega)
      have hfr := OW.out.frozen (i + k)
      have hx := gd_lt HL.out (i + k)
      rcases Nat.lt_or_ge k n' with hkn' | hkn'
      · obtain ⟨b2, o2, rfl, _, hc2⟩ := (H'.out.below (HK.out.below (Nat.le_refl _))).at_ hkn'
        have hy := gd_lt (limbs_dg b) k
        go_wp2
        go_roundw
        case rel =>
          have ev : (((gd ys (i + k) : Nat) : Int) + (cy : Nat) + ((gd (dg b) k : Nat) : Int)) = ((gd ys (i + k) + cy + gd (dg b) k : Nat) : Int) := by omega
          rw [ev]
          have HR := sum_step HV.out (show i + k < ys.length by rw [LN.out]; omega)
          generalize gd ys (i + k) + cy + gd (dg b) k = t at *
          have ht : t < 2000000000 := by omega
          exact ⟨k + 1, t / 1000000000, ys.set (i + k) (t % 1000000000), by omega, by go_num, rfl, by omega, by rw [List.length_set]; exact LN.out, limbs_set HL.out _ (by omega), HA.out.set (by omega) (by rw [LN.out]; omega), HR, OW.out.store (i + k) (t % 1000000000) _ rfl, HK.out.setCell _ _⟩
        case measure => simp [intOf]; omega
      · have hy0 : gd (dg b) k = 0 := gd_of_ge (by rw [H'.out.len]; exact hkn')
        have HY := Lib.hid hy0
        clear hy0
        go_wp2
        go_roundw
        case rel =>
          have ev : (((gd ys (i + k) : Nat) : Int) + (cy : Nat)) = ((gd ys (i + k) + cy : Nat) : Int) := by omega
          rw [ev]
          have HR := sum_step HV.out (show i + k < ys.length by rw [LN.out]; omega)
          rw [HY.out, Nat.add_zero] at HR
          generalize gd ys (i + k) + cy = t at *
          have ht : t < 2000000000 := by omega
          exact ⟨k + 1, t / 1000000000, ys.set (i + k) (t % 1000000000), by omega, by go_num, rfl, by omega, by rw [List.length_set]; exact LN.out, limbs_set HL.out _ (by omega), HA.out.set (by omega) (by rw [LN.out]; omega), HR, OW.out.store (i + k) (t % 1000000000) _ rfl, HK.out.setCell _ _⟩
        case measure => simp [intOf]; omega
    · obtain rfl : k = n' + 1 := by omega
      go_wp2
      go_end0
      have HE := HV.out
      rw [List.drop_of_length_le (by rw [H'.out.len]; omega), val, show cy + 0 = cy from rfl, Nat.mul_comm _ cy] at HE
      exact ⟨cy, ys, rfl, OW.out, LN.out, HL.out, HA.out, HE, HK.out⟩

end Go.Proofs.Ytenelfclalnfhaa
