/- What the proofs of this layer need of the layer Div, in one text. -/
import Derived.Test.YthlhpgphmfnlgaaGreatAllMulC
import Derived.Test.YthlhpgphmfnlgaaGreatAllDivA
import Derived.OwnWalk
set_option maxRecDepth 100000
set_option maxHeartbeats 32000000
set_option linter.unusedVariables false
set_option linter.unusedSimpArgs false
/-
 Contracts of layer 3, the first part: sound, Small.
-/
namespace Go.Proofs.YthlhpgphmfnlgaaGreat
open Go.RowKit
theorem sound_is {A : Option Addr} {n c a B : Nat} {w : World} (h : Num w B A n c a) :
   Calls Tryz.prog 85 #[.slice A n c] w fun e w' => e = .returned (.slice A n c) ∧ w = w' := by
 have C := Lib.hid (right_any A n c B (dg a) w h)
 have hr := right_dg a
 clear h
 go_enter Tryz.func85, Tryz.ntmps85
 go_wp2_with fail
 refine C.out.mono ?_; rintro e w' ⟨rfl, rfl⟩
 rw [hr]
 go_wp2_with fail
 go_ret
 exact ⟨rfl, rfl⟩
def RetDiv (W : World) (q r : Nat) (e : Ending) (w' : World) : Prop :=
 ∃ A n c A' n' c', e = .returned (.tuple #[.slice A n c, .slice A' n' c', .int .i64 0]) ∧ Num w' w'.heap.size A n c q ∧ Num w' w'.heap.size A' n' c' r ∧ Below W.heap.size W w'
def RetSmall (W : World) (q r : Nat) (e : Ending) (w' : World) : Prop :=
 ∃ A n c, e = .returned (.tuple #[.slice A n c, .int .u32 r, .int .i64 0]) ∧ Num w' w'.heap.size A n c q ∧ Below W.heap.size W w'
def RetSmallF (W : World) (q r : Nat) (e : Ending) (w' : World) : Prop :=
 ∃ A n c, e = .returned (.tuple #[.slice A n c, .int .u32 r, .int .i64 0]) ∧ Num w' w'.heap.size A n c q ∧ (∀ ad, A = some ad → W.heap.size ≤ ad.block) ∧ Below W.heap.size W w'
theorem trim_new {A : Option Addr} {n c m : Nat} {xs : List Nat} {w : World} (h : Lim w w.heap.size A n c xs) (hx : limbs xs) (hn : n ≤ 1000000000) (hm : val xs = m) :
   Calls Tryz.prog 53 #[.slice A n c] w (RetNew w m) := by
 subst hm
 refine (trim_own A n c xs w h hx hn).mono fun _ _ ⟨A', n', c', he, ho, hb⟩ => ⟨A', n', c', he, Lim.of_own ho (fun x hx => by have := limbs_dg _ x hx; omega), fun ad hA => ?_, hb⟩
 subst hA
 exact (ho.lt _ rfl).1
theorem udiv_cast (t N : Nat) (h : t / N < 1000000000) : ∃ q, t / N = q ∧ ((t : Nat) : Int) / (N : Int) % 4294967296 = (q : Int) := by
 refine ⟨t / N, rfl, ?_⟩
 rw [← Int.natCast_ediv]
 generalize t / N = q at *
 omega
theorem dsmall_fresh (A : Option Addr) (n c a N : Nat) (w : World) (h : Num w w.heap.size A n c a) (hn : n ≤ 100000000) (hN0 : 0 < N) (hN : N < 4294967296) :
   Calls Tryz.prog 86 #[.slice A n c, .int .u32 N] w (RetSmallF w (a / N) (a % N)) := by
 obtain ⟨i0, hi, hz0, hz1, hz2⟩ := info_parts info_limb
 have hm := h.room
 have hcap := h.cap
 unfold maxLen at hm
 have H := Lib.hid h
 have C := Lib.hid (sound_is h)
 clear h
 go_enter Tryz.func86, Tryz.ntmps86
 go_wp2_with fail
 refine C.out.mono ?_; rintro e w' ⟨rfl, rfl⟩
 go_wp2_with (at_make; go_must (refine wpList_make_full _ rfl _ _ 23 rfl w.heap.size 75 i0 (.int .u32 0) 1 Tryz.underlying23 hi hz0 hz1 _ _ _ _ n rfl rfl (by omega) (by omega) (by rw [hz2]; omega) (by unfold maxLen; omega) (Nat.le_refl _) ?_; intro w1 hown1 hgr1; have M1 : Hid (Own w1 w.heap.size (List.replicate n 0)) := Own.of_made hown1; have HB1 : Hid (Below w.heap.size w w1) := (Below.refl _ _).grown hgr1 (Nat.le_refl _) (fun k hk => by cases hk); clear hown1 hgr1))
 clear C
 go_loopw [8, 9] (fun rv iv wr => ∃ (k r : Nat) (zs : List Nat), k ≤ n ∧ iv = .int .i64 ((k : Int) - 1) ∧ rv = .int .u64 r ∧ r < N ∧ zs.length = n ∧ limbs zs ∧ (∀ j, j < k → gd zs j = 0) ∧ a = N * val zs + 1000000000 ^ k * r + val ((dg a).take k) ∧ Own wr w.heap.size zs ∧ Below w.heap.size w wr) (fun _ iv _ => (intOf iv + 1).toNat)
 case atStart =>
   exact ⟨n, 0, List.replicate n 0, Nat.le_refl _, rfl, rfl, hN0, by simp, zeros_limbs _, fun j _ => gd_zeros _ _, by rw [val_zeros, List.take_of_length_le (by rw [H.out.len]; exact Nat.le_refl _), val_dg]; simp, M1.out, HB1.out⟩
 case round =>
   obtain ⟨k, r, zs, hk, rfl, rfl, hr, hlen, hlim, hzero, hval, hown, hb⟩ := hrel
   clear M1 HB1
   have OW := Lib.hid hown
   have HL := Lib.hid hlim
   have HV := Lib.hid hval
   have HB := Lib.hid hb
   have LN := Lib.hid hlen
   have HZ := Lib.hid hzero
   clear hown hlim hval hb hlen hzero
   rcases Nat.eq_zero_or_pos k with h0 | h0
   · subst h0
     have LZ := OW.out.lim HL.out (by rw [LN.out]; omega)
     rw [LN.out] at LZ
     have HE : Hid (val zs = a / N ∧ r = a % N) := by
       have := HV.out
       rw [List.take_zero, val, Nat.pow_zero, Nat.one_mul, Nat.add_zero] at this
       exact sdiv_end this hr
     have HC := Lib.hid (trim_new LZ HL.out (by omega) HE.out.1)
     clear LZ
     go_wp2_with fail
     refine HC.out.mono ?_; rintro e w2 ⟨A2, n2, c2, rfl, h2, hf2, hb2⟩
     have H2 := Lib.hid h2
     have HF2 : Hid (∀ ad, A2 = some ad → w.heap.size ≤ ad.block) := fun ad hA => Nat.le_trans HB.out.size (hf2 ad hA)
     have HB2 := Lib.hid (HB.out.trans (hb2.mono HB.out.size))
     clear h2 hf2 hb2
     go_wp2_with fail
     go_ret3
     exact ⟨_, _, _, by rw [HE.out.2]; rfl, H2.out, HF2.out, HB2.out⟩
   · obtain ⟨i, rfl⟩ : ∃ i, k = i + 1 := ⟨k - 1, by omega⟩
     have eK : ((i + 1 : Nat) : Int) - 1 = (i : Int) := by omega
     rw [eK]
     clear eK
     obtain ⟨b, o, rfl, _, hc⟩ := (H.out.below HB.out).at_ (show i < n by omega)
     have hcell := OW.out.cell (i := i) (by rw [LN.out]; omega)
     have hfr := OW.out.frozen i
     have hg := gd_lt (limbs_dg a) i
     have ht := sdiv_t hr hN hg
     have ht2 := ht.2
     go_wp2_with fail
     go_roundw
     case rel =>
       obtain ⟨q, hq, hq2⟩ := udiv_cast (r * 1000000000 + gd (dg a) i) N ht.1
       have ev : ((r : Int) * 1000000000 + (gd (dg a) i : Nat)) = ((r * 1000000000 + gd (dg a) i : Nat) : Int) := by omega
       have em : (((r * 1000000000 + gd (dg a) i : Nat) : Int)) % (N : Int) = (((r * 1000000000 + gd (dg a) i) % N : Nat) : Int) := (Int.natCast_emod _ _).symm
       have HS := sdiv_step HV.out (by rw [LN.out]; omega) (HZ.out i (by omega))
       rw [ev, em, hq2]
       rw [hq] at HS
       exact ⟨i, (r * 1000000000 + gd (dg a) i) % N, zs.set i q, by omega, rfl, rfl, Nat.mod_lt _ hN0, by rw [List.length_set]; exact LN.out, limbs_set HL.out _ (by rw [← hq]; exact ht.1), sdiv_zero HZ.out (by rw [LN.out]; omega), HS, OW.out.store i q _ rfl, HB.out.setCell (Nat.le_refl _) _⟩
     case measure => simp [intOf]
theorem dsmall_any (A : Option Addr) (n c a N : Nat) (w : World) (h : Num w w.heap.size A n c a) (hn : n ≤ 100000000) (hN0 : 0 < N) (hN : N < 4294967296) :
   Calls Tryz.prog 86 #[.slice A n c, .int .u32 N] w (RetSmall w (a / N) (a % N)) :=
 (dsmall_fresh A n c a N w h hn hN0 hN).mono fun _ _ ⟨A', n', c', he, hl, _, hb⟩ => ⟨A', n', c', he, hl, hb⟩
theorem dsmall_is {A : Option Addr} {n c a N q r : Nat} {v : Int} {w : World} (h : Num w w.heap.size A n c a) (hn : n ≤ 100000000) (hN0 : 0 < N) (hN : N < 4294967296) (hv : v = N) (hq : a / N = q) (hr : a % N = r) :
   Calls Tryz.prog 86 #[.slice A n c, .int .u32 v] w (RetSmall w q r) := by
 subst hv; subst hq; subst hr
 exact dsmall_any A n c a N w h hn hN0 hN
end Go.Proofs.YthlhpgphmfnlgaaGreat
/-
 Contracts of layer 3, the second part: take, putBack: what is taken off a row of a room, and put back.
-/
namespace Go.Proofs.YthlhpgphmfnlgaaGreat
open Go.RowKit
def RetTake (W : World) (g len m Z C : Nat) (zs : List Nat) (e : Ending) (w' : World) : Prop :=
 ∃ (cy : Nat) (ys : List Nat), e = .returned (.bool (decide (0 < cy))) ∧ Own w' g ys ∧ ys.length = len ∧ limbs ys ∧ Above m zs ys ∧ val ys + C = Z + cy * 1000000000 ^ m ∧ Kept g W w'
theorem take_any (A' : Option Addr) (g i n' c' m l b cr : Nat) (zs : List Nat) (w : World) (ho : Hid (Own w g zs)) (hl : Hid (limbs zs)) (hm : zs.length = m) (him : i + n' + 1 ≤ m) (hmm : m ≤ 1000000000)
   (h' : Num w g A' n' c' b) (hlim : l < 1000000000) (hcr : n' + 1 ≤ cr) :
   Calls Tryz.prog 111 #[.slice (some ⟨g, i, none⟩) (n' + 1) cr, .slice A' n' c', .int .u32 l] w (RetTake w g m (i + (n' + 1)) (val zs) (1000000000 ^ i * (l * b)) zs) := by
 have hm' := h'.room
 have hn' := h'.cap
 unfold maxLen at hm'
 have H' := Lib.hid h'
 have HM := Lib.hid hm
 clear h' hm
 go_enter Tryz.func111, Tryz.ntmps111
 go_wp2
 go_loopw [7, 12] (fun cv iv wr => ∃ (k cy : Nat) (ys : List Nat), k ≤ n' + 1 ∧ iv = .int .i64 k ∧ cv = .int .u64 cy ∧ cy ≤ 1000000000 ∧ ys.length = m ∧ limbs ys ∧ Above (i + (n' + 1)) zs ys ∧ val ys + 1000000000 ^ i * (l * b) = val zs + 1000000000 ^ (i + k) * (cy + l * val ((dg b).drop k)) ∧ Own wr g ys ∧ Kept g w wr) (fun _ iv _ => n' + 1 - (intOf iv).toNat)
 case atStart =>
   exact ⟨0, 0, zs, Nat.zero_le _, rfl, rfl, by omega, HM.out, hl.out, Above.refl _ _, by rw [List.drop_zero, val_dg, Nat.add_zero, Nat.zero_add], ho.out, Kept.refl _ _⟩
 case round =>
   obtain ⟨k, cy, ys, hk, rfl, rfl, hcy, hlen, hly, hab, hval, hown, hkp⟩ := hrel
   have OW := Lib.hid hown
   have HL := Lib.hid hly
   have HV := Lib.hid hval
   have HK := Lib.hid hkp
   have LN := Lib.hid hlen
   have HA := Lib.hid hab
   clear hown hly hval hkp hlen hab
   rcases Nat.lt_or_ge k (n' + 1) with hkn | hkn
   · have hcell := OW.out.cell (i := i + k) (by rw [LN.out]; omega)
     have hfr := OW.out.frozen (i + k)
     have hx := gd_lt HL.out (i + k)
     rcases Nat.lt_or_ge k n' with hkn' | hkn'
     · obtain ⟨b2, o2, rfl, _, hc2⟩ := (H'.out.below (HK.out.below (Nat.le_refl _))).at_ hkn'
       have hy := gd_lt (limbs_dg b) k
       have hp := row_mul_le hy hlim
       have E : Hid (((gd (dg b) k : Nat) : Int) * (l : Nat) = ((gd (dg b) k * l : Nat) : Int)) := by show _ = _; rw [Int.natCast_mul]
       have hp0 : 0 ≤ ((gd (dg b) k : Nat) : Int) * (l : Nat) := by rw [E.out]; omega
       have hp1 : ((gd (dg b) k : Nat) : Int) * (l : Nat) ≤ 999999998000000001 := by rw [E.out]; omega
       clear hp
       rcases Nat.lt_or_ge (gd ys (i + k)) ((cy + gd (dg b) k * l) % 1000000000) with hs | hs
       · have hd : decide (((gd ys (i + k) : Nat) : Int) < (((cy : Nat) : Int) + ((gd (dg b) k : Nat) : Int) * (l : Nat)) % 1000000000) = true := by rw [decide_eq_true_iff, E.out]; omega
         have HS := Lib.hid hs
         clear hs
         go_wp2
         go_roundw
         case rel =>
           have ev : ((cy : Int) + ((gd (dg b) k : Nat) : Int) * (l : Nat)) = ((cy + gd (dg b) k * l : Nat) : Int) := by rw [E.out]; omega
           rw [ev]
           have HR := fun cy' v h => take_step (cy' := cy') (v := v) HV.out (show i + k < ys.length by rw [LN.out]; omega) h
           have hs := HS.out
           have hpn : gd (dg b) k * l ≤ 999999998000000001 := row_mul_le hy hlim
           generalize cy + gd (dg b) k * l = t at *
           have hv : ((gd ys (i + k) : Nat) : Int) + 1000000000 = ((gd ys (i + k) + 1000000000 : Nat) : Int) := by omega
           have hv2 : ((gd ys (i + k) : Nat) : Int) + 1000000000 - ((t : Nat) : Int) % 1000000000 = ((gd ys (i + k) + 1000000000 - t % 1000000000 : Nat) : Int) := by omega
           have h2 := (OW.out.store (i + k) _ _ hv).store (i + k) _ _ hv2
           rw [List.set_set] at h2
           exact ⟨k + 1, t / 1000000000 + 1, ys.set (i + k) (gd ys (i + k) + 1000000000 - t % 1000000000), by omega, by go_num, rfl, by omega, by rw [List.length_set]; exact LN.out, limbs_set HL.out _ (by omega), HA.out.set (by omega) (by rw [LN.out]; omega), HR _ _ (by omega), h2, (HK.out.setCell _ _).setCell _ _⟩
         case measure => simp [intOf]; omega
       · have hd : decide (((gd ys (i + k) : Nat) : Int) < (((cy : Nat) : Int) + ((gd (dg b) k : Nat) : Int) * (l : Nat)) % 1000000000) = false := by rw [decide_eq_false_iff_not, E.out]; omega
         have HS := Lib.hid hs
         clear hs
         go_wp2
         go_roundw
         case rel =>
           have ev : ((cy : Int) + ((gd (dg b) k : Nat) : Int) * (l : Nat)) = ((cy + gd (dg b) k * l : Nat) : Int) := by rw [E.out]; omega
           rw [ev]
           have HR := fun cy' v h => take_step (cy' := cy') (v := v) HV.out (show i + k < ys.length by rw [LN.out]; omega) h
           have hs := HS.out
           have hpn : gd (dg b) k * l ≤ 999999998000000001 := row_mul_le hy hlim
           generalize cy + gd (dg b) k * l = t at *
           have hv2 : (((gd ys (i + k) : Nat) : Int) - ((t : Nat) : Int) % 1000000000) % 4294967296 = ((gd ys (i + k) - t % 1000000000 : Nat) : Int) := by omega
           exact ⟨k + 1, t / 1000000000, ys.set (i + k) (gd ys (i + k) - t % 1000000000), by omega, by go_num, rfl, by omega, by rw [List.length_set]; exact LN.out, limbs_set HL.out _ (by omega), HA.out.set (by omega) (by rw [LN.out]; omega), HR _ _ (by omega), OW.out.store (i + k) _ _ hv2, HK.out.setCell _ _⟩
         case measure => simp [intOf]; omega
     · have hy0 : gd (dg b) k = 0 := gd_of_ge (by rw [H'.out.len]; exact hkn')
       have HY := Lib.hid hy0
       clear hy0
       rcases Nat.lt_or_ge (gd ys (i + k)) (cy % 1000000000) with hs | hs
       · have hd : decide (((gd ys (i + k) : Nat) : Int) < ((cy : Nat) : Int) % 1000000000) = true := by rw [decide_eq_true_iff]; omega
         have HS := Lib.hid hs
         clear hs
         go_wp2
         go_roundw
         case rel =>
           have HR := fun cy' v h => take_step (cy' := cy') (v := v) HV.out (show i + k < ys.length by rw [LN.out]; omega) h
           have hs := HS.out
           rw [HY.out, Nat.zero_mul, Nat.add_zero] at HR
           have hv : ((gd ys (i + k) : Nat) : Int) + 1000000000 = ((gd ys (i + k) + 1000000000 : Nat) : Int) := by omega
           have hv2 : ((gd ys (i + k) : Nat) : Int) + 1000000000 - ((cy : Nat) : Int) % 1000000000 = ((gd ys (i + k) + 1000000000 - cy % 1000000000 : Nat) : Int) := by omega
           have h2 := (OW.out.store (i + k) _ _ hv).store (i + k) _ _ hv2
           rw [List.set_set] at h2
           exact ⟨k + 1, cy / 1000000000 + 1, ys.set (i + k) (gd ys (i + k) + 1000000000 - cy % 1000000000), by omega, by go_num, rfl, by omega, by rw [List.length_set]; exact LN.out, limbs_set HL.out _ (by omega), HA.out.set (by omega) (by rw [LN.out]; omega), HR _ _ (by omega), h2, (HK.out.setCell _ _).setCell _ _⟩
         case measure => simp [intOf]; omega
       · have hd : decide (((gd ys (i + k) : Nat) : Int) < ((cy : Nat) : Int) % 1000000000) = false := by rw [decide_eq_false_iff_not]; omega
         have HS := Lib.hid hs
         clear hs
         go_wp2
         go_roundw
         case rel =>
           have HR := fun cy' v h => take_step (cy' := cy') (v := v) HV.out (show i + k < ys.length by rw [LN.out]; omega) h
           have hs := HS.out
           rw [HY.out, Nat.zero_mul, Nat.add_zero] at HR
           have hv2 : (((gd ys (i + k) : Nat) : Int) - ((cy : Nat) : Int) % 1000000000) % 4294967296 = ((gd ys (i + k) - cy % 1000000000 : Nat) : Int) := by omega
           exact ⟨k + 1, cy / 1000000000, ys.set (i + k) (gd ys (i + k) - cy % 1000000000), by omega, by go_num, rfl, by omega, by rw [List.length_set]; exact LN.out, limbs_set HL.out _ (by omega), HA.out.set (by omega) (by rw [LN.out]; omega), HR _ _ (by omega), OW.out.store (i + k) _ _ hv2, HK.out.setCell _ _⟩
         case measure => simp [intOf]; omega
   · obtain rfl : k = n' + 1 := by omega
     go_wp2
     go_ret
     have HE := take_end HV.out (by rw [H'.out.len]; omega)
     rw [Nat.mul_comm _ cy] at HE
     exact ⟨cy, ys, rfl, OW.out, LN.out, HL.out, HA.out, HE, HK.out⟩
def RetPut (W : World) (g len m T : Nat) (zs : List Nat) (e : Ending) (w' : World) : Prop :=
 ∃ (cy : Nat) (ys : List Nat), e = .returned (.tuple #[]) ∧ Own w' g ys ∧ ys.length = len ∧ limbs ys ∧ Above m zs ys ∧ val ys + cy * 1000000000 ^ m = T ∧ Kept g W w'
theorem putBack_any (A' : Option Addr) (g i n' c' m b cr : Nat) (zs : List Nat) (w : World) (ho : Hid (Own w g zs)) (hl : Hid (limbs zs)) (hm : zs.length = m) (him : i + n' + 1 ≤ m) (hmm : m ≤ 1000000000)
   (h' : Num w g A' n' c' b) (hcr : n' + 1 ≤ cr) :
   Calls Tryz.prog 112 #[.slice (some ⟨g, i, none⟩) (n' + 1) cr, .slice A' n' c'] w (RetPut w g m (i + (n' + 1)) (val zs + 1000000000 ^ i * b) zs) := by
 have hm' := h'.room
 have hn' := h'.cap
 unfold maxLen at hm'
 have H' := Lib.hid h'
 have HM := Lib.hid hm
 clear h' hm
 go_enter Tryz.func112, Tryz.ntmps112
 go_wp2
 go_loopw [4, 9] (fun cv iv wr => ∃ (k cy : Nat) (ys : List Nat), k ≤ n' + 1 ∧ iv = .int .i64 k ∧ cv = .int .u32 cy ∧ cy ≤ 1 ∧ ys.length = m ∧ limbs ys ∧ Above (i + (n' + 1)) zs ys ∧ val ys + 1000000000 ^ (i + k) * (cy + val ((dg b).drop k)) = val zs + 1000000000 ^ i * b ∧ Own wr g ys ∧ Kept g w wr) (fun _ iv _ => n' + 1 - (intOf iv).toNat)
 case atStart =>
   exact ⟨0, 0, zs, Nat.zero_le _, rfl, rfl, by omega, HM.out, hl.out, Above.refl _ _, by rw [List.drop_zero, val_dg, Nat.add_zero, Nat.zero_add], ho.out, Kept.refl _ _⟩
 case round =>
   obtain ⟨k, cy, ys, hk, rfl, rfl, hcy, hlen, hly, hab, hval, hown, hkp⟩ := hrel
   have OW := Lib.hid hown
   have HL := Lib.hid hly
   have HV := Lib.hid hval
   have HK := Lib.hid hkp
   have LN := Lib.hid hlen
   have HA := Lib.hid hab
   clear hown hly hval hkp hlen hab
   rcases Nat.lt_or_ge k (n' + 1) with hkn | hkn
   · have hcell := OW.out.cell (i := i + k) (by rw [LN.out]; omega)
     have hfr := OW.out.frozen (i + k)
     have hx := gd_lt HL.out (i + k)
     rcases Nat.lt_or_ge k n' with hkn' | hkn'
     · obtain ⟨b2, o2, rfl, _, hc2⟩ := (H'.out.below (HK.out.below (Nat.le_refl _))).at_ hkn'
       have hy := gd_lt (limbs_dg b) k
       go_wp2
       go_roundw
       case rel =>
         have ev : (((gd ys (i + k) : Nat) : Int) + (cy : Nat) + ((gd (dg b) k : Nat) : Int)) = ((gd ys (i + k) + cy + gd (dg b) k : Nat) : Int) := by omega
         rw [ev]
         have HR := sum_step HV.out (show i + k < ys.length by rw [LN.out]; omega)
         generalize gd ys (i + k) + cy + gd (dg b) k = t at *
         have ht : t < 2000000000 := by omega
         exact ⟨k + 1, t / 1000000000, ys.set (i + k) (t % 1000000000), by omega, by go_num, rfl, by omega, by rw [List.length_set]; exact LN.out, limbs_set HL.out _ (by omega), HA.out.set (by omega) (by rw [LN.out]; omega), HR, OW.out.store (i + k) (t % 1000000000) _ rfl, HK.out.setCell _ _⟩
       case measure => simp [intOf]; omega
     · have hy0 : gd (dg b) k = 0 := gd_of_ge (by rw [H'.out.len]; exact hkn')
       have HY := Lib.hid hy0
       clear hy0
       go_wp2
       go_roundw
       case rel =>
         have ev : (((gd ys (i + k) : Nat) : Int) + (cy : Nat)) = ((gd ys (i + k) + cy : Nat) : Int) := by omega
         rw [ev]
         have HR := sum_step HV.out (show i + k < ys.length by rw [LN.out]; omega)
         rw [HY.out, Nat.add_zero] at HR
         generalize gd ys (i + k) + cy = t at *
         have ht : t < 2000000000 := by omega
         exact ⟨k + 1, t / 1000000000, ys.set (i + k) (t % 1000000000), by omega, by go_num, rfl, by omega, by rw [List.length_set]; exact LN.out, limbs_set HL.out _ (by omega), HA.out.set (by omega) (by rw [LN.out]; omega), HR, OW.out.store (i + k) (t % 1000000000) _ rfl, HK.out.setCell _ _⟩
       case measure => simp [intOf]; omega
   · obtain rfl : k = n' + 1 := by omega
     go_wp2
     go_end0
     have HE := HV.out
     rw [List.drop_of_length_le (by rw [H'.out.len]; omega), val, show cy + 0 = cy from rfl, Nat.mul_comm _ cy] at HE
     exact ⟨cy, ys, rfl, OW.out, LN.out, HL.out, HA.out, HE, HK.out⟩
end Go.Proofs.YthlhpgphmfnlgaaGreat
