/- What the proofs of this layer need of the layer Nat, in one text. -/
import Derived.Test.YthlhpgphmfnlgaaGreatAllNatD
import Derived.Laws.CopyOwn
import Derived.Test.YthlhpgphmfnlgaaGreatAllNatA
set_option maxRecDepth 100000
set_option maxHeartbeats 32000000
set_option linter.unusedVariables false
set_option linter.unusedSimpArgs false
/-
 Contract of layer 1: Add.
-/
namespace Go.Proofs.YthlhpgphmfnlgaaGreat
open Go.RowKit
def Own (w : World) (g : Nat) (zs : List Nat) : Prop := w.heap[g]? = some (.cells (vals zs).toArray 75 (0, 0))
theorem Own.cell {w : World} {g : Nat} {zs : List Nat} (h : Own w g zs) {i : Nat} (hi : i < zs.length) : w.cell? ⟨g, i, none⟩ = some (.int .u32 (gd zs i : Nat)) := by
 rw [cell_of_row w g i _ _ (0, 0) h]
 simpa using vals_get hi
theorem Own.frozen {w : World} {g : Nat} {zs : List Nat} (h : Own w g zs) (i : Nat) : w.frozen? ⟨g, i, none⟩ = false := frozen_of_row w g i _ _ h
theorem Own.lt {w : World} {g : Nat} {zs : List Nat} (h : Own w g zs) : g < w.heap.size := by
 rcases Nat.lt_or_ge g w.heap.size with hlt | hge
 · exact hlt
 · unfold Own at h; rw [Array.getElem?_eq_none hge] at h; cases h
theorem Own.store {w : World} {g : Nat} {zs : List Nat} (h : Own w g zs) (i : Nat) (x : Nat) (v : Int) (hv : v = x) : Own (w.setCell ⟨g, i, none⟩ (.int .u32 v)) g (zs.set i x) := by
 subst hv
 unfold Own at h ⊢
 rw [heap_setCell_same w g i _ _ _ h, vals_set]
 simp
theorem Own.lim {w : World} {g : Nat} {zs : List Nat} (h : Own w g zs) (hz : limbs zs) (hl : zs.length ≤ 1000000000000) : Lim w w.heap.size (some ⟨g, 0, none⟩) zs.length zs.length zs := by
 refine ⟨rfl, Nat.le_refl _, by unfold maxLen; omega, fun x hx => by have := hz x hx; omega, .inr ⟨g, 0, rfl, h.lt, fun j u hu => ?_⟩, fun h => by cases h⟩
 rw [cell_of_row w g (0 + j) _ _ (0, 0) h, Nat.zero_add]
 simpa using hu
theorem Own.drew {w : World} {g : Nat} {zs : List Nat} (h : Own w g zs) : Own w.drew g zs := h
theorem Own.of_made {w : World} {base n : Nat} (h : w.ownsRow base 75 1 (.slice (some ⟨base, 0, none⟩) n n) n (madeCells (Value.int .u32 0).cells (n * 1)).toList) : Own w base (List.replicate n 0) := by
 have e : (madeCells (Value.int .u32 0).cells (n * 1)).toList = vals (List.replicate n 0) := by
   rw [Nat.mul_one]
   show (madeCells #[Value.int .u32 0] n).toList = _
   rw [toList_madeCells_one]
   simp [vals]
 rw [e] at h
 rcases h.2 with ⟨h1, _⟩ | ⟨g, cap, cur, hv, _, hh, _, _, hsz, htk⟩
 · cases h1
 · injection hv with h1 h2 h3
   injection h1 with h1
   injection h1 with h1
   subst h1; subst h3
   unfold Own
   rw [hh, ← htk, List.take_of_length_le (by simp; omega)]
theorem splice_vals (n : Nat) (xs : List Nat) (_h : xs.length ≤ n) : splice (vals (List.replicate n 0)) 0 (vals xs) = vals (xs ++ List.replicate (n - xs.length) 0) := by
 simp [splice, vals, List.map_append, List.drop_replicate]
theorem add_step {zs ys : List Nat} {i v cy cy' T : Nat} (h : val zs + cy * 1000000000 ^ i + 1000000000 ^ i * val (ys.drop i) = T) (hi : i < zs.length) (hv : gd zs i + gd ys i + cy = v + cy' * 1000000000) :
   val (zs.set i v) + cy' * 1000000000 ^ (i + 1) + 1000000000 ^ (i + 1) * val (ys.drop (i + 1)) = T := by
 have e1 := val_set zs i v hi
 have e2 := val_drop ys i
 generalize hP : 1000000000 ^ i = P at *
 have e3 : P * (gd zs i + gd ys i + cy) = P * (v + cy' * 1000000000) := by rw [hv]
 rw [Nat.pow_succ, hP]
 rw [e2] at h
 have e4 : P * (cy' * 1000000000) = cy' * (P * 1000000000) := by rw [Nat.mul_left_comm]
 have e5 : P * (1000000000 * val (ys.drop (i + 1))) = P * 1000000000 * val (ys.drop (i + 1)) := by rw [Nat.mul_assoc]
 rw [Nat.mul_add, e5] at h
 rw [Nat.mul_add, Nat.mul_add, Nat.mul_add, e4] at e3
 rw [Nat.mul_comm cy P] at h
 omega
theorem add_end {zs ys : List Nat} {i cy a b n : Nat} (h : val zs + cy * 1000000000 ^ i + 1000000000 ^ i * val (ys.drop i) = a + b) (hz : limbs zs) (hlen : zs.length = n + 1) (hi : i = n + 1) (hy : ys.length ≤ n) (ha : a < 1000000000 ^ n) (hb : b < 1000000000 ^ n) : val zs = a + b := by
 have hl := hlen
 subst hi
 rw [List.drop_of_length_le (by omega), val, Nat.mul_zero] at h
 have := val_lt hz
 rw [hl] at this
 rw [Nat.pow_succ] at h this
 rcases Nat.eq_zero_or_pos cy with h0 | h0
 · subst h0; omega
 · have : 1 * (1000000000 ^ n * 1000000000) ≤ cy * (1000000000 ^ n * 1000000000) := Nat.mul_le_mul_right _ h0
   omega
theorem add_break {zs ys : List Nat} {i T : Nat} (h : val zs + 0 * 1000000000 ^ i + 1000000000 ^ i * val (ys.drop i) = T) (hy : ys.length ≤ i) : val zs = T := by
 rw [List.drop_of_length_le hy, val, Nat.mul_zero, Nat.zero_mul] at h
 omega
theorem pow_of_len {a n m : Nat} (h : (dg a).length = n) (hm : n ≤ m) : a < 1000000000 ^ m :=
 Nat.lt_of_lt_of_le (by have := lt_pow_dg a; rwa [h] at this) (Nat.pow_le_pow_right (by omega) hm)
theorem lim_src {w : World} {B n c : Nat} {A : Option Addr} {xs : List Nat} (h : Lim w B A n c xs) (hp : 0 < (vals xs).length) : ∃ ad, A = some ad ∧ ∀ j v, (vals xs)[j]? = some v → w.cell? (ad.add j) = some v := by
 rcases h.row with h0 | ⟨b, o, rfl, _, hc⟩
 · rw [h0] at hp; simp at hp
 · exact ⟨_, rfl, fun j v hv => by rw [Addr.add_lit]; exact hc j v hv⟩
theorem copy_len {w : World} {B n c k : Nat} {A : Option Addr} {xs : List Nat} (h : Lim w B A n c xs) (hk : n ≤ k) : (vals xs).length = Nat.min n k ∧ 0 + (vals xs).length ≤ (vals (List.replicate k 0)).length := by
 rw [vals_len, vals_len, h.len, List.length_replicate]
 exact ⟨(Nat.min_eq_left hk).symm, by omega⟩
theorem own_copied {w w' : World} {B g n c k : Nat} {A : Option Addr} {xs : List Nat} (h : Lim w B A n c xs) (hk : n ≤ k) (hg : Hid (w'.heap[g]? = some (.cells (splice (vals (List.replicate k 0)) 0 (vals xs)).toArray 75 (0, 0)))) : Own w' g (xs ++ List.replicate (k - n) 0) := by
 have := hg.out
 rw [splice_vals k xs (by rw [h.len]; exact hk), h.len] at this
 exact this
theorem info_one : (Tryz.prog.info? 75).map (·.size) = some 1 := by kernel_rfl
theorem add_both (A A' : Option Addr) (n c n' c' a b : Nat) (w : World) (h : Num w w.heap.size A n c a) (h' : Num w w.heap.size A' n' c' b) (hn : n ≤ 1000000000) (args : Array Value)
   (hargs : (args = #[.slice A n c, .slice A' n' c'] ∧ n' ≤ n) ∨ (args = #[.slice A' n' c', .slice A n c] ∧ n' < n)) :
   Calls Tryz.prog 62 args w (RetNum w (a + b)) := by
 obtain ⟨i0, hi, hz0, hz1, hz2⟩ := info_parts info_limb
 have PA := Lib.hid (pow_of_len h.len (Nat.le_refl _))
 have H := Lib.hid h
 have H' := Lib.hid h'
 rcases hargs with ⟨rfl, hle⟩ | ⟨rfl, hle⟩
 all_goals
   have PB := Lib.hid (pow_of_len h'.len (show n' ≤ n by omega))
   clear h h'
   go_enter Tryz.func62, Tryz.ntmps62
   go_wp2
   go_step3
   go_wp2_with (first | (at_make; go_must (refine wpList_make_full _ rfl _ _ 23 rfl w.heap.size 75 i0 (.int .u32 0) 1 Tryz.underlying23 hi hz0 hz1 _ _ _ _ (n + 1) rfl rfl (by omega) (by omega) (by rw [hz2]; omega) (by unfold maxLen; omega) (Nat.le_refl _) ?_; intro w1 hown1 hgr1; have M1 : Hid (Own w1 w.heap.size (List.replicate (n + 1) 0)) := Own.of_made hown1; have HB1 : Hid (Below w.heap.size w w1) := (Below.refl _ _).grown hgr1 (Nat.le_refl _) (fun k hk => by cases hk); clear hown1 hgr1)) | ((with_reducible show wpList _ _ _ (⟨some 21, _, _, _, _, _⟩ :: _) _ _); go_must (refine wpList_copy_splice rfl (.tmp 19) (.tmp 20) 23 23 rfl 75 Tryz.underlying23 info_one _ _ _ _ _ _ rfl rfl w.heap.size 0 (vals (List.replicate (n + 1) 0)) 75 M1.out (vals (dg a)) (copy_len H.out (show n ≤ n + 1 by omega)).1 (fun hp => ⟨rfl, lim_src (H.out.below HB1.out) hp⟩) (copy_len H.out (show n ≤ n + 1 by omega)).2 (vals_one _) w.heap.size w HB1.out (Nat.le_refl _) ?_; intro w2 hg2 hb2; have O2 := Lib.hid (own_copied H.out (show n ≤ n + 1 by omega) hg2); have HB2 := Lib.hid hb2; clear hg2 hb2)))
   go_step3
   go_wp2
   have e0 : val (dg a ++ List.replicate (n + 1 - n) 0) = a := by rw [val_append, val_zeros, val_dg, Nat.mul_zero, Nat.add_zero]
   have hz0 : limbs (dg a ++ List.replicate (n + 1 - n) 0) := limbs_append.2 ⟨limbs_dg a, fun x hx => by rw [(List.mem_replicate.1 hx).2]; omega⟩
   have hl0 : (dg a ++ List.replicate (n + 1 - n) 0).length = n + 1 := by rw [List.length_append, List.length_replicate, H.out.len]; omega
   have E0 := Lib.hid e0
   have Z0 := Lib.hid hz0
   have L0 := Lib.hid hl0
   clear e0 hz0 hl0
   go_loopw [6, 24] (fun cv iv wr => ∃ (i cy : Nat) (zs : List Nat), i ≤ n + 1 ∧ iv = .int .i64 i ∧ cv = .int .u32 cy ∧ cy ≤ 1 ∧ zs.length = n + 1 ∧ limbs zs ∧ val zs + cy * 1000000000 ^ i + 1000000000 ^ i * val ((dg b).drop i) = a + b ∧ Own wr w.heap.size zs ∧ Below w.heap.size w wr) (fun _ iv _ => n + 1 - (intOf iv).toNat)
   case atStart =>
     exact ⟨0, 0, _, Nat.zero_le _, rfl, rfl, Nat.zero_le _, L0.out, Z0.out, by rw [E0.out, List.drop_zero, val_dg]; omega, O2.out, HB2.out⟩
   case round =>
     obtain ⟨i, cy, zs, hi1, rfl, rfl, hcy, hlen, hlim, hval, hown, hb⟩ := hrel
     clear O2 E0 Z0 L0 M1 HB1 HB2
     have OW := Lib.hid hown
     have HL := Lib.hid hlim
     have HV := Lib.hid hval
     have HB := Lib.hid hb
     have LN := Lib.hid hlen
     clear hown hlim hval hb hlen
     rcases Nat.lt_or_ge i (n + 1) with hin | hin
     · have hcell := OW.out.cell (i := i) (by rw [LN.out]; exact hin)
       have hfr := OW.out.frozen i
       have hz := gd_lt HL.out i
       rcases Nat.lt_or_ge i n' with him | him
       · obtain ⟨b2, o2, rfl, _, hc2⟩ := (H'.out.below HB.out).at_ him
         have hy := gd_lt (limbs_dg b) i
         rcases Nat.lt_or_ge (gd zs i + gd (dg b) i + cy) 1000000000 with hs | hs
         · have HS := Lib.hid hs
           have hd : decide ((1000000000 : Int) ≤ (gd zs i : Nat) + ((gd (dg b) i : Nat) + (cy : Nat))) = false := by rw [decide_eq_false_iff_not]; omega
           clear hs
           go_wp2
           go_region
           go_wp2
           go_roundw
           case rel =>
             have hv : ((gd zs i : Nat) : Int) + ((gd (dg b) i : Nat) + (cy : Nat)) = ((gd zs i + gd (dg b) i + cy : Nat) : Int) := by omega
             exact ⟨i + 1, 0, zs.set i (gd zs i + gd (dg b) i + cy), by omega, by go_num, rfl, Nat.zero_le _, by rw [List.length_set]; exact LN.out, limbs_set HL.out i HS.out, add_step HV.out (by rw [LN.out]; exact hin) (by omega), (OW.out.store i _ _ hv).drew, (HB.out.setCell (Nat.le_refl _) _).drew⟩
           case measure => simp [intOf]; omega
         · have HS := Lib.hid hs
           have hd : decide ((1000000000 : Int) ≤ (gd zs i : Nat) + ((gd (dg b) i : Nat) + (cy : Nat))) = true := by rw [decide_eq_true_iff]; omega
           clear hs
           go_wp2
           go_region
           go_wp2
           go_roundw
           case rel =>
             have hv : ((gd zs i : Nat) : Int) + ((gd (dg b) i : Nat) + (cy : Nat)) = ((gd zs i + gd (dg b) i + cy : Nat) : Int) := by omega
             have hv2 : (((gd zs i : Nat) : Int) + ((gd (dg b) i : Nat) + (cy : Nat)) - 1000000000) % 4294967296 = ((gd zs i + gd (dg b) i + cy - 1000000000 : Nat) : Int) := by have := HS.out; omega
             have h2 := (OW.out.store i _ _ hv).store i _ _ hv2
             rw [List.set_set] at h2
             exact ⟨i + 1, 1, zs.set i (gd zs i + gd (dg b) i + cy - 1000000000), by omega, by go_num, rfl, Nat.le_refl _, by rw [List.length_set]; exact LN.out, limbs_set HL.out i (by omega), add_step HV.out (by rw [LN.out]; exact hin) (by have := HS.out; omega), h2.drew, ((HB.out.setCell (Nat.le_refl _) _).setCell (Nat.le_refl _) _).drew⟩
           case measure => simp [intOf]; omega
       · have hyz : gd (dg b) i = 0 := gd_of_ge (by rw [H'.out.len]; exact him)
         have HY := Lib.hid hyz
         clear hyz
         rcases Nat.eq_zero_or_pos cy with h0 | h0
         · subst h0
           have LZ := OW.out.lim HL.out (by rw [LN.out]; omega)
           rw [LN.out] at LZ
           have HLZ := Lib.hid LZ
           clear LZ
           have eab := add_break HV.out (show (dg b).length ≤ i by rw [H'.out.len]; exact him)
           have EAB := Lib.hid eab
           clear eab
           go_wp2_with (go_at_call 83; refine (cut_any _ _ _ _ _ _ HLZ.out HL.out).mono ?_; rintro e w' ⟨⟨A2, n2, c2, rfl, hn2, h2⟩, rfl⟩; have H2 := Lib.hid h2; clear h2)
           try rw [Exit.noGoto_ret]
           go_ret
           exact ⟨_, _, _, rfl, by rw [← EAB.out]; exact H2.out, HB.out⟩
         · obtain rfl : cy = 1 := by omega
           rcases Nat.lt_or_ge (gd zs i + 1) 1000000000 with hs | hs
           · have HS := Lib.hid hs
             have hd : decide ((1000000000 : Int) ≤ (gd zs i : Nat) + 1) = false := by rw [decide_eq_false_iff_not]; omega
             clear hs
             go_wp2
             go_roundw
             case rel =>
               have hv : ((gd zs i : Nat) : Int) + 1 = ((gd zs i + 1 : Nat) : Int) := by omega
               exact ⟨i + 1, 0, zs.set i (gd zs i + 1), by omega, by go_num, rfl, Nat.zero_le _, by rw [List.length_set]; exact LN.out, limbs_set HL.out i HS.out, add_step HV.out (by rw [LN.out]; exact hin) (by have := HY.out; omega), OW.out.store i _ _ hv, HB.out.setCell (Nat.le_refl _) _⟩
             case measure => simp [intOf]; omega
           · have HS := Lib.hid hs
             have hd : decide ((1000000000 : Int) ≤ (gd zs i : Nat) + 1) = true := by rw [decide_eq_true_iff]; omega
             clear hs
             go_wp2
             go_roundw
             case rel =>
               have hv : ((gd zs i : Nat) : Int) + 1 = ((gd zs i + 1 : Nat) : Int) := by omega
               have hv2 : (((gd zs i : Nat) : Int) + 1 - 1000000000) % 4294967296 = ((gd zs i + 1 - 1000000000 : Nat) : Int) := by have := HS.out; omega
               have h2 := (OW.out.store i _ _ hv).store i _ _ hv2
               rw [List.set_set] at h2
               exact ⟨i + 1, 1, zs.set i (gd zs i + 1 - 1000000000), by omega, by go_num, rfl, Nat.le_refl _, by rw [List.length_set]; exact LN.out, limbs_set HL.out i (by omega), add_step HV.out (by rw [LN.out]; exact hin) (by have := HS.out; have := HY.out; omega), h2, (HB.out.setCell (Nat.le_refl _) _).setCell (Nat.le_refl _) _⟩
             case measure => simp [intOf]; omega
     · obtain rfl : i = n + 1 := by omega
       have LZ := OW.out.lim HL.out (by rw [LN.out]; omega)
       rw [LN.out] at LZ
       have HLZ := Lib.hid LZ
       clear LZ
       have eab := add_end HV.out HL.out LN.out rfl (by rw [H'.out.len]; omega) PA.out PB.out
       have EAB := Lib.hid eab
       clear eab
       go_wp2_with (go_at_call 83; refine (cut_any _ _ _ _ _ _ HLZ.out HL.out).mono ?_; rintro e w' ⟨⟨A2, n2, c2, rfl, hn2, h2⟩, rfl⟩; have H2 := Lib.hid h2; clear h2)
       try rw [Exit.noGoto_ret]
       go_ret
       exact ⟨_, _, _, rfl, by rw [← EAB.out]; exact H2.out, HB.out⟩
theorem add_any (A A' : Option Addr) (n c n' c' a b : Nat) (w : World) (h : Num w w.heap.size A n c a) (h' : Num w w.heap.size A' n' c' b) (hn : n ≤ 1000000000) (hn' : n' ≤ 1000000000) :
   Calls Tryz.prog 62 #[.slice A n c, .slice A' n' c'] w (RetNum w (a + b)) := by
 rcases Nat.lt_or_ge n n' with hlt | hge
 · rw [Nat.add_comm]
   exact add_both A' A n' c' n c b a w h' h hn' _ (.inr ⟨rfl, hlt⟩)
 · exact add_both A A' n c n' c' a b w h h' hn _ (.inl ⟨rfl, hge⟩)
end Go.Proofs.YthlhpgphmfnlgaaGreat
/-
 Contract of layer 1: Sub.
-/
namespace Go.Proofs.YthlhpgphmfnlgaaGreat
open Go.RowKit
def RetSub (W : World) (m : Nat) (e : Ending) (w' : World) : Prop :=
 ∃ A n c, e = .returned (.tuple #[.slice A n c, .int .i64 0]) ∧ Num w' w'.heap.size A n c m ∧ Below W.heap.size W w'
theorem sub_ge (A A' : Option Addr) (n c n' c' a b : Nat) (w : World) (h : Num w w.heap.size A n c a) (h' : Num w w.heap.size A' n' c' b) (hn : n ≤ 1000000000) (hab : b ≤ a) :
   Calls Tryz.prog 64 #[.slice A n c, .slice A' n' c'] w (RetSub w (a - b)) := by
 obtain ⟨i0, hi, hz0, hz1, hz2⟩ := info_parts info_limb
 have HAB := Lib.hid hab
 have hnn : n' ≤ n := by have := dg_len_mono hab; rw [h.len, h'.len] at this; exact this
 have H := Lib.hid h
 have H' := Lib.hid h'
 have C := cmp_any A A' n c n' c' a b w h h'
 have hc : 0 ≤ cmpN a b := by
   rcases Int.lt_or_le (cmpN a b) 0 with h1 | h1
   · rw [cmpN_neg] at h1; omega
   · exact h1
 clear h h' hab
 have CC := Lib.hid C
 clear C
 generalize cmpN a b = s at *
 go_enter Tryz.func64, Tryz.ntmps64
 go_wp2
 go_step3
 go_wp2_with (first | (go_at_call 63; refine CC.out.mono ?_; rintro e w1 ⟨rfl, hb1⟩; have HB1 := Lib.hid hb1; clear hb1) | (at_make; go_must (refine wpList_make_full _ rfl _ _ 23 rfl w1.heap.size 75 i0 (.int .u32 0) 1 Tryz.underlying23 hi hz0 hz1 _ _ _ _ n rfl rfl (by omega) (by omega) (by rw [hz2]; omega) (by unfold maxLen; omega) (Nat.le_refl _) ?_; intro w2 hown1 hgr1; have M1 : Hid (Own w2 w1.heap.size (List.replicate n 0)) := Own.of_made hown1; have HB2 : Hid (Below w.heap.size w w2) := HB1.out.grown hgr1 HB1.out.size (fun k hk => by cases hk); clear hown1 hgr1)) | ((with_reducible show wpList _ _ _ (⟨some 19, _, _, _, _, _⟩ :: _) _ _); go_must (refine wpList_copy_splice rfl (.tmp 17) (.tmp 18) 23 23 rfl 75 Tryz.underlying23 info_one _ _ _ _ _ _ rfl rfl w1.heap.size 0 (vals (List.replicate n 0)) 75 M1.out (vals (dg a)) (copy_len H.out (Nat.le_refl n)).1 (fun hp => ⟨rfl, lim_src (H.out.below HB2.out) hp⟩) (copy_len H.out (Nat.le_refl n)).2 (vals_one _) w.heap.size w HB2.out HB1.out.size ?_; intro w3 hg2 hb2; have O2 := Lib.hid (own_copied H.out (Nat.le_refl n) hg2); have HB3 := Lib.hid hb2; clear hg2 hb2)))
 go_step3
 go_wp2
 have SZ := HB1.out.size
 have e0 : val (dg a ++ List.replicate (n - n) 0) = a := by rw [val_append, val_zeros, val_dg, Nat.mul_zero, Nat.add_zero]
 have hz0 : limbs (dg a ++ List.replicate (n - n) 0) := limbs_append.2 ⟨limbs_dg a, fun x hx => by rw [(List.mem_replicate.1 hx).2]; omega⟩
 have hl0 : (dg a ++ List.replicate (n - n) 0).length = n := by rw [List.length_append, List.length_replicate, H.out.len]; omega
 have E0 := Lib.hid e0
 have Z0 := Lib.hid hz0
 have L0 := Lib.hid hl0
 clear e0 hz0 hl0 hc
 go_loopw [7, 22] (fun cv iv wr => ∃ (i bw : Nat) (zs : List Nat), i ≤ n ∧ iv = .int .i64 i ∧ cv = .int .u32 bw ∧ bw ≤ 1 ∧ zs.length = n ∧ limbs zs ∧ val zs + b = a + bw * 1000000000 ^ i + 1000000000 ^ i * val ((dg b).drop i) ∧ Own wr w1.heap.size zs ∧ Below w.heap.size w wr) (fun _ iv _ => n - (intOf iv).toNat)
 case atStart =>
   exact ⟨0, 0, _, Nat.zero_le _, rfl, rfl, Nat.zero_le _, L0.out, Z0.out, by rw [E0.out, List.drop_zero, val_dg]; omega, O2.out, HB3.out⟩
 case round =>
   obtain ⟨i, bw, zs, hi1, rfl, rfl, hbw, hlen, hlim, hval, hown, hb⟩ := hrel
   clear O2 E0 Z0 L0 M1 HB2 HB3
   have OW := Lib.hid hown
   have HL := Lib.hid hlim
   have HV := Lib.hid hval
   have HB := Lib.hid hb
   have LN := Lib.hid hlen
   clear hown hlim hval hb hlen
   rcases Nat.lt_or_ge i n with hin | hin
   · have hcell := OW.out.cell (i := i) (by rw [LN.out]; exact hin)
     have hfr := OW.out.frozen i
     have hz := gd_lt HL.out i
     rcases Nat.lt_or_ge i n' with him | him
     · obtain ⟨b2, o2, rfl, _, hc2⟩ := (H'.out.below HB.out).at_ him
       have hy := gd_lt (limbs_dg b) i
       rcases Nat.lt_or_ge (gd zs i) (bw + gd (dg b) i) with hs | hs
       · have HS := Lib.hid hs
         have hd : decide (((gd zs i : Nat) : Int) < (bw : Nat) + (gd (dg b) i : Nat)) = true := by rw [decide_eq_true_iff]; omega
         clear hs
         go_wp2
         go_roundw
         case rel =>
           have hv : ((gd zs i : Nat) : Int) + 1000000000 = ((gd zs i + 1000000000 : Nat) : Int) := by omega
           have hv2 : ((gd zs i : Nat) : Int) + 1000000000 - ((bw : Nat) + (gd (dg b) i : Nat)) = ((gd zs i + 1000000000 - (bw + gd (dg b) i) : Nat) : Int) := by omega
           have h2 := (OW.out.store i _ _ hv).store i _ _ hv2
           rw [List.set_set] at h2
           exact ⟨i + 1, 1, zs.set i (gd zs i + 1000000000 - (bw + gd (dg b) i)), by omega, by go_num, rfl, Nat.le_refl _, by rw [List.length_set]; exact LN.out, limbs_set HL.out i (by have := HS.out; omega), sub_step HV.out (by rw [LN.out]; exact hin) (by omega), h2, (HB.out.setCell SZ _).setCell SZ _⟩
         case measure => simp [intOf]; omega
       · have HS := Lib.hid hs
         have hd : decide (((gd zs i : Nat) : Int) < (bw : Nat) + (gd (dg b) i : Nat)) = false := by rw [decide_eq_false_iff_not]; omega
         clear hs
         go_wp2
         go_roundw
         case rel =>
           have hv2 : (((gd zs i : Nat) : Int) - ((bw : Nat) + (gd (dg b) i : Nat))) % 4294967296 = ((gd zs i - (bw + gd (dg b) i) : Nat) : Int) := by have := HS.out; omega
           exact ⟨i + 1, 0, zs.set i (gd zs i - (bw + gd (dg b) i)), by omega, by go_num, rfl, Nat.zero_le _, by rw [List.length_set]; exact LN.out, limbs_set HL.out i (by omega), sub_step HV.out (by rw [LN.out]; exact hin) (by have := HS.out; omega), OW.out.store i _ _ hv2, HB.out.setCell SZ _⟩
         case measure => simp [intOf]; omega
     · have hyz : gd (dg b) i = 0 := gd_of_ge (by rw [H'.out.len]; exact him)
       have HY := Lib.hid hyz
       clear hyz
       rcases Nat.eq_zero_or_pos bw with h0 | h0
       · subst h0
         have LZ := OW.out.lim HL.out (by rw [LN.out]; omega)
         rw [LN.out] at LZ
         have HLZ := Lib.hid LZ
         clear LZ
         have eab := sub_break HV.out (show (dg b).length ≤ i by rw [H'.out.len]; exact him)
         have EAB := Lib.hid eab
         clear eab
         go_wp2_with (go_at_call 83; refine (cut_any _ _ _ _ _ _ HLZ.out HL.out).mono ?_; rintro e w' ⟨⟨A2, n2, c2, rfl, hn2, h2⟩, rfl⟩; have H2 := Lib.hid h2; clear h2)
         try rw [Exit.noGoto_ret]
         go_ret2
         exact ⟨_, _, _, rfl, by rw [← EAB.out]; exact H2.out, HB.out⟩
       · obtain rfl : bw = 1 := by omega
         rcases Nat.lt_or_ge (gd zs i) 1 with hs | hs
         · have HS := Lib.hid hs
           have hd : decide (((gd zs i : Nat) : Int) < 1) = true := by rw [decide_eq_true_iff]; omega
           clear hs
           go_wp2
           go_roundw
           case rel =>
             have hv : ((gd zs i : Nat) : Int) + 1000000000 = ((gd zs i + 1000000000 : Nat) : Int) := by omega
             have hv2 : ((gd zs i : Nat) : Int) + 1000000000 - 1 = ((gd zs i + 1000000000 - 1 : Nat) : Int) := by omega
             have h2 := (OW.out.store i _ _ hv).store i _ _ hv2
             rw [List.set_set] at h2
             exact ⟨i + 1, 1, zs.set i (gd zs i + 1000000000 - 1), by omega, by go_num, rfl, Nat.le_refl _, by rw [List.length_set]; exact LN.out, limbs_set HL.out i (by have := HS.out; omega), sub_step HV.out (by rw [LN.out]; exact hin) (by have := HY.out; omega), h2, (HB.out.setCell SZ _).setCell SZ _⟩
           case measure => simp [intOf]; omega
         · have HS := Lib.hid hs
           have hd : decide (((gd zs i : Nat) : Int) < 1) = false := by rw [decide_eq_false_iff_not]; omega
           clear hs
           go_wp2
           go_roundw
           case rel =>
             have hv2 : (((gd zs i : Nat) : Int) - 1) % 4294967296 = ((gd zs i - 1 : Nat) : Int) := by have := HS.out; omega
             exact ⟨i + 1, 0, zs.set i (gd zs i - 1), by omega, by go_num, rfl, Nat.zero_le _, by rw [List.length_set]; exact LN.out, limbs_set HL.out i (by omega), sub_step HV.out (by rw [LN.out]; exact hin) (by have := HS.out; have := HY.out; omega), OW.out.store i _ _ hv2, HB.out.setCell SZ _⟩
           case measure => simp [intOf]; omega
   · obtain rfl : i = n := by omega
     have LZ := OW.out.lim HL.out (by rw [LN.out]; omega)
     rw [LN.out] at LZ
     have HLZ := Lib.hid LZ
     clear LZ
     have eab := sub_end HV.out HL.out LN.out rfl (by rw [H'.out.len]; omega) HAB.out
     have EAB := Lib.hid eab
     clear eab
     go_wp2_with (go_at_call 83; refine (cut_any _ _ _ _ _ _ HLZ.out HL.out).mono ?_; rintro e w' ⟨⟨A2, n2, c2, rfl, hn2, h2⟩, rfl⟩; have H2 := Lib.hid h2; clear h2)
     try rw [Exit.noGoto_ret]
     go_ret2
     exact ⟨_, _, _, rfl, by rw [← EAB.out]; exact H2.out, HB.out⟩
end Go.Proofs.YthlhpgphmfnlgaaGreat
/-
 Contracts of layer 1: the document's Add and Sub.
-/
namespace Go.Proofs.YthlhpgphmfnlgaaGreat
open Go.RowKit
theorem refAdd_any (A A' : Option Addr) (n c n' c' a b : Nat) (w : World) (h : Num w w.heap.size A n c a) (h' : Num w w.heap.size A' n' c' b) (hn : n ≤ 100000000) (hn' : n' ≤ 100000000) :
   Calls Tryz.prog 67 #[.slice A n c, .slice A' n' c'] w (RetNum w (a + b)) := by
 obtain ⟨i0, hi, hz0, hz1, hz2⟩ := info_parts info_limb
 have H := Lib.hid h
 have H' := Lib.hid h'
 clear h h'
 obtain ⟨M, hM1, hM2, hM3⟩ : ∃ M, n ≤ M ∧ n' ≤ M ∧ ((n < n' ∧ M ≤ n') ∨ (n' ≤ n ∧ M ≤ n)) := ⟨max n n', by omega, by omega, by omega⟩
 have PA := Lib.hid (pow_of_len H.out.len hM1)
 have PB := Lib.hid (pow_of_len H'.out.len hM2)
 rcases hM3 with ⟨hle, hM3⟩ | ⟨hle, hM3⟩
 all_goals
   go_enter Tryz.func67, Tryz.ntmps67
   go_wp2
   go_loopw [5, 6, 7] (fun v ov iv wr => ∃ (i o : Nat) (A2 : Option Addr) (c2 : Nat) (zs : List Nat), i ≤ M + 1 ∧ iv = .int .i64 i ∧ ov = .int .u64 o ∧ v = .slice A2 i c2 ∧ o ≤ 1 ∧ wr.ownsRow w.heap.size 75 1 (.slice A2 i c2) i (vals zs) ∧ limbs zs ∧ val zs + 1000000000 ^ i * o + 1000000000 ^ i * (val ((dg a).drop i) + val ((dg b).drop i)) = a + b ∧ Below w.heap.size w wr) (fun _ _ iv _ => M + 1 - (intOf iv).toNat)
   case atStart => exact ⟨0, 0, none, 0, [], Nat.zero_le _, rfl, rfl, rfl, Nat.zero_le _, World.ownsRow_nil _ _ _ _, limbs_nil, by rw [List.drop_zero, List.drop_zero, val_dg, val_dg]; simp [val], Below.refl _ _⟩
   case round =>
     obtain ⟨i, o, A2, c2, zs, hi1, rfl, rfl, rfl, ho, hown, hlim, hval, hb⟩ := hrel
     have HO := Lib.hid hown
     have HL := Lib.hid hlim
     have HV := Lib.hid hval
     have HB := Lib.hid hb
     have HZ : Hid (zs.length = i) := by have := hown.1; rw [vals_len, Nat.mul_one] at this; exact this
     clear hown hlim hval hb
     rcases Nat.lt_or_ge i (M + 1) with hin | hin
     · have hx := gd_lt (limbs_dg a) i
       have hy := gd_lt (limbs_dg b) i
       have H1 := Lib.hid (H.out.below HB.out)
       have H1' := Lib.hid (H'.out.below HB.out)
       go_wp2_with (first | (go_at_call 95; first | ((with_reducible refine (at_any A n c i _ (dg a) _ H1.out).mono ?_); rintro e w' ⟨rfl, rfl⟩) | ((with_reducible refine (at_any A' n' c' i _ (dg b) _ H1'.out).mono ?_); rintro e w' ⟨rfl, rfl⟩)) | (at_builtin; go_must (refine wpList_append_lim rfl (.tmp 28) (.tmp 32) 22 22 rfl w.heap.size 75 75 i0 Tryz.underlying22 Tryz.underlying22 hi hz0 hz1 hz2 A2 i c2 zs rfl (HO.out.alloc _) _ _ 1 1 [(o + (gd (dg a) i + gd (dg b) i)) % 1000000000] rfl (Lim.one _ _ _ (by omega) (by omega) _) (by omega) (Nat.le_trans HB.out.size (by simp)) ?_; intro A3 c3 w3 hown hgr)))
       go_roundw
       case rel =>
         exact ⟨i + 1, (o + (gd (dg a) i + gd (dg b) i)) / 1000000000, A3, c3, _, by omega, by go_num, by go_num, rfl, by omega, hown, limbs_append.2 ⟨HL.out, limbs_cons.2 ⟨by omega, limbs_nil⟩⟩, refAdd_step HZ.out HV.out rfl, (HB.out.alloc HB.out.size _).grown hgr (Nat.le_trans HB.out.size (by simp)) (fun g hg => (HO.out.lt g hg).1)⟩
       case measure => simp [intOf]; omega
     · obtain rfl : i = M + 1 := by omega
       have HE := Lib.hid (refAdd_end HV.out rfl (by rw [H.out.len]; omega) (by rw [H'.out.len]; omega) PA.out PB.out)
       have HT : Hid (Calls Tryz.prog 96 #[.slice A2 (M + 1) c2] wr (RetLim wr (dg (val zs)))) :=
         refTrim_any (M + 1) A2 (M + 1) c2 zs wr (Lim.of_own HO.out (fun x hx => by have := HL.out x hx; omega)) HL (Nat.le_refl _) (by omega)
       go_wp2_with (go_at_call 96; go_must (refine HT.out.mono ?_; rintro e w' ⟨A3, n3, c3, rfl, h3, hb3⟩; have H3 := Lib.hid h3; have HB3 := Lib.hid hb3; clear h3 hb3))
       go_ret
       exact ⟨_, _, _, rfl, by rw [← HE.out]; exact H3.out, HB.out.trans (HB3.out.mono HB.out.size)⟩
theorem refSub_ge (A A' : Option Addr) (n c n' c' a b : Nat) (w : World) (h : Num w w.heap.size A n c a) (h' : Num w w.heap.size A' n' c' b) (hn : n ≤ 100000000) (hab : b ≤ a) :
   Calls Tryz.prog 69 #[.slice A n c, .slice A' n' c'] w (RetSub w (a - b)) := by
 obtain ⟨i0, hi, hz0, hz1, hz2⟩ := info_parts info_limb
 have HAB := Lib.hid hab
 have hnn : n' ≤ n := by have := dg_len_mono hab; rw [h.len, h'.len] at this; exact this
 have H := Lib.hid h
 have H' := Lib.hid h'
 have C := refCmp_any A A' n c n' c' a b w h h'
 have hc : 0 ≤ cmpN a b := by
   rcases Int.lt_or_le (cmpN a b) 0 with h1 | h1
   · rw [cmpN_neg] at h1; omega
   · exact h1
 clear h h' hab
 have CC := Lib.hid C
 clear C
 generalize cmpN a b = s at *
 go_enter Tryz.func69, Tryz.ntmps69
 go_wp2_with (go_at_call 68; refine CC.out.mono ?_; rintro e w1 ⟨rfl, hb1⟩; have HB1 := Lib.hid hb1; clear hb1)
 clear hc CC
 go_loopw [6, 7, 8] (fun v lv iv wr => ∃ (i l : Nat) (A2 : Option Addr) (c2 : Nat) (zs : List Nat), i ≤ n ∧ iv = .int .i64 i ∧ lv = .int .u64 l ∧ v = .slice A2 i c2 ∧ l ≤ 1 ∧ wr.ownsRow w.heap.size 75 1 (.slice A2 i c2) i (vals zs) ∧ limbs zs ∧ val zs + 1000000000 ^ i * val ((dg a).drop i) + b = a + l * 1000000000 ^ i + 1000000000 ^ i * val ((dg b).drop i) ∧ Below w.heap.size w wr) (fun _ _ iv _ => n - (intOf iv).toNat)
 case atStart => exact ⟨0, 0, none, 0, [], Nat.zero_le _, rfl, rfl, rfl, Nat.zero_le _, World.ownsRow_nil _ _ _ _, limbs_nil, by rw [List.drop_zero, List.drop_zero, val_dg, val_dg]; simp [val], HB1.out⟩
 case round =>
   obtain ⟨i, l, A2, c2, zs, hi1, rfl, rfl, rfl, ho, hown, hlim, hval, hb⟩ := hrel
   have HO := Lib.hid hown
   have HL := Lib.hid hlim
   have HV := Lib.hid hval
   have HB := Lib.hid hb
   have HZ : Hid (zs.length = i) := by have := hown.1; rw [vals_len, Nat.mul_one] at this; exact this
   clear hown hlim hval hb
   rcases Nat.lt_or_ge i n with hin | hin
   · have hx := gd_lt (limbs_dg a) i
     have hy := gd_lt (limbs_dg b) i
     have H1 := Lib.hid (H.out.below HB.out)
     have H1' := Lib.hid (H'.out.below HB.out)
     go_wp2_with (first | (go_at_call 95; first | ((with_reducible refine (at_any A n c i _ (dg a) _ H1.out).mono ?_); rintro e w' ⟨rfl, rfl⟩) | ((with_reducible refine (at_any A' n' c' i _ (dg b) _ H1'.out).mono ?_); rintro e w' ⟨rfl, rfl⟩)) | (at_builtin; go_must (refine wpList_append_lim rfl (.tmp 32) (.tmp 36) 22 22 rfl w.heap.size 75 75 i0 Tryz.underlying22 Tryz.underlying22 hi hz0 hz1 hz2 A2 i c2 zs rfl (HO.out.alloc _) _ _ 1 1 [(gd (dg a) i + 1000000000 - gd (dg b) i - l) % 1000000000] rfl (Lim.one _ _ _ (by omega) (by omega) _) (by omega) (Nat.le_trans HB.out.size (by simp)) ?_; intro A3 c3 w3 hown hgr)))
     go_roundw
     case rel =>
       have hq : (gd (dg a) i + 1000000000 - gd (dg b) i - l) / 1000000000 ≤ 1 := by omega
       exact ⟨i + 1, 1 - (gd (dg a) i + 1000000000 - gd (dg b) i - l) / 1000000000, A3, c3, _, by omega, by go_num, ret_u64 (by omega), rfl, by omega, hown, limbs_append.2 ⟨HL.out, limbs_cons.2 ⟨by omega, limbs_nil⟩⟩, refSub_step HZ.out HV.out (by omega) hq, (HB.out.alloc HB.out.size _).grown hgr (Nat.le_trans HB.out.size (by simp)) (fun g hg => (HO.out.lt g hg).1)⟩
     case measure => simp [intOf]; omega
   · obtain rfl : i = n := by omega
     have HE := Lib.hid (refSub_end HV.out HL.out HZ.out rfl (by rw [H.out.len]; omega) (by rw [H'.out.len]; omega) HAB.out)
     have HT : Hid (Calls Tryz.prog 96 #[.slice A2 i c2] wr (RetLim wr (dg (val zs)))) :=
       refTrim_any i A2 i c2 zs wr (Lim.of_own HO.out (fun x hx => by have := HL.out x hx; omega)) HL (Nat.le_refl _) (by omega)
     go_wp2_with (go_at_call 96; go_must (refine HT.out.mono ?_; rintro e w' ⟨A3, n3, c3, rfl, h3, hb3⟩; have H3 := Lib.hid h3; have HB3 := Lib.hid hb3; clear h3 hb3))
     go_ret2
     exact ⟨_, _, _, rfl, by rw [← HE.out]; exact H3.out, HB.out.trans (HB3.out.mono HB.out.size)⟩
end Go.Proofs.YthlhpgphmfnlgaaGreat
/-
 The law's own examples (awake) answer true, whatever the memory.
-/
namespace Go.Proofs.YthlhpgphmfnlgaaGreat
open Go.RowKit
def Env (w0 w : World) (l : List (Option Addr × Nat × Nat × Nat)) : Prop :=
 Below w0.heap.size w0 w ∧ ∀ q ∈ l, Num w w.heap.size q.1 q.2.1 q.2.2.1 q.2.2.2
theorem Env.get {w0 w : World} {l : List (Option Addr × Nat × Nat × Nat)} (h : Hid (Env w0 w l)) {A : Option Addr} {n c a : Nat} (hm : (A, n, c, a) ∈ l) : Num w w.heap.size A n c a := h.out.2 _ hm
theorem Env.step {w0 w w' : World} {l : List (Option Addr × Nat × Nat × Nat)} (h : Hid (Env w0 w l)) (hb : Below w.heap.size w w') : Hid (Env w0 w' l) :=
 ⟨h.out.1.trans (hb.mono h.out.1.size), fun q hq => ((h.out.2 q hq).below hb).more hb.size⟩
theorem Env.push {w0 w w' : World} {l : List (Option Addr × Nat × Nat × Nat)} (h : Hid (Env w0 w l)) (hb : Below w.heap.size w w') {A : Option Addr} {n c a : Nat} (hn : Num w' w'.heap.size A n c a) : Hid (Env w0 w' ((A, n, c, a) :: l)) := by
 have h2 := Env.step h hb
 refine ⟨h2.out.1, fun q hq => ?_⟩
 rcases List.mem_cons.1 hq with rfl | hq
 · exact hn
 · exact h2.out.2 q hq
theorem mk_any (N : Nat) (v : Int) (hv : v = N) (hN : N < 18446744073709551616) (w : World) : Calls Tryz.prog 49 #[.int .u64 v] w (RetNum w N) := by
 subst hv; exact make_any N hN w
theorem cmp_is {s : Int} {A A' : Option Addr} {n c n' c' a b : Nat} {w : World} (h : Num w w.heap.size A n c a) (h' : Num w w.heap.size A' n' c' b) (hs : cmpN a b = s) :
   Calls Tryz.prog 63 #[.slice A n c, .slice A' n' c'] w (RetVal w (.int .i64 s)) := by
 subst hs; exact cmp_any A A' n c n' c' a b w h h'
theorem even_is {A : Option Addr} {n c a B : Nat} {w : World} {t : Bool} (h : Num w B A n c a) (hs : decide (a % 2 = 0) = t) :
   Calls Tryz.prog 104 #[.slice A n c] w fun e w' => e = .returned (.bool t) ∧ w = w' := by
 subst hs; exact even_any A n c B a w h
theorem add_is {A A' : Option Addr} {n c n' c' a b m : Nat} {w : World} (h : Num w w.heap.size A n c a) (h' : Num w w.heap.size A' n' c' b) (hn : n ≤ 1000000000) (hn' : n' ≤ 1000000000) (hm : a + b = m) :
   Calls Tryz.prog 62 #[.slice A n c, .slice A' n' c'] w (RetNum w m) := by
 subst hm; exact add_any A A' n c n' c' a b w h h' hn hn'
theorem sub_is {A A' : Option Addr} {n c n' c' a b m : Nat} {w : World} (h : Num w w.heap.size A n c a) (h' : Num w w.heap.size A' n' c' b) (hn : n ≤ 1000000000) (hab : b ≤ a) (hm : a - b = m) :
   Calls Tryz.prog 64 #[.slice A n c, .slice A' n' c'] w (RetSub w m) := by
 subst hm; exact sub_ge A A' n c n' c' a b w h h' hn hab
theorem trim_is {A : Option Addr} {n c m : Nat} {xs : List Nat} {w : World} (h : Lim w w.heap.size A n c xs) (hx : limbs xs) (hn : n ≤ 1000000000) (hm : val xs = m) :
   Calls Tryz.prog 53 #[.slice A n c] w (RetNum w m) := by
 subst hm; exact trim_any A n c xs w h hx hn
def n1 : Nat := 1000000005
def n2 : Nat := 999999999
def n3 : Nat := 2000000004
end Go.Proofs.YthlhpgphmfnlgaaGreat
/-
 The walks of the laws NatRing and NatOrder.
-/
namespace Go.Proofs.YthlhpgphmfnlgaaGreat
open Go.RowKit
end Go.Proofs.YthlhpgphmfnlgaaGreat
