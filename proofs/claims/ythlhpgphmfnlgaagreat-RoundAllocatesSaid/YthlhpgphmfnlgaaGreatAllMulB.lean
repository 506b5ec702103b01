/- What the proofs of this layer need of the layer Mul, in one text. -/
import Derived.Test.YthlhpgphmfnlgaaGreatAllNatE
import Derived.Test.YthlhpgphmfnlgaaGreatAllNatD
import Derived.Test.YthlhpgphmfnlgaaGreatAllMulA
set_option maxRecDepth 100000
set_option maxHeartbeats 32000000
set_option linter.unusedVariables false
set_option linter.unusedSimpArgs false
/-
 Contracts of layer 2, the first part: cut, addRow, add: what is written into a room.
-/
namespace Go.Proofs.YthlhpgphmfnlgaaGreat
open Go.RowKit
structure Kept (g : Nat) (w w' : World) : Prop where
 os : w'.os = w.os
 tape : w'.tape = w.tape
 output : w'.output = w.output
 size : w'.heap.size = w.heap.size
 block : ∀ k, k ≠ g → w'.heap[k]? = w.heap[k]?
theorem Kept.refl (g : Nat) (w : World) : Kept g w w := ⟨rfl, rfl, rfl, rfl, fun _ _ => rfl⟩
theorem Kept.trans {g : Nat} {a b c : World} (h : Kept g a b) (k : Kept g b c) : Kept g a c :=
 ⟨k.os.trans h.os, k.tape.trans h.tape, k.output.trans h.output, k.size.trans h.size, fun i hi => (k.block i hi).trans (h.block i hi)⟩
theorem Kept.drew {g : Nat} {a w : World} (h : Kept g a w) : Kept g a w.drew := ⟨h.os, h.tape, h.output, h.size, h.block⟩
theorem Kept.setCell {g : Nat} {a w : World} (h : Kept g a w) (o : Nat) (u : Value) : Kept g a (w.setCell ⟨g, o, none⟩ u) :=
 h.trans ⟨rfl, rfl, rfl, by simp [World.setCell], fun k hk => Below.heap_setCell _ _ _ _ hk⟩
theorem Kept.below {g B : Nat} {a w : World} (h : Kept g a w) (hB : B ≤ g) : Below B a w := ⟨h.os, h.tape, h.output, Nat.le_of_eq h.size.symm, fun k hk => h.block k (by omega)⟩
theorem Kept.cell {g : Nat} {w w' : World} (h : Kept g w w') {p : Addr} (hp : p.block ≠ g) : w'.cell? p = w.cell? p := World.cell?_of_block (w := w) (h.block p.block hp)
def Off (g : Nat) (A : Option Addr) : Prop := ∀ ad, A = some ad → ad.block ≠ g
theorem Lim.off {w : World} {B n c g : Nat} {A : Option Addr} {xs : List Nat} (h : Lim w B A n c xs) (hB : B ≤ g) (hn : 0 < n) : Off g A := by
 intro ad hA
 obtain ⟨b, o, he, hb, _⟩ := h.at_ hn
 rw [hA] at he
 injection he with he
 subst he
 show b ≠ g
 omega
theorem Lim.kept {w w' : World} {B n c g : Nat} {A : Option Addr} {xs : List Nat} (h : Lim w B A n c xs) (ho : 0 < n → Off g A) (k : Kept g w w') : Lim w' B A n c xs := by
 refine ⟨h.len, h.cap, h.room, h.fit, ?_, h.addr⟩
 rcases Nat.eq_zero_or_pos n with h0 | h0
 · subst h0; left; rw [List.eq_nil_of_length_eq_zero h.len]; rfl
 replace ho := ho h0
 rcases h.row with h0 | ⟨b, o, rfl, hb, hc⟩
 · exact .inl h0
 · exact .inr ⟨b, o, rfl, hb, fun j u hu => (k.cell (p := ⟨b, o + j, none⟩) (ho ⟨b, o, none⟩ rfl)).trans (hc j u hu)⟩
def cutV (A : Option Addr) (n : Nat) : Value := if n = 0 then .slice none 0 0 else .slice A n n
theorem cutV_lim {A : Option Addr} {n c B : Nat} {xs : List Nat} {w : World} (h : Lim w B A n c xs) (hx : limbs xs) : ∃ A' n' c', cutV A (dg (val xs)).length = .slice A' n' c' ∧ n' ≤ n ∧ (A' = none ∨ A' = A) ∧ Lim w B A' n' c' (dg (val xs)) := by
 have hlen : (dg (val xs)).length ≤ n := by
   have := dg_len_le (val_lt hx)
   rwa [h.len] at this
 unfold cutV
 by_cases h0 : (dg (val xs)).length = 0
 · rw [if_pos h0, List.eq_nil_of_length_eq_zero h0]
   exact ⟨none, 0, 0, rfl, Nat.zero_le _, .inl rfl, Lim.nil⟩
 · rw [if_neg h0]
   have e : dg (val xs) = xs.take (dg (val xs)).length := by
     have hz : ∀ j, (dg (val xs)).length ≤ j → gd xs j = 0 := by
       intro j hj
       have e := val_take_drop xs (dg (val xs)).length (by rw [h.len]; exact hlen)
       have hd : val (xs.drop (dg (val xs)).length) = 0 := by
         rcases Nat.eq_zero_or_pos (val (xs.drop (dg (val xs)).length)) with h1 | h1
         · exact h1
         · have h2 := lt_pow_dg (val xs)
           have h3 : 1000000000 ^ (dg (val xs)).length * 1 ≤ 1000000000 ^ (dg (val xs)).length * val (xs.drop (dg (val xs)).length) := Nat.mul_le_mul_left _ h1
           generalize 1000000000 ^ (dg (val xs)).length = P at *
           omega
       have : ∀ k ys, val ys = 0 → gd ys k = 0 := by
         intro k
         induction k with
         | zero => intro ys hy; have := val_drop ys 0; rw [List.drop_zero] at this; omega
         | succ k ih =>
           intro ys hy
           have := val_drop ys 0
           rw [List.drop_zero, Nat.zero_add] at this
           have := ih (ys.drop 1) (by omega)
           rwa [gd_drop, Nat.add_comm 1 k] at this
       have h4 := this (j - (dg (val xs)).length) _ hd
       rwa [gd_drop, Nat.add_sub_cancel' hj] at h4
     refine dg_cut hx hz (.inr ?_) (by rw [h.len]; exact hlen)
     intro hl
     have e1 := val_take_drop xs ((dg (val xs)).length - 1) (by rw [h.len]; omega)
     have hz2 : val (xs.drop ((dg (val xs)).length - 1)) = 0 := by
       have : ∀ k i, xs.length - i = k → (dg (val xs)).length - 1 ≤ i → val (xs.drop i) = 0 := by
         intro k
         induction k with
         | zero => intro i hk _; rw [List.drop_of_length_le (by omega)]; rfl
         | succ k ih =>
           intro i hk hi
           rw [val_drop, ih (i + 1) (by omega) (by omega)]
           rcases Nat.eq_or_lt_of_le hi with h5 | h5
           · rw [← h5, hl]
           · rw [hz i (by omega)]
       exact this _ _ rfl (Nat.le_refl _)
     rw [hz2, Nat.mul_zero, Nat.add_zero] at e1
     have h6 := val_lt (limbs_take hx ((dg (val xs)).length - 1))
     rw [← e1, List.length_take, h.len, Nat.min_eq_left (by omega)] at h6
     have := dg_len_le h6
     omega
   have ht := h.take hlen
   rw [← e] at ht
   exact ⟨A, _, _, rfl, hlen, .inr rfl, ⟨ht.len, Nat.le_refl _, Nat.le_trans ht.cap ht.room, ht.fit, ht.row, fun hA => by have := ht.addr hA; have := ht.cap; omega⟩⟩
theorem cut_len {xs : List Nat} {n : Nat} (hx : limbs xs) (hz : ∀ j, n ≤ j → gd xs j = 0) (hn : n = 0 ∨ gd xs (n - 1) ≠ 0) (hle : n ≤ xs.length) : (dg (val xs)).length = n := by
 rw [dg_cut hx hz hn hle, List.length_take]; omega
theorem mcut_q (A : Option Addr) (n c B : Nat) (xs : List Nat) (w : World) (h : Lim w B A n c xs) (hx : limbs xs) :
   Calls Tryz.prog 91 #[.slice A n c] w fun e w' => e = .returned (cutV A (dg (val xs)).length) ∧ w' = w := by
 have hm := h.room
 have hn := h.cap
 unfold maxLen at hm
 have Z : Hid (∀ j, n ≤ j → gd xs j = 0) := fun j hj => gd_of_ge (by rw [h.len]; exact hj)
 go_enter Tryz.func91, Tryz.ntmps91
 go_wp2
 go_loop [3] (fun i => ∃ k : Nat, k ≤ n ∧ i = .int .i64 k ∧ ∀ j, k ≤ j → gd xs j = 0) (fun i => (intOf i).toNat)
 case atStart => exact ⟨n, Nat.le_refl _, rfl, Z.out⟩
 case round =>
   obtain ⟨k, hk, rfl, hall⟩ := hrel
   have HALL := Lib.hid hall
   have H := Lib.hid h
   have hg := h.gd_lt (k - 1)
   clear hall Z
   rcases Nat.eq_zero_or_pos k with h0 | h0
   · subst h0
     clear h hg
     go_wp2
     go_ret
     exact ⟨by rw [cut_len hx HALL.out (.inl rfl) (Nat.zero_le _)]; rfl, rfl⟩
   · obtain ⟨b, o, rfl, _, hc⟩ := h.at_ (show k - 1 < n by omega)
     clear h
     by_cases hz : gd xs (k - 1) = 0
     · go_wp2
       go_round
       case rel =>
         refine ⟨k - 1, by omega, by go_num, fun j hj => ?_⟩
         rcases Nat.lt_or_ge j k with h1 | h1
         · obtain rfl : j = k - 1 := by omega
           exact hz
         · exact HALL.out j h1
       case measure => simp [intOf]; omega
     · go_wp2
       go_ret
       exact ⟨by rw [cut_len hx HALL.out (.inr hz) (by have := H.out.len; omega), cutV, if_neg (by omega)]; rfl, rfl⟩
theorem mcut_any (A : Option Addr) (n c B : Nat) (xs : List Nat) (w : World) (h : Lim w B A n c xs) (hx : limbs xs) :
   Calls Tryz.prog 91 #[.slice A n c] w fun e w' => (∃ A' n' c', e = .returned (.slice A' n' c') ∧ n' ≤ n ∧ (A' = none ∨ A' = A) ∧ Lim w B A' n' c' (dg (val xs))) ∧ w = w' := by
 refine (mcut_q A n c B xs w h hx).mono ?_
 rintro e w' ⟨rfl, rfl⟩
 obtain ⟨A', n', c', he, h1, h2, h3⟩ := cutV_lim h hx
 exact ⟨⟨A', n', c', by rw [he], h1, h2, h3⟩, rfl⟩
theorem row_step {zs bs : List Nat} {i k l cy T : Nat} (h : val zs + 1000000000 ^ (i + k) * (cy + l * val (bs.drop k)) = T) (hk : i + k < zs.length) :
   val (zs.set (i + k) ((gd zs (i + k) + gd bs k * l + cy) % 1000000000)) + 1000000000 ^ (i + (k + 1)) * ((gd zs (i + k) + gd bs k * l + cy) / 1000000000 + l * val (bs.drop (k + 1))) = T := by
 rw [← Nat.add_assoc i k 1]
 refine acc_step h hk ?_
 rw [val_drop bs k, Nat.mul_add, Nat.mul_comm l (gd bs k), Nat.mul_left_comm l 1000000000]
 omega
theorem row_end {zs bs : List Nat} {i k l cy T : Nat} (h : val zs + 1000000000 ^ (i + k) * (cy + l * val (bs.drop k)) = T) (hk : i + k < zs.length) (hb : bs.length ≤ k) (hz : gd zs (i + k) = 0) :
   val (zs.set (i + k) cy) = T := by
 have := acc_step (v := cy) (R' := 0) h hk (by rw [hz, List.drop_of_length_le hb]; simp [val])
 rw [Nat.mul_zero, Nat.add_zero] at this
 exact this
theorem row_mul_le {y l : Nat} (hy : y < 1000000000) (hl : l < 1000000000) : y * l ≤ 999999998000000001 :=
 Nat.le_trans (Nat.mul_le_mul (show y ≤ 999999999 by omega) (show l ≤ 999999999 by omega)) (by omega)
def RetRoom (W : World) (g len v : Nat) (e : Ending) (w' : World) : Prop :=
 ∃ zs, e = .returned (.tuple #[]) ∧ Own w' g zs ∧ zs.length = len ∧ limbs zs ∧ val zs = v ∧ Kept g W w'
theorem addRow_any (A' : Option Addr) (g i n' c' m l b : Nat) (zs : List Nat) (w : World) (ho : Hid (Own w g zs)) (hl : Hid (limbs zs)) (hm : zs.length = m) (him : i + n' + 1 ≤ m) (_hmm : m ≤ 1000000000) (hz : gd zs (i + n') = 0)
   (h' : Num w g A' n' c' b) (hlim : l < 1000000000) :
   Calls Tryz.prog 113 #[.slice (some ⟨g, i, none⟩) (n' + 1) (n' + 1), .slice A' n' c', .int .u32 l] w (RetRoom w g m (val zs + 1000000000 ^ i * (l * b))) := by
 have hm' := h'.room
 have hn' := h'.cap
 unfold maxLen at hm'
 have H' := Lib.hid h'
 have HM := Lib.hid hm
 have HZ := Lib.hid hz
 clear h' hm hz
 go_enter Tryz.func113, Tryz.ntmps113
 go_wp2
 go_loopw [6, 11] (fun cv iv wr => ∃ (k cy : Nat) (ys : List Nat), k ≤ n' ∧ iv = .int .i64 k ∧ cv = .int .u64 cy ∧ cy < 1000000000 ∧ ys.length = m ∧ limbs ys ∧ gd ys (i + n') = 0 ∧ val ys + 1000000000 ^ (i + k) * (cy + l * val ((dg b).drop k)) = val zs + 1000000000 ^ i * (l * b) ∧ Own wr g ys ∧ Kept g w wr) (fun _ iv _ => n' - (intOf iv).toNat)
 case atStart =>
   exact ⟨0, 0, zs, Nat.zero_le _, rfl, rfl, by omega, HM.out, hl.out, HZ.out, by rw [List.drop_zero, val_dg, Nat.add_zero, Nat.zero_add], ho.out, Kept.refl _ _⟩
 case round =>
   obtain ⟨k, cy, ys, hk, rfl, rfl, hcy, hlen, hly, hzy, hval, hown, hkp⟩ := hrel
   have OW := Lib.hid hown
   have HL := Lib.hid hly
   have HV := Lib.hid hval
   have HK := Lib.hid hkp
   have LN := Lib.hid hlen
   have HZY := Lib.hid hzy
   clear hown hly hval hkp hlen hzy
   rcases Nat.lt_or_ge k n' with hkn | hkn
   · have hcell := OW.out.cell (i := i + k) (by rw [LN.out]; omega)
     have hfr := OW.out.frozen (i + k)
     have hx := gd_lt HL.out (i + k)
     obtain ⟨b2, o2, rfl, _, hc2⟩ := (H'.out.below (HK.out.below (Nat.le_refl _))).at_ hkn
     have hy := gd_lt (limbs_dg b) k
     have hp := row_mul_le hy hlim
     have E : Hid (((gd (dg b) k : Nat) : Int) * (l : Nat) = ((gd (dg b) k * l : Nat) : Int)) := by show _ = _; rw [Int.natCast_mul]
     have hp0 : 0 ≤ ((gd (dg b) k : Nat) : Int) * (l : Nat) := by rw [E.out]; omega
     have hp1 : ((gd (dg b) k : Nat) : Int) * (l : Nat) ≤ 999999998000000001 := by rw [E.out]; omega
     clear hp
     go_wp2
     go_region
     go_wp2
     go_roundw
     case rel =>
       have hpn : gd (dg b) k * l ≤ 999999998000000001 := row_mul_le hy hlim
       have ev : ((gd ys (i + k) : Nat) : Int) + ((gd (dg b) k : Nat) : Int) * (l : Nat) + (cy : Nat) = ((gd ys (i + k) + gd (dg b) k * l + cy : Nat) : Int) := by rw [E.out]; omega
       rw [ev]
       have HR := row_step HV.out (show i + k < ys.length by rw [LN.out]; omega)
       generalize gd ys (i + k) + gd (dg b) k * l + cy = t at *
       have ht : t < 1000000000000000000 := by omega
       exact ⟨k + 1, t / 1000000000, ys.set (i + k) (t % 1000000000), by omega, by go_num, rfl, by omega, by rw [List.length_set]; exact LN.out, limbs_set HL.out _ (by omega), by rw [gd_set _ _ _ _ (by rw [LN.out]; omega), if_neg (by omega)]; exact HZY.out, HR, (OW.out.store (i + k) (t % 1000000000) _ rfl).drew, (HK.out.setCell _ _).drew⟩
     case measure => simp [intOf]; omega
   · obtain rfl : k = n' := by omega
     have hcell := OW.out.cell (i := i + k) (by rw [LN.out]; omega)
     have hfr := OW.out.frozen (i + k)
     go_wp2
     go_end0
     exact ⟨ys.set (i + k) cy, rfl, OW.out.store (i + k) cy _ (by omega), by rw [List.length_set]; exact LN.out, limbs_set HL.out _ hcy, row_end HV.out (by rw [LN.out]; omega) (by rw [H'.out.len]; exact Nat.le_refl _) HZY.out, HK.out.setCell _ _⟩
theorem sum_step {zs xs : List Nat} {o k cy T : Nat} (h : val zs + 1000000000 ^ (o + k) * (cy + val (xs.drop k)) = T) (hk : o + k < zs.length) :
   val (zs.set (o + k) ((gd zs (o + k) + cy + gd xs k) % 1000000000)) + 1000000000 ^ (o + (k + 1)) * ((gd zs (o + k) + cy + gd xs k) / 1000000000 + val (xs.drop (k + 1))) = T := by
 rw [← Nat.add_assoc o k 1]
 refine acc_step h hk ?_
 rw [val_drop xs k]
 omega
theorem sum_end {zs xs : List Nat} {k j T : Nat} (h : val zs + 1000000000 ^ j * (0 + val (xs.drop k)) = T) (hk : xs.length ≤ k) : val zs = T := by
 rw [List.drop_of_length_le hk, val, Nat.add_zero, Nat.mul_zero] at h
 exact h
theorem madd_any (A A' : Option Addr) (g o r n' c' m a B : Nat) (zs : List Nat) (w : World) (ho : Hid (Own w g zs)) (hl : Hid (limbs zs)) (hm : zs.length = m) (hor : o + r = m) (hmm : m ≤ 1000000000) (hA : 0 < r → A = some ⟨g, o, none⟩)
   (h' : Num w B A' n' c' a) (hoff : 0 < n' → Off g A') (hfit : val zs + 1000000000 ^ o * a < 1000000000 ^ m) (cr : Nat) (hcr : r ≤ cr) :
   Calls Tryz.prog 90 #[.slice A r cr, .slice A' n' c'] w (RetRoom w g m (val zs + 1000000000 ^ o * a)) := by
 have hm' := h'.room
 have hn' := h'.cap
 unfold maxLen at hm'
 have H' := Lib.hid h'
 have HM := Lib.hid hm
 have HF := Lib.hid hfit
 have HO := Lib.hid hoff
 have HA := Lib.hid hA
 clear h' hm hfit hoff hA
 go_enter Tryz.func90, Tryz.ntmps90
 go_wp2
 go_loopw [4, 9] (fun cv iv wr => ∃ (k cy : Nat) (ys : List Nat), k ≤ r ∧ iv = .int .i64 k ∧ cv = .int .u32 cy ∧ cy ≤ 1 ∧ ys.length = m ∧ limbs ys ∧ val ys + 1000000000 ^ (o + k) * (cy + val ((dg a).drop k)) = val zs + 1000000000 ^ o * a ∧ Own wr g ys ∧ Kept g w wr) (fun _ iv _ => r - (intOf iv).toNat)
 case atStart =>
   exact ⟨0, 0, zs, Nat.zero_le _, rfl, rfl, by omega, HM.out, hl.out, by rw [List.drop_zero, val_dg, Nat.add_zero, Nat.zero_add], ho.out, Kept.refl _ _⟩
 case round =>
   obtain ⟨k, cy, ys, hk, rfl, rfl, hcy, hlen, hly, hval, hown, hkp⟩ := hrel
   have OW := Lib.hid hown
   have HL := Lib.hid hly
   have HV := Lib.hid hval
   have HK := Lib.hid hkp
   have LN := Lib.hid hlen
   clear hown hly hval hkp hlen
   rcases Nat.lt_or_ge k r with hkr | hkr
   · obtain rfl := HA.out (by omega)
     have hcell := OW.out.cell (i := o + k) (by rw [LN.out]; omega)
     have hfr := OW.out.frozen (o + k)
     have hx := gd_lt HL.out (o + k)
     rcases Nat.lt_or_ge k n' with hkn | hkn
     · obtain ⟨b2, o2, rfl, _, hc2⟩ := (H'.out.kept HO.out HK.out).at_ hkn
       have hy := gd_lt (limbs_dg a) k
       go_wp2
       go_roundw
       case rel =>
         have ev : (((gd ys (o + k) : Nat) : Int) + (cy : Nat) + ((gd (dg a) k : Nat) : Int)) = ((gd ys (o + k) + cy + gd (dg a) k : Nat) : Int) := by omega
         rw [ev]
         have HR := sum_step HV.out (show o + k < ys.length by rw [LN.out]; omega)
         generalize gd ys (o + k) + cy + gd (dg a) k = t at *
         have ht : t < 2000000000 := by omega
         exact ⟨k + 1, t / 1000000000, ys.set (o + k) (t % 1000000000), by omega, by go_num, rfl, by omega, by rw [List.length_set]; exact LN.out, limbs_set HL.out _ (by omega), HR, OW.out.store (o + k) (t % 1000000000) _ rfl, HK.out.setCell _ _⟩
       case measure => simp [intOf]; omega
     · rcases Nat.eq_zero_or_pos cy with h0 | h0
       · subst h0
         go_wp2
         refine bodyPost_ret (results_none rfl _ _ _) rfl ?_
         have hT := sum_end HV.out (show (dg a).length ≤ k by rw [H'.out.len]; exact hkn)
         exact ⟨ys, rfl, OW.out, LN.out, HL.out, hT, HK.out⟩
       · obtain rfl : cy = 1 := by omega
         go_wp2
         go_roundw
         case rel =>
           have ev : (((gd ys (o + k) : Nat) : Int) + 1) = ((gd ys (o + k) + 1 : Nat) : Int) := by omega
           rw [ev]
           have HR := sum_step HV.out (show o + k < ys.length by rw [LN.out]; omega)
           have hz : gd (dg a) k = 0 := gd_of_ge (by rw [H'.out.len]; exact hkn)
           rw [hz, Nat.add_zero] at HR
           clear hz
           generalize gd ys (o + k) + 1 = t at *
           have ht : t < 2000000000 := by omega
           exact ⟨k + 1, t / 1000000000, ys.set (o + k) (t % 1000000000), by omega, by go_num, rfl, by omega, by rw [List.length_set]; exact LN.out, limbs_set HL.out _ (by omega), HR, OW.out.store (o + k) (t % 1000000000) _ rfl, HK.out.setCell _ _⟩
         case measure => simp [intOf]; omega
   · obtain rfl : k = r := by omega
     go_wp2
     go_end0
     have hT := acc_end HV.out (by rw [hor]; exact HF.out)
     exact ⟨ys, rfl, OW.out, LN.out, HL.out, hT, HK.out⟩
end Go.Proofs.YthlhpgphmfnlgaaGreat
/-
 Contracts of layer 2, the second part: Mul, Times.
-/
namespace Go.Proofs.YthlhpgphmfnlgaaGreat
open Go.RowKit
def RetFresh (W : World) (xs : List Nat) (e : Ending) (w' : World) : Prop :=
 ∃ A n c, e = .returned (.slice A n c) ∧ Lim w' w'.heap.size A n c xs ∧ (∀ ad, A = some ad → W.heap.size ≤ ad.block) ∧ Below W.heap.size W w'
abbrev RetNew (W : World) (a : Nat) (e : Ending) (w' : World) : Prop := RetFresh W (dg a) e w'
theorem RetFresh.lim {W : World} {xs : List Nat} {e : Ending} {w' : World} (h : RetFresh W xs e w') : RetLim W xs e w' := by
 obtain ⟨A, n, c, he, hl, _, hb⟩ := h
 exact ⟨A, n, c, he, hl, hb⟩
theorem zeros_limbs (n : Nat) : limbs (List.replicate n 0) := fun x hx => by rw [(List.mem_replicate.1 hx).2]; omega
theorem addRow_is {A' : Option Addr} {g i n' c' m l b p V : Nat} {zs : List Nat} {w : World} (ho : Hid (Own w g zs)) (hl : Hid (limbs zs)) (hm : zs.length = m) (him : i + n' + 1 ≤ m) (hmm : m ≤ 1000000000) (hv : val zs < 1000000000 ^ (i + n'))
   (h' : Num w g A' n' c' b) (hlim : l < 1000000000) (hp : p = n' + 1) (hV : val zs + 1000000000 ^ i * (l * b) = V) :
   Calls Tryz.prog 113 #[.slice (some ⟨g, i, none⟩) p p, .slice A' n' c', .int .u32 l] w (RetRoom w g m V) := by
 subst hp; subst hV
 exact addRow_any A' g i n' c' m l b zs w ho hl hm him hmm (gd_of_val_lt hv) h' hlim
theorem mul_both (A A' : Option Addr) (n c n' c' a b : Nat) (w : World) (h : Num w w.heap.size A n c a) (h' : Num w w.heap.size A' n' c' b) (hn : n ≤ 10000000) (hn' : n' ≤ 10000000) (args : Array Value)
   (hargs : (args = #[.slice A n c, .slice A' n' c'] ∧ n ≤ n') ∨ (args = #[.slice A' n' c', .slice A n c] ∧ n < n')) :
   Calls Tryz.prog 88 args w (RetNew w (a * b)) := by
 obtain ⟨i0, hi, hz0, hz1, hz2⟩ := info_parts info_limb
 have PB := Lib.hid (pow_of_len h'.len (Nat.le_refl _))
 have hmA := h.room
 have hcA := h.cap
 have hmB := h'.room
 have hcB := h'.cap
 unfold maxLen at hmA hmB
 have H := Lib.hid h
 have H' := Lib.hid h'
 clear h h'
 rcases hargs with ⟨rfl, hle⟩ | ⟨rfl, hle⟩
 all_goals
   go_enter Tryz.func88, Tryz.ntmps88
   go_wp2_with (at_make; go_must (refine wpList_make_full _ rfl _ _ 23 rfl w.heap.size 75 i0 (.int .u32 0) 1 Tryz.underlying23 hi hz0 hz1 _ _ _ _ (n + n') rfl rfl (by omega) (by omega) (by rw [hz2]; omega) (by unfold maxLen; omega) (Nat.le_refl _) ?_; intro w1 hown1 hgr1; have M1 : Hid (Own w1 w.heap.size (List.replicate (n + n') 0)) := Own.of_made hown1; have HB1 : Hid (Below w.heap.size w w1) := (Below.refl _ _).grown hgr1 (Nat.le_refl _) (fun k hk => by cases hk); clear hown1 hgr1))
   go_loopw [24] (fun iv wr => ∃ (i : Nat) (zs : List Nat), i ≤ n ∧ iv = .int .i64 i ∧ zs.length = n + n' ∧ limbs zs ∧ val zs = val ((dg a).take i) * b ∧ Own wr w.heap.size zs ∧ Below w.heap.size w wr) (fun iv _ => n - (intOf iv).toNat)
   case atStart =>
     exact ⟨0, List.replicate (n + n') 0, Nat.zero_le _, rfl, by simp, zeros_limbs _, by rw [val_zeros, List.take_zero, val, Nat.zero_mul], M1.out, HB1.out⟩
   case round =>
     obtain ⟨i, zs, hi1, rfl, hlen, hlim, hval, hown, hb⟩ := hrel
     clear M1 HB1
     have OW := Lib.hid hown
     have HL := Lib.hid hlim
     have HV := Lib.hid hval
     have HB := Lib.hid hb
     have LN := Lib.hid hlen
     clear hown hlim hval hb hlen
     rcases Nat.lt_or_ge i n with hin | hin
     · obtain ⟨b1, o1, rfl, _, hc1⟩ := (H.out.below HB.out).at_ hin
       have hx := gd_lt (limbs_dg a) i
       have hrow := mul_row_lt (i := i) (limbs_dg a) (show i ≤ (dg a).length by rw [H.out.len]; omega) PB.out
       rw [← HV.out] at hrow
       have HC := Lib.hid (addRow_is (V := val ((dg a).take (i + 1)) * b) (p := i + n' + 1 - i) OW HL LN.out (by omega) (by omega) hrow (H'.out.below HB.out) hx (by omega) (mul_row HV.out rfl))
       clear hrow
       go_wp2_with fail
       refine HC.out.mono ?_; rintro e w2 ⟨ys, rfl, hown2, hlen2, hlim2, hval2, hk2⟩
       have OW2 := Lib.hid hown2
       have HL2 := Lib.hid hlim2
       have HV2 := Lib.hid hval2
       have HB2 := Lib.hid (HB.out.trans (hk2.below (Nat.le_refl _)))
       have LN2 := Lib.hid hlen2
       clear hown2 hlim2 hval2 hk2 hlen2
       go_wp2
       go_roundw
       case rel => exact ⟨i + 1, ys, by omega, by go_num, LN2.out, HL2.out, HV2.out, OW2.out, HB2.out⟩
       case measure => simp [intOf]; omega
     · obtain rfl : i = n := by omega
       have LZ := OW.out.lim HL.out (by rw [LN.out]; omega)
       rw [LN.out] at LZ
       have HLZ := Lib.hid LZ
       clear LZ
       have HE : Hid (val zs = a * b) := by have := HV.out; rwa [List.take_of_length_le (by rw [H.out.len]; exact Nat.le_refl _), val_dg] at this
       go_wp2_with (go_at_call 91; refine (mcut_any _ _ _ _ _ _ HLZ.out HL.out).mono ?_; rintro e w' ⟨⟨A2, n2, c2, rfl, hn2, hA2, h2⟩, rfl⟩; have H2 := Lib.hid h2; have HA2 := Lib.hid hA2; clear h2 hA2)
       go_ret
       refine ⟨_, _, _, rfl, by rw [← HE.out]; exact H2.out, fun ad hA => ?_, HB.out⟩
       rcases HA2.out with h0 | h0
       · rw [h0] at hA; cases hA
       · rw [h0] at hA; injection hA with hA; subst hA; exact Nat.le_refl _
theorem mul_any (A A' : Option Addr) (n c n' c' a b : Nat) (w : World) (h : Num w w.heap.size A n c a) (h' : Num w w.heap.size A' n' c' b) (hn : n ≤ 10000000) (hn' : n' ≤ 10000000) :
   Calls Tryz.prog 88 #[.slice A n c, .slice A' n' c'] w (RetNew w (a * b)) := by
 rcases Nat.lt_or_ge n' n with hlt | hge
 · rw [Nat.mul_comm]
   exact mul_both A' A n' c' n c b a w h' h hn' hn _ (.inr ⟨rfl, hlt⟩)
 · exact mul_both A A' n c n' c' a b w h h' hn hn' _ (.inl ⟨rfl, hge⟩)
theorem mul_is {A A' : Option Addr} {n c n' c' a b m : Nat} {w : World} (h : Num w w.heap.size A n c a) (h' : Num w w.heap.size A' n' c' b) (hn : n ≤ 10000000) (hn' : n' ≤ 10000000) (hm : a * b = m) :
   Calls Tryz.prog 88 #[.slice A n c, .slice A' n' c'] w (RetNum w m) := by
 subst hm; exact (mul_any A A' n c n' c' a b w h h' hn hn').mono fun _ _ h => h.lim
theorem len_of_u64 {N : Nat} (h : N < 18446744073709551616) : (dg N).length ≤ 3 := dg_len_le (by omega)
theorem times_is {A : Option Addr} {n c a l m : Nat} {w : World} (h : Num w w.heap.size A n c a) (hn : n ≤ 10000000) (hl : l < 4294967296) (hm : a * l = m) :
   Calls Tryz.prog 103 #[.slice A n c, .int .u32 l] w (RetNum w m) := by
 have H := Lib.hid h
 have HM := Lib.hid hm
 clear h hm
 go_enter Tryz.func103, Tryz.ntmps103
 go_wp2_with fail
 refine (mk_any l _ rfl (by omega) _).mono ?_; rintro e w1 ⟨A1, n1, c1, rfl, h1, hb1⟩
 have hn1 : n1 ≤ 3 := by have := len_of_u64 (show l < 18446744073709551616 by omega); rwa [h1.len] at this
 have HB1 := Lib.hid hb1
 have H1 := Lib.hid h1
 clear h1 hb1
 go_wp2_with fail
 refine (mul_is ((H.out.below HB1.out).more HB1.out.size) H1.out hn (by omega) HM.out).mono ?_; rintro e w2 ⟨A2, n2, c2, rfl, h2, hb2⟩
 have HB2 := Lib.hid (HB1.out.trans (hb2.mono HB1.out.size))
 have H2 := Lib.hid h2
 clear h2 hb2
 go_wp2_with fail
 go_ret
 exact ⟨_, _, _, rfl, H2.out, HB2.out⟩
end Go.Proofs.YthlhpgphmfnlgaaGreat
/-
 Contracts of layer 2, the third part: halves, Fast, Square.
-/
namespace Go.Proofs.YthlhpgphmfnlgaaGreat
open Go.RowKit
theorem Lim.quiet {w : World} {B n c k : Nat} {A : Option Addr} {xs : List Nat} (h : Lim w B A n c xs) : Lim (w.drewN k) B A n c xs := h.below (below_drewN (Below.refl _ _) k)
theorem val_take_mod (a k : Nat) : val ((dg a).take k) = a % 1000000000 ^ k ∧ val ((dg a).drop k) = a / 1000000000 ^ k := by
 have hp : 0 < 1000000000 ^ k := Nat.pow_pos (by omega)
 have hlt : val ((dg a).take k) < 1000000000 ^ k := by
   refine Nat.lt_of_lt_of_le (val_lt (limbs_take (limbs_dg a) k)) (Nat.pow_le_pow_right (by omega) ?_)
   rw [List.length_take]; omega
 have e : a = val ((dg a).take k) + 1000000000 ^ k * val ((dg a).drop k) := by
   rcases Nat.lt_or_ge (dg a).length k with h | h
   · rw [List.take_of_length_le (by omega), List.drop_of_length_le (by omega), val_dg]; rfl
   · rw [← val_take_drop _ _ h, val_dg]
 generalize 1000000000 ^ k = P at *
 generalize val ((dg a).take k) = x at *
 generalize val ((dg a).drop k) = y at *
 subst e
 constructor
 · rw [Nat.add_mul_mod_self_left, Nat.mod_eq_of_lt hlt]
 · rw [Nat.add_mul_div_left _ _ hp, Nat.div_eq_of_lt hlt, Nat.zero_add]
theorem Lim.rest {w : World} {B n c b o k : Nat} {xs : List Nat} (h : Lim w B (some ⟨b, o, none⟩) n c xs) (hk : k ≤ n) (A : Option Addr) (hA : k < n → A = some ⟨b, o + k, none⟩) (hA' : A = none → c - k = 0) : Lim w B A (n - k) (c - k) (xs.drop k) := by
 refine ⟨by rw [List.length_drop, h.len], by have := h.cap; omega, by have := h.room; omega, fun x hx => h.fit x (List.mem_of_mem_drop hx), ?_, hA'⟩
 rcases Nat.lt_or_ge k n with hlt | hge
 · obtain rfl := hA hlt
   rcases h.row with h0 | ⟨b', o', he, hb, hc⟩
   · left
     have := congrArg List.length h0
     rw [vals_len, h.len] at this
     simp at this; omega
   · injection he with he
     injection he with he1 he2
     subst he1; subst he2
     refine .inr ⟨b, o + k, rfl, hb, fun j u hu => ?_⟩
     rw [Nat.add_assoc]
     refine hc (k + j) u ?_
     rw [vals, List.map_drop, List.getElem?_drop] at hu
     exact hu
 · left
   rw [List.drop_of_length_le (by rw [h.len]; exact hge)]; rfl
def RetHalves (W : World) (x y : Nat) (e : Ending) (w' : World) : Prop :=
 ∃ A1 n1 c1 A2 n2 c2, e = .returned (.tuple #[.slice A1 n1 c1, .slice A2 n2 c2]) ∧ Num w' w'.heap.size A1 n1 c1 x ∧ Num w' w'.heap.size A2 n2 c2 y ∧ Below W.heap.size W w'
theorem halves_ret {W : World} {x y k n1 n2 : Nat} {V1 V2 : Value} {xs ys : List Nat} {A1 A2 : Option Addr} (hv : val xs = x ∧ val ys = y)
   (h1 : ∃ A' n' c', V1 = .slice A' n' c' ∧ n' ≤ n1 ∧ (A' = none ∨ A' = A1) ∧ Lim W W.heap.size A' n' c' (dg (val xs))) (h2 : ∃ A' n' c', V2 = .slice A' n' c' ∧ n' ≤ n2 ∧ (A' = none ∨ A' = A2) ∧ Lim W W.heap.size A' n' c' (dg (val ys))) :
   RetHalves W x y (.returned (.tuple #[V1, V2])) (W.drewN k) := by
 obtain ⟨rfl, rfl⟩ := hv
 obtain ⟨A1, n1, c1, rfl, _, _, l1⟩ := h1
 obtain ⟨A2, n2, c2, rfl, _, _, l2⟩ := h2
 exact ⟨A1, n1, c1, A2, n2, c2, rfl, l1.quiet, l2.quiet, below_drewN (Below.refl _ _) k⟩
theorem halves_any (A : Option Addr) (n c a k : Nat) (w : World) (h : Num w w.heap.size A n c a) (hn0 : 0 < n) (hk0 : 0 < k) (hk : k ≤ 1000000000) :
   Calls Tryz.prog 89 #[.slice A n c, .int .i64 k] w (RetHalves w (a % 1000000000 ^ k) (a / 1000000000 ^ k)) := by
 have hm := h.room
 have hcap := h.cap
 unfold maxLen at hm
 obtain ⟨m, hmk, hmn, hm0, htk, hdr, hmm⟩ : ∃ m, m ≤ k ∧ m ≤ n ∧ 0 < m ∧ (dg a).take m = (dg a).take k ∧ (dg a).drop m = (dg a).drop k ∧ ((n < k ∧ m = n) ∨ (k ≤ n ∧ m = k)) := by
   rcases Nat.lt_or_ge n k with h1 | h1
   · refine ⟨n, by omega, by omega, hn0, ?_, ?_, .inl ⟨h1, rfl⟩⟩
     · rw [List.take_of_length_le (by rw [h.len]; exact Nat.le_refl _), List.take_of_length_le (by rw [h.len]; omega)]
     · rw [List.drop_of_length_le (by rw [h.len]; exact Nat.le_refl _), List.drop_of_length_le (by rw [h.len]; omega)]
   · exact ⟨k, by omega, h1, hk0, rfl, rfl, .inr ⟨h1, rfl⟩⟩
 obtain ⟨b, o, rfl, hb, _⟩ := h.at_ hn0
 have HT : Hid (Lim w w.heap.size (some ⟨b, o, none⟩) m m ((dg a).take k)) := by
   have := h.take hmn
   rw [htk] at this
   exact ⟨this.len, Nat.le_refl _, Nat.le_trans this.cap this.room, this.fit, this.row, fun hA => by cases hA⟩
 have HD : Hid (∀ A' p q (v : World), p = n - m → q = c - m → (m < n → A' = some ⟨b, o + m, none⟩) → (A' = none → c - m = 0) → Below w.heap.size w v → Lim v w.heap.size A' p q ((dg a).drop k)) := by
   intro A' p q v hp hq h1 h2 hv
   subst hp; subst hq
   have := h.rest hmn A' h1 h2
   rw [hdr] at this
   exact this.below hv
 have ET := Lib.hid (val_take_mod a k)
 have LT := Lib.hid (limbs_take (limbs_dg a) k)
 have LD := Lib.hid (limbs_drop (limbs_dg a) k)
 clear h htk hdr
 rcases hmm with ⟨h1, h2⟩ | ⟨h1, h2⟩
 all_goals
   first | obtain rfl : n = m := h2.symm | obtain rfl : k = m := h2.symm
   rcases Nat.eq_or_lt_of_le (show _ ≤ c from Nat.le_trans hmn hcap) with hmc | hmc
   all_goals
     try subst hmc
     go_enter Tryz.func89, Tryz.ntmps89
     go_wp2
     go_quiet ((go_at_call 91; first | exact Calls.quiet_of_same (mcut_q _ _ _ _ ((dg a).take k) _ HT.out.quiet LT.out) | exact Calls.quiet_of_same (mcut_q _ _ _ _ ((dg a).drop k) _ (HD.out _ _ _ _ (by omega) (by omega) (fun _ => by first | rfl | omega) (fun h => by cases h) (below_drewN (Below.refl _ _) _)) LD.out)))
     go_wp2
     go_ret2
     exact halves_ret ET.out (cutV_lim HT.out LT.out) (cutV_lim (HD.out _ _ _ _ rfl rfl (fun _ => by first | rfl | omega) (fun h => by cases h) (Below.refl _ _)) LD.out)
end Go.Proofs.YthlhpgphmfnlgaaGreat
/-
 Contracts of layer 2, the fourth part: Fast, Square.
-/
namespace Go.Proofs.YthlhpgphmfnlgaaGreat
open Go.RowKit
theorem fast_small (A A' : Option Addr) (n c n' c' a b : Nat) (w : World) (h : Num w w.heap.size A n c a) (h' : Num w w.heap.size A' n' c' b) (hn : n ≤ 1000000) (hn' : n' ≤ 1000000) (hs : n < 40 ∨ n' < 40) :
   Calls Tryz.prog 56 #[.slice A n c, .slice A' n' c'] w (RetNew w (a * b)) := by
 have H := Lib.hid h
 have H' := Lib.hid h'
 have C := Lib.hid (mul_any A A' n c n' c' a b w h h' (by omega) (by omega))
 clear h h'
 obtain ⟨hlt, hs⟩ | ⟨hlt, hs⟩ : (n' < n ∧ n' < 40) ∨ (n ≤ n' ∧ n < 40) := by omega
 all_goals
   go_enter Tryz.func56, Tryz.ntmps56
   go_wp2_with fail
   refine C.out.mono ?_; rintro e w1 ⟨A1, n1, c1, rfl, h1, hf1, hb1⟩
   have H1 := Lib.hid h1
   have HF := Lib.hid hf1
   have HB := Lib.hid hb1
   clear h1 hf1 hb1
   go_wp2_with fail
   go_ret
   exact ⟨_, _, _, rfl, H1.out, HF.out, HB.out⟩
theorem fast_facts {a b n m h : Nat} (hn : (dg a).length = n) (hm : (dg b).length = m) (h1 : n ≤ 2 * h) (h2 : m ≤ 2 * h) (h3 : 2 * h ≤ n + m) :
   ∃ la ha lb hb, a % 1000000000 ^ h = la ∧ a / 1000000000 ^ h = ha ∧ b % 1000000000 ^ h = lb ∧ b / 1000000000 ^ h = hb ∧
     (dg la).length ≤ h ∧ (dg ha).length ≤ n - h ∧ (dg lb).length ≤ h ∧ (dg hb).length ≤ m - h ∧ (dg (la + ha)).length ≤ h + 1 ∧ (dg (lb + hb)).length ≤ h + 1 ∧
     (dg (la * lb)).length ≤ 2 * h ∧ (dg (ha * hb)).length ≤ n + m - 2 * h ∧ la * lb ≤ (la + ha) * (lb + hb) ∧ ha * hb ≤ (la + ha) * (lb + hb) - la * lb ∧
     (la * lb + 1000000000 ^ (2 * h) * (ha * hb)) + 1000000000 ^ h * ((la + ha) * (lb + hb) - la * lb - ha * hb) = a * b :=
 ⟨_, _, _, _, rfl, rfl, rfl, rfl, mod_len a h, div_len hn, mod_len b h, div_len hm, half_len hn h1, half_len hm h2, low_len, high_len hn hm h3, mid_le1 a b h, mid_le2 a b h, kara a b h⟩
theorem Env.two {w : World} {A1 A2 : Option Addr} {n1 n2 c1 c2 a b : Nat} (h1 : Num w w.heap.size A1 n1 c1 a) (h2 : Num w w.heap.size A2 n2 c2 b) : Hid (Env w w [(A1, n1, c1, a), (A2, n2, c2, b)]) := by
 refine ⟨Below.refl _ _, fun q hq => ?_⟩
 rcases List.mem_cons.1 hq with rfl | hq
 · exact h1
 · rcases List.mem_cons.1 hq with rfl | hq
   · exact h2
   · cases hq
theorem halves_is {A : Option Addr} {n c a k x y : Nat} {v : Int} {w : World} (h : Num w w.heap.size A n c a) (hn0 : 0 < n) (hk0 : 0 < k) (hk : k ≤ 1000000000) (hv : v = k) (hx : a % 1000000000 ^ k = x) (hy : a / 1000000000 ^ k = y) :
   Calls Tryz.prog 89 #[.slice A n c, .int .i64 v] w (RetHalves w x y) := by
 subst hv; subst hx; subst hy
 exact halves_any A n c a k w h hn0 hk0 hk
theorem vals_splice (L cs : List Nat) (off : Nat) : splice (vals L) off (vals cs) = vals (splice L off cs) := by
 simp [splice, vals, List.map_append, List.map_take, List.map_drop]
theorem own_spliced {w : World} {g off : Nat} {L cs : List Nat} (h : Hid (w.heap[g]? = some (.cells (splice (vals L) off (vals cs)).toArray 75 (0, 0)))) : Hid (Own w g (splice L off cs)) := by
 have := h.out
 rw [vals_splice] at this
 exact this
theorem copy_ok {w : World} {B n c k off : Nat} {A : Option Addr} {xs L : List Nat} (h : Lim w B A n c xs) (hk : n ≤ k) (hl : off + k ≤ L.length) : (vals xs).length = Nat.min n k ∧ off + (vals xs).length ≤ (vals L).length := by
 rw [vals_len, vals_len, h.len]
 exact ⟨(Nat.min_eq_left hk).symm, by omega⟩
theorem madd_is {A' : Option Addr} {g n' c' m a B V : Nat} {zs : List Nat} {w : World} (o r : Nat) (ho : Hid (Own w g zs)) (hl : Hid (limbs zs)) (hm : zs.length = m) (hor : o + r = m) (hmm : m ≤ 1000000000)
   (h' : Num w B A' n' c' a) (hoff : 0 < n' → Off g A') {cr : Nat} (hcr : r ≤ cr) (hV : val zs + 1000000000 ^ o * a = V) (hfit : V < 1000000000 ^ m) :
   Calls Tryz.prog 90 #[.slice (some ⟨g, o, none⟩) r cr, .slice A' n' c'] w (RetRoom w g m V) := by
 subst hV
 exact madd_any (some ⟨g, o, none⟩) A' g o r n' c' m a B zs w ho hl hm hor hmm (fun _ => rfl) h' hoff hfit cr hcr
theorem own_lim_is {w : World} {g m : Nat} {zs : List Nat} (h : Own w g zs) (hz : limbs zs) (hl : zs.length = m) (hm : m ≤ 1000000000000) : Lim w w.heap.size (some ⟨g, 0, none⟩) m m zs := by
 subst hl; exact h.lim hz hm
theorem two_laid {N p x y : Nat} (h1 : (dg x).length ≤ p) (h2 : p + (dg y).length ≤ N) :
   (splice (splice (List.replicate N 0) 0 (dg x)) p (dg y)).length = N ∧ limbs (splice (splice (List.replicate N 0) 0 (dg x)) p (dg y)) ∧ val (splice (splice (List.replicate N 0) 0 (dg x)) p (dg y)) = x + 1000000000 ^ p * y := by
 have e1 : 0 + (dg x).length ≤ (List.replicate N 0).length := by simp; omega
 have e2 : p + (dg y).length ≤ (splice (List.replicate N 0) 0 (dg x)).length := by
   rw [splice, len_splice e1]; simp; omega
 refine ⟨?_, ?_, ?_⟩
 · rw [splice, len_splice e2, splice, len_splice e1]; simp
 · exact limbs_splice (limbs_splice (zeros_limbs _) (limbs_dg x)) (limbs_dg y)
 · rw [splice, val_splice e2, splice, val_splice e1, val_zeros, val_dg, val_dg]
   · simp
   · intro j _; exact gd_zeros _ _
   · intro j hj; exact gd_splice e1 (fun j _ => gd_zeros _ _) j (by omega)
def FastTo (k : Nat) : Prop := ∀ (A A' : Option Addr) (n c n' c' a b m : Nat) (w : World), Num w w.heap.size A n c a → Num w w.heap.size A' n' c' b → n ≤ k → n' ≤ k → a * b = m → Calls Tryz.prog 56 #[.slice A n c, .slice A' n' c'] w (RetNew w m)
theorem fast_big (k : Nat) (ih : Hid (FastTo k)) (hk : k < 1000000) (A A' : Option Addr) (n c n' c' a b : Nat) (w : World) (h : Num w w.heap.size A n c a) (h' : Num w w.heap.size A' n' c' b) (hn : n ≤ k + 1) (hn' : n' ≤ k + 1) (hb1 : 40 ≤ n) (hb2 : 40 ≤ n') :
   Calls Tryz.prog 56 #[.slice A n c, .slice A' n' c'] w (RetNew w (a * b)) := by
 obtain ⟨i0, hi, hz0, hz1, hz2⟩ := info_parts info_limb
 have E := Env.two h h'
 have LA := Lib.hid h.len
 have LB := Lib.hid h'.len
 clear h h'
 obtain ⟨half, hh1, hh2, hh3, hh4, hh5, hh⟩ : ∃ half, n ≤ 2 * half ∧ n' ≤ 2 * half ∧ 2 * half < n + n' ∧ half + 1 ≤ k ∧ 0 < half ∧ ((n < n' ∧ n ≤ n' ∧ half = (n' + 1) / 2) ∨ (n' < n ∧ n' ≤ n ∧ half = (n + 1) / 2) ∨ (n ≤ n' ∧ n' ≤ n ∧ half = (n + 1) / 2)) := by
   rcases Nat.lt_trichotomy n n' with h1 | h1 | h1
   · exact ⟨(n' + 1) / 2, by omega, by omega, by omega, by omega, by omega, .inl ⟨h1, by omega, rfl⟩⟩
   · exact ⟨(n + 1) / 2, by omega, by omega, by omega, by omega, by omega, .inr (.inr ⟨by omega, by omega, rfl⟩)⟩
   · exact ⟨(n + 1) / 2, by omega, by omega, by omega, by omega, by omega, .inr (.inl ⟨h1, by omega, rfl⟩)⟩
 obtain ⟨la, ha, lb, hb, ea1, ea2, eb1, eb2, k1, k2, k3, k4, k5, k6, k7, k8, k9, k10, k11⟩ := fast_facts LA.out LB.out hh1 hh2 (by omega)
 have K1 := Lib.hid k1
 have K2 := Lib.hid k2
 have K3 := Lib.hid k3
 have K4 := Lib.hid k4
 have K5 := Lib.hid k5
 have K6 := Lib.hid k6
 have K7 := Lib.hid k7
 have K8 := Lib.hid k8
 have K9 := Lib.hid k9
 have K10 := Lib.hid k10
 have K11 := Lib.hid k11
 have EA1 := Lib.hid ea1
 have EA2 := Lib.hid ea2
 have EB1 := Lib.hid eb1
 have EB2 := Lib.hid eb2
 clear k1 k2 k3 k4 k5 k6 k7 k8 k9 k10 k11 ea1 ea2 eb1 eb2
 rcases hh with ⟨hlt, hlt2, hh⟩ | ⟨hlt, hlt2, hh⟩ | ⟨hlt, hlt2, hh⟩
 all_goals
   have HH := Lib.hid hh
   clear hh
   go_enter Tryz.func56, Tryz.ntmps56
   go_wp2_with fail
   first
     | rw [show ((n' : Int) + 1) / 2 = (half : Int) from by have := HH.out; omega]
     | rw [show ((n : Int) + 1) / 2 = (half : Int) from by have := HH.out; omega]
   refine (halves_is (k := half) (Env.get E (A := A) (n := n) (c := c) (a := a) (by simp)) (by omega) (by omega) (by omega) rfl EA1.out EA2.out).mono ?_; rintro e w1 ⟨A1, n1, c1, A2, n2, c2, rfl, h1, h2, hb⟩; replace E := Env.push E hb h1; replace E := Env.push E (Below.refl _ _) h2
   clear h1 h2 hb
   go_wp2_with fail
   refine (halves_is (k := half) (Env.get E (A := A') (n := n') (c := c') (a := b) (by simp)) (by omega) (by omega) (by omega) rfl EB1.out EB2.out).mono ?_; rintro e w2 ⟨A3, n3, c3, A4, n4, c4, rfl, h1, h2, hb⟩; replace E := Env.push E hb h1; replace E := Env.push E (Below.refl _ _) h2
   have L1 := (Env.get E (A := A1) (n := n1) (c := c1) (a := la) (by simp)).len
   have L2 := (Env.get E (A := A2) (n := n2) (c := c2) (a := ha) (by simp)).len
   have M1 : n1 ≤ half := by have := K1.out; omega
   have M2 : n2 ≤ n - half := by have := K2.out; omega
   have M3 : n3 ≤ half := by have := K3.out; have := h1.len; omega
   have M4 : n4 ≤ n' - half := by have := K4.out; have := h2.len; omega
   clear h1 h2 hb L1 L2
   go_wp2_with fail
   refine (ih.out A1 A3 n1 c1 n3 c3 la lb (la * lb) _ (Env.get E (by simp)) (Env.get E (by simp)) (by omega) (by omega) rfl).mono ?_; rintro e w3 ⟨A5, n5, c5, rfl, h1, hf, hb⟩; replace E := Env.push E hb h1
   have M5 : n5 ≤ 2 * half := by have := K7.out; have := h1.len; omega
   clear h1 hf hb
   go_wp2_with fail
   refine (ih.out A2 A4 n2 c2 n4 c4 ha hb (ha * hb) _ (Env.get E (by simp)) (Env.get E (by simp)) (by omega) (by omega) rfl).mono ?_; rintro e w4 ⟨A6, n6, c6, rfl, h1, hf, hb⟩; replace E := Env.push E hb h1
   have M6 : n6 ≤ n + n' - 2 * half := by have := K8.out; have := h1.len; omega
   clear h1 hf hb
   go_wp2_with fail
   refine (add_is (a := la) (b := ha) (m := la + ha) (Env.get E (A := A1) (n := n1) (c := c1) (by simp)) (Env.get E (by simp)) (by omega) (by omega) rfl).mono ?_; rintro e w5 ⟨A7, n7, c7, rfl, h1, hb⟩; replace E := Env.push E hb h1
   have M7 : n7 ≤ half + 1 := by have := K5.out; have := h1.len; omega
   clear h1 hb
   go_wp2_with fail
   refine (add_is (a := lb) (b := hb) (m := lb + hb) (Env.get E (A := A3) (n := n3) (c := c3) (by simp)) (Env.get E (by simp)) (by omega) (by omega) rfl).mono ?_; rintro e w6 ⟨A8, n8, c8, rfl, h1, hbb⟩; replace E := Env.push E hbb h1
   have M8 : n8 ≤ half + 1 := by have := K6.out; have := h1.len; omega
   clear h1 hbb
   go_wp2_with fail
   refine (ih.out A7 A8 n7 c7 n8 c8 (la + ha) (lb + hb) ((la + ha) * (lb + hb)) _ (Env.get E (by simp)) (Env.get E (by simp)) (by omega) (by omega) rfl).mono ?_; rintro e w7 ⟨A9, n9, c9, rfl, h1, hf, hbb⟩; replace E := Env.push E hbb h1
   have M9 : n9 ≤ 2 * half + 2 := by have := dg_len_mul (la + ha) (lb + hb); have := K5.out; have := K6.out; have := h1.len; omega
   clear h1 hf hbb
   go_wp2_with fail
   refine (sub_is (a := (la + ha) * (lb + hb)) (b := la * lb) (m := (la + ha) * (lb + hb) - la * lb) (Env.get E (A := A9) (n := n9) (c := c9) (by simp)) (Env.get E (A := A5) (n := n5) (c := c5) (by simp)) (by omega) K9.out rfl).mono ?_; rintro e w8 ⟨A10, n10, c10, rfl, h1, hbb⟩; replace E := Env.push E hbb h1
   have M10 : n10 ≤ 2 * half + 2 := by have := dg_len_mono (Nat.sub_le ((la + ha) * (lb + hb)) (la * lb)); have := dg_len_mul (la + ha) (lb + hb); have := K5.out; have := K6.out; have := h1.len; omega
   clear h1 hbb
   go_wp2_with fail
   refine (sub_is (a := (la + ha) * (lb + hb) - la * lb) (b := ha * hb) (m := (la + ha) * (lb + hb) - la * lb - ha * hb) (Env.get E (A := A10) (n := n10) (c := c10) (by simp)) (Env.get E (A := A6) (n := n6) (c := c6) (by simp)) (by omega) K10.out rfl).mono ?_; rintro e w9 ⟨A11, n11, c11, rfl, h1, hbb⟩; replace E := Env.push E hbb h1
   have OFF : Hid (0 < n11 → Off w9.heap.size A11) := fun hp => h1.off (Nat.le_refl _) hp
   clear h1 hbb
   have PAB := Lib.hid (mul_lt_pow (pow_of_len LA.out (Nat.le_refl _)) (pow_of_len LB.out (Nat.le_refl _)))
   have S5 := Lib.hid (Env.get E (A := A5) (n := n5) (c := c5) (a := la * lb) (by simp))
   have S6 := Lib.hid (Env.get E (A := A6) (n := n6) (c := c6) (a := ha * hb) (by simp))
   have S11 := Lib.hid (Env.get E (A := A11) (n := n11) (c := c11) (a := (la + ha) * (lb + hb) - la * lb - ha * hb) (by simp))
   have HB0 := Lib.hid E.out.1
   have HSZ := Lib.hid E.out.1.size
   clear E
   have TL := Lib.hid (two_laid (N := n + n') (p := 2 * half) (x := la * lb) (y := ha * hb) K7.out (by have := K8.out; omega))
   have hN : 2 * half < n + n' := hh3
   have L11 : Hid ((splice (List.replicate (n + n') 0) 0 (dg (la * lb))).length = n + n') := by show _ = _; rw [length_splice]; simp; have := K7.out; simp; omega
   go_wp2_with (first | (at_make; go_must (refine wpList_make_full _ rfl _ _ 23 rfl w9.heap.size 75 i0 (.int .u32 0) 1 Tryz.underlying23 hi hz0 hz1 _ _ _ _ (n + n') rfl rfl (by omega) (by omega) (by rw [hz2]; omega) (by unfold maxLen; omega) (Nat.le_refl _) ?_; intro w10 hown1 hgr1; have O10 : Hid (Own w10 w9.heap.size (List.replicate (n + n') 0)) := Own.of_made hown1; have HB10 : Hid (Below w9.heap.size w9 w10) := (Below.refl _ _).grown hgr1 (Nat.le_refl _) (fun k hk => by cases hk); clear hown1 hgr1)) | ((with_reducible show wpList _ _ _ (⟨some 84, _, _, _, _, _⟩ :: _) _ _); go_must (refine wpList_copy_splice rfl (.tmp 82) (.tmp 83) 23 23 rfl 75 Tryz.underlying23 info_one _ _ _ _ _ _ rfl rfl w9.heap.size 0 (vals (List.replicate (n + n') 0)) 75 O10.out (vals (dg (la * lb))) (copy_ok (L := List.replicate (n + n') 0) (off := 0) S5.out M5 (by simp; omega)).1 (fun hp => ⟨rfl, lim_src (S5.out.below HB10.out) hp⟩) (copy_ok (L := List.replicate (n + n') 0) (off := 0) S5.out M5 (by simp; omega)).2 (vals_one _) w9.heap.size w9 HB10.out (Nat.le_refl _) ?_; intro w11 hg2 hb2; have O11 := own_spliced hg2; have HB11 := Lib.hid hb2; clear hg2 hb2)) | ((with_reducible show wpList _ _ _ (⟨some 90, _, _, _, _, _⟩ :: _) _ _); go_must (refine wpList_copy_splice rfl (.tmp 88) (.tmp 89) 23 23 rfl 75 Tryz.underlying23 info_one _ _ _ _ _ _ rfl rfl w9.heap.size (2 * half) (vals (splice (List.replicate (n + n') 0) 0 (dg (la * lb)))) 75 O11.out (vals (dg (ha * hb))) (copy_ok (L := splice (List.replicate (n + n') 0) 0 (dg (la * lb))) (off := 2 * half) S6.out M6 (by rw [L11.out]; omega)).1 (fun hp => ⟨rfl, lim_src (S6.out.below HB11.out) hp⟩) (copy_ok (L := splice (List.replicate (n + n') 0) 0 (dg (la * lb))) (off := 2 * half) S6.out M6 (by rw [L11.out]; omega)).2 (vals_one _) w9.heap.size w9 HB11.out (Nat.le_refl _) ?_; intro w12 hg2 hb2; have O12 := own_spliced hg2; have HB12 := Lib.hid hb2; clear hg2 hb2; have HC := Lib.hid (madd_is (half) (n + n' - half) O12 TL.out.2.1 TL.out.1 (by omega) (by omega) (S11.out.below HB12.out) OFF.out (Nat.le_refl _) (by rw [TL.out.2.2]; exact K11.out) PAB.out))) | (go_at_call 90; go_must (refine HC.out.mono ?_; rintro e w13 ⟨zs, rfl, hown, hlen, hlim, hval, hkp⟩; have OZ := Lib.hid hown; have LZ := Lib.hid hlen; have HL := Lib.hid hlim; have HV := Lib.hid hval; have HB13 := Lib.hid (HB12.out.trans (hkp.below (Nat.le_refl _))); clear hown hlen hlim hval hkp; have LL := Lib.hid (own_lim_is OZ.out HL.out LZ.out (by omega)))) | (go_at_call 91; go_must (refine (mcut_any _ _ _ _ _ _ LL.out HL.out).mono ?_; rintro e w' ⟨⟨A12, n12, c12, rfl, hn12, hA12, h12⟩, rfl⟩; have H12 := Lib.hid h12; have HA12 := Lib.hid hA12; clear h12 hA12)))
   go_ret
   refine ⟨_, _, _, rfl, by rw [← HV.out]; exact H12.out, fun ad hA => ?_, HB0.out.trans (HB13.out.mono HSZ.out)⟩
   rcases HA12.out with h0 | h0
   · rw [h0] at hA; cases hA
   · rw [h0] at hA; injection hA with hA; subst hA; exact HSZ.out
theorem fast_to (k : Nat) (hk : k ≤ 1000000) : FastTo k := by
 induction k with
 | zero =>
   intro A A' n c n' c' a b m w h h' hn hn' hm
   subst hm
   exact fast_small A A' n c n' c' a b w h h' (by omega) (by omega) (by omega)
 | succ k ih =>
   intro A A' n c n' c' a b m w h h' hn hn' hm
   subst hm
   by_cases hs : n < 40 ∨ n' < 40
   · exact fast_small A A' n c n' c' a b w h h' (by omega) (by omega) hs
   · exact fast_big k (ih (by omega)) (by omega) A A' n c n' c' a b w h h' hn hn' (by omega) (by omega)
theorem fast_is {A A' : Option Addr} {n c n' c' a b m : Nat} {w : World} (h : Num w w.heap.size A n c a) (h' : Num w w.heap.size A' n' c' b) (hn : n ≤ 1000000) (hn' : n' ≤ 1000000) (hm : a * b = m) :
   Calls Tryz.prog 56 #[.slice A n c, .slice A' n' c'] w (RetNew w m) := fast_to 1000000 (Nat.le_refl _) A A' n c n' c' a b m w h h' hn hn' hm
end Go.Proofs.YthlhpgphmfnlgaaGreat
