/-
  Contracts of layer 2, the first part: cut, addRow, add: what is written into a room.
-/
import Derived.Test.YtecgmdomhbmbkaaDoorNatE
import Derived.Test.YtecgmdomhbmbkaaDoorNatF
import Derived.Test.YtecgmdomhbmbkaaDoorMulMath
namespace Go.Proofs.YtecgmdomhbmbkaaDoor
open Go.RowKit

/-- But for block g the world w' is as w was. -/
structure Kept (g : Nat) (w w' : World) : Prop where
  os : w'.os = w.os
  tape : w'.tape = w.tape
  output : w'.output = w.output
  size : w'.heap.size = w.heap.size
  block : ∀ k, k ≠ g → w'.heap[k]? = w.heap[k]?

theorem Kept.refl (g : Nat) (w : World) : Kept g w w := ⟨rfl, rfl, rfl, rfl, fun _ _ => rfl⟩
theorem Kept.trans {g : Nat} {a b c : World} (h : Kept g a b) (k : Kept g b c) : Kept g a c :=
  ⟨k.os.trans h.os, k.tape.trans h.tape, k.output.trans h.output, k.size.trans h.size, fun i hi => (k.block i hi).trans (h.block i hi)⟩
theorem Kept.drew {g : Nat} {a w : World} (h : Kept g a w) : Kept g a w.drew := ⟨h.os, h.tape, h.output, h.size, h.block⟩
theorem Kept.setCell {g : Nat} {a w : World} (h : Kept g a w) (o : Nat) (u : Value) : Kept g a (w.setCell ⟨g, o, none⟩ u) :=
  h.trans ⟨rfl, rfl, rfl, by simp [World.setCell], fun k hk => Below.heap_setCell _ _ _ _ hk⟩
theorem Kept.below {g B : Nat} {a w : World} (h : Kept g a w) (hB : B ≤ g) : Below B a w := ⟨h.os, h.tape, h.output, Nat.le_of_eq h.size.symm, fun k hk => h.block k (by omega)⟩
theorem Kept.cell {g : Nat} {w w' : World} (h : Kept g w w') {p : Addr} (hp : p.block ≠ g) : w'.cell? p = w.cell? p := World.cell?_of_block (w := w) (h.block p.block hp)

/-- Limbs that lie anywhere but in block g. -/
def Off (g : Nat) (A : Option Addr) : Prop := ∀ ad, A = some ad → ad.block ≠ g
theorem Lim.off {w : World} {B n c g : Nat} {A : Option Addr} {xs : List Nat} (h : Lim w B A n c xs) (hB : B ≤ g) (hn : 0 < n) : Off g A := by
  intro ad hA
  obtain ⟨b, o, he, hb, _⟩ := h.at_ hn
  rw [hA] at he
  injection he with he
  subst he
  show b ≠ g
  omega
theorem Lim.kept {w w' : World} {B n c g : Nat} {A : Option Addr} {xs : List Nat} (h : Lim w B A n c xs) (ho : 0 < n → Off g A) (k : Kept g w w') : Lim w' B A n c xs := by
  refine ⟨h.len, h.cap, h.room, h.fit, ?_, h.addr⟩
  rcases Nat.eq_zero_or_pos n with h0 | h0
  · subst h0; left; rw [List.eq_nil_of_length_eq_zero h.len]; rfl
  replace ho := ho h0
  rcases h.row with h0 | ⟨b, o, rfl, hb, hc⟩
  · exact .inl h0
  · exact .inr ⟨b, o, rfl, hb, fun j u hu => (k.cell (p := ⟨b, o + j, none⟩) (ho ⟨b, o, none⟩ rfl)).trans (hc j u hu)⟩

/-- What cut hands back of limbs at A of which n are left. -/
def cutV (A : Option Addr) (n : Nat) : Value := if n = 0 then .slice none 0 0 else .slice A n n
theorem cutV_lim {A : Option Addr} {n c B : Nat} {xs : List Nat} {w : World} (h : Lim w B A n c xs) (hx : limbs xs) : ∃ A' n' c', cutV A (dg (val xs)).length = .slice A' n' c' ∧ n' ≤ n ∧ (A' = none ∨ A' = A) ∧ Lim w B A' n' c' (dg (val xs)) := by
  have hlen : (dg (val xs)).length ≤ n := by
    have := dg_len_le (val_lt hx)
    rwa [h.len] at this
  unfold cutV
  by_cases h0 : (dg (val xs)).length = 0
  · rw [if_pos h0, List.eq_nil_of_length_eq_zero h0]
    exact ⟨none, 0, 0, rfl, Nat.zero_le _, .inl rfl, Lim.nil⟩
  · rw [if_neg h0]
    have e : dg (val xs) = xs.take (dg (val xs)).length := by
      have hz : ∀ j, (dg (val xs)).length ≤ j → gd xs j = 0 := by
        intro j hj
        have e := val_take_drop xs (dg (val xs)).length (by rw [h.len]; exact hlen)
        have hd : val (xs.drop (dg (val xs)).length) = 0 := by
          rcases Nat.eq_zero_or_pos (val (xs.drop (dg (val xs)).length)) with h1 | h1
          · exact h1
          · have h2 := lt_pow_dg (val xs)
            have h3 : 1000000000 ^ (dg (val xs)).length * 1 ≤ 1000000000 ^ (dg (val xs)).length * val (xs.drop (dg (val xs)).length) := Nat.mul_le_mul_left _ h1
            generalize 1000000000 ^ (dg (val xs)).length = P at *
            omega
        have : ∀ k ys, val ys = 0 → gd ys k = 0 := by
          intro k
          induction k with
          | zero => intro ys hy; have := val_drop ys 0; rw [List.drop_zero] at this; omega
          | succ k ih =>
            intro ys hy
            have := val_drop ys 0
            rw [List.drop_zero, Nat.zero_add] at this
            have := ih (ys.drop 1) (by omega)
            rwa [gd_drop, Nat.add_comm 1 k] at this
        have h4 := this (j - (dg (val xs)).length) _ hd
        rwa [gd_drop, Nat.add_sub_cancel' hj] at h4
      refine dg_cut hx hz (.inr ?_) (by rw [h.len]; exact hlen)
      intro hl
      have e1 := val_take_drop xs ((dg (val xs)).length - 1) (by rw [h.len]; omega)
      have hz2 : val (xs.drop ((dg (val xs)).length - 1)) = 0 := by
        have : ∀ k i, xs.length - i = k → (dg (val xs)).length - 1 ≤ i → val (xs.drop i) = 0 := by
          intro k
          induction k with
          | zero => intro i hk _; rw [List.drop_of_length_le (by omega)]; rfl
          | succ k ih =>
            intro i hk hi
            rw [val_drop, ih (i + 1) (by omega) (by omega)]
            rcases Nat.eq_or_lt_of_le hi with h5 | h5
            · rw [← h5, hl]
            · rw [hz i (by omega)]
        exact this _ _ rfl (Nat.le_refl _)
      rw [hz2, Nat.mul_zero, Nat.add_zero] at e1
      have h6 := val_lt (limbs_take hx ((dg (val xs)).length - 1))
      rw [← e1, List.length_take, h.len, Nat.min_eq_left (by omega)] at h6
      have := dg_len_le h6
      omega
    have ht := h.take hlen
    rw [← e] at ht
    exact ⟨A, _, _, rfl, hlen, .inr rfl, ⟨ht.len, Nat.le_refl _, Nat.le_trans ht.cap ht.room, ht.fit, ht.row, fun hA => by have := ht.addr hA; have := ht.cap; omega⟩⟩

theorem cut_len {xs : List Nat} {n : Nat} (hx : limbs xs) (hz : ∀ j, n ≤ j → gd xs j = 0) (hn : n = 0 ∨ gd xs (n - 1) ≠ 0) (hle : n ≤ xs.length) : (dg (val xs)).length = n := by
  rw [dg_cut hx hz hn hle, List.length_take]; omega

/-- cut as a function. -/
theorem mcut_q (A : Option Addr) (n c B : Nat) (xs : List Nat) (w : World) (h : Lim w B A n c xs) (hx : limbs xs) :
    Calls Tryd.prog 53 #[.slice A n c] w fun e w' => e = .returned (cutV A (dg (val xs)).length) ∧ w' = w := by
  have hm := h.room
  have hn := h.cap
  unfold maxLen at hm
  have Z : Hid (∀ j, n ≤ j → gd xs j = 0) := fun j hj => gd_of_ge (by rw [h.len]; exact hj)
  go_enter Tryd.func53, Tryd.ntmps53
  go_wp2
  go_loop [3] (fun i => ∃ k : Nat, k ≤ n ∧ i = .int .i64 k ∧ ∀ j, k ≤ j → gd xs j = 0) (fun i => (intOf i).toNat)
  case atStart => exact ⟨n, Nat.le_refl _, rfl, Z.out⟩
  case round =>
    obtain ⟨k, hk, rfl, hall⟩ := hrel
    have HALL := Lib.hid hall
    have H := Lib.hid h
    have hg := h.gd_lt (k - 1)
    clear hall Z
    rcases Nat.eq_zero_or_pos k with h0 | h0
    · subst h0
      clear h hg
      go_wp2
      go_ret
      exact ⟨by rw [cut_len hx HALL.out (.inl rfl) (Nat.zero_le _)]; rfl, rfl⟩
    · obtain ⟨b, o, rfl, _, hc⟩ := h.at_ (show k - 1 < n by omega)
      clear h
      by_cases hz : gd xs (k - 1) = 0
      · go_wp2
        go_round
        case rel =>
          refine ⟨k - 1, by omega, by go_num, fun j hj => ?_⟩
          rcases Nat.lt_or_ge j k with h1 | h1
          · obtain rfl : j = k - 1 := by omega
            exact hz
          · exact HALL.out j h1
        case measure => simp [intOf]; omega
      · go_wp2
        go_ret
        exact ⟨by rw [cut_len hx HALL.out (.inr hz) (by have := H.out.len; omega), cutV, if_neg (by omega)]; rfl, rfl⟩

theorem mcut_any (A : Option Addr) (n c B : Nat) (xs : List Nat) (w : World) (h : Lim w B A n c xs) (hx : limbs xs) :
    Calls Tryd.prog 53 #[.slice A n c] w fun e w' => (∃ A' n' c', e = .returned (.slice A' n' c') ∧ n' ≤ n ∧ (A' = none ∨ A' = A) ∧ Lim w B A' n' c' (dg (val xs))) ∧ w = w' := by
  refine (mcut_q A n c B xs w h hx).mono ?_
  rintro e w' ⟨rfl, rfl⟩
  obtain ⟨A', n', c', he, h1, h2, h3⟩ := cutV_lim h hx
  exact ⟨⟨A', n', c', by rw [he], h1, h2, h3⟩, rfl⟩

theorem row_step {zs bs : List Nat} {i k l cy T : Nat} (h : val zs + 1000000000 ^ (i + k) * (cy + l * val (bs.drop k)) = T) (hk : i + k < zs.length) :
    val (zs.set (i + k) ((gd zs (i + k) + gd bs k * l + cy) % 1000000000)) + 1000000000 ^ (i + (k + 1)) * ((gd zs (i + k) + gd bs k * l + cy) / 1000000000 + l * val (bs.drop (k + 1))) = T := by
  rw [← Nat.add_assoc i k 1]
  refine acc_step h hk ?_
  rw [val_drop bs k, Nat.mul_add, Nat.mul_comm l (gd bs k), Nat.mul_left_comm l 1000000000]
  omega
theorem row_end {zs bs : List Nat} {i k l cy T : Nat} (h : val zs + 1000000000 ^ (i + k) * (cy + l * val (bs.drop k)) = T) (hk : i + k < zs.length) (hb : bs.length ≤ k) (hz : gd zs (i + k) = 0) :
    val (zs.set (i + k) cy) = T := by
  have := acc_step (v := cy) (R' := 0) h hk (by rw [hz, List.drop_of_length_le hb]; simp [val])
  rw [Nat.mul_zero, Nat.add_zero] at this
  exact this
theorem row_mul_le {y l : Nat} (hy : y < 1000000000) (hl : l < 1000000000) : y * l ≤ 999999998000000001 :=
  Nat.le_trans (Nat.mul_le_mul (show y ≤ 999999999 by omega) (show l ≤ 999999999 by omega)) (by omega)

/-- What a call hands back that writes into the room g: limbs of the number v. -/
def RetRoom (W : World) (g len v : Nat) (e : Ending) (w' : World) : Prop :=
  ∃ zs, e = .returned (.tuple #[]) ∧ Own w' g zs ∧ zs.length = len ∧ limbs zs ∧ val zs = v ∧ Kept g W w'

set_option maxHeartbeats 1000000 in
set_option maxRecDepth 100000 in
theorem addRow_any (A' : Option Addr) (g i n' c' m l b : Nat) (zs : List Nat) (w : World) (ho : Hid (Own w g zs)) (hl : Hid (limbs zs)) (hm : zs.length = m) (him : i + n' + 1 ≤ m) (_hmm : m ≤ 1000000000) (hz : gd zs (i + n') = 0)
    (h' : Num w g A' n' c' b) (hlim : l < 1000000000) :
    Calls Tryd.prog 52 #[.slice (some ⟨g, i, none⟩) (n' + 1) (n' + 1), .slice A' n' c', .int .u32 l] w (RetRoom w g m (val zs + 1000000000 ^ i * (l * b))) := by
  have hm' := h'.room
  have hn' := h'.cap
  unfold maxLen at hm'
  have H' := Lib.hid h'
  have HM := Lib.hid hm
  have HZ := Lib.hid hz
  clear h' hm hz
  go_enter Tryd.func52, Tryd.ntmps52
  go_wp2
  go_loopw [6, 11] (fun cv iv wr => ∃ (k cy : Nat) (ys : List Nat), k ≤ n' ∧ iv = .int .i64 k ∧ cv = .int .u64 cy ∧ cy < 1000000000 ∧ ys.length = m ∧ limbs ys ∧ gd ys (i + n') = 0 ∧ val ys + 1000000000 ^ (i + k) * (cy + l * val ((dg b).drop k)) = val zs + 1000000000 ^ i * (l * b) ∧ Own wr g ys ∧ Kept g w wr) (fun _ iv _ => n' - (intOf iv).toNat)
  case atStart =>
    exact ⟨0, 0, zs, Nat.zero_le _, rfl, rfl, by omega, HM.out, hl.out, HZ.out, by rw [List.drop_zero, val_dg, Nat.add_zero, Nat.zero_add], ho.out, Kept.refl _ _⟩
  case round =>
    obtain ⟨k, cy, ys, hk, rfl, rfl, hcy, hlen, hly, hzy, hval, hown, hkp⟩ := hrel
    have OW := Lib.hid hown
    have HL := Lib.hid hly
    have HV := Lib.hid hval
    have HK := Lib.hid hkp
    have LN := Lib.hid hlen
    have HZY := Lib.hid hzy
    clear hown hly hval hkp hlen hzy
    rcases Nat.lt_or_ge k n' with hkn | hkn
    · have hcell := OW.out.cell (i := i + k) (by rw [LN.out]; omega)
      have hfr := OW.out.frozen (i + k)
      have hx := gd_lt HL.out (i + k)
      obtain ⟨b2, o2, rfl, _, hc2⟩ := (H'.out.below (HK.out.below (Nat.le_refl _))).at_ hkn
      have hy := gd_lt (limbs_dg b) k
      have hp := row_mul_le hy hlim
      have E : Hid (((gd (dg b) k : Nat) : Int) * (l : Nat) = ((gd (dg b) k * l : Nat) : Int)) := by show _ = _; rw [Int.natCast_mul]
      have hp0 : 0 ≤ ((gd (dg b) k : Nat) : Int) * (l : Nat) := by rw [E.out]; omega
      have hp1 : ((gd (dg b) k : Nat) : Int) * (l : Nat) ≤ 999999998000000001 := by rw [E.out]; omega
      clear hp
      go_wp2
      go_region
      go_wp2
      go_roundw
      case rel =>
        have hpn : gd (dg b) k * l ≤ 999999998000000001 := row_mul_le hy hlim
        have ev : ((gd ys (i + k) : Nat) : Int) + ((gd (dg b) k : Nat) : Int) * (l : Nat) + (cy : Nat) = ((gd ys (i + k) + gd (dg b) k * l + cy : Nat) : Int) := by rw [E.out]; omega
        rw [ev]
        have HR := row_step HV.out (show i + k < ys.length by rw [LN.out]; omega)
        generalize gd ys (i + k) + gd (dg b) k * l + cy = t at *
        have ht : t < 1000000000000000000 := by omega
        exact ⟨k + 1, t / 1000000000, ys.set (i + k) (t % 1000000000), by omega, by go_num, rfl, by omega, by rw [List.length_set]; exact LN.out, limbs_set HL.out _ (by omega), by rw [gd_set _ _ _ _ (by rw [LN.out]; omega), if_neg (by omega)]; exact HZY.out, HR, (OW.out.store (i + k) (t % 1000000000) _ rfl).drew, (HK.out.setCell _ _).drew⟩
      case measure => simp [intOf]; omega
    · obtain rfl : k = n' := by omega
      have hcell := OW.out.cell (i := i + k) (by rw [LN.out]; omega)
      have hfr := OW.out.frozen (i + k)
      go_wp2
      go_end0
      exact ⟨ys.set (i + k) cy, rfl, OW.out.store (i + k) cy _ (by omega), by rw [List.length_set]; exact LN.out, limbs_set HL.out _ hcy, row_end HV.out (by rw [LN.out]; omega) (by rw [H'.out.len]; exact Nat.le_refl _) HZY.out, HK.out.setCell _ _⟩

theorem sum_step {zs xs : List Nat} {o k cy T : Nat} (h : val zs + 1000000000 ^ (o + k) * (cy + val (xs.drop k)) = T) (hk : o + k < zs.length) :
    val (zs.set (o + k) ((gd zs (o + k) + cy + gd xs k) % 1000000000)) + 1000000000 ^ (o + (k + 1)) * ((gd zs (o + k) + cy + gd xs k) / 1000000000 + val (xs.drop (k + 1))) = T := by
  rw [← Nat.add_assoc o k 1]
  refine acc_step h hk ?_
  rw [val_drop xs k]
  omega
theorem sum_end {zs xs : List Nat} {k j T : Nat} (h : val zs + 1000000000 ^ j * (0 + val (xs.drop k)) = T) (hk : xs.length ≤ k) : val zs = T := by
  rw [List.drop_of_length_le hk, val, Nat.add_zero, Nat.mul_zero] at h
  exact h

end Go.Proofs.YtecgmdomhbmbkaaDoor
