/-
  The document's Mul, Times, Square, Power, Ten, Shift.
-/
import Derived.Test.YtecgmdomhbmbkaaDoorMulS
namespace Go.Proofs.YtecgmdomhbmbkaaDoor
open Go.RowKit

/-- Block g is just the digits zs. -/
def OwnI (w : World) (g : Nat) (zs : List Nat) : Prop := w.heap[g]? = some (.cells (valsI zs).toArray 3 (0, 0))
theorem OwnI.cell {w : World} {g : Nat} {zs : List Nat} (h : OwnI w g zs) {i : Nat} (hi : i < zs.length) : w.cell? ⟨g, i, none⟩ = some (.int .i64 (gd zs i : Nat)) := by
  rw [cell_of_row w g i _ _ (0, 0) h]
  simpa using valsI_get hi
theorem OwnI.frozen {w : World} {g : Nat} {zs : List Nat} (h : OwnI w g zs) (i : Nat) : w.frozen? ⟨g, i, none⟩ = false := frozen_of_row w g i _ _ h
theorem OwnI.lt {w : World} {g : Nat} {zs : List Nat} (h : OwnI w g zs) : g < w.heap.size := by
  rcases Nat.lt_or_ge g w.heap.size with hlt | hge
  · exact hlt
  · unfold OwnI at h; rw [Array.getElem?_eq_none hge] at h; cases h
theorem OwnI.store {w : World} {g : Nat} {zs : List Nat} (h : OwnI w g zs) (i : Nat) (x : Nat) (v : Int) (hv : v = x) : OwnI (w.setCell ⟨g, i, none⟩ (.int .i64 v)) g (zs.set i x) := by
  subst hv
  unfold OwnI at h ⊢
  rw [heap_setCell_same w g i _ _ _ h, valsI_set]
  simp
theorem OwnI.drew {w : World} {g : Nat} {zs : List Nat} (h : OwnI w g zs) : OwnI w.drew g zs := h
theorem OwnI.dig {w : World} {g m : Nat} {zs : List Nat} (h : OwnI w g zs) (hl : zs.length = m) (hm : m ≤ 1000000000000) : Dig w w.heap.size (some ⟨g, 0, none⟩) m m zs := by
  subst hl
  refine ⟨rfl, Nat.le_refl _, by unfold maxLen; omega, .inr ⟨g, 0, rfl, h.lt, fun j u hu => ?_⟩, fun h => by cases h⟩
  rw [cell_of_row w g (0 + j) _ _ (0, 0) h, Nat.zero_add]
  simpa using hu
theorem made_vals (n : Nat) : (madeCells (Value.int .i64 0).cells (n * 1)).toList = valsI (List.replicate n 0) := by
  rw [Nat.mul_one]
  show (madeCells #[Value.int .i64 0] n).toList = _
  rw [toList_madeCells_one]
  simp [valsI]
theorem OwnI.of_made {w : World} {base n : Nat} (h : w.ownsRow base 3 1 (.slice (some ⟨base, 0, none⟩) n n) n (madeCells (Value.int .i64 0).cells (n * 1)).toList) : OwnI w base (List.replicate n 0) := by
  rw [made_vals] at h
  rcases h.2 with ⟨h1, _⟩ | ⟨g, cap, cur, hv, _, hh, _, _, hsz, htk⟩
  · cases h1
  · injection hv with h1 h2 h3
    injection h1 with h1
    injection h1 with h1
    subst h1; subst h3
    unfold OwnI
    rw [hh, ← htk, List.take_of_length_le (by simp; omega)]

theorem conv_lo {zs : List Nat} {i k v B : Nat} (hk : i + k < zs.length) (h : ∀ j, j < i + k → gd zs j ≤ B) (hv : v ≤ B) : ∀ j, j < i + (k + 1) → gd (zs.set (i + k) v) j ≤ B := by
  intro j hj
  rw [gd_set _ _ _ _ hk]
  split
  · exact hv
  · exact h j (by omega)
theorem conv_hi {zs : List Nat} {i k v B : Nat} (hk : i + k < zs.length) (h : ∀ j, i + k ≤ j → gd zs j ≤ B) : ∀ j, i + (k + 1) ≤ j → gd (zs.set (i + k) v) j ≤ B := by
  intro j hj
  rw [gd_set _ _ _ _ hk, if_neg (by omega)]
  exact h j (by omega)

set_option maxHeartbeats 2000000 in
set_option maxRecDepth 100000 in
theorem refMul_any (A A' : Option Addr) (n c n' c' a b : Nat) (w : World) (h : Num w w.heap.size A n c a) (h' : Num w w.heap.size A' n' c' b) (hn : n ≤ 100000) (hn' : n' ≤ 100000) :
    Calls Tryd.prog 36 #[.slice A n c, .slice A' n' c'] w (RetNum w (a * b)) := by
  obtain ⟨i0, hi, hz0, hz1, hz2⟩ := info_parts info_int
  have H' := Lib.hid h'
  have C1 := Lib.hid (digits_any A n c a w h (by omega))
  clear h h'
  go_enter Tryd.func36, Tryd.ntmps36
  go_wp2_with fail
  refine C1.out.mono ?_; rintro e w1 ⟨A1, c1, xs, rfl, ho1, hl1, hd1, ht1, hb1⟩
  have X1 := Lib.hid (Dig.of_own ho1)
  have HB1 := Lib.hid hb1
  have D1 := Lib.hid hd1
  have T1 := Lib.hid ht1
  have C2 := Lib.hid (digits_any A' n' c' b w1 ((H'.out.below hb1).more hb1.size) (by omega))
  clear ho1 hl1 hd1 ht1 hb1 C1
  go_wp2_with fail
  refine C2.out.mono ?_; rintro e w2 ⟨A2, c2, ys, rfl, ho2, hl2, hd2, ht2, hb2⟩
  have X2 := Lib.hid (Dig.of_own ho2)
  have X1 := Lib.hid ((X1.out.below hb2).more hb2.size)
  have HB2 := Lib.hid (HB1.out.trans (hb2.mono HB1.out.size))
  have D2 := Lib.hid hd2
  have T2 := Lib.hid ht2
  have HSZ := Lib.hid (Nat.le_trans HB1.out.size hb2.size)
  clear ho2 hl2 hd2 ht2 hb2 C2
  obtain ⟨N, hN⟩ : ∃ N, N = 9 * n := ⟨_, rfl⟩
  obtain ⟨N', hN'⟩ : ∃ N', N' = 9 * n' := ⟨_, rfl⟩
  have hNb : N ≤ 900000 := by omega
  have hNb' : N' ≤ 900000 := by omega
  rw [← hN] at X1 ⊢
  rw [← hN'] at X2 ⊢
  clear hN hN'
  go_wp2_with (at_make; go_must (refine wpList_make_full _ rfl _ _ 61 rfl w2.heap.size 3 i0 (.int .i64 0) 1 Tryd.underlying61 hi hz0 hz1 _ _ _ _ (N + N') rfl rfl (by omega) (by omega) (by rw [hz2]; omega) (by unfold maxLen; omega) (Nat.le_refl _) ?_; intro w3 hown1 hgr1; have O3 : Hid (OwnI w3 w2.heap.size (List.replicate (N + N') 0)) := OwnI.of_made hown1; have HB3 : Hid (Below w2.heap.size w2 w3) := (Below.refl _ _).grown hgr1 (Nat.le_refl _) (fun k hk => by cases hk); clear hown1 hgr1))
  go_loopw [22] (fun iv wr => ∃ (i : Nat) (zs : List Nat), i ≤ N ∧ iv = .int .i64 i ∧ zs.length = N + N' ∧ (∀ j, gd zs j ≤ 81 * i) ∧ ten zs = ten (xs.take i) * ten ys ∧ OwnI wr w2.heap.size zs ∧ Below w2.heap.size w2 wr) (fun iv _ => N - (intOf iv).toNat)
  case atStart =>
    exact ⟨0, List.replicate (N + N') 0, Nat.zero_le _, rfl, by simp, (fun j => by rw [gd_zeros]; omega), by rw [ten_zeros, List.take_zero, ten, Nat.zero_mul], O3.out, HB3.out⟩
  case round =>
    obtain ⟨i, zs, hi1, rfl, hlen, hle, hval, hown, hb⟩ := hrel
    clear O3 HB3
    have OW := Lib.hid hown
    have HL := Lib.hid hle
    have HV := Lib.hid hval
    have HB := Lib.hid hb
    have LN := Lib.hid hlen
    clear hown hle hval hb hlen
    rcases Nat.lt_or_ge i N with hin | hin
    · obtain ⟨wo, rfl⟩ : ∃ wo : World, wo = wr := ⟨_, rfl⟩
      go_wp2
      go_loopw [27] (fun kv wr => ∃ (k : Nat) (zs : List Nat), k ≤ N' ∧ kv = .int .i64 k ∧ zs.length = N + N' ∧ (∀ j, j < i + k → gd zs j ≤ 81 * (i + 1)) ∧ (∀ j, i + k ≤ j → gd zs j ≤ 81 * i) ∧ ten zs = ten (xs.take i) * ten ys + 10 ^ i * (gd xs i * ten (ys.take k)) ∧ OwnI wr w2.heap.size zs ∧ Below w2.heap.size w2 wr) (fun kv _ => N' - (intOf kv).toNat)
      case atStart =>
        exact ⟨0, zs, Nat.zero_le _, rfl, LN.out, (fun j _ => Nat.le_trans (HL.out j) (by omega)), (fun j _ => HL.out j), by rw [HV.out, List.take_zero, ten]; simp, OW.out, HB.out⟩
      case round =>
        obtain ⟨k, us, hk1, rfl, hlen, hlo, hhi, hval, hown, hb⟩ := hrel
        have OU := Lib.hid hown
        have LO := Lib.hid hlo
        have HI := Lib.hid hhi
        have HU := Lib.hid hval
        have HC := Lib.hid hb
        have LU := Lib.hid hlen
        clear hown hlo hhi hval hb hlen
        rcases Nat.lt_or_ge k N' with hkn | hkn
        · obtain ⟨b1, o1, rfl, _, hc1⟩ := (X1.out.below HC.out).at_ hin
          obtain ⟨b2, o2, rfl, _, hc2⟩ := (X2.out.below HC.out).at_ hkn
          have hc3 := OU.out.cell (i := i + k) (by rw [LU.out]; omega)
          have hfr := OU.out.frozen (i + k)
          have hx := D1.out i
          have hy := D2.out k
          have hz := HI.out (i + k) (Nat.le_refl _)
          have hpn : gd xs i * gd ys k ≤ 81 := Nat.le_trans (Nat.mul_le_mul (show gd xs i ≤ 9 by omega) (show gd ys k ≤ 9 by omega)) (by omega)
          have E : Hid (((gd xs i : Nat) : Int) * ((gd ys k : Nat) : Int) = ((gd xs i * gd ys k : Nat) : Int)) := by show _ = _; rw [Int.natCast_mul]
          have hp0 : 0 ≤ ((gd xs i : Nat) : Int) * ((gd ys k : Nat) : Int) := by rw [E.out]; omega
          have hp1 : ((gd xs i : Nat) : Int) * ((gd ys k : Nat) : Int) ≤ 81 := by rw [E.out]; omega
          have HPN := Lib.hid hpn
          clear hpn
          go_wp2
          go_region
          go_wp2
          go_roundw
          case rel =>
            have hv : ((gd us (i + k) : Nat) : Int) + ((gd xs i : Nat) : Int) * ((gd ys k : Nat) : Int) = ((gd us (i + k) + gd xs i * gd ys k : Nat) : Int) := by rw [E.out]; omega
            have hlt : i + k < us.length := by rw [LU.out]; omega
            exact ⟨k + 1, us.set (i + k) (gd us (i + k) + gd xs i * gd ys k), by omega, by go_num, by rw [List.length_set]; exact LU.out, conv_lo hlt LO.out (by have := HPN.out; omega), conv_hi hlt HI.out, conv_step HU.out hlt, (OU.out.store _ _ _ hv).drew, (HC.out.setCell (Nat.le_refl _) _).drew⟩
          case measure => simp [intOf]; omega
        · obtain rfl : k = N' := by omega
          go_wp2
          go_roundw
          case rel =>
            refine ⟨i + 1, us, by omega, by go_num, LU.out, fun j => ?_, ?_, OU.out, HC.out⟩
            · rcases Nat.lt_or_ge j (i + k) with h1 | h1
              · exact LO.out j h1
              · exact Nat.le_trans (HI.out j h1) (by omega)
            · have := HU.out
              rw [List.take_of_length_le (show ys.length ≤ k by rw [X2.out.len]; exact Nat.le_refl _)] at this
              exact conv_row this
          case measure => simp [intOf]; omega
    · obtain rfl : i = N := by omega
      have HE : Hid (ten zs = a * b) := by have := HV.out; rw [List.take_of_length_le (by rw [X1.out.len]; exact Nat.le_refl _)] at this; show _ = _; rw [this, T1.out, T2.out]
      have CN := Lib.hid (number_any (some ⟨w2.heap.size, 0, none⟩) (i + N') (i + N') 72900000 zs wr (OW.out.dig LN.out (by omega)) (by omega) (by omega) (fun j => Nat.le_trans (HL.out j) (by omega)))
      go_wp2_with fail
      refine CN.out.mono ?_; rintro e w4 ⟨A4, n4, c4, rfl, h4, hb4⟩
      have H4 := Lib.hid h4
      have HB4 := Lib.hid (HB2.out.trans ((HB.out.mono HSZ.out).trans (hb4.mono (Nat.le_trans HSZ.out HB.out.size))))
      clear h4 hb4
      go_wp2_with fail
      go_ret
      exact ⟨_, _, _, rfl, by rw [← HE.out]; exact H4.out, HB4.out⟩

theorem refMul_is {A A' : Option Addr} {n c n' c' a b m : Nat} {w : World} (h : Num w w.heap.size A n c a) (h' : Num w w.heap.size A' n' c' b) (hn : n ≤ 100000) (hn' : n' ≤ 100000) (hm : a * b = m) :
    Calls Tryd.prog 36 #[.slice A n c, .slice A' n' c'] w (RetNum w m) := by
  subst hm; exact refMul_any A A' n c n' c' a b w h h' hn hn'

theorem refMk_any (N : Nat) (v : Int) (hv : v = N) (hN : N < 18446744073709551616) (w : World) : Calls Tryd.prog 26 #[.int .u64 v] w (RetNum w N) := by
  subst hv; exact refMake_any 3 N w hN (len_of_u64 hN)

theorem refTimes_is {A : Option Addr} {n c a l m : Nat} {w : World} (h : Num w w.heap.size A n c a) (hn : n ≤ 100000) (hl : l < 4294967296) (hm : a * l = m) :
    Calls Tryd.prog 25 #[.slice A n c, .int .u32 l] w (RetNum w m) := by
  have H := Lib.hid h
  have HM := Lib.hid hm
  clear h hm
  go_enter Tryd.func25, Tryd.ntmps25
  go_wp2_with fail
  refine (refMk_any l _ rfl (by omega) _).mono ?_; rintro e w1 ⟨A1, n1, c1, rfl, h1, hb1⟩
  have hn1 : n1 ≤ 3 := by have := len_of_u64 (show l < 18446744073709551616 by omega); rwa [h1.len] at this
  have HB1 := Lib.hid hb1
  have H1 := Lib.hid h1
  clear h1 hb1
  go_wp2_with fail
  refine (refMul_is ((H.out.below HB1.out).more HB1.out.size) H1.out hn (by omega) HM.out).mono ?_; rintro e w2 ⟨A2, n2, c2, rfl, h2, hb2⟩
  have HB2 := Lib.hid (HB1.out.trans (hb2.mono HB1.out.size))
  have H2 := Lib.hid h2
  clear h2 hb2
  go_wp2_with fail
  go_ret
  exact ⟨_, _, _, rfl, H2.out, HB2.out⟩

end Go.Proofs.YtecgmdomhbmbkaaDoor
