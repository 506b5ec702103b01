/-
  Contracts of layer 9, the seventh part: Encode.
-/
import Derived.Test.YtkeiipnclkaeiaaDoorUtfF
set_option linter.unusedVariables false
set_option linter.unusedSimpArgs false
namespace Go.Proofs.YtkeiipnclkaeiaaDoor
open Go.RowKit

/-- Block g is just the bytes ys. -/
def Own9 (w : World) (g : Nat) (ys : List Nat) : Prop := w.heap[g]? = some (.cells (bv9 ys).toArray 36 (0, 0))
theorem Own9.frozen {w : World} {g : Nat} {ys : List Nat} (h : Own9 w g ys) (i : Nat) : w.frozen? ⟨g, i, none⟩ = false := frozen_of_row w g i _ _ h
theorem Own9.cell {w : World} {g : Nat} {ys : List Nat} (h : Own9 w g ys) {i y : Nat} (hi : ys[i]? = some y) : w.cell? ⟨g, i, none⟩ = some (.int .u8 (y : Int)) := by
  rw [cell_of_row w g i _ _ (0, 0) h]
  unfold bv9
  simp [hi]
theorem Own9.store {w : World} {g : Nat} {ys zs : List Nat} (h : Own9 w g ys) (i x : Nat) (hz : ys.set i x = zs) : Own9 (w.setCell ⟨g, i, none⟩ (.int .u8 (x : Int))) g zs := by
  subst hz
  unfold Own9 at h ⊢
  rw [heap_setCell_same w g i _ _ _ h]
  unfold bv9
  simp [List.map_set]
theorem Own9.conv {w : World} {g : Nat} {ys zs : List Nat} {n c : Nat} (h : Own9 w g ys) (hn : zs.length = n) (hz : ys.take n = zs) : (convert 39 9 (.slice (some ⟨g, 0, none⟩) n c)).run Tryd.prog w = .ok (.string (st9 zs)) w := by
  have hl : n ≤ ys.length := by rw [← hn, ← hz, List.length_take]; omega
  rw [run_convert_bytes_arg _ 39 5 Tryd.underlying39 Tryd.underlying5 g 0 n c (zs.map fun (y : Nat) => (y : Int)) (by rw [List.length_map]; exact hn) (fun i hi => ?_) 9 Tryd.underlying9, strOfNums9]
  rw [Nat.zero_add, h.cell (i := i) (y := ys[i]'(by omega)) (List.getElem?_eq_getElem (by omega)), ← hz]
  simp [List.getD_eq_getElem?_getD, List.getElem?_take, hi, List.getElem?_eq_getElem (show i < ys.length by omega)]
theorem Own9.made (w : World) (ys : List Nat) {t : TypeId} (ht : t = 36) : Own9 (w.alloc (.cells (bv9 ys).toArray t)) w.heap.size ys := by
  subst ht
  show (w.heap.push _)[w.heap.size]? = _
  simp
theorem or8 (y : Nat) (h : y < 64) : bits .or .u8 128 (y : Int) = ((128 + y : Nat) : Int) := by
  rw [u8_or128 _ (by omega) (by omega)]; omega
theorem or0 (y : Nat) (h : y < 2 ^ 40) : bits .or .i64 0 (y : Int) = (y : Int) := by
  have := bits_join .i64 40 (by decide) wraps_i64' 40 0 (y : Int) (by decide) (by decide) (by decide) (by omega) (by omega) (by omega)
  rw [this]; omega

set_option maxHeartbeats 4000000 in
set_option maxRecDepth 100000 in
theorem encode_1 (x : Nat) (w : World) (hT : Tabs9 w) (h : Sg x) (h1 : 0 ≤ x) (h2 : x < 128) : Calls Tryd.prog 8 #[.int .i64 (x : Int)] w (Ret9 w (.tuple #[.string (st9 (enc x)), .int .i64 0])) := by
  have HT := Lib.hid hT
  have D : Hid (decide (0 ≤ (x : Int) ∧ Sg (x : Int).toNat) = true) := decide_eq_true ⟨by omega, h⟩
  have HL : Hid (lng x = 1) := lng_is (by omega)
  have hx := h.le
  obtain ⟨X0, hX0⟩ : ∃ X, X = x := ⟨_, rfl⟩
  obtain ⟨d, hd⟩ : ∃ c, c = 0 + X0 := ⟨_, rfl⟩
  have qd : (d : Int) % 256 = (d : Int) := by omega
  have ad : bits .or .i64 0 (X0 : Int) = (d : Int) := by rw [or0 _ (by omega)]; omega
  have E : Hid ([d] = enc x) := by
    show _ = _; unfold enc
    rw [if_pos (by omega), hd, hX0, Nat.zero_add]
  obtain ⟨S, hS⟩ : ∃ S, st9 [d] = S := ⟨_, rfl⟩
  have ES : Hid (S = st9 (enc x)) := by show _ = _; rw [← hS, E.out]
  have HS := Lib.hid hS
  rw [← ES.out]
  have HX0 : Hid (X0 = x) := hX0
  have HTC : Hid (∀ w', Below w.heap.size w w' → w'.cell? ⟨0, 0, none⟩ = some (.int .i64 0)) := fun w' hb => (HT.out.on hb).mk_ 0 (by decide)
  clear hT h hx h1 h2 hX0 hd hS 
  go_enter Tryd.func8, Tryd.ntmps8
  go_wp2_with fail
  refine (isSign_any _ _).mono ?_; rintro e w1 ⟨rfl, rfl⟩
  rw [D.out]
  go_wp2_with fail
  refine (length_any x _ HT.out).mono ?_; rintro e w1 ⟨rfl, rfl⟩
  rw [HL.out]
  have HO1 : Hid (Own9 (w.alloc (.cells #[.int .u8 0, .int .u8 0, .int .u8 0, .int .u8 0] 36)) w.heap.size [0, 0, 0, 0]) := Own9.made w [0, 0, 0, 0] rfl
  have HB1 : Hid (Below w.heap.size w (w.alloc (.cells #[.int .u8 0, .int .u8 0, .int .u8 0, .int .u8 0] 36))) := (Below.refl _ _).alloc (Nat.le_refl _) _
  rw [← HX0.out]
  go_wp2_with fail
  go_loopw [0, 6] (fun xv iv wr => Below w.heap.size w wr ∧ ((iv = .int .i64 0 ∧ xv = .int .i64 (X0 : Int) ∧ Own9 wr w.heap.size [0, 0, 0, 0]))) (fun _ iv _ => (intOf iv).toNat)
  case atStart => exact ⟨HB1.out, ⟨rfl, rfl, HO1.out⟩⟩
  case round =>
    obtain ⟨hb, ⟨rfl, rfl, ho⟩⟩ := hrel
    have HB := Lib.hid hb
    clear hb HO1 HB1
    skip
    all_goals (have HO := Lib.hid ho; clear ho)
    · have hcell := HO.out.cell (i := 0) (y := 0) rfl
      have hfr := HO.out.frozen 0
      have hmk := HTC.out _ HB.out
      have HO2 : Own9 (wr.setCell ⟨w.heap.size, 0, none⟩ (.int .u8 (d : Int))) w.heap.size [d, 0, 0, 0] := HO.out.store 0 d rfl
      have hcv := HO2.conv (n := 1) (c := 4) (zs := [d]) rfl rfl
      rw [HS.out] at hcv
      have HB2 : Hid (Below w.heap.size w (wr.setCell ⟨w.heap.size, 0, none⟩ (.int .u8 (d : Int)))) := HB.out.setCell (p := ⟨w.heap.size, 0, none⟩) (Nat.le_refl _) _
      clear HO2
      go_wp2_with fail
      go_ret2
      exact ⟨rfl, HB2.out⟩

set_option maxHeartbeats 4000000 in
set_option maxRecDepth 100000 in
theorem encode_2 (x : Nat) (w : World) (hT : Tabs9 w) (h : Sg x) (h1 : 128 ≤ x) (h2 : x < 2048) : Calls Tryd.prog 8 #[.int .i64 (x : Int)] w (Ret9 w (.tuple #[.string (st9 (enc x)), .int .i64 0])) := by
  have HT := Lib.hid hT
  have D : Hid (decide (0 ≤ (x : Int) ∧ Sg (x : Int).toNat) = true) := decide_eq_true ⟨by omega, h⟩
  have HL : Hid (lng x = 2) := lng_is (by omega)
  have hx := h.le
  obtain ⟨X0, hX0⟩ : ∃ X, X = x := ⟨_, rfl⟩
  obtain ⟨X1, hX1⟩ : ∃ X, X = X0 / 64 := ⟨_, rfl⟩
  have v0 : (X0 : Int) / 64 = (X1 : Int) := by omega
  obtain ⟨y0, hy0⟩ : ∃ y, y = X0 % 64 := ⟨_, rfl⟩
  have q0 : (y0 : Int) % 256 = (y0 : Int) := by omega
  obtain ⟨c0, hc0⟩ : ∃ c, c = 128 + y0 := ⟨_, rfl⟩
  have n0 : bits .and .i64 (X0 : Int) 63 = (y0 : Int) := by rw [hy0, ← and64 X0 (by omega)]
  have a0 : bits .or .u8 128 (y0 : Int) = (c0 : Int) := by rw [hc0]; exact or8 _ (by omega)
  obtain ⟨d, hd⟩ : ∃ c, c = 192 + X1 := ⟨_, rfl⟩
  have qd : (d : Int) % 256 = (d : Int) := by omega
  have ad : bits .or .i64 192 (X1 : Int) = (d : Int) := by rw [hd]; exact or64 192 5 _ (by decide) (by decide) (by omega) (by decide)
  have E : Hid ([d, c0] = enc x) := by
    show _ = _; unfold enc
    rw [if_neg (by omega), if_pos (by omega), hd, hc0, hy0, hX1, hX0]
  obtain ⟨S, hS⟩ : ∃ S, st9 [d, c0] = S := ⟨_, rfl⟩
  have ES : Hid (S = st9 (enc x)) := by show _ = _; rw [← hS, E.out]
  have HS := Lib.hid hS
  rw [← ES.out]
  have HX0 : Hid (X0 = x) := hX0
  have HTC : Hid (∀ w', Below w.heap.size w w' → w'.cell? ⟨0, 1, none⟩ = some (.int .i64 192)) := fun w' hb => (HT.out.on hb).mk_ 1 (by decide)
  clear hT h hx h1 h2 hX0 hd hS hX1 hy0 hc0
  go_enter Tryd.func8, Tryd.ntmps8
  go_wp2_with fail
  refine (isSign_any _ _).mono ?_; rintro e w1 ⟨rfl, rfl⟩
  rw [D.out]
  go_wp2_with fail
  refine (length_any x _ HT.out).mono ?_; rintro e w1 ⟨rfl, rfl⟩
  rw [HL.out]
  have HO1 : Hid (Own9 (w.alloc (.cells #[.int .u8 0, .int .u8 0, .int .u8 0, .int .u8 0] 36)) w.heap.size [0, 0, 0, 0]) := Own9.made w [0, 0, 0, 0] rfl
  have HB1 : Hid (Below w.heap.size w (w.alloc (.cells #[.int .u8 0, .int .u8 0, .int .u8 0, .int .u8 0] 36))) := (Below.refl _ _).alloc (Nat.le_refl _) _
  rw [← HX0.out]
  go_wp2_with fail
  go_loopw [0, 6] (fun xv iv wr => Below w.heap.size w wr ∧ ((iv = .int .i64 1 ∧ xv = .int .i64 (X0 : Int) ∧ Own9 wr w.heap.size [0, 0, 0, 0]) ∨ (iv = .int .i64 0 ∧ xv = .int .i64 (X1 : Int) ∧ Own9 wr w.heap.size [0, c0, 0, 0]))) (fun _ iv _ => (intOf iv).toNat)
  case atStart => exact ⟨HB1.out, .inl ⟨rfl, rfl, HO1.out⟩⟩
  case round =>
    obtain ⟨hb, hh⟩ := hrel
    have HB := Lib.hid hb
    clear hb HO1 HB1
    rcases hh with ⟨rfl, rfl, ho⟩ | ⟨rfl, rfl, ho⟩
    all_goals (have HO := Lib.hid ho; clear ho)
    · have hcell := HO.out.cell (i := 1) (y := 0) rfl
      have hfr := HO.out.frozen 1
      have HO2 : Hid (Own9 (wr.setCell ⟨w.heap.size, 1, none⟩ (.int .u8 (c0 : Int))) w.heap.size [0, c0, 0, 0]) := HO.out.store 1 c0 rfl
      have HB2 : Hid (Below w.heap.size w (wr.setCell ⟨w.heap.size, 1, none⟩ (.int .u8 (c0 : Int)))) := HB.out.setCell (p := ⟨w.heap.size, 1, none⟩) (Nat.le_refl _) _
      go_wp2_with fail
      go_roundw
      case rel => exact ⟨HB2.out, .inr (⟨rfl, rfl, HO2.out⟩)⟩
      case measure => decide
    · have hcell := HO.out.cell (i := 0) (y := 0) rfl
      have hfr := HO.out.frozen 0
      have hmk := HTC.out _ HB.out
      have HO2 : Own9 (wr.setCell ⟨w.heap.size, 0, none⟩ (.int .u8 (d : Int))) w.heap.size [d, c0, 0, 0] := HO.out.store 0 d rfl
      have hcv := HO2.conv (n := 2) (c := 4) (zs := [d, c0]) rfl rfl
      rw [HS.out] at hcv
      have HB2 : Hid (Below w.heap.size w (wr.setCell ⟨w.heap.size, 0, none⟩ (.int .u8 (d : Int)))) := HB.out.setCell (p := ⟨w.heap.size, 0, none⟩) (Nat.le_refl _) _
      clear HO2
      go_wp2_with fail
      go_ret2
      exact ⟨rfl, HB2.out⟩

set_option maxHeartbeats 4000000 in
set_option maxRecDepth 100000 in
theorem encode_3 (x : Nat) (w : World) (hT : Tabs9 w) (h : Sg x) (h1 : 2048 ≤ x) (h2 : x < 65536) : Calls Tryd.prog 8 #[.int .i64 (x : Int)] w (Ret9 w (.tuple #[.string (st9 (enc x)), .int .i64 0])) := by
  have HT := Lib.hid hT
  have D : Hid (decide (0 ≤ (x : Int) ∧ Sg (x : Int).toNat) = true) := decide_eq_true ⟨by omega, h⟩
  have HL : Hid (lng x = 3) := lng_is (by omega)
  have hx := h.le
  obtain ⟨X0, hX0⟩ : ∃ X, X = x := ⟨_, rfl⟩
  obtain ⟨X1, hX1⟩ : ∃ X, X = X0 / 64 := ⟨_, rfl⟩
  have v0 : (X0 : Int) / 64 = (X1 : Int) := by omega
  obtain ⟨y0, hy0⟩ : ∃ y, y = X0 % 64 := ⟨_, rfl⟩
  have q0 : (y0 : Int) % 256 = (y0 : Int) := by omega
  obtain ⟨c0, hc0⟩ : ∃ c, c = 128 + y0 := ⟨_, rfl⟩
  have n0 : bits .and .i64 (X0 : Int) 63 = (y0 : Int) := by rw [hy0, ← and64 X0 (by omega)]
  have a0 : bits .or .u8 128 (y0 : Int) = (c0 : Int) := by rw [hc0]; exact or8 _ (by omega)
  obtain ⟨X2, hX2⟩ : ∃ X, X = X1 / 64 := ⟨_, rfl⟩
  have v1 : (X1 : Int) / 64 = (X2 : Int) := by omega
  obtain ⟨y1, hy1⟩ : ∃ y, y = X1 % 64 := ⟨_, rfl⟩
  have q1 : (y1 : Int) % 256 = (y1 : Int) := by omega
  obtain ⟨c1, hc1⟩ : ∃ c, c = 128 + y1 := ⟨_, rfl⟩
  have n1 : bits .and .i64 (X1 : Int) 63 = (y1 : Int) := by rw [hy1, ← and64 X1 (by omega)]
  have a1 : bits .or .u8 128 (y1 : Int) = (c1 : Int) := by rw [hc1]; exact or8 _ (by omega)
  obtain ⟨d, hd⟩ : ∃ c, c = 224 + X2 := ⟨_, rfl⟩
  have qd : (d : Int) % 256 = (d : Int) := by omega
  have ad : bits .or .i64 224 (X2 : Int) = (d : Int) := by rw [hd]; exact or64 224 4 _ (by decide) (by decide) (by omega) (by decide)
  have E : Hid ([d, c1, c0] = enc x) := by
    show _ = _; unfold enc
    rw [if_neg (by omega), if_neg (by omega), if_pos (by omega), hd, hc1, hy1, hc0, hy0, hX2, hX1, hX0, show x / 64 / 64 = x / 4096 by omega]
  obtain ⟨S, hS⟩ : ∃ S, st9 [d, c1, c0] = S := ⟨_, rfl⟩
  have ES : Hid (S = st9 (enc x)) := by show _ = _; rw [← hS, E.out]
  have HS := Lib.hid hS
  rw [← ES.out]
  have HX0 : Hid (X0 = x) := hX0
  have HTC : Hid (∀ w', Below w.heap.size w w' → w'.cell? ⟨0, 2, none⟩ = some (.int .i64 224)) := fun w' hb => (HT.out.on hb).mk_ 2 (by decide)
  clear hT h hx h1 h2 hX0 hd hS hX1 hy0 hc0 hX2 hy1 hc1
  go_enter Tryd.func8, Tryd.ntmps8
  go_wp2_with fail
  refine (isSign_any _ _).mono ?_; rintro e w1 ⟨rfl, rfl⟩
  rw [D.out]
  go_wp2_with fail
  refine (length_any x _ HT.out).mono ?_; rintro e w1 ⟨rfl, rfl⟩
  rw [HL.out]
  have HO1 : Hid (Own9 (w.alloc (.cells #[.int .u8 0, .int .u8 0, .int .u8 0, .int .u8 0] 36)) w.heap.size [0, 0, 0, 0]) := Own9.made w [0, 0, 0, 0] rfl
  have HB1 : Hid (Below w.heap.size w (w.alloc (.cells #[.int .u8 0, .int .u8 0, .int .u8 0, .int .u8 0] 36))) := (Below.refl _ _).alloc (Nat.le_refl _) _
  rw [← HX0.out]
  go_wp2_with fail
  go_loopw [0, 6] (fun xv iv wr => Below w.heap.size w wr ∧ ((iv = .int .i64 2 ∧ xv = .int .i64 (X0 : Int) ∧ Own9 wr w.heap.size [0, 0, 0, 0]) ∨ (iv = .int .i64 1 ∧ xv = .int .i64 (X1 : Int) ∧ Own9 wr w.heap.size [0, 0, c0, 0]) ∨ (iv = .int .i64 0 ∧ xv = .int .i64 (X2 : Int) ∧ Own9 wr w.heap.size [0, c1, c0, 0]))) (fun _ iv _ => (intOf iv).toNat)
  case atStart => exact ⟨HB1.out, .inl ⟨rfl, rfl, HO1.out⟩⟩
  case round =>
    obtain ⟨hb, hh⟩ := hrel
    have HB := Lib.hid hb
    clear hb HO1 HB1
    rcases hh with ⟨rfl, rfl, ho⟩ | ⟨rfl, rfl, ho⟩ | ⟨rfl, rfl, ho⟩
    all_goals (have HO := Lib.hid ho; clear ho)
    · have hcell := HO.out.cell (i := 2) (y := 0) rfl
      have hfr := HO.out.frozen 2
      have HO2 : Hid (Own9 (wr.setCell ⟨w.heap.size, 2, none⟩ (.int .u8 (c0 : Int))) w.heap.size [0, 0, c0, 0]) := HO.out.store 2 c0 rfl
      have HB2 : Hid (Below w.heap.size w (wr.setCell ⟨w.heap.size, 2, none⟩ (.int .u8 (c0 : Int)))) := HB.out.setCell (p := ⟨w.heap.size, 2, none⟩) (Nat.le_refl _) _
      go_wp2_with fail
      go_roundw
      case rel => exact ⟨HB2.out, .inr (.inl ⟨rfl, rfl, HO2.out⟩)⟩
      case measure => decide
    · have hcell := HO.out.cell (i := 1) (y := 0) rfl
      have hfr := HO.out.frozen 1
      have HO2 : Hid (Own9 (wr.setCell ⟨w.heap.size, 1, none⟩ (.int .u8 (c1 : Int))) w.heap.size [0, c1, c0, 0]) := HO.out.store 1 c1 rfl
      have HB2 : Hid (Below w.heap.size w (wr.setCell ⟨w.heap.size, 1, none⟩ (.int .u8 (c1 : Int)))) := HB.out.setCell (p := ⟨w.heap.size, 1, none⟩) (Nat.le_refl _) _
      go_wp2_with fail
      go_roundw
      case rel => exact ⟨HB2.out, .inr (.inr (⟨rfl, rfl, HO2.out⟩))⟩
      case measure => decide
    · have hcell := HO.out.cell (i := 0) (y := 0) rfl
      have hfr := HO.out.frozen 0
      have hmk := HTC.out _ HB.out
      have HO2 : Own9 (wr.setCell ⟨w.heap.size, 0, none⟩ (.int .u8 (d : Int))) w.heap.size [d, c1, c0, 0] := HO.out.store 0 d rfl
      have hcv := HO2.conv (n := 3) (c := 4) (zs := [d, c1, c0]) rfl rfl
      rw [HS.out] at hcv
      have HB2 : Hid (Below w.heap.size w (wr.setCell ⟨w.heap.size, 0, none⟩ (.int .u8 (d : Int)))) := HB.out.setCell (p := ⟨w.heap.size, 0, none⟩) (Nat.le_refl _) _
      clear HO2
      go_wp2_with fail
      go_ret2
      exact ⟨rfl, HB2.out⟩

set_option maxHeartbeats 4000000 in
set_option maxRecDepth 100000 in
theorem encode_4 (x : Nat) (w : World) (hT : Tabs9 w) (h : Sg x) (h1 : 65536 ≤ x) (h2 : x < 1114112) : Calls Tryd.prog 8 #[.int .i64 (x : Int)] w (Ret9 w (.tuple #[.string (st9 (enc x)), .int .i64 0])) := by
  have HT := Lib.hid hT
  have D : Hid (decide (0 ≤ (x : Int) ∧ Sg (x : Int).toNat) = true) := decide_eq_true ⟨by omega, h⟩
  have HL : Hid (lng x = 4) := lng_is (by omega)
  have hx := h.le
  obtain ⟨X0, hX0⟩ : ∃ X, X = x := ⟨_, rfl⟩
  obtain ⟨X1, hX1⟩ : ∃ X, X = X0 / 64 := ⟨_, rfl⟩
  have v0 : (X0 : Int) / 64 = (X1 : Int) := by omega
  obtain ⟨y0, hy0⟩ : ∃ y, y = X0 % 64 := ⟨_, rfl⟩
  have q0 : (y0 : Int) % 256 = (y0 : Int) := by omega
  obtain ⟨c0, hc0⟩ : ∃ c, c = 128 + y0 := ⟨_, rfl⟩
  have n0 : bits .and .i64 (X0 : Int) 63 = (y0 : Int) := by rw [hy0, ← and64 X0 (by omega)]
  have a0 : bits .or .u8 128 (y0 : Int) = (c0 : Int) := by rw [hc0]; exact or8 _ (by omega)
  obtain ⟨X2, hX2⟩ : ∃ X, X = X1 / 64 := ⟨_, rfl⟩
  have v1 : (X1 : Int) / 64 = (X2 : Int) := by omega
  obtain ⟨y1, hy1⟩ : ∃ y, y = X1 % 64 := ⟨_, rfl⟩
  have q1 : (y1 : Int) % 256 = (y1 : Int) := by omega
  obtain ⟨c1, hc1⟩ : ∃ c, c = 128 + y1 := ⟨_, rfl⟩
  have n1 : bits .and .i64 (X1 : Int) 63 = (y1 : Int) := by rw [hy1, ← and64 X1 (by omega)]
  have a1 : bits .or .u8 128 (y1 : Int) = (c1 : Int) := by rw [hc1]; exact or8 _ (by omega)
  obtain ⟨X3, hX3⟩ : ∃ X, X = X2 / 64 := ⟨_, rfl⟩
  have v2 : (X2 : Int) / 64 = (X3 : Int) := by omega
  obtain ⟨y2, hy2⟩ : ∃ y, y = X2 % 64 := ⟨_, rfl⟩
  have q2 : (y2 : Int) % 256 = (y2 : Int) := by omega
  obtain ⟨c2, hc2⟩ : ∃ c, c = 128 + y2 := ⟨_, rfl⟩
  have n2 : bits .and .i64 (X2 : Int) 63 = (y2 : Int) := by rw [hy2, ← and64 X2 (by omega)]
  have a2 : bits .or .u8 128 (y2 : Int) = (c2 : Int) := by rw [hc2]; exact or8 _ (by omega)
  obtain ⟨d, hd⟩ : ∃ c, c = 240 + X3 := ⟨_, rfl⟩
  have qd : (d : Int) % 256 = (d : Int) := by omega
  have ad : bits .or .i64 240 (X3 : Int) = (d : Int) := by rw [hd]; exact or64 240 3 _ (by decide) (by decide) (by omega) (by decide)
  have E : Hid ([d, c2, c1, c0] = enc x) := by
    show _ = _; unfold enc
    rw [if_neg (by omega), if_neg (by omega), if_neg (by omega), hd, hc2, hy2, hc1, hy1, hc0, hy0, hX3, hX2, hX1, hX0, show x / 64 / 64 / 64 = x / 262144 by omega, show x / 64 / 64 = x / 4096 by omega]
  obtain ⟨S, hS⟩ : ∃ S, st9 [d, c2, c1, c0] = S := ⟨_, rfl⟩
  have ES : Hid (S = st9 (enc x)) := by show _ = _; rw [← hS, E.out]
  have HS := Lib.hid hS
  rw [← ES.out]
  have HX0 : Hid (X0 = x) := hX0
  have HTC : Hid (∀ w', Below w.heap.size w w' → w'.cell? ⟨0, 3, none⟩ = some (.int .i64 240)) := fun w' hb => (HT.out.on hb).mk_ 3 (by decide)
  clear hT h hx h1 h2 hX0 hd hS hX1 hy0 hc0 hX2 hy1 hc1 hX3 hy2 hc2
  go_enter Tryd.func8, Tryd.ntmps8
  go_wp2_with fail
  refine (isSign_any _ _).mono ?_; rintro e w1 ⟨rfl, rfl⟩
  rw [D.out]
  go_wp2_with fail
  refine (length_any x _ HT.out).mono ?_; rintro e w1 ⟨rfl, rfl⟩
  rw [HL.out]
  have HO1 : Hid (Own9 (w.alloc (.cells #[.int .u8 0, .int .u8 0, .int .u8 0, .int .u8 0] 36)) w.heap.size [0, 0, 0, 0]) := Own9.made w [0, 0, 0, 0] rfl
  have HB1 : Hid (Below w.heap.size w (w.alloc (.cells #[.int .u8 0, .int .u8 0, .int .u8 0, .int .u8 0] 36))) := (Below.refl _ _).alloc (Nat.le_refl _) _
  rw [← HX0.out]
  go_wp2_with fail
  go_loopw [0, 6] (fun xv iv wr => Below w.heap.size w wr ∧ ((iv = .int .i64 3 ∧ xv = .int .i64 (X0 : Int) ∧ Own9 wr w.heap.size [0, 0, 0, 0]) ∨ (iv = .int .i64 2 ∧ xv = .int .i64 (X1 : Int) ∧ Own9 wr w.heap.size [0, 0, 0, c0]) ∨ (iv = .int .i64 1 ∧ xv = .int .i64 (X2 : Int) ∧ Own9 wr w.heap.size [0, 0, c1, c0]) ∨ (iv = .int .i64 0 ∧ xv = .int .i64 (X3 : Int) ∧ Own9 wr w.heap.size [0, c2, c1, c0]))) (fun _ iv _ => (intOf iv).toNat)
  case atStart => exact ⟨HB1.out, .inl ⟨rfl, rfl, HO1.out⟩⟩
  case round =>
    obtain ⟨hb, hh⟩ := hrel
    have HB := Lib.hid hb
    clear hb HO1 HB1
    rcases hh with ⟨rfl, rfl, ho⟩ | ⟨rfl, rfl, ho⟩ | ⟨rfl, rfl, ho⟩ | ⟨rfl, rfl, ho⟩
    all_goals (have HO := Lib.hid ho; clear ho)
    · have hcell := HO.out.cell (i := 3) (y := 0) rfl
      have hfr := HO.out.frozen 3
      have HO2 : Hid (Own9 (wr.setCell ⟨w.heap.size, 3, none⟩ (.int .u8 (c0 : Int))) w.heap.size [0, 0, 0, c0]) := HO.out.store 3 c0 rfl
      have HB2 : Hid (Below w.heap.size w (wr.setCell ⟨w.heap.size, 3, none⟩ (.int .u8 (c0 : Int)))) := HB.out.setCell (p := ⟨w.heap.size, 3, none⟩) (Nat.le_refl _) _
      go_wp2_with fail
      go_roundw
      case rel => exact ⟨HB2.out, .inr (.inl ⟨rfl, rfl, HO2.out⟩)⟩
      case measure => decide
    · have hcell := HO.out.cell (i := 2) (y := 0) rfl
      have hfr := HO.out.frozen 2
      have HO2 : Hid (Own9 (wr.setCell ⟨w.heap.size, 2, none⟩ (.int .u8 (c1 : Int))) w.heap.size [0, 0, c1, c0]) := HO.out.store 2 c1 rfl
      have HB2 : Hid (Below w.heap.size w (wr.setCell ⟨w.heap.size, 2, none⟩ (.int .u8 (c1 : Int)))) := HB.out.setCell (p := ⟨w.heap.size, 2, none⟩) (Nat.le_refl _) _
      go_wp2_with fail
      go_roundw
      case rel => exact ⟨HB2.out, .inr (.inr (.inl ⟨rfl, rfl, HO2.out⟩))⟩
      case measure => decide
    · have hcell := HO.out.cell (i := 1) (y := 0) rfl
      have hfr := HO.out.frozen 1
      have HO2 : Hid (Own9 (wr.setCell ⟨w.heap.size, 1, none⟩ (.int .u8 (c2 : Int))) w.heap.size [0, c2, c1, c0]) := HO.out.store 1 c2 rfl
      have HB2 : Hid (Below w.heap.size w (wr.setCell ⟨w.heap.size, 1, none⟩ (.int .u8 (c2 : Int)))) := HB.out.setCell (p := ⟨w.heap.size, 1, none⟩) (Nat.le_refl _) _
      go_wp2_with fail
      go_roundw
      case rel => exact ⟨HB2.out, .inr (.inr (.inr (⟨rfl, rfl, HO2.out⟩)))⟩
      case measure => decide
    · have hcell := HO.out.cell (i := 0) (y := 0) rfl
      have hfr := HO.out.frozen 0
      have hmk := HTC.out _ HB.out
      have HO2 : Own9 (wr.setCell ⟨w.heap.size, 0, none⟩ (.int .u8 (d : Int))) w.heap.size [d, c2, c1, c0] := HO.out.store 0 d rfl
      have hcv := HO2.conv (n := 4) (c := 4) (zs := [d, c2, c1, c0]) rfl rfl
      rw [HS.out] at hcv
      have HB2 : Hid (Below w.heap.size w (wr.setCell ⟨w.heap.size, 0, none⟩ (.int .u8 (d : Int)))) := HB.out.setCell (p := ⟨w.heap.size, 0, none⟩) (Nat.le_refl _) _
      clear HO2
      go_wp2_with fail
      go_ret2
      exact ⟨rfl, HB2.out⟩

theorem encode_yes (x : Nat) (w : World) (hT : Tabs9 w) (hs : Sg x) : Calls Tryd.prog 8 #[.int .i64 (x : Int)] w (Ret9 w (.tuple #[.string (st9 (enc x)), .int .i64 0])) := by
  have hx := hs.le
  by_cases c1 : x < 128
  · exact encode_1 x w hT hs (Nat.zero_le _) c1
  by_cases c2 : x < 2048
  · exact encode_2 x w hT hs (by omega) c2
  by_cases c3 : x < 65536
  · exact encode_3 x w hT hs (by omega) c3
  exact encode_4 x w hT hs (by omega) (by omega)
set_option maxHeartbeats 4000000 in
set_option maxRecDepth 100000 in
theorem encode_no (x : Int) (w : World) (h : ¬ (0 ≤ x ∧ Sg x.toNat)) : Calls Tryd.prog 8 #[.int .i64 x] w (Ret9 w (.tuple #[.string ⟨#[]⟩, .int .i64 1])) := by
  have D : Hid (decide (0 ≤ x ∧ Sg x.toNat) = false) := decide_eq_false h
  clear h
  go_enter Tryd.func8, Tryd.ntmps8
  go_wp2_with fail
  refine (isSign_any _ _).mono ?_; rintro e w1 ⟨rfl, rfl⟩
  rw [D.out]
  go_wp2_with fail
  go_ret2
  exact ⟨rfl, Below.refl _ _⟩

end Go.Proofs.YtkeiipnclkaeiaaDoor
