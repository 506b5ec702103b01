/-
  Contracts of layer 9, the sixth part: the document's Pad; Encode and the document's.
-/
import Derived.Test.YtkeiipnclkaeiaaDoorUtfE
set_option linter.unusedVariables false
set_option linter.unusedSimpArgs false
namespace Go.Proofs.YtkeiipnclkaeiaaDoor
open Go.RowKit

set_option maxHeartbeats 4000000 in
set_option maxRecDepth 100000 in
theorem refpad_any (s : ByteArray) (n : Int) (r : Bool) (w : World) (hs : s.size ≤ 1000000) : Calls Tryd.prog 21 #[.string s, .int .i64 n, .bool r] w (Ret9 w (.string (st9 (pad9 (bs9 s) n r)))) := by
  have C := Lib.hid (refcount_any s w hs)
  obtain ⟨c, hc⟩ : ∃ c, cntl (bs9 s) = c := ⟨_, rfl⟩
  have hcs : c ≤ s.size := by rw [← hc, ← bs9_len]; exact cntl_len _
  rw [hc] at C
  have hmn := fun (ts : Array TypeId) (ty : TypeId) (W : World) => min9 (P := Tryd.prog) (n := n) (s := 1000) ts ty W
  obtain ⟨N, hN⟩ : ∃ N, min n (1000 : Int) = N := ⟨_, rfl⟩
  have hmx := fun (ts : Array TypeId) (ty : TypeId) (W : World) => maxz9 (P := Tryd.prog) (n := N) ts ty W
  obtain ⟨M, hM⟩ : ∃ M, N.toNat = M := ⟨_, rfl⟩
  have hMb : M ≤ 1000 := by omega
  have hmx2 := fun (ts : Array TypeId) (ty : TypeId) (W : World) => maxz9 (P := Tryd.prog) (n := (M : Int) - (c : Int)) ts ty W
  have ek : ((M : Int) - (c : Int)).toNat = M - c := by omega
  rw [show (((1000 : Nat) : Int)) = 1000 from rfl, hN] at hmn
  rw [hM] at hmx
  rw [ek] at hmx2
  obtain ⟨k, hk⟩ : ∃ k, M - c = k := ⟨_, rfl⟩
  have hkb : k ≤ 1000 := by omega
  rw [hk] at hmx2
  obtain ⟨R, hR⟩ : ∃ R, st9 (pad9 (bs9 s) n r) = R := ⟨_, rfl⟩
  have hRb : bs9 R = if r then List.replicate k 32 ++ bs9 s else bs9 s ++ List.replicate k 32 := by
    rw [← hR, bs9_st9 (pad9_lt (bs9_lt s) n r), ← hk, ← hM, ← hN, ← hc]
    unfold pad9
    rfl
  rw [hR]
  have HRB := Lib.hid hRb
  clear hc hN hM ek hk hR hRb
  go_enter Tryd.func21, Tryd.ntmps21
  go_wp2_with fail
  refine C.out.mono ?_; rintro e w1 ⟨rfl, hb1⟩
  have HB := Lib.hid hb1
  clear hb1
  go_wp2_with fail
  go_loopw [7, 15] (fun fv jv wr => ∃ (F : ByteArray) (j : Nat), fv = .string F ∧ jv = .int .i64 j ∧ j ≤ k ∧ Hid (bs9 F = List.replicate j 32) ∧ wr = w1) (fun _ jv _ => k - (intOf jv).toNat)
  case atStart => exact ⟨⟨#[]⟩, 0, rfl, rfl, Nat.zero_le _, rfl, rfl⟩
  case round =>
    obtain ⟨F, j, rfl, rfl, hj, HF, rfl⟩ := hrel
    have hFs : F.size = j := by rw [← bs9_len, HF.out, List.length_replicate]
    rcases Nat.lt_or_ge j k with hlt | hge
    · obtain ⟨F2, hF2⟩ : ∃ F2, F2 = st9 (List.replicate (j + 1) 32) := ⟨_, rfl⟩
      have HF2 : Hid (bs9 F2 = List.replicate (j + 1) 32) := by show _ = _; rw [hF2, bs9_st9 (blanks_lt _)]
      have ha : ∀ w', (Op.stringOp .add F ⟨#[32]⟩).run Tryd.prog w' = .ok (.string F2) w' := fun w' => add9 (by rw [HF.out, HF2.out, List.replicate_succ']; rfl) (by show F.size + 1 ≤ _; omega) w'
      clear hF2
      go_wp2_with fail
      go_roundw
      case rel => exact ⟨F2, j + 1, rfl, by go_num, by omega, HF2, trivial⟩
      case measure => simp [intOf]; omega
    · obtain rfl : j = k := by omega
      cases r with
      | true =>
        have ha : ∀ w', (Op.stringOp .add F s).run Tryd.prog w' = .ok (.string R) w' := fun w' => add9 (by rw [HRB.out, HF.out]; rfl) (by omega) w'
        go_wp2_with fail
        go_ret
        exact ⟨rfl, HB.out⟩
      | false =>
        have ha : ∀ w', (Op.stringOp .add s F).run Tryd.prog w' = .ok (.string R) w' := fun w' => add9 (by rw [HRB.out, HF.out]; rfl) (by omega) w'
        go_wp2_with fail
        go_ret
        exact ⟨rfl, HB.out⟩

set_option maxHeartbeats 4000000 in
set_option maxRecDepth 100000 in
theorem refenc_no (x : Int) (w : World) (h : ¬ (0 ≤ x ∧ Sg x.toNat)) : Calls Tryd.prog 9 #[.int .i64 x] w (Ret9 w (.tuple #[.string ⟨#[]⟩, .int .i64 1])) := by
  have H := Lib.hid h
  by_cases c1 : x < 0
  · have d1 : decide (x < 0) = true := decide_eq_true c1
    clear h c1
    go_enter Tryd.func9, Tryd.ntmps9
    go_wp2_with fail
    go_ret2
    exact ⟨rfl, Below.refl _ _⟩
  · have d1 : decide (x < 0) = false := decide_eq_false c1
    by_cases c2 : 1114111 < x
    · have d2 : decide (1114111 < x) = true := decide_eq_true c2
      clear h c1 c2
      go_enter Tryd.func9, Tryd.ntmps9
      go_wp2_with fail
      go_ret2
      exact ⟨rfl, Below.refl _ _⟩
    · have d2 : decide (1114111 < x) = false := decide_eq_false c2
      have d3 : decide (55296 ≤ x) = true := decide_eq_true (by unfold Sg at h; omega)
      have d4 : decide (x < 57344) = true := decide_eq_true (by unfold Sg at h; omega)
      clear h c1 c2
      go_enter Tryd.func9, Tryd.ntmps9
      go_wp2_with fail
      go_ret2
      exact ⟨rfl, Below.refl _ _⟩
theorem strOfNums9 (l : List Nat) : strOfNums (l.map fun (y : Nat) => (y : Int)) = st9 l := by
  unfold strOfNums st9
  rw [List.map_map]
  congr 2
/-- Bytes as they lie in cells. -/
def bv9 (ys : List Nat) : List Value := ys.map (fun (y : Nat) => Value.int .u8 (y : Int))
theorem conv9 (w : World) (ys : List Nat) (n : Nat) (hn : ys.length = n) : (convert 39 9 (.slice (some ⟨w.heap.size, 0, none⟩) n n)).run Tryd.prog (w.alloc (.cells (bv9 ys).toArray 5)) = .ok (.string (st9 ys)) (w.alloc (.cells (bv9 ys).toArray 5)) := by
  rw [run_convert_bytes_arg _ 39 5 Tryd.underlying39 Tryd.underlying5 w.heap.size 0 n n (ys.map fun (y : Nat) => (y : Int)) (by rw [List.length_map]; exact hn) (fun i hi => ?_) 9 Tryd.underlying9, strOfNums9]
  have hh : (w.alloc (.cells (bv9 ys).toArray 5)).heap[w.heap.size]? = some (.cells (bv9 ys).toArray 5 (0, 0)) := by
    show (w.heap.push _)[w.heap.size]? = _
    simp
  rw [cell_of_row _ w.heap.size (0 + i) _ _ (0, 0) hh, Nat.zero_add]
  unfold bv9
  simp [List.getD_eq_getElem?_getD, hn, hi]
theorem or64 (L i y : Nat) (hL : L % 2 ^ i = 0) (hL2 : L < 256) (hy : y < 2 ^ i) (hi : i ≤ 7) : bits .or .i64 (L : Int) (y : Int) = ((L + y : Nat) : Int) := by
  have p : 2 ^ i ≤ 2 ^ 7 := Nat.pow_le_pow_right (by decide) hi
  have hp : ((2 : Int) ^ i) = ((2 ^ i : Nat) : Int) := by simp
  rw [bits_join .i64 40 (by decide) wraps_i64' i _ _ (by omega) (by rw [hp]; exact_mod_cast hL) (by omega) (by omega) (by rw [hp]; omega) (by omega)]; omega
theorem and64 (y : Nat) (h : y < 2 ^ 40) : bits .and .i64 (y : Int) 63 = ((y % 64 : Nat) : Int) := by
  have := bits_mask .i64 40 (by decide) wraps_i64' 6 (by decide) (y : Int) (by omega) (by omega)
  rw [show ((2 : Int) ^ 6 - 1) = 63 from rfl] at this
  rw [this]; omega
theorem Sg.le {x : Nat} (h : Sg x) : x ≤ 1114111 := h.1

set_option maxHeartbeats 4000000 in
set_option maxRecDepth 100000 in
theorem refenc_1 (x : Nat) (w : World) (h1 : 0 ≤ x) (h2 : x < 128) (hs : Sg x) : Calls Tryd.prog 9 #[.int .i64 (x : Int)] w (Ret9 w (.tuple #[.string (st9 (enc x)), .int .i64 0])) := by
  have hx := hs.le
  have m0 : ((x : Int) % 256) = (x : Int) := by omega
  have E : Hid ([x] = enc x) := by show _ = _; unfold enc; rw [if_pos (by omega)]
  have hcv := conv9 w [x] 1 rfl
  have ES : Hid (st9 [x] = st9 (enc x)) := by show _ = _; rw [E.out]
  obtain ⟨S, hS⟩ : ∃ S, st9 [x] = S := ⟨_, rfl⟩
  rw [hS] at hcv ES
  have HCV : (convert 39 9 (.slice (some ⟨w.heap.size, 0, none⟩) 1 1)).run Tryd.prog (w.alloc (.cells #[.int .u8 (x : Int)] 5)) = .ok (.string S) (w.alloc (.cells #[.int .u8 (x : Int)] 5)) := hcv
  clear hcv hS
  have d1 : decide ((x : Int) < 0) = false := decide_eq_false (by omega)
  have d2 : decide (1114111 < (x : Int)) = false := decide_eq_false (by omega)
  have d5 : decide ((x : Int) < 128) = true := decide_eq_true (by omega)
  have d3 : decide (55296 ≤ (x : Int)) = false := decide_eq_false (by omega)
  clear h1 h2 hs hx
  go_enter Tryd.func9, Tryd.ntmps9
  go_wp2_with fail
  go_ret2
  exact ⟨by rw [← ES.out]; rfl, (Below.refl _ _).alloc (Nat.le_refl _) _⟩

set_option maxHeartbeats 4000000 in
set_option maxRecDepth 100000 in
theorem refenc_2 (x : Nat) (w : World) (h1 : 128 ≤ x) (h2 : x < 2048) (hs : Sg x) : Calls Tryd.prog 9 #[.int .i64 (x : Int)] w (Ret9 w (.tuple #[.string (st9 (enc x)), .int .i64 0])) := by
  have hx := hs.le
  obtain ⟨c0, hc0⟩ : ∃ c, c = 192 + x / 64 := ⟨_, rfl⟩
  have hc0b : c0 < 256 := by omega
  have a0 : bits .or .i64 192 ((x : Int) / 64) = (c0 : Int) := by rw [show ((x : Int) / 64) = ((x / 64 : Nat) : Int) by omega, hc0]; exact or64 192 5 _ (by decide) (by decide) (by omega) (by decide)
  have m0 : ((c0 : Int) % 256) = (c0 : Int) := by omega
  obtain ⟨y1, hy1⟩ : ∃ y, y = x % 64 := ⟨_, rfl⟩
  obtain ⟨c1, hc1⟩ : ∃ c, c = 128 + y1 := ⟨_, rfl⟩
  have n1 : bits .and .i64 ((x : Int)) 63 = (y1 : Int) := by rw [hy1, ← and64 (x) (by omega)]
  have a1 : bits .or .i64 128 (y1 : Int) = (c1 : Int) := by rw [hc1]; exact or64 128 6 _ (by decide) (by decide) (by omega) (by decide)
  have m1 : ((c1 : Int) % 256) = (c1 : Int) := by omega
  have E : Hid ([c0, c1] = enc x) := by show _ = _; unfold enc; rw [if_neg (by omega), if_pos (by omega), hc0, hc1, hy1]
  have hcv := conv9 w [c0, c1] 2 rfl
  have ES : Hid (st9 [c0, c1] = st9 (enc x)) := by show _ = _; rw [E.out]
  obtain ⟨S, hS⟩ : ∃ S, st9 [c0, c1] = S := ⟨_, rfl⟩
  rw [hS] at hcv ES
  have HCV : (convert 39 9 (.slice (some ⟨w.heap.size, 0, none⟩) 2 2)).run Tryd.prog (w.alloc (.cells #[.int .u8 (c0 : Int), .int .u8 (c1 : Int)] 5)) = .ok (.string S) (w.alloc (.cells #[.int .u8 (c0 : Int), .int .u8 (c1 : Int)] 5)) := hcv
  clear hcv hS
  have d1 : decide ((x : Int) < 0) = false := decide_eq_false (by omega)
  have d2 : decide (1114111 < (x : Int)) = false := decide_eq_false (by omega)
  have d5 : decide ((x : Int) < 128) = false := decide_eq_false (by omega)
  have d6 : decide ((x : Int) < 2048) = true := decide_eq_true (by omega)
  have d3 : decide (55296 ≤ (x : Int)) = false := decide_eq_false (by omega)
  clear h1 h2 hs hx hc0 hc1 hy1
  go_enter Tryd.func9, Tryd.ntmps9
  go_wp2_with fail
  go_ret2
  exact ⟨by rw [← ES.out]; rfl, (Below.refl _ _).alloc (Nat.le_refl _) _⟩

set_option maxHeartbeats 4000000 in
set_option maxRecDepth 100000 in
theorem refenc_3 (x : Nat) (w : World) (h1 : 2048 ≤ x) (h2 : x < 65536) (hs : Sg x) : Calls Tryd.prog 9 #[.int .i64 (x : Int)] w (Ret9 w (.tuple #[.string (st9 (enc x)), .int .i64 0])) := by
  have hx := hs.le
  obtain ⟨c0, hc0⟩ : ∃ c, c = 224 + x / 4096 := ⟨_, rfl⟩
  have hc0b : c0 < 256 := by omega
  have a0 : bits .or .i64 224 ((x : Int) / 4096) = (c0 : Int) := by rw [show ((x : Int) / 4096) = ((x / 4096 : Nat) : Int) by omega, hc0]; exact or64 224 4 _ (by decide) (by decide) (by omega) (by decide)
  have m0 : ((c0 : Int) % 256) = (c0 : Int) := by omega
  obtain ⟨y1, hy1⟩ : ∃ y, y = x / 64 % 64 := ⟨_, rfl⟩
  obtain ⟨c1, hc1⟩ : ∃ c, c = 128 + y1 := ⟨_, rfl⟩
  have n1 : bits .and .i64 ((x : Int) / 64) 63 = (y1 : Int) := by rw [hy1, ← and64 (x / 64) (by omega)]; rfl
  have a1 : bits .or .i64 128 (y1 : Int) = (c1 : Int) := by rw [hc1]; exact or64 128 6 _ (by decide) (by decide) (by omega) (by decide)
  have m1 : ((c1 : Int) % 256) = (c1 : Int) := by omega
  obtain ⟨y2, hy2⟩ : ∃ y, y = x % 64 := ⟨_, rfl⟩
  obtain ⟨c2, hc2⟩ : ∃ c, c = 128 + y2 := ⟨_, rfl⟩
  have n2 : bits .and .i64 ((x : Int)) 63 = (y2 : Int) := by rw [hy2, ← and64 (x) (by omega)]
  have a2 : bits .or .i64 128 (y2 : Int) = (c2 : Int) := by rw [hc2]; exact or64 128 6 _ (by decide) (by decide) (by omega) (by decide)
  have m2 : ((c2 : Int) % 256) = (c2 : Int) := by omega
  have E : Hid ([c0, c1, c2] = enc x) := by show _ = _; unfold enc; rw [if_neg (by omega), if_neg (by omega), if_pos (by omega), hc0, hc1, hy1, hc2, hy2]
  have hcv := conv9 w [c0, c1, c2] 3 rfl
  have ES : Hid (st9 [c0, c1, c2] = st9 (enc x)) := by show _ = _; rw [E.out]
  obtain ⟨S, hS⟩ : ∃ S, st9 [c0, c1, c2] = S := ⟨_, rfl⟩
  rw [hS] at hcv ES
  have HCV : (convert 39 9 (.slice (some ⟨w.heap.size, 0, none⟩) 3 3)).run Tryd.prog (w.alloc (.cells #[.int .u8 (c0 : Int), .int .u8 (c1 : Int), .int .u8 (c2 : Int)] 5)) = .ok (.string S) (w.alloc (.cells #[.int .u8 (c0 : Int), .int .u8 (c1 : Int), .int .u8 (c2 : Int)] 5)) := hcv
  clear hcv hS
  have d1 : decide ((x : Int) < 0) = false := decide_eq_false (by omega)
  have d2 : decide (1114111 < (x : Int)) = false := decide_eq_false (by omega)
  have d5 : decide ((x : Int) < 128) = false := decide_eq_false (by omega)
  have d6 : decide ((x : Int) < 2048) = false := decide_eq_false (by omega)
  have d7 : decide ((x : Int) < 65536) = true := decide_eq_true (by omega)
  rcases Nat.lt_or_ge x 55296 with k | k
  · have d3 : decide (55296 ≤ (x : Int)) = false := decide_eq_false (by omega)
    clear h1 h2 hs hx hc0 hc1 hy1 hc2 hy2 k
    go_enter Tryd.func9, Tryd.ntmps9
    go_wp2_with fail
    go_ret2
    exact ⟨by rw [← ES.out]; rfl, (Below.refl _ _).alloc (Nat.le_refl _) _⟩
  · have d3 : decide (55296 ≤ (x : Int)) = true := decide_eq_true (by omega)
    have d4 : decide ((x : Int) < 57344) = false := decide_eq_false (by unfold Sg at hs; omega)
    clear h1 h2 hs hx hc0 hc1 hy1 hc2 hy2 k
    go_enter Tryd.func9, Tryd.ntmps9
    go_wp2_with fail
    go_ret2
    exact ⟨by rw [← ES.out]; rfl, (Below.refl _ _).alloc (Nat.le_refl _) _⟩

set_option maxHeartbeats 4000000 in
set_option maxRecDepth 100000 in
theorem refenc_4 (x : Nat) (w : World) (h1 : 65536 ≤ x) (h2 : x < 1114112) (hs : Sg x) : Calls Tryd.prog 9 #[.int .i64 (x : Int)] w (Ret9 w (.tuple #[.string (st9 (enc x)), .int .i64 0])) := by
  have hx := hs.le
  obtain ⟨c0, hc0⟩ : ∃ c, c = 240 + x / 262144 := ⟨_, rfl⟩
  have hc0b : c0 < 256 := by omega
  have a0 : bits .or .i64 240 ((x : Int) / 262144) = (c0 : Int) := by rw [show ((x : Int) / 262144) = ((x / 262144 : Nat) : Int) by omega, hc0]; exact or64 240 3 _ (by decide) (by decide) (by omega) (by decide)
  have m0 : ((c0 : Int) % 256) = (c0 : Int) := by omega
  obtain ⟨y1, hy1⟩ : ∃ y, y = x / 4096 % 64 := ⟨_, rfl⟩
  obtain ⟨c1, hc1⟩ : ∃ c, c = 128 + y1 := ⟨_, rfl⟩
  have n1 : bits .and .i64 ((x : Int) / 4096) 63 = (y1 : Int) := by rw [hy1, ← and64 (x / 4096) (by omega)]; rfl
  have a1 : bits .or .i64 128 (y1 : Int) = (c1 : Int) := by rw [hc1]; exact or64 128 6 _ (by decide) (by decide) (by omega) (by decide)
  have m1 : ((c1 : Int) % 256) = (c1 : Int) := by omega
  obtain ⟨y2, hy2⟩ : ∃ y, y = x / 64 % 64 := ⟨_, rfl⟩
  obtain ⟨c2, hc2⟩ : ∃ c, c = 128 + y2 := ⟨_, rfl⟩
  have n2 : bits .and .i64 ((x : Int) / 64) 63 = (y2 : Int) := by rw [hy2, ← and64 (x / 64) (by omega)]; rfl
  have a2 : bits .or .i64 128 (y2 : Int) = (c2 : Int) := by rw [hc2]; exact or64 128 6 _ (by decide) (by decide) (by omega) (by decide)
  have m2 : ((c2 : Int) % 256) = (c2 : Int) := by omega
  obtain ⟨y3, hy3⟩ : ∃ y, y = x % 64 := ⟨_, rfl⟩
  obtain ⟨c3, hc3⟩ : ∃ c, c = 128 + y3 := ⟨_, rfl⟩
  have n3 : bits .and .i64 ((x : Int)) 63 = (y3 : Int) := by rw [hy3, ← and64 (x) (by omega)]
  have a3 : bits .or .i64 128 (y3 : Int) = (c3 : Int) := by rw [hc3]; exact or64 128 6 _ (by decide) (by decide) (by omega) (by decide)
  have m3 : ((c3 : Int) % 256) = (c3 : Int) := by omega
  have E : Hid ([c0, c1, c2, c3] = enc x) := by show _ = _; unfold enc; rw [if_neg (by omega), if_neg (by omega), if_neg (by omega), hc0, hc1, hy1, hc2, hy2, hc3, hy3]
  have hcv := conv9 w [c0, c1, c2, c3] 4 rfl
  have ES : Hid (st9 [c0, c1, c2, c3] = st9 (enc x)) := by show _ = _; rw [E.out]
  obtain ⟨S, hS⟩ : ∃ S, st9 [c0, c1, c2, c3] = S := ⟨_, rfl⟩
  rw [hS] at hcv ES
  have HCV : (convert 39 9 (.slice (some ⟨w.heap.size, 0, none⟩) 4 4)).run Tryd.prog (w.alloc (.cells #[.int .u8 (c0 : Int), .int .u8 (c1 : Int), .int .u8 (c2 : Int), .int .u8 (c3 : Int)] 5)) = .ok (.string S) (w.alloc (.cells #[.int .u8 (c0 : Int), .int .u8 (c1 : Int), .int .u8 (c2 : Int), .int .u8 (c3 : Int)] 5)) := hcv
  clear hcv hS
  have d1 : decide ((x : Int) < 0) = false := decide_eq_false (by omega)
  have d2 : decide (1114111 < (x : Int)) = false := decide_eq_false (by omega)
  have d5 : decide ((x : Int) < 128) = false := decide_eq_false (by omega)
  have d6 : decide ((x : Int) < 2048) = false := decide_eq_false (by omega)
  have d7 : decide ((x : Int) < 65536) = false := decide_eq_false (by omega)
  rcases Nat.lt_or_ge x 55296 with k | k
  · have d3 : decide (55296 ≤ (x : Int)) = false := decide_eq_false (by omega)
    clear h1 h2 hs hx hc0 hc1 hy1 hc2 hy2 hc3 hy3 k
    go_enter Tryd.func9, Tryd.ntmps9
    go_wp2_with fail
    go_ret2
    exact ⟨by rw [← ES.out]; rfl, (Below.refl _ _).alloc (Nat.le_refl _) _⟩
  · have d3 : decide (55296 ≤ (x : Int)) = true := decide_eq_true (by omega)
    have d4 : decide ((x : Int) < 57344) = false := decide_eq_false (by unfold Sg at hs; omega)
    clear h1 h2 hs hx hc0 hc1 hy1 hc2 hy2 hc3 hy3 k
    go_enter Tryd.func9, Tryd.ntmps9
    go_wp2_with fail
    go_ret2
    exact ⟨by rw [← ES.out]; rfl, (Below.refl _ _).alloc (Nat.le_refl _) _⟩

theorem refenc_yes (x : Nat) (w : World) (hs : Sg x) : Calls Tryd.prog 9 #[.int .i64 (x : Int)] w (Ret9 w (.tuple #[.string (st9 (enc x)), .int .i64 0])) := by
  have hx := hs.le
  by_cases c1 : x < 128
  · exact refenc_1 x w (Nat.zero_le _) c1 hs
  by_cases c2 : x < 2048
  · exact refenc_2 x w (by omega) c2 hs
  by_cases c3 : x < 65536
  · exact refenc_3 x w (by omega) c3 hs
  exact refenc_4 x w (by omega) (by omega) hs

end Go.Proofs.YtkeiipnclkaeiaaDoor
