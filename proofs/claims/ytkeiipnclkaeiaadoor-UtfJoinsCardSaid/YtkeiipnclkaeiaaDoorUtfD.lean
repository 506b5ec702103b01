/-
  Contracts of layer 9, the fourth part: Bad, Right, step, Count, and the document's.
-/
import Derived.Test.YtkeiipnclkaeiaaDoorUtfC
set_option linter.unusedVariables false
set_option linter.unusedSimpArgs false
namespace Go.Proofs.YtkeiipnclkaeiaaDoor
open Go.RowKit

def io9 : Option Nat → Int
  | none => -1
  | some n => n
theorem io9_neg (o : Option Nat) : (io9 o < 0 ↔ o = none) ∧ (io9 o = -1 ↔ o = none) := by
  cases o with
  | none => exact ⟨⟨fun _ => rfl, fun _ => by decide⟩, ⟨fun _ => rfl, fun _ => rfl⟩⟩
  | some n =>
    constructor
    · constructor
      · intro h; exact absurd h (by show ¬ ((n : Int) < 0); omega)
      · intro h; cases h
    · constructor
      · intro h; exact absurd h (by show ¬ ((n : Int) = -1); omega)
      · intro h; cases h
theorem max9 {P : Program} {s : Nat} (ts : Array TypeId) (ty : TypeId) (W : World) : (Builtin.max_ ts ty #[.int .i64 (s : Int), .int .i64 1]).run P W = .ok (.int .i64 ((max s 1 : Nat) : Int)) W := by
  rw [run_max_int2]
  have e : (if (1 : Int) > (s : Int) then (1 : Int) else (s : Int)) = ((max s 1 : Nat) : Int) := by split <;> omega
  rw [e]
theorem max9' {P : Program} {s : Nat} (ts : Array TypeId) (ty : TypeId) (W : World) : (Builtin.max_ ts ty #[.int .i64 1, .int .i64 (s : Int)]).run P W = .ok (.int .i64 ((max s 1 : Nat) : Int)) W := by
  rw [run_max_int2]
  have e : (if (s : Int) > (1 : Int) then (s : Int) else (1 : Int)) = ((max s 1 : Nat) : Int) := by split <;> omega
  rw [e]
theorem sl_from {s X : ByteArray} {i : Nat} (h : i ≤ s.size) (hX : s.extract i s.size = X) (w' : World) : (Instr.slice 9 (.string s) (some (.int .i64 (i : Int))) none none).run Tryd.prog w' = .ok (.string X) w' := by
  rw [run_slice_string_l w' _ s Tryd.underlying9 _ _ (by omega) (by omega), Int.toNat_natCast, hX]
theorem sl_to {s X : ByteArray} {i : Nat} (h : i ≤ s.size) (hX : s.extract 0 i = X) (w' : World) : (Instr.slice 9 (.string s) none (some (.int .i64 (i : Int))) none).run Tryd.prog w' = .ok (.string X) w' := by
  rw [run_slice_string_h w' _ s Tryd.underlying9 _ _ (by omega) (by omega), Int.toNat_natCast, hX]
theorem drop_ne {s : ByteArray} {i : Nat} (h : i < s.size) : (bs9 s).drop i ≠ [] := fun e => by
  have := congrArg List.length e
  rw [List.length_drop, bs9_len] at this
  simp at this; omega

set_option maxHeartbeats 2000000 in
set_option maxRecDepth 100000 in
theorem step_any (s : ByteArray) (w : World) (hT : Tabs9 w) (hs : s.size ≤ 1000000) : Calls Tryd.prog 26 #[.string s] w (Ret9 w (.int .i64 (stp (bs9 s) : Nat))) := by
  have HT := Lib.hid hT
  clear hT
  obtain ⟨z, hz⟩ : ∃ z, szl (bs9 s) = z := ⟨_, rfl⟩
  have E : Hid (stp (bs9 s) = max z 1) := by show _ = _; unfold stp; rw [hz]
  rw [E.out]
  have HZ := Lib.hid hz
  clear hz
  have hmx := fun (ts : Array TypeId) (ty : TypeId) (W : World) => max9 (P := Tryd.prog) (s := z) ts ty W
  go_enter Tryd.func26, Tryd.ntmps26
  go_wp2_with fail
  refine (size_any s _ HT.out hs).mono ?_; rintro e w1 ⟨rfl, hb⟩
  rw [HZ.out]
  go_wp2_with fail
  go_ret
  exact ⟨rfl, hb⟩

set_option maxHeartbeats 4000000 in
set_option maxRecDepth 100000 in
theorem bad_any (s : ByteArray) (w : World) (hT : Tabs9 w) (hs : s.size ≤ 1000000) : Calls Tryd.prog 12 #[.string s] w (Ret9 w (.int .i64 (io9 (badl (bs9 s))))) := by
  have HT := Lib.hid hT
  clear hT
  obtain ⟨z, hz⟩ : ∃ z, badl (bs9 s) = z := ⟨_, rfl⟩
  rw [hz]
  have HZ := Lib.hid hz
  clear hz
  go_enter Tryd.func12, Tryd.ntmps12
  go_wp2_with fail
  go_loopw [3] (fun iv wr => ∃ i : Nat, iv = .int .i64 i ∧ i ≤ s.size ∧ z = (badl ((bs9 s).drop i)).map (· + i) ∧ Below w.heap.size w wr) (fun iv _ => s.size - (intOf iv).toNat)
  case atStart => exact ⟨0, rfl, Nat.zero_le _, by rw [← HZ.out, List.drop_zero]; cases badl (bs9 s) <;> rfl, Below.refl _ _⟩
  case round =>
    obtain ⟨i, rfl, hi, hz, hb⟩ := hrel
    have HG := Lib.hid hz
    have HB := Lib.hid hb
    clear hz hb
    rcases Nat.lt_or_ge i s.size with hlt | hge
    · have hcd := Lib.hid (bs9_drop s i)
      obtain ⟨X, hX⟩ : ∃ X, s.extract i s.size = X := ⟨_, rfl⟩
      have hXs : X.size ≤ 1000000 := by rw [← hX]; simp only [ByteArray.size_extract]; omega
      have HXB : Hid (bs9 X = (bs9 s).drop i) := by show _ = _; rw [← hX]; exact hcd.out
      have hsl : ∀ w', (Instr.slice 9 (.string s) (some (.int .i64 (i : Int))) none none).run Tryd.prog w' = .ok (.string X) w' := sl_from hi hX
      obtain ⟨k, hk⟩ : ∃ k, szl ((bs9 s).drop i) = k := ⟨_, rfl⟩
      have hkl := szl_le ((bs9 s).drop i)
      rw [hk, List.length_drop, bs9_len] at hkl
      have HK := Lib.hid hk
      have HNE := Lib.hid (drop_ne hlt)
      clear hk hX hcd
      rcases Nat.eq_zero_or_pos k with hk0 | hk0
      · subst hk0
        have E : Hid (z = some i) := by show _ = _; rw [HG.out, badl_zero HNE.out HK.out]; show some (0 + i) = _; rw [Nat.zero_add]
        go_wp2_with fail
        refine (size_any X _ (HT.out.on HB.out) hXs).mono ?_; rintro e w1 ⟨rfl, hb⟩
        rw [HXB.out, HK.out]
        go_wp2_with fail
        go_ret
        exact ⟨by rw [E.out]; rfl, HB.out.trans (hb.mono HB.out.size)⟩
      · have hk1 : ((k : Int) == 0) = false := by simp; omega
        have E : Hid (z = (badl ((bs9 s).drop (i + k))).map (· + (i + k))) := by
          show _ = _
          rw [HG.out, badl_step (by rw [HK.out]; omega), HK.out, List.drop_drop]
          cases badl ((bs9 s).drop (i + k)) with
          | none => rfl
          | some j => show some (j + k + i) = some (j + (i + k)); exact congrArg some (by omega)
        go_wp2_with fail
        refine (size_any X _ (HT.out.on HB.out) hXs).mono ?_; rintro e w1 ⟨rfl, hb⟩
        rw [HXB.out, HK.out]
        replace HB := Lib.hid (HB.out.trans (hb.mono HB.out.size))
        clear hb
        go_wp2_with fail
        go_round
        case rel => exact ⟨i + k, by go_num, by omega, E.out, HB.out⟩
        case measure => simp [intOf]; omega
    · obtain rfl : i = s.size := by omega
      have E : Hid (z = none) := by
        show _ = _
        rw [HG.out, List.drop_of_length_le (by rw [bs9_len]; exact Nat.le_refl _), badl_nil]; rfl
      go_wp2_with fail
      go_ret
      exact ⟨by rw [E.out]; rfl, HB.out⟩

set_option maxHeartbeats 4000000 in
set_option maxRecDepth 100000 in
theorem refbad_any (s : ByteArray) (w : World) (hs : s.size ≤ 1000000) : Calls Tryd.prog 13 #[.string s] w (Ret9 w (.int .i64 (io9 (badl (bs9 s))))) := by
  obtain ⟨z, hz⟩ : ∃ z, badl (bs9 s) = z := ⟨_, rfl⟩
  rw [hz]
  have HZ := Lib.hid hz
  clear hz
  go_enter Tryd.func13, Tryd.ntmps13
  go_wp2_with fail
  go_loopw [3] (fun iv wr => ∃ i : Nat, iv = .int .i64 i ∧ i ≤ s.size ∧ z = (badl ((bs9 s).drop i)).map (· + i) ∧ Below w.heap.size w wr) (fun iv _ => s.size - (intOf iv).toNat)
  case atStart => exact ⟨0, rfl, Nat.zero_le _, by rw [← HZ.out, List.drop_zero]; cases badl (bs9 s) <;> rfl, Below.refl _ _⟩
  case round =>
    obtain ⟨i, rfl, hi, hz, hb⟩ := hrel
    have HG := Lib.hid hz
    have HB := Lib.hid hb
    clear hz hb
    rcases Nat.lt_or_ge i s.size with hlt | hge
    · have hcd := Lib.hid (bs9_drop s i)
      obtain ⟨X, hX⟩ : ∃ X, s.extract i s.size = X := ⟨_, rfl⟩
      have hXs : X.size ≤ 1000000 := by rw [← hX]; simp only [ByteArray.size_extract]; omega
      have HXB : Hid (bs9 X = (bs9 s).drop i) := by show _ = _; rw [← hX]; exact hcd.out
      have hsl : ∀ w', (Instr.slice 9 (.string s) (some (.int .i64 (i : Int))) none none).run Tryd.prog w' = .ok (.string X) w' := sl_from hi hX
      obtain ⟨k, hk⟩ : ∃ k, szl ((bs9 s).drop i) = k := ⟨_, rfl⟩
      have hkl := szl_le ((bs9 s).drop i)
      rw [hk, List.length_drop, bs9_len] at hkl
      have HK := Lib.hid hk
      have HNE := Lib.hid (drop_ne hlt)
      clear hk hX hcd
      rcases Nat.eq_zero_or_pos k with hk0 | hk0
      · subst hk0
        have E : Hid (z = some i) := by show _ = _; rw [HG.out, badl_zero HNE.out HK.out]; show some (0 + i) = _; rw [Nat.zero_add]
        go_wp2_with fail
        refine (refsize_any X _ hXs).mono ?_; rintro e w1 ⟨rfl, hb⟩
        rw [HXB.out, HK.out]
        go_wp2_with fail
        go_ret
        exact ⟨by rw [E.out]; rfl, HB.out.trans (hb.mono HB.out.size)⟩
      · have hk1 : ((k : Int) == 0) = false := by simp; omega
        have E : Hid (z = (badl ((bs9 s).drop (i + k))).map (· + (i + k))) := by
          show _ = _
          rw [HG.out, badl_step (by rw [HK.out]; omega), HK.out, List.drop_drop]
          cases badl ((bs9 s).drop (i + k)) with
          | none => rfl
          | some j => show some (j + k + i) = some (j + (i + k)); exact congrArg some (by omega)
        go_wp2_with fail
        refine (refsize_any X _ hXs).mono ?_; rintro e w1 ⟨rfl, hb⟩
        rw [HXB.out, HK.out]
        replace HB := Lib.hid (HB.out.trans (hb.mono HB.out.size))
        clear hb
        go_wp2_with fail
        go_round
        case rel => exact ⟨i + k, by go_num, by omega, E.out, HB.out⟩
        case measure => simp [intOf]; omega
    · obtain rfl : i = s.size := by omega
      have E : Hid (z = none) := by
        show _ = _
        rw [HG.out, List.drop_of_length_le (by rw [bs9_len]; exact Nat.le_refl _), badl_nil]; rfl
      go_wp2_with fail
      go_ret
      exact ⟨by rw [E.out]; rfl, HB.out⟩

set_option maxHeartbeats 4000000 in
set_option maxRecDepth 100000 in
theorem right_any (s : ByteArray) (w : World) (hT : Tabs9 w) (hs : s.size ≤ 1000000) : Calls Tryd.prog 14 #[.string s] w (Ret9 w (.bool (badl (bs9 s) == none))) := by
  obtain ⟨z, hz⟩ : ∃ z, badl (bs9 s) = z := ⟨_, rfl⟩
  rw [hz]
  have HZ := Lib.hid hz
  have C := Lib.hid (bad_any s _ hT hs)
  rw [hz] at C
  clear hz
  have d : (io9 z == -1) = (z == none) := by rw [Bool.eq_iff_iff, beq_iff_eq, beq_iff_eq]; exact (io9_neg z).2
  obtain ⟨i, hi⟩ : ∃ i, io9 z = i := ⟨_, rfl⟩
  obtain ⟨b, hb⟩ : ∃ b, (z == none) = b := ⟨_, rfl⟩
  rw [hi] at C d
  rw [hb] at d ⊢
  clear hi hb HZ
  go_enter Tryd.func14, Tryd.ntmps14
  go_wp2_with fail
  refine C.out.mono ?_; rintro e w1 ⟨rfl, hb⟩
  go_wp2_with fail
  go_ret
  exact ⟨rfl, hb⟩

set_option maxHeartbeats 4000000 in
set_option maxRecDepth 100000 in
theorem refright_any (s : ByteArray) (w : World) (hs : s.size ≤ 1000000) : Calls Tryd.prog 15 #[.string s] w (Ret9 w (.bool (badl (bs9 s) == none))) := by
  obtain ⟨z, hz⟩ : ∃ z, badl (bs9 s) = z := ⟨_, rfl⟩
  rw [hz]
  have HZ := Lib.hid hz
  have C := Lib.hid (refbad_any s w hs)
  rw [hz] at C
  clear hz
  have d : decide (io9 z < 0) = (z == none) := by rw [Bool.eq_iff_iff, decide_eq_true_iff, beq_iff_eq]; exact (io9_neg z).1
  obtain ⟨i, hi⟩ : ∃ i, io9 z = i := ⟨_, rfl⟩
  obtain ⟨b, hb⟩ : ∃ b, (z == none) = b := ⟨_, rfl⟩
  rw [hi] at C d
  rw [hb] at d ⊢
  clear hi hb HZ
  go_enter Tryd.func15, Tryd.ntmps15
  go_wp2_with fail
  refine C.out.mono ?_; rintro e w1 ⟨rfl, hb⟩
  go_wp2_with fail
  go_ret
  exact ⟨rfl, hb⟩

set_option maxHeartbeats 4000000 in
set_option maxRecDepth 100000 in
theorem count_any (s : ByteArray) (w : World) (hT : Tabs9 w) (hs : s.size ≤ 1000000) : Calls Tryd.prog 16 #[.string s] w (Ret9 w (.int .i64 (cntl (bs9 s) : Nat))) := by
  have HT := Lib.hid hT
  clear hT
  obtain ⟨z, hz⟩ : ∃ z, cntl (bs9 s) = z := ⟨_, rfl⟩
  rw [hz]
  have HZ := Lib.hid hz
  clear hz
  go_enter Tryd.func16, Tryd.ntmps16
  go_wp2_with fail
  go_loopw [3, 4] (fun cv iv wr => ∃ c i : Nat, cv = .int .i64 c ∧ iv = .int .i64 i ∧ i ≤ s.size ∧ c ≤ i ∧ z = c + cntl ((bs9 s).drop i) ∧ Below w.heap.size w wr) (fun _ iv _ => s.size - (intOf iv).toNat)
  case atStart => exact ⟨0, 0, rfl, rfl, Nat.zero_le _, Nat.le_refl _, by rw [← HZ.out, List.drop_zero, Nat.zero_add], Below.refl _ _⟩
  case round =>
    obtain ⟨c, i, rfl, rfl, hi, hci, hz, hb⟩ := hrel
    have HG := Lib.hid hz
    have HB := Lib.hid hb
    clear hz hb
    rcases Nat.lt_or_ge i s.size with hlt | hge
    · have hcd := Lib.hid (bs9_drop s i)
      obtain ⟨X, hX⟩ : ∃ X, s.extract i s.size = X := ⟨_, rfl⟩
      have hXs : X.size ≤ 1000000 := by rw [← hX]; simp only [ByteArray.size_extract]; omega
      have HXB : Hid (bs9 X = (bs9 s).drop i) := by show _ = _; rw [← hX]; exact hcd.out
      have hsl : ∀ w', (Instr.slice 9 (.string s) (some (.int .i64 (i : Int))) none none).run Tryd.prog w' = .ok (.string X) w' := sl_from hi hX
      obtain ⟨k, hk⟩ : ∃ k, stp ((bs9 s).drop i) = k := ⟨_, rfl⟩
      have hkl := stp_le (drop_ne hlt)
      have hk0 := stp_pos ((bs9 s).drop i)
      rw [hk, List.length_drop, bs9_len] at hkl
      rw [hk] at hk0
      have HK := Lib.hid hk
      have HNE := Lib.hid (drop_ne hlt)
      have E : Hid (z = (c + 1) + cntl ((bs9 s).drop (i + k))) := by
        show _ = _
        rw [HG.out, cntl_step HNE.out, HK.out, List.drop_drop]; omega
      clear hk hX hcd
      go_wp2_with fail
      refine (step_any X _ (HT.out.on HB.out) hXs).mono ?_; rintro e w1 ⟨rfl, hb⟩
      rw [HXB.out, HK.out]
      replace HB := Lib.hid (HB.out.trans (hb.mono HB.out.size))
      clear hb
      go_wp2_with fail
      go_round
      case rel => exact ⟨c + 1, i + k, by go_num, by go_num, by omega, by omega, E.out, HB.out⟩
      case measure => simp [intOf]; omega
    · obtain rfl : i = s.size := by omega
      have E : Hid (z = c) := by
        show _ = _
        rw [HG.out, List.drop_of_length_le (by rw [bs9_len]; exact Nat.le_refl _), cntl_nil]; rfl
      go_wp2_with fail
      go_ret
      exact ⟨by rw [E.out]; rfl, HB.out⟩

set_option maxHeartbeats 4000000 in
set_option maxRecDepth 100000 in
theorem refcount_any (s : ByteArray) (w : World) (hs : s.size ≤ 1000000) : Calls Tryd.prog 17 #[.string s] w (Ret9 w (.int .i64 (cntl (bs9 s) : Nat))) := by
  obtain ⟨z, hz⟩ : ∃ z, cntl (bs9 s) = z := ⟨_, rfl⟩
  rw [hz]
  have HZ := Lib.hid hz
  clear hz
  go_enter Tryd.func17, Tryd.ntmps17
  go_wp2_with fail
  go_loopw [3, 4] (fun cv iv wr => ∃ c i : Nat, cv = .int .i64 c ∧ iv = .int .i64 i ∧ i ≤ s.size ∧ c ≤ i ∧ z = c + cntl ((bs9 s).drop i) ∧ Below w.heap.size w wr) (fun _ iv _ => s.size - (intOf iv).toNat)
  case atStart => exact ⟨0, 0, rfl, rfl, Nat.zero_le _, Nat.le_refl _, by rw [← HZ.out, List.drop_zero, Nat.zero_add], Below.refl _ _⟩
  case round =>
    obtain ⟨c, i, rfl, rfl, hi, hci, hz, hb⟩ := hrel
    have HG := Lib.hid hz
    have HB := Lib.hid hb
    clear hz hb
    rcases Nat.lt_or_ge i s.size with hlt | hge
    · have hcd := Lib.hid (bs9_drop s i)
      obtain ⟨X, hX⟩ : ∃ X, s.extract i s.size = X := ⟨_, rfl⟩
      have hXs : X.size ≤ 1000000 := by rw [← hX]; simp only [ByteArray.size_extract]; omega
      have HXB : Hid (bs9 X = (bs9 s).drop i) := by show _ = _; rw [← hX]; exact hcd.out
      have hsl : ∀ w', (Instr.slice 9 (.string s) (some (.int .i64 (i : Int))) none none).run Tryd.prog w' = .ok (.string X) w' := sl_from hi hX
      obtain ⟨k, hk⟩ : ∃ k, stp ((bs9 s).drop i) = k := ⟨_, rfl⟩
      have hkl := stp_le (drop_ne hlt)
      have hk0 := stp_pos ((bs9 s).drop i)
      rw [hk, List.length_drop, bs9_len] at hkl
      rw [hk] at hk0
      have HK := Lib.hid hk
      have HNE := Lib.hid (drop_ne hlt)
      obtain ⟨q, hq⟩ : ∃ q, szl ((bs9 s).drop i) = q := ⟨_, rfl⟩
      have HQ := Lib.hid hq
      have HKQ : Hid (max q 1 = k) := by show _ = _; rw [← hk, ← hq]; rfl
      clear hq
      have hmx := fun (ts : Array TypeId) (ty : TypeId) (W : World) => max9' (P := Tryd.prog) (s := q) ts ty W
      rw [HKQ.out] at hmx
      have E : Hid (z = (c + 1) + cntl ((bs9 s).drop (i + k))) := by
        show _ = _
        rw [HG.out, cntl_step HNE.out, HK.out, List.drop_drop]; omega
      clear hk hX hcd
      go_wp2_with fail
      refine (refsize_any X _ hXs).mono ?_; rintro e w1 ⟨rfl, hb⟩
      rw [HXB.out, HQ.out]
      replace HB := Lib.hid (HB.out.trans (hb.mono HB.out.size))
      clear hb
      go_wp2_with fail
      go_round
      case rel => exact ⟨c + 1, i + k, by go_num, by go_num, by omega, by omega, E.out, HB.out⟩
      case measure => simp [intOf]; omega
    · obtain rfl : i = s.size := by omega
      have E : Hid (z = c) := by
        show _ = _
        rw [HG.out, List.drop_of_length_le (by rw [bs9_len]; exact Nat.le_refl _), cntl_nil]; rfl
      go_wp2_with fail
      go_ret
      exact ⟨by rw [E.out]; rfl, HB.out⟩

end Go.Proofs.YtkeiipnclkaeiaaDoor
