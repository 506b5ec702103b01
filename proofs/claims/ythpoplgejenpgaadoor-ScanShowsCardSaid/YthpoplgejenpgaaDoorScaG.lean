/-
  Contracts of layer 10, the seventh part: begin, Offset and the document's.
-/
import Derived.Test.YthpoplgejenpgaaDoorScaT
set_option linter.unusedVariables false
set_option linter.unusedSimpArgs false
namespace Go.Proofs.YthpoplgejenpgaaDoor
open Go.RowKit

def io10 : Option Nat → Int
  | none => -1
  | some n => n
/-- Where the line of that number begins; -1, if none does. -/
def bg10 (s : ByteArray) (no : Int) : Int := if no < 1 then -1 else io10 (bgnl (no - 1).toNat (bs9 s))
/-- Which byte stands at that place. -/
def of10 (s : ByteArray) (L C : Int) : Int := if bg10 s L < 0 ∨ C < 1 ∨ (s.size : Int) - bg10 s L < C - 1 then -1 else bg10 s L + C - 1
theorem bg10_le (s : ByteArray) (no : Int) : -1 ≤ bg10 s no ∧ bg10 s no ≤ s.size := by
  unfold bg10
  split
  · omega
  · cases h : bgnl (no - 1).toNat (bs9 s) with
    | none => show -1 ≤ (-1 : Int) ∧ (-1 : Int) ≤ _; omega
    | some f => have := bgnl_le h; rw [bs9_len] at this; show -1 ≤ (f : Int) ∧ (f : Int) ≤ _; omega

set_option maxHeartbeats 4000000 in
set_option maxRecDepth 100000 in
theorem begin_any (s : ByteArray) (no : Int) (w : World) (hs : s.size ≤ 1000000) (hn : no ≤ 1000000) : Calls Tryd.prog 16 #[.string s, .int .i64 no] w (Ret9 w (.int .i64 (bg10 s no))) := by
  by_cases h1 : no < 1
  · have E : Hid (bg10 s no = -1) := by show _ = _; unfold bg10; rw [if_pos h1]
    rw [E.out]
    have d : decide (no < 1) = true := decide_eq_true h1
    clear h1
    go_enter Tryd.func16, Tryd.ntmps16
    go_wp2_with fail
    go_ret
    exact ⟨rfl, Below.refl _ _⟩
  obtain ⟨K, rfl⟩ : ∃ K : Nat, no = (K : Int) + 1 := ⟨(no - 1).toNat, by omega⟩
  have d : decide ((K : Int) + 1 < 1) = false := decide_eq_false h1
  have hK : K ≤ 1000000 := by omega
  obtain ⟨z, hz⟩ : ∃ z, bgnl K (bs9 s) = z := ⟨_, rfl⟩
  have E : Hid (bg10 s ((K : Int) + 1) = io10 z) := by
    show _ = _
    unfold bg10; rw [if_neg h1, show ((K : Int) + 1 - 1).toNat = K by omega, hz]
  rw [E.out]
  have HZ := Lib.hid hz
  clear h1 hn hz E
  go_enter Tryd.func16, Tryd.ntmps16
  go_wp2_with fail
  go_loopw [5, 10] (fun fv cv wr => ∃ f c : Nat, fv = .int .i64 f ∧ cv = .int .i64 c ∧ c ≤ K ∧ f ≤ s.size ∧ (bgnl (K - c) ((bs9 s).drop f)).map (· + f) = z ∧ Below w.heap.size w wr) (fun _ cv _ => K - (intOf cv).toNat)
  case atStart => exact ⟨0, 0, rfl, rfl, Nat.zero_le _, Nat.zero_le _, by rw [List.drop_zero, Nat.sub_zero, HZ.out]; cases z <;> rfl, Below.refl _ _⟩
  case round =>
    obtain ⟨f, c, rfl, rfl, hc, hf, hg, hb⟩ := hrel
    have HG := Lib.hid hg
    have HB := Lib.hid hb
    clear hg hb
    rcases Nat.lt_or_ge c K with hlt | hge
    · have hkl := hd_le hf
      obtain ⟨h, hh⟩ : ∃ h, (hdl ((bs9 s).drop f)).length = h := ⟨_, rfl⟩
      obtain ⟨k, hk⟩ : ∃ k, f + h = k := ⟨_, rfl⟩
      have HK : Hid (f + (hdl ((bs9 s).drop f)).length = k) := by show _ = _; rw [hh, hk]
      have hst := bgnl_hdl (K - (c + 1)) ((bs9 s).drop f)
      rw [show K - (c + 1) + 1 = K - c by omega, hh, List.length_drop, bs9_len, List.drop_drop] at hst
      rw [hh, hk] at hkl
      rcases Nat.lt_or_ge k s.size with hks | hks
      · have d2 : decide ((s.size : Int) < (k : Int) + 1) = false := decide_eq_false (by omega)
        have d3 : decide (s.size < k + 1) = false := decide_eq_false (by omega)
        have E : Hid ((bgnl (K - (c + 1)) ((bs9 s).drop (k + 1))).map (· + (k + 1)) = z) := by
          show _ = _
          rw [← HG.out, hst, if_pos (by omega), show f + (h + 1) = k + 1 by omega]
          cases bgnl (K - (c + 1)) ((bs9 s).drop (k + 1)) with
          | none => rfl
          | some j => show some (j + (k + 1)) = some (j + (h + 1) + f); exact congrArg some (by omega)
        clear hh hk hst
        go_wp2_with fail
        refine (end_any s f _ hf hs).mono ?_; rintro e w1 ⟨rfl, hb⟩
        rw [HK.out]
        replace HB := Lib.hid (HB.out.trans (hb.mono HB.out.size))
        clear hb
        go_wp2_with fail
        go_roundw
        case rel => exact ⟨k + 1, c + 1, by go_num, by go_num, by omega, by omega, E.out, HB.out⟩
        case measure => simp [intOf] <;> omega
      · have d2 : decide ((s.size : Int) < (k : Int) + 1) = true := decide_eq_true (by omega)
        have d3 : decide (s.size < k + 1) = true := decide_eq_true (by omega)
        have E : Hid (z = none) := by
          show _ = _
          rw [← HG.out, hst, if_neg (by omega)]; rfl
        clear hh hk hst
        go_wp2_with fail
        refine (end_any s f _ hf hs).mono ?_; rintro e w1 ⟨rfl, hb⟩
        rw [HK.out]
        replace HB := Lib.hid (HB.out.trans (hb.mono HB.out.size))
        clear hb
        go_wp2_with fail
        go_ret
        exact ⟨by rw [E.out]; rfl, HB.out⟩
    · obtain rfl : c = K := by omega
      have E : Hid (z = some f) := by
        show _ = _
        rw [← HG.out, Nat.sub_self, bgnl]; show some (0 + f) = _; rw [Nat.zero_add]
      go_wp2_with fail
      go_ret
      exact ⟨by rw [E.out]; rfl, HB.out⟩

set_option maxHeartbeats 4000000 in
set_option maxRecDepth 100000 in
theorem offset_any (s : ByteArray) (L C : Int) (w : World) (hs : s.size ≤ 1000000) (hL : L ≤ 1000000) (hC : C ≤ 1000000) : Calls Tryd.prog 7 #[.string s, .agg #[.int .i64 L, .int .i64 C]] w (Ret9 w (.int .i64 (of10 s L C))) := by
  obtain ⟨f, hf⟩ : ∃ f, bg10 s L = f := ⟨_, rfl⟩
  have hfl := bg10_le s L
  rw [hf] at hfl
  obtain ⟨r, hr⟩ : ∃ r, of10 s L C = r := ⟨_, rfl⟩
  rw [hr]
  unfold of10 at hr
  rw [hf] at hr
  have HR := Lib.hid hr
  have HF := Lib.hid hf
  clear hr hf
  obtain ⟨f1, f2⟩ := hfl
  have s1 : ∀ W : World, Below w.heap.size w W → Hid (Calls Tryd.prog 16 #[.string s, .int .i64 L] W (Ret9 W (.int .i64 f))) := fun W _ => by show Calls _ _ _ _ _; rw [← HF.out]; exact begin_any s L W hs hL
  clear HF
  by_cases h1 : f < 0
  · have d1 : decide (f < 0) = true := decide_eq_true h1
    have E : Hid (r = -1) := by show _ = _; rw [← HR.out, if_pos (.inl h1)]
    clear h1
    go_enter Tryd.func7, Tryd.ntmps7
    go_wp2_with fail
    refine ((s1 _ ((Below.refl _ _).alloc (Nat.le_refl _) _)).out).mono ?_; rintro e w1 ⟨rfl, hb⟩
    have HB := Lib.hid (((Below.refl w.heap.size w).alloc (Nat.le_refl _) _).trans (hb.mono (by simp)))
    clear hb
    go_wp2_with fail
    go_ret
    exact ⟨by rw [E.out]; rfl, HB.out⟩
  have d1 : decide (f < 0) = false := decide_eq_false h1
  by_cases h2 : C < 1
  · have d2 : decide (C < 1) = true := decide_eq_true h2
    have E : Hid (r = -1) := by show _ = _; rw [← HR.out, if_pos (.inr (.inl h2))]
    clear h1 h2
    go_enter Tryd.func7, Tryd.ntmps7
    go_wp2_with fail
    refine ((s1 _ ((Below.refl _ _).alloc (Nat.le_refl _) _)).out).mono ?_; rintro e w1 ⟨rfl, hb⟩
    obtain ⟨p0, p1, pf0, pf1, plt⟩ := (Bx2.newAt w (.int .i64 L) (.int .i64 C) 23 rfl).on hb
    have HB := Lib.hid (((Below.refl w.heap.size w).alloc (Nat.le_refl _) _).trans (hb.mono (by simp)))
    clear hb
    go_wp2_with fail
    go_ret
    exact ⟨by rw [E.out]; rfl, HB.out⟩
  have d2 : decide (C < 1) = false := decide_eq_false h2
  have c1 : 1 ≤ C := by omega
  by_cases h3 : (s.size : Int) - f < C - 1
  · have d3 : decide ((s.size : Int) - f < C - 1) = true := decide_eq_true h3
    have E : Hid (r = -1) := by show _ = _; rw [← HR.out, if_pos (.inr (.inr h3))]
    clear h1 h2 h3
    go_enter Tryd.func7, Tryd.ntmps7
    go_wp2_with fail
    refine ((s1 _ ((Below.refl _ _).alloc (Nat.le_refl _) _)).out).mono ?_; rintro e w1 ⟨rfl, hb⟩
    obtain ⟨p0, p1, pf0, pf1, plt⟩ := (Bx2.newAt w (.int .i64 L) (.int .i64 C) 23 rfl).on hb
    have HB := Lib.hid (((Below.refl w.heap.size w).alloc (Nat.le_refl _) _).trans (hb.mono (by simp)))
    clear hb
    go_wp2_with fail
    go_ret
    exact ⟨by rw [E.out]; rfl, HB.out⟩
  have d3 : decide ((s.size : Int) - f < C - 1) = false := decide_eq_false h3
  have E : Hid (r = f + C - 1) := by show _ = _; rw [← HR.out, if_neg (by omega)]
  have b1 : f + C - 1 ≤ 2000000 := by omega
  have b2 : 0 ≤ f + C - 1 := by omega
  clear h1 h2 h3
  go_enter Tryd.func7, Tryd.ntmps7
  go_wp2_with fail
  refine ((s1 _ ((Below.refl _ _).alloc (Nat.le_refl _) _)).out).mono ?_; rintro e w1 ⟨rfl, hb⟩
  obtain ⟨p0, p1, pf0, pf1, plt⟩ := (Bx2.newAt w (.int .i64 L) (.int .i64 C) 23 rfl).on hb
  have HB := Lib.hid (((Below.refl w.heap.size w).alloc (Nat.le_refl _) _).trans (hb.mono (by simp)))
  clear hb
  go_wp2_with fail
  go_ret
  exact ⟨by rw [E.out]; rfl, HB.out⟩

end Go.Proofs.YthpoplgejenpgaaDoor
