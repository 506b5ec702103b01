/-
  Contracts of layer 9, the second part: Size.
-/
import Derived.Test.YtkeiipnclkaeiaaDoorUtfA
set_option linter.unusedVariables false
set_option linter.unusedSimpArgs false
namespace Go.Proofs.YtkeiipnclkaeiaaDoor
open Go.RowKit

theorem wraps_i64' (n : Int) (h₀ : 0 ≤ n) (h₁ : n < 2 ^ 40) : IntKind.i64.wrap n = n := by rw [IntKind.wrap_i64]; omega
theorem wraps_u32' (n : Int) (h₀ : 0 ≤ n) (h₁ : n < 2 ^ 32) : IntKind.u32.wrap n = n := by rw [IntKind.wrap_u32]; omega
/-- Bits as numbers. -/
theorem andNot9 : ∀ n : Fin 256, bits BinOp.andNot IntKind.u8 (n.val : Int) 63 = ((n.val / 64 * 64 : Nat) : Int) := by decide +kernel
theorem and9 (b : Nat) (h : b < 256) : bits .and .u8 (b : Int) 63 = ((b % 64 : Nat) : Int) := by
  rw [u8_and63 _ (by omega) (by omega)]; omega
theorem or9 (x b : Nat) (hx : x < 2 ^ 30) (hb : b < 64) : bits .or .i64 ((x * 64 : Nat) : Int) (b : Int) = ((x * 64 + b : Nat) : Int) := by
  rw [bits_join .i64 40 (by decide) wraps_i64' 6 _ _ (by omega) (by omega) (by omega) (by omega) (by omega) (by omega)]; omega
theorem empty9 {s : ByteArray} (h : s.size = 0) : bs9 s = [] := List.eq_nil_of_length_eq_zero (by rw [bs9_len, h])
theorem toList9 {s : ByteArray} (h : s.size ≠ 0) : s.toList ≠ [] := fun e => h (by
  rw [ByteArray.toList_eq] at e
  have := congrArg List.length e
  simpa using this)
theorem size_empty {s : ByteArray} (h : s.size = 0) : s = ⟨#[]⟩ := bs9_inj (by rw [empty9 h]; rfl)

theorem bel9 {w : World} {b : Nat} (k : Nat) : Below b w (w.drewN k) := ⟨rfl, rfl, rfl, Nat.le_refl _, fun _ _ => rfl⟩

set_option maxHeartbeats 4000000 in
set_option maxRecDepth 100000 in
theorem size_any (s : ByteArray) (w : World) (hT : Tabs9 w) (hs : s.size ≤ 1000000) : Calls Tryd.prog 10 #[.string s] w (Ret9 w (.int .i64 (szl (bs9 s) : Nat))) := by
  rcases Nat.eq_zero_or_pos s.size with h0 | h0
  · obtain rfl := size_empty h0
    go_enter Tryd.func10, Tryd.ntmps10
    go_wp2
    go_ret
    exact ⟨rfl, Below.refl _ _⟩
  · have HT := Lib.hid hT
    obtain ⟨z, hz⟩ : ∃ z, szl (bs9 s) = z := ⟨_, rfl⟩
    rw [hz]
    have hne : (s.toList == []) = false := by simpa using toList9 (by omega)
    have hb0 := bs9_get s 0 h0
    rw [List.drop_zero] at hb0
    obtain ⟨a, ha⟩ : ∃ a, (s[0]'h0).toNat = a := ⟨_, rfl⟩
    rw [ha] at hb0
    have hab : a < 256 := by rw [← ha]; exact UInt8.toNat_lt _
    obtain ⟨n, hn⟩ : ∃ n, tld a = n + 1 := ⟨tld a - 1, by have := tld_pos a; omega⟩
    have hp := tld_pos a
    have hm := mk9_le a
    rw [hn] at hp hm
    have hn4 : n ≤ 3 := by omega
    obtain ⟨m, hmk⟩ : ∃ m, mk9 (n + 1) = m := ⟨_, rfl⟩
    rw [hmk] at hm
    have HL := Lib.hid (bs9_len s)
    have HB := Lib.hid hb0
    have HN := Lib.hid hn
    have HZ := Lib.hid hz
    have HM := Lib.hid hmk
    have hcell : w.cell? ⟨0, n, none⟩ = some (.int .i64 (m : Int)) := by
      rw [hT.mk_ n (by omega), ← hmk]
      have : n = 0 ∨ n = 1 ∨ n = 2 ∨ n = 3 := by omega
      rcases this with rfl | rfl | rfl | rfl <;> rfl
    clear hT hz hb0 hmk hp hn
    go_enter Tryd.func10, Tryd.ntmps10
    go_wp2_with fail
    refine (told_any a _ HT.out hab).mono ?_; rintro e w' ⟨rfl, rfl⟩
    rw [HN.out]
    rcases Nat.lt_or_ge s.size (n + 1) with hlt | hge
    · have E : Hid (z = 0) := by
        show _ = _
        rw [← HZ.out, HB.out]
        have := HL.out
        rw [HB.out, List.length_cons] at this
        exact szl_short _ _ (by rw [HN.out]; omega)
      go_wp2_with fail
      go_ret
      exact ⟨by rw [E.out]; rfl, Below.refl _ _⟩
    · have hge' : ¬ s.size < n + 1 := by omega
      go_wp2_with fail
      go_quiet ((fail))
      go_wp2_with fail
      obtain ⟨T, hT0⟩ : ∃ T, (bs9 s).drop 1 = T := ⟨_, rfl⟩
      have HZ' : Hid (z = fin9 (n + 1) (go9 (a - m) T n)) := by
        show _ = _
        have := HL.out
        rw [HB.out, List.length_cons, hT0] at this
        rw [← HZ.out, HB.out, hT0, szl_cons, HN.out, HM.out, if_neg (by omega)]; rfl
      have HT0 := Lib.hid hT0
      clear hT0 HZ
      go_loop [4, 5] (fun xv iv => ∃ (x i : Nat), xv = .int .i64 x ∧ iv = .int .i64 i ∧ 1 ≤ i ∧ i ≤ n + 1 ∧ ((i = 1 ∧ x < 256) ∨ (i = 2 ∧ x < 16384) ∨ (i = 3 ∧ x < 1048576) ∨ (i = 4 ∧ x < 67108864)) ∧ go9 (a - m) T n = go9 x ((bs9 s).drop i) (n + 1 - i)) (fun _ iv => n + 1 - (intOf iv).toNat)
      case atStart => exact ⟨a - m, 1, by go_num, rfl, Nat.le_refl _, by omega, .inl ⟨rfl, by omega⟩, by rw [HT0.out]; rfl⟩
      case round =>
        obtain ⟨x, i, rfl, rfl, hi1, hin, hx, hg⟩ := hrel
        have HG := Lib.hid hg
        clear hg
        rcases Nat.lt_or_ge i (n + 1) with hi | hi
        · have hlt : i < s.size := by omega
          have hx30 : x < 1048576 := by omega
          obtain ⟨b, hb⟩ : ∃ b, (s[i]'hlt).toNat = b := ⟨_, rfl⟩
          have hbb : b < 256 := by rw [← hb]; exact UInt8.toNat_lt _
          have HD := Lib.hid (bs9_get s i hlt)
          rw [hb] at HD
          by_cases hc : cn9 b
          · have h63 : bits .andNot .u8 (b : Int) 63 = 128 := by
              have := andNot9 ⟨b, hbb⟩
              unfold cn9 at hc
              rw [this]; show ((b / 64 * 64 : Nat) : Int) = 128; omega
            have HC := Lib.hid hc
            obtain ⟨y, hy⟩ : ∃ y, x * 64 + (b - 128) = y := ⟨_, rfl⟩
            have hor : bits .or .i64 ((x : Int) * 64) ((b : Int) % 64) = (y : Int) := by
              unfold cn9 at hc
              have := or9 x (b % 64) (by omega) (by omega)
              rw [show ((x : Int) * 64) = ((x * 64 : Nat) : Int) by omega, show ((b : Int) % 64) = ((b % 64 : Nat) : Int) by omega, this, ← hy]
              omega
            have HY : Hid (go9 (a - m) T n = go9 y ((bs9 s).drop (i + 1)) (n + 1 - (i + 1))) := by
              show _ = _
              rw [HG.out, HD.out, show n + 1 - i = (n + 1 - (i + 1)) + 1 by omega, go9, if_pos hc, hy]
            have hyb : (i + 1 = 1 ∧ y < 256) ∨ (i + 1 = 2 ∧ y < 16384) ∨ (i + 1 = 3 ∧ y < 1048576) ∨ (i + 1 = 4 ∧ y < 67108864) := by unfold cn9 at hc; omega
            have HYB := Lib.hid hyb
            clear hc hy hyb
            go_wp2_with fail
            go_round
            case rel => exact ⟨y, i + 1, by go_num, by go_num, by omega, by omega, HYB.out, HY.out⟩
            case measure => simp [intOf]; omega
          · have h63 : (bits .andNot .u8 (b : Int) 63 == 128) = false := by
              have := andNot9 ⟨b, hbb⟩
              unfold cn9 at hc
              rw [this]; show (((b / 64 * 64 : Nat) : Int) == 128) = false; simp; omega
            have E : Hid (z = 0) := by
              show _ = _
              obtain ⟨k, hk⟩ : ∃ k, n + 1 - i = k + 1 := ⟨n - i, by omega⟩
              rw [HZ'.out, HG.out, HD.out, hk, go9, if_neg hc]; rfl
            clear hc
            go_wp2_with fail
            go_ret
            exact ⟨by rw [E.out]; rfl, bel9 nq⟩
        · obtain rfl : i = n + 1 := by omega
          have E : Hid (z = if Sg x ∧ lng x = n + 1 then n + 1 else 0) := by
            show _ = _
            rw [HZ'.out, HG.out, Nat.sub_self, go9]; rfl
          by_cases hsg : Sg x
          · have d : decide (0 ≤ (x : Int) ∧ Sg (x : Int).toNat) = true := decide_eq_true ⟨by omega, hsg⟩
            have D := Lib.hid d
            have HSG := Lib.hid hsg
            clear d hsg
            go_wp2_with fail
            refine (isSign_any _ _).mono ?_; rintro e w2 ⟨rfl, rfl⟩
            rw [D.out]
            go_wp2_with fail
            refine (length_any _ _ (HT.out.on (bel9 nq))).mono ?_; rintro e w2 ⟨rfl, rfl⟩
            by_cases hl : lng x = n + 1
            · have E2 : Hid (z = n + 1) := by show _ = _; rw [E.out, if_pos ⟨HSG.out, hl⟩]
              rw [hl]
              clear hl
              go_wp2_with fail
              go_ret
              exact ⟨by rw [E2.out]; rfl, bel9 nq⟩
            · have E2 : Hid (z = 0) := by show _ = _; rw [E.out, if_neg (fun h => hl h.2)]
              have hl' : (((lng x : Nat) : Int) == ((n : Int) + 1)) = false := by simp; omega
              clear hl
              go_wp2_with fail
              go_ret
              exact ⟨by rw [E2.out]; rfl, bel9 nq⟩
          · have d : decide (0 ≤ (x : Int) ∧ Sg (x : Int).toNat) = false := decide_eq_false (fun h => hsg h.2)
            have D := Lib.hid d
            have E2 : Hid (z = 0) := by show _ = _; rw [E.out, if_neg (fun h => hsg h.1)]
            clear d hsg
            go_wp2_with fail
            refine (isSign_any _ _).mono ?_; rintro e w2 ⟨rfl, rfl⟩
            rw [D.out]
            go_wp2_with fail
            go_ret
            exact ⟨by rw [E2.out]; rfl, bel9 nq⟩

end Go.Proofs.YtkeiipnclkaeiaaDoor
