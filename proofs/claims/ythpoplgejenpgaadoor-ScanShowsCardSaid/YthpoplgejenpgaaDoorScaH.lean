/-
  Contracts of layer 10, the eighth part: the document's Offset.
-/
import Derived.Test.YthpoplgejenpgaaDoorScaG
set_option linter.unusedVariables false
set_option linter.unusedSimpArgs false
namespace Go.Proofs.YthpoplgejenpgaaDoor
open Go.RowKit

theorem of10_none {s : ByteArray} {L C : Int} (h : bg10 s L = -1) : of10 s L C = -1 := by
  unfold of10; rw [h, if_pos (.inl (by omega))]
theorem of10_some {s : ByteArray} {L C : Int} {f : Nat} (h : bg10 s L = f) : of10 s L C = if C < 1 ∨ (s.size : Int) - f < C - 1 then -1 else f + C - 1 := by
  unfold of10; rw [h]
  by_cases k : C < 1 ∨ (s.size : Int) - f < C - 1
  · rw [if_pos (.inr k), if_pos k]
  · rw [if_neg (by omega), if_neg k]

set_option maxHeartbeats 4000000 in
set_option maxRecDepth 100000 in
theorem refoffset_any (s : ByteArray) (L C : Int) (w : World) (hs : s.size ≤ 1000000) (hL : L ≤ 1000000) (hC : C ≤ 1000000) : Calls Tryd.prog 8 #[.string s, .agg #[.int .i64 L, .int .i64 C]] w (Ret9 w (.int .i64 (of10 s L C))) := by
  obtain ⟨r, hr⟩ : ∃ r, of10 s L C = r := ⟨_, rfl⟩
  rw [hr]
  have HR := Lib.hid hr
  clear hr
  by_cases h1 : L < 1
  · have E : Hid (r = -1) := by show _ = _; rw [← HR.out]; exact of10_none (by unfold bg10; rw [if_pos h1])
    have d1 : decide ((1 : Int) < L) = false := decide_eq_false (by omega)
    have d2 : ((1 : Int) != L) = true := by rw [bne_iff_ne]; omega
    clear h1
    rcases Nat.eq_zero_or_pos s.size with h0 | h0
    · go_enter Tryd.func8, Tryd.ntmps8
      go_wp2_with fail
      go_loopw [5, 6] (fun lv av wr => lv = .int .i64 1 ∧ av = .int .i64 0 ∧ wr = w.alloc (.cells #[.int .i64 L, .int .i64 C] 23)) (fun _ av _ => s.size - (intOf av).toNat)
      case atStart => exact ⟨rfl, rfl, rfl⟩
      case round =>
        obtain ⟨rfl, rfl, rfl⟩ := hrel
        go_wp2_with fail
        go_ret
        exact ⟨by rw [E.out]; rfl, (Below.refl _ _).alloc (Nat.le_refl _) _⟩
    · have d3 : decide ((0 : Int) < (s.size : Int)) = true := decide_eq_true (by omega)
      have d4 : decide (0 < s.size) = true := decide_eq_true h0
      go_enter Tryd.func8, Tryd.ntmps8
      go_wp2_with fail
      go_loopw [5, 6] (fun lv av wr => lv = .int .i64 1 ∧ av = .int .i64 0 ∧ wr = w.alloc (.cells #[.int .i64 L, .int .i64 C] 23)) (fun _ av _ => s.size - (intOf av).toNat)
      case atStart => exact ⟨rfl, rfl, rfl⟩
      case round =>
        obtain ⟨rfl, rfl, rfl⟩ := hrel
        go_wp2_with fail
        go_ret
        exact ⟨by rw [E.out]; rfl, (Below.refl _ _).alloc (Nat.le_refl _) _⟩
  obtain ⟨K, rfl⟩ : ∃ K : Nat, L = (K : Int) + 1 := ⟨(L - 1).toNat, by omega⟩
  have hK : K ≤ 1000000 := by omega
  obtain ⟨z, hz⟩ : ∃ z, bgnl K (bs9 s) = z := ⟨_, rfl⟩
  have HE : Hid (bg10 s ((K : Int) + 1) = io10 z) := by
    show _ = _
    unfold bg10; rw [if_neg h1, show ((K : Int) + 1 - 1).toNat = K by omega, hz]
  have HZ := Lib.hid hz
  clear h1 hL hz
  go_enter Tryd.func8, Tryd.ntmps8
  go_wp2_with fail
  go_loopw [5, 6] (fun lv av wr => ∃ l a : Nat, lv = .int .i64 ((l : Int) + 1) ∧ av = .int .i64 a ∧ l ≤ K ∧ l ≤ a ∧ a ≤ s.size ∧ (bgnl (K - l) ((bs9 s).drop a)).map (· + a) = z ∧ wr = w.alloc (.cells #[.int .i64 ((K : Int) + 1), .int .i64 C] 23)) (fun _ av _ => s.size - (intOf av).toNat)
  case atStart => exact ⟨0, 0, rfl, rfl, Nat.zero_le _, Nat.le_refl _, Nat.zero_le _, by rw [List.drop_zero, Nat.sub_zero, HZ.out]; cases z <;> rfl, rfl⟩
  case round =>
    obtain ⟨l, a, rfl, rfl, hl, hla, ha, hg, rfl⟩ := hrel
    have HG := Lib.hid hg
    clear hg
    by_cases hgo : a < s.size ∧ l < K
    · obtain ⟨has, hlk⟩ := hgo
      obtain ⟨x, hx⟩ : ∃ x, x = (s[a]'has).toNat := ⟨_, rfl⟩
      have ex : ((s[a]'has).toNat : Int) = (x : Int) := by rw [hx]
      have hdr : (bs9 s).drop a = x :: (bs9 s).drop (a + 1) := by rw [bs9_get s a has, hx]
      have hst : bgnl (K - l) ((bs9 s).drop a) = (if x = 10 then bgnl (K - (l + 1)) ((bs9 s).drop (a + 1)) else bgnl (K - l) ((bs9 s).drop (a + 1))).map (· + 1) := by
        rw [hdr, show K - l = K - (l + 1) + 1 by omega, bgnl]
      have hmm : ∀ o : Option Nat, (o.map (· + 1)).map (· + a) = o.map (· + (a + 1)) := fun o => by
        cases o with
        | none => rfl
        | some j => show some (j + 1 + a) = some (j + (a + 1)); exact congrArg some (by omega)
      have HGO := HG.out
      rw [hst, hmm] at HGO
      have d1 : decide ((l : Int) + 1 < (K : Int) + 1) = true := decide_eq_true (by omega)
      have d2 : decide (l < K) = true := decide_eq_true hlk
      have d3 : decide ((a : Int) < (s.size : Int)) = true := decide_eq_true (by omega)
      have d4 : decide (a < s.size) = true := decide_eq_true has
      clear hx hdr hst hmm
      by_cases h10 : x = 10
      · have d : ((x : Int) == 10) = true := by rw [h10]; rfl
        rw [if_pos h10] at HGO
        have E := Lib.hid HGO
        clear HGO h10
        go_wp2_with fail
        go_round
        case rel => exact ⟨l + 1, a + 1, by go_num, by go_num, by omega, by omega, by omega, E.out, trivial⟩
        case measure => simp [intOf] <;> omega
      · have d : ((x : Int) == 10) = false := by rw [beq_eq_false_iff_ne]; omega
        rw [if_neg h10] at HGO
        have E := Lib.hid HGO
        clear HGO h10
        go_wp2_with fail
        go_round
        case rel => exact ⟨l, a + 1, rfl, by go_num, by omega, by omega, by omega, E.out, trivial⟩
        case measure => simp [intOf] <;> omega
    · by_cases hlk : l = K
      · subst hlk
        have hz2 : z = some a := by rw [← HG.out, Nat.sub_self, bgnl]; show some (0 + a) = _; rw [Nat.zero_add]
        have E : Hid (r = if C < 1 ∨ (s.size : Int) - a < C - 1 then -1 else a + C - 1) := by
          show _ = _
          rw [← HR.out]; exact of10_some (by rw [HE.out, hz2]; rfl)
        clear hz2 hgo HG
        have dl : decide ((l : Int) + 1 < (l : Int) + 1) = false := decide_eq_false (by omega)
        have da : decide (a < s.size) = true ∨ decide (a < s.size) = false := by cases decide (a < s.size) <;> simp
        have da2 : decide ((a : Int) < (s.size : Int)) = decide (a < s.size) := by rw [Bool.eq_iff_iff, decide_eq_true_iff, decide_eq_true_iff]; omega
        by_cases h2 : C < 1
        · have d2 : decide (C < 1) = true := decide_eq_true h2
          have E2 : Hid (r = -1) := by show _ = _; rw [E.out, if_pos (.inl h2)]
          clear h2 E
          rcases da with da | da
          all_goals
            rw [da] at da2
            go_wp2_with fail
            go_ret
            exact ⟨by rw [E2.out]; rfl, (Below.refl _ _).alloc (Nat.le_refl _) _⟩
        have d2 : decide (C < 1) = false := decide_eq_false h2
        by_cases h3 : (s.size : Int) - a < C - 1
        · have d3 : decide ((s.size : Int) - a < C - 1) = true := decide_eq_true h3
          have E2 : Hid (r = -1) := by show _ = _; rw [E.out, if_pos (.inr h3)]
          have c1 : 1 ≤ C := by omega
          clear h2 h3 E
          rcases da with da | da
          all_goals
            rw [da] at da2
            go_wp2_with fail
            go_ret
            exact ⟨by rw [E2.out]; rfl, (Below.refl _ _).alloc (Nat.le_refl _) _⟩
        have d3 : decide ((s.size : Int) - a < C - 1) = false := decide_eq_false h3
        have E2 : Hid (r = a + C - 1) := by show _ = _; rw [E.out, if_neg (by omega)]
        have c1 : 1 ≤ C := by omega
        have b1 : (a : Int) + C - 1 ≤ 2000000 := by omega
        clear h2 h3 E
        rcases da with da | da
        all_goals
          rw [da] at da2
          go_wp2_with fail
          go_ret
          exact ⟨by rw [E2.out]; rfl, (Below.refl _ _).alloc (Nat.le_refl _) _⟩
      · obtain rfl : a = s.size := by omega
        have hz2 : z = none := by
          rw [← HG.out, List.drop_of_length_le (by rw [bs9_len]; exact Nat.le_refl _), show K - l = K - l - 1 + 1 by omega, bgnl]; rfl
        have E : Hid (r = -1) := by show _ = _; rw [← HR.out]; exact of10_none (by rw [HE.out, hz2]; rfl)
        have d1 : (((l : Int) + 1) != ((K : Int) + 1)) = true := by rw [bne_iff_ne]; omega
        have d5 : (l == K) = false := by rw [beq_eq_false_iff_ne]; exact hlk
        have d6 : ((l : Int) == (K : Int)) = false := by rw [beq_eq_false_iff_ne]; omega
        clear hz2 hgo HG hlk
        go_wp2_with fail
        go_ret
        exact ⟨by rw [E.out]; rfl, (Below.refl _ _).alloc (Nat.le_refl _) _⟩

end Go.Proofs.YthpoplgejenpgaaDoor
