/-
  Contracts of layer 10, the eleventh part: the document's Show.
-/
import Derived.Test.YthpoplgejenpgaaDoorScaJ
set_option linter.unusedVariables false
set_option linter.unusedSimpArgs false
namespace Go.Proofs.YthpoplgejenpgaaDoor
open Go.RowKit

theorem wd10_row (s : ByteArray) (L : Int) : (L < 1 → wd10 s L = []) ∧ (∀ m : Nat, L = (m : Int) + 1 → wd10 s L = (lns s).getD m []) := by
  unfold wd10 lns
  refine ⟨fun h => by rw [if_pos h], fun m e => ?_⟩
  rw [if_neg (by omega), show (L - 1).toNat = m by omega, List.getD_eq_getElem?_getD]
  exact ((lin_word m (bs9 s)).1).symm
theorem push_blank (B : List Nat) (j : Nat) : (B ++ List.replicate j 32) ++ [32] = B ++ List.replicate (j + 1) 32 := by
  rw [List.append_assoc, List.replicate_succ']

set_option maxHeartbeats 4000000 in
set_option maxRecDepth 100000 in
theorem refshow_any (s : ByteArray) (L C : Int) (w : World) (hs : s.size ≤ 100000) (hL : L ≤ 1000000) (hC : C ≤ 1000000) : Calls Tryd.prog 6 #[.string s, .agg #[.int .i64 L, .int .i64 C]] w (Ret9 w (.string (st9 (shw10 s L C)))) := by
  have hs1 : s.size ≤ 1000000 := by omega
  have hhl := hd10_len hL
  have hwl := wd10_le s L
  obtain ⟨hw1, hw2⟩ := wd10_row s L
  obtain ⟨x, hx⟩ : ∃ x, L.toNat = x := ⟨_, rfl⟩
  have hxb : x ≤ 1000000 := by omega
  obtain ⟨W, hW⟩ : ∃ W, wd10 s L = W := ⟨_, rfl⟩
  rw [hW] at hw1 hw2 hwl
  obtain ⟨q, hq⟩ : ∃ q, q10 W.length C = q := ⟨_, rfl⟩
  have hqW : q ≤ W.length := by rw [← hq]; unfold q10; exact Nat.min_le_right _ _
  obtain ⟨Y, hY⟩ : ∃ Y, st9 W = Y := ⟨_, rfl⟩
  have hYs : Y.size = W.length := by rw [← hY, st9_size]
  have em2 : max 1 (min C ((Y.size : Int) + 1)) = (q : Int) + 1 := by rw [hYs, ← hq]; unfold q10; omega
  obtain ⟨H, hH⟩ : ∃ H, hd10 L = H := ⟨_, rfl⟩
  rw [hH] at hhl
  obtain ⟨n, hn⟩ : ∃ n, H.length + q = n := ⟨_, rfl⟩
  have hHn : H = num10 x ++ [58, 32] := by rw [← hH]; unfold hd10; rw [hx]
  have hnl := num10_len8 hxb
  have HR : Hid (shw10 s L C = (((H ++ W) ++ [10]) ++ List.replicate n 32) ++ [94, 10]) := by show _ = _; unfold shw10; rw [hH, hW, hq, hn]
  rw [HR.out]
  have HI : Hid (∀ w', Calls Tryd.prog 21 #[.int .i64 L] w' (Ret9 w' (.string (st9 (num10 x))))) := fun w' => by rw [← hx]; exact number_any L.toNat L (Nat.le_refl _) hL w'
  have a1 : ∀ w', (Op.stringOp .add (st9 (num10 x)) ⟨#[58, 32]⟩).run Tryd.prog w' = .ok (.string (st9 H)) w' := fun w' => by rw [hHn]; exact addst (b := [58, 32]) (by simp; omega) w'
  have a2 : ∀ w', (Op.stringOp .add (st9 H) (st9 W)).run Tryd.prog w' = .ok (.string (st9 (H ++ W))) w' := fun w' => addst (by omega) w'
  obtain ⟨B, hB⟩ : ∃ B, (H ++ W) ++ [10] = B := ⟨_, rfl⟩
  have hBl : B.length ≤ 200000 := by rw [← hB]; simp; omega
  have a3 : ∀ w', (Op.stringOp .add (st9 (H ++ W)) ⟨#[10]⟩).run Tryd.prog w' = .ok (.string (st9 B)) w' := fun w' => by rw [← hB]; exact addst (b := [10]) (by simp; omega) w'
  have hnb : n ≤ 200000 := by omega
  have A4 : Hid (∀ j, j ≤ n → ∀ w', (Op.stringOp .add (st9 (B ++ List.replicate j 32)) ⟨#[32]⟩).run Tryd.prog w' = .ok (.string (st9 (B ++ List.replicate (j + 1) 32))) w') := fun j hj w' => by rw [← push_blank]; exact addst (b := [32]) (by simp; omega) w'
  have A5 : Hid (∀ w', (Op.stringOp .add (st9 (B ++ List.replicate n 32)) ⟨#[94, 10]⟩).run Tryd.prog w' = .ok (.string (st9 ((B ++ List.replicate n 32) ++ [94, 10]))) w') := fun w' => addst (b := [94, 10]) (by simp; omega) w'
  rw [hB]
  have hHs : (st9 H).size = H.length := st9_size H
  obtain ⟨S0, hS0⟩ : ∃ S, st9 (num10 x) = S := ⟨_, rfl⟩
  obtain ⟨S1, hS1⟩ : ∃ S, st9 H = S := ⟨_, rfl⟩
  obtain ⟨S2, hS2⟩ : ∃ S, st9 (H ++ W) = S := ⟨_, rfl⟩
  obtain ⟨S3, hS3⟩ : ∃ S, st9 B = S := ⟨_, rfl⟩
  have HS3 : Hid (S3 = st9 (B ++ List.replicate 0 32)) := by show _ = _; rw [List.replicate_zero, List.append_nil, hS3]
  obtain ⟨S6, hS6⟩ : ∃ S, st9 ((B ++ List.replicate n 32) ++ [94, 10]) = S := ⟨_, rfl⟩
  have HS6 := Lib.hid hS6
  rw [hS0] at HI a1
  rw [hS1] at a1 a2 hHs
  rw [hY, hS2] at a2
  rw [hS2, hS3] at a3
  rw [hS6]
  have en0 : (S1.size : Int) + ((q : Int) + 1) - 1 = (n : Int) := by omega
  have hS1b : S1.size ≤ 10 := by omega
  have hYb : Y.size ≤ 100000 := by omega
  have hqn : q ≤ 100000 := by omega
  have HF1 : Hid (L < 1 → Y = ⟨#[]⟩) := fun h => by rw [← hY, hw1 h]; rfl
  have HF2 : Hid (∀ m : Nat, L = (m : Int) + 1 → st9 ((lns s).getD m []) = Y) := fun m e => by rw [← hw2 m e, hY]
  obtain ⟨N, hN⟩ : ∃ N, (lns s).length = N := ⟨_, rfl⟩
  have hNs : N ≤ 100000 := by have := lns_len s; omega
  have HN := Lib.hid hN
  clear hw1 hw2 hx hW hq hqW hY hYs hH hHn HR hS0 hS1 hS2 hS3 hS6 hHs hnl hhl hwl hB hBl hn hN
  by_cases h1 : L < 1
  case pos =>
    have d1 : decide ((1 : Int) ≤ L) = false := decide_eq_false (by omega)
    have hYn := HF1.out h1
    subst hYn
    have em3 : max 1 (min C (1 : Int)) = (q : Int) + 1 := em2
    clear h1 HF1 HF2 em2
    go_enter Tryd.func6, Tryd.ntmps6
    go_wp2_with fail
    have X : Hid (Bx2 (w.alloc (.cells #[.int .i64 L, .int .i64 C] 23)) w.heap.size (.int .i64 L) (.int .i64 C)) := Bx2.newAt _ _ _ _ rfl
    have E : Hid (Below w.heap.size w (w.alloc (.cells #[.int .i64 L, .int .i64 C] 23))) := (Below.refl _ _).alloc (Nat.le_refl _) _
    generalize World.alloc w _ = W0 at X E ⊢
    refine (reflines_any s _ hs1).mono ?_; rintro e w1 ⟨v, rfl, hown, hb⟩
    obtain ⟨A1, c1, hmv, hrd⟩ := hown.rd
    subst hmv
    rw [HN.out]
    replace X := Lib.hid (X.out.on hb); replace E := Lib.hid (E.out.trans (hb.mono E.out.size)); clear hb hown
    obtain ⟨p0, p1, pf0, pf1, plt⟩ := X.out
    clear hrd
    go_wp2_with fail
    refine (HI.out _).mono ?_; rintro e w2 ⟨rfl, hb⟩
    clear p0 p1 pf0 pf1 plt
    replace X := Lib.hid (X.out.on hb); replace E := Lib.hid (E.out.trans (hb.mono E.out.size)); clear hb
    obtain ⟨p0, p1, pf0, pf1, plt⟩ := X.out
    go_wp2_with fail
    clear p0 p1 pf0 pf1 plt
    go_loopw [8, 47] (fun ov jv wr => ∃ j : Nat, ov = .string (st9 (B ++ List.replicate j 32)) ∧ jv = .int .i64 j ∧ j ≤ n ∧ wr = w2) (fun _ jv _ => n - (intOf jv).toNat)
    case atStart => exact ⟨0, by rw [HS3.out], rfl, Nat.zero_le _, rfl⟩
    case round =>
      obtain ⟨j, rfl, rfl, hj, rfl⟩ := hrel
      rcases Nat.lt_or_ge j n with hjn | hjn
      · have a4 := A4.out j hj
        obtain ⟨T1, hT1⟩ : ∃ T, st9 (B ++ List.replicate j 32) = T := ⟨_, rfl⟩
        obtain ⟨T2, hT2⟩ : ∃ T, st9 (B ++ List.replicate (j + 1) 32) = T := ⟨_, rfl⟩
        rw [hT1, hT2] at a4
        have HT2 := Lib.hid hT2
        rw [hT1]
        clear hT1 hT2
        go_wp2_with fail
        go_roundw
        case rel => exact ⟨j + 1, by rw [HT2.out], by go_num, by omega, trivial⟩
        case measure => simp [intOf] <;> omega
      · obtain rfl : j = n := by omega
        have a5 := A5.out
        rw [HS6.out] at a5
        obtain ⟨T1, hT1⟩ : ∃ T, st9 (B ++ List.replicate j 32) = T := ⟨_, rfl⟩
        rw [hT1] at a5 ⊢
        clear hT1
        go_wp2_with fail
        go_ret
        exact ⟨rfl, E.out⟩
  obtain ⟨m, rfl⟩ : ∃ m : Nat, L = (m : Int) + 1 := ⟨(L - 1).toNat, by omega⟩
  have d1 : decide ((1 : Int) ≤ (m : Int) + 1) = true := decide_eq_true (by omega)
  have hm6 : m ≤ 1000000 := by omega
  by_cases h2 : m < N
  case neg =>
    have d2 : decide ((m : Int) + 1 ≤ (N : Int)) = false := decide_eq_false (by omega)
    have hYn : Y = ⟨#[]⟩ := by rw [← HF2.out m rfl, List.getD_eq_getElem?_getD, List.getElem?_eq_none (by rw [HN.out]; omega)]; rfl
    subst hYn
    have em3 : max 1 (min C (1 : Int)) = (q : Int) + 1 := em2
    clear h1 h2 HF1 HF2 em2
    go_enter Tryd.func6, Tryd.ntmps6
    go_wp2_with fail
    have X : Hid (Bx2 (w.alloc (.cells #[.int .i64 ((m : Int) + 1), .int .i64 C] 23)) w.heap.size (.int .i64 ((m : Int) + 1)) (.int .i64 C)) := Bx2.newAt _ _ _ _ rfl
    have E : Hid (Below w.heap.size w (w.alloc (.cells #[.int .i64 ((m : Int) + 1), .int .i64 C] 23))) := (Below.refl _ _).alloc (Nat.le_refl _) _
    generalize World.alloc w _ = W0 at X E ⊢
    refine (reflines_any s _ hs1).mono ?_; rintro e w1 ⟨v, rfl, hown, hb⟩
    obtain ⟨A1, c1, hmv, hrd⟩ := hown.rd
    subst hmv
    rw [HN.out]
    replace X := Lib.hid (X.out.on hb); replace E := Lib.hid (E.out.trans (hb.mono E.out.size)); clear hb hown
    obtain ⟨p0, p1, pf0, pf1, plt⟩ := X.out
    clear hrd
    go_wp2_with fail
    refine (HI.out _).mono ?_; rintro e w2 ⟨rfl, hb⟩
    clear p0 p1 pf0 pf1 plt
    replace X := Lib.hid (X.out.on hb); replace E := Lib.hid (E.out.trans (hb.mono E.out.size)); clear hb
    obtain ⟨p0, p1, pf0, pf1, plt⟩ := X.out
    go_wp2_with fail
    clear p0 p1 pf0 pf1 plt
    go_loopw [8, 47] (fun ov jv wr => ∃ j : Nat, ov = .string (st9 (B ++ List.replicate j 32)) ∧ jv = .int .i64 j ∧ j ≤ n ∧ wr = w2) (fun _ jv _ => n - (intOf jv).toNat)
    case atStart => exact ⟨0, by rw [HS3.out], rfl, Nat.zero_le _, rfl⟩
    case round =>
      obtain ⟨j, rfl, rfl, hj, rfl⟩ := hrel
      rcases Nat.lt_or_ge j n with hjn | hjn
      · have a4 := A4.out j hj
        obtain ⟨T1, hT1⟩ : ∃ T, st9 (B ++ List.replicate j 32) = T := ⟨_, rfl⟩
        obtain ⟨T2, hT2⟩ : ∃ T, st9 (B ++ List.replicate (j + 1) 32) = T := ⟨_, rfl⟩
        rw [hT1, hT2] at a4
        have HT2 := Lib.hid hT2
        rw [hT1]
        clear hT1 hT2
        go_wp2_with fail
        go_roundw
        case rel => exact ⟨j + 1, by rw [HT2.out], by go_num, by omega, trivial⟩
        case measure => simp [intOf] <;> omega
      · obtain rfl : j = n := by omega
        have a5 := A5.out
        rw [HS6.out] at a5
        obtain ⟨T1, hT1⟩ : ∃ T, st9 (B ++ List.replicate j 32) = T := ⟨_, rfl⟩
        rw [hT1] at a5 ⊢
        clear hT1
        go_wp2_with fail
        go_ret
        exact ⟨rfl, E.out⟩
  have d2 : decide ((m : Int) + 1 ≤ (N : Int)) = true := decide_eq_true (by omega)
  clear h1 hL
  go_enter Tryd.func6, Tryd.ntmps6
  go_wp2_with fail
  have X : Hid (Bx2 (w.alloc (.cells #[.int .i64 ((m : Int) + 1), .int .i64 C] 23)) w.heap.size (.int .i64 ((m : Int) + 1)) (.int .i64 C)) := Bx2.newAt _ _ _ _ rfl
  have E : Hid (Below w.heap.size w (w.alloc (.cells #[.int .i64 ((m : Int) + 1), .int .i64 C] 23))) := (Below.refl _ _).alloc (Nat.le_refl _) _
  generalize World.alloc w _ = W0 at X E ⊢
  refine (reflines_any s _ hs1).mono ?_; rintro e w1 ⟨v, rfl, hown, hb⟩
  obtain ⟨A1, c1, hmv, hrd⟩ := hown.rd
  subst hmv
  rw [HN.out]
  replace X := Lib.hid (X.out.on hb); replace E := Lib.hid (E.out.trans (hb.mono E.out.size)); clear hb hown
  obtain ⟨p0, p1, pf0, pf1, plt⟩ := X.out
  obtain ⟨b1, rfl, m1, m2, m3, m4, m5⟩ := hrd.at_ (k := m) (by rw [HN.out]; exact h2)
  rw [HN.out] at m1
  rw [HF2.out m rfl] at m5
  clear hrd HF1 HF2
  go_wp2_with fail
  refine (HI.out _).mono ?_; rintro e w2 ⟨rfl, hb⟩
  clear p0 p1 pf0 pf1 plt m1 m2 m3 m4 m5
  replace X := Lib.hid (X.out.on hb); replace E := Lib.hid (E.out.trans (hb.mono E.out.size)); clear hb
  obtain ⟨p0, p1, pf0, pf1, plt⟩ := X.out
  go_wp2_with fail
  clear p0 p1 pf0 pf1 plt
  go_loopw [8, 47] (fun ov jv wr => ∃ j : Nat, ov = .string (st9 (B ++ List.replicate j 32)) ∧ jv = .int .i64 j ∧ j ≤ n ∧ wr = w2) (fun _ jv _ => n - (intOf jv).toNat)
  case atStart => exact ⟨0, by rw [HS3.out], rfl, Nat.zero_le _, rfl⟩
  case round =>
    obtain ⟨j, rfl, rfl, hj, rfl⟩ := hrel
    rcases Nat.lt_or_ge j n with hjn | hjn
    · have a4 := A4.out j hj
      obtain ⟨T1, hT1⟩ : ∃ T, st9 (B ++ List.replicate j 32) = T := ⟨_, rfl⟩
      obtain ⟨T2, hT2⟩ : ∃ T, st9 (B ++ List.replicate (j + 1) 32) = T := ⟨_, rfl⟩
      rw [hT1, hT2] at a4
      have HT2 := Lib.hid hT2
      rw [hT1]
      clear hT1 hT2
      go_wp2_with fail
      go_roundw
      case rel => exact ⟨j + 1, by rw [HT2.out], by go_num, by omega, trivial⟩
      case measure => simp [intOf] <;> omega
    · obtain rfl : j = n := by omega
      have a5 := A5.out
      rw [HS6.out] at a5
      obtain ⟨T1, hT1⟩ : ∃ T, st9 (B ++ List.replicate j 32) = T := ⟨_, rfl⟩
      rw [hT1] at a5 ⊢
      clear hT1
      go_wp2_with fail
      go_ret
      exact ⟨rfl, E.out⟩

end Go.Proofs.YthpoplgejenpgaaDoor
