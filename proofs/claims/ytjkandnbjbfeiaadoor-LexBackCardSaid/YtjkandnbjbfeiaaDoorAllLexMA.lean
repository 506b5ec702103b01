/- What the proofs of this layer need of the layer Lex, in one text. -/
import Derived.Test.YtjkandnbjbfeiaaDoorAllLexAA
import Derived.Test.YtjkandnbjbfeiaaDoorAllLexMathA
import Derived.Test.YtjkandnbjbfeiaaDoorAllLexEA
import Derived.Test.YtjkandnbjbfeiaaDoorAllLexHA
set_option linter.unusedVariables false
set_option linter.unusedSimpArgs false

/-
  Contracts of layer 12, the program's own lex, the first part: begins, span, behind, numberSize, Mark.
-/
namespace Go.Proofs.YtjkandnbjbfeiaaDoor
open Go.RowKit

theorem idx_zero {s : ByteArray} (h0 : 0 < s.size) : bs9 s = (s[0]'h0).toNat :: (bs9 s).drop 1 := by
  have := bs9_get s 0 h0
  rwa [List.drop_zero] at this
/-- What a contract that leaves the world tells, as one that may not. -/
theorem q12 {f : FuncId} {args : Array Value} {w : World} {v : Value} (h : Calls Tryd.prog f args w (fun e w' => e = .returned v ∧ w' = w)) : Calls Tryd.prog f args w (Ret9 w v) :=
  h.mono fun e w' ⟨h1, h2⟩ => ⟨h1, by rw [h2]; exact Below.refl _ _⟩

set_option maxHeartbeats 4000000 in
set_option maxRecDepth 100000 in
theorem begins_is {s T : ByteArray} {b : Bool} (h : begB (bs9 T) (bs9 s) = b) (w : World) : Calls Tryd.prog 19 #[.string s, .string T] w (fun e w' => e = .returned (.bool b) ∧ w' = w) := by
  have H := Lib.hid h
  clear h
  rcases Nat.eq_zero_or_pos s.size with h0 | h0
  · have d := emp_yes h0
    have E : Hid (false = b) := by show _ = _; rw [← H.out, nil_of h0]; rfl
    go_enter Tryd.func19, Tryd.ntmps19
    go_wp2_with fail
    go_ret
    exact ⟨rb9 E.out, rfl⟩
  · have d := emp_not h0
    obtain ⟨x, hx⟩ : ∃ x, x = (s[0]'h0).toNat := ⟨_, rfl⟩
    have ex : ((s[0]'h0).toNat : Int) = (x : Int) := by rw [hx]
    have hx2 : x < 256 := by rw [hx]; exact UInt8.toNat_lt _
    have HX : Hid ((bs9 T).contains x = b) := by show _ = _; rw [← H.out, idx_zero h0, begB_cons, hx]
    clear hx
    obtain ⟨z, hz, hc⟩ := idx_is T hx2 w
    have HC := Lib.hid hc
    clear hc
    rcases hz with ⟨h1, k, rfl⟩ | ⟨h1, rfl⟩
    · have E : Hid (true = b) := by show _ = _; rw [← HX.out, h1]
      clear h1
      go_enter Tryd.func19, Tryd.ntmps19
      go_wp2_with fail
      refine HC.out.mono ?_; rintro e w1 ⟨rfl, hw⟩; obtain rfl := hw.symm
      go_wp2_with fail
      go_ret
      exact ⟨rb9 E.out, rfl⟩
    · have E : Hid (false = b) := by show _ = _; rw [← HX.out, h1]
      clear h1
      go_enter Tryd.func19, Tryd.ntmps19
      go_wp2_with fail
      refine HC.out.mono ?_; rintro e w1 ⟨rfl, hw⟩; obtain rfl := hw.symm
      go_wp2_with fail
      go_ret
      exact ⟨rb9 E.out, rfl⟩

set_option maxHeartbeats 4000000 in
set_option maxRecDepth 100000 in
theorem span_any {s T : ByteArray} {n : Nat} (h : runl (bs9 T).contains (bs9 s) = n) (hs : s.size ≤ 1000000) (w : World) : Calls Tryd.prog 32 #[.string s, .string T] w (fun e w' => e = .returned (.int .i64 (n : Int)) ∧ w' = w) := by
  have H := Lib.hid h
  clear h
  go_enter Tryd.func32, Tryd.ntmps32
  go_wp2_with fail
  go_loopw [8] (fun iv wr => ∃ i : Nat, iv = .int .i64 i ∧ i ≤ s.size ∧ ((bs9 s).take i).all (bs9 T).contains = true ∧ wr = w) (fun iv _ => s.size - (intOf iv).toNat)
  case atStart => exact ⟨0, rfl, Nat.zero_le _, rfl, rfl⟩
  case round =>
    obtain ⟨i, rfl, hi, hj, rfl⟩ := hrel
    have HJ := Lib.hid hj
    clear hj
    rcases Nat.lt_or_ge i s.size with hlt | hge
    · obtain ⟨x, hx⟩ : ∃ x, x = (s[i]'hlt).toNat := ⟨_, rfl⟩
      have ex : ((s[i]'hlt).toNat : Int) = (x : Int) := by rw [hx]
      have hx2 : x < 256 := by rw [hx]; exact UInt8.toNat_lt _
      have HX : Hid ((bs9 s)[i]? = some x) := by show _ = _; rw [bs9_at s i hlt, hx]
      clear hx
      obtain ⟨z, hz, hc⟩ := idx_is T hx2 wr
      have HC := Lib.hid hc
      clear hc
      rcases hz with ⟨h1, k, rfl⟩ | ⟨h1, rfl⟩
      · have HJ2 : Hid (((bs9 s).take (i + 1)).all (bs9 T).contains = true) := all_step HX.out HJ.out h1
        clear h1
        go_wp2_with fail
        refine HC.out.mono ?_; rintro e w1 ⟨rfl, rfl⟩
        go_wp2_with fail
        go_roundw
        case rel => exact ⟨i + 1, by go_num, by omega, HJ2.out, trivial⟩
        case measure => simp [intOf] <;> omega
      · have E : Hid (n = i) := by show _ = _; rw [← H.out]; exact runl_is HJ.out (.inr ⟨x, HX.out, h1⟩) (by rw [bs9_len]; exact hi)
        clear h1
        go_wp2_with fail
        refine HC.out.mono ?_; rintro e w1 ⟨rfl, rfl⟩
        go_wp2_with fail
        go_ret
        exact ⟨by rw [E.out]; rfl, rfl⟩
    · have E : Hid (n = s.size) := by show _ = _; rw [← H.out]; exact runl_is (by rw [show s.size = i by omega]; exact HJ.out) (.inl (by rw [bs9_len]; exact Nat.le_refl _)) (by rw [bs9_len]; exact Nat.le_refl _)
      go_wp2_with fail
      go_ret
      exact ⟨by rw [E.out]; rfl, rfl⟩
theorem span_is {s T : ByteArray} {f : Nat → Bool} {n : Nat} (hT : ((List.range 256).all fun c => (bs9 T).contains c == f c) = true) (h : runl f (bs9 s) = n) (hs : s.size ≤ 1000000) (w : World) : Calls Tryd.prog 32 #[.string s, .string T] w (fun e w' => e = .returned (.int .i64 (n : Int)) ∧ w' = w) :=
  span_any (by rw [runl_set hT (bs9_lt s)]; exact h) hs w

set_option maxHeartbeats 4000000 in
set_option maxRecDepth 100000 in
theorem behind_is {s : ByteArray} {a n : Nat} (h : bhn a (bs9 s) = n) (hs : s.size ≤ 1000000) (w : World) : Calls Tryd.prog 45 #[.string s, .int .u8 (a : Int)] w (fun e w' => e = .returned (.int .i64 (n : Int)) ∧ w' = w) := by
  have H := Lib.hid h
  clear h
  rcases Nat.eq_zero_or_pos s.size with h0 | h0
  · have d := str_emp h0
    have E : Hid (n = 0) := by show _ = _; rw [← H.out, nil_of h0]; exact bhn_no (by simp)
    go_enter Tryd.func45, Tryd.ntmps45
    go_wp2_with fail
    go_ret
    exact ⟨by rw [E.out]; rfl, rfl⟩
  · have d := str_ne h0
    obtain ⟨x, hx⟩ : ∃ x, x = (s[0]'h0).toNat := ⟨_, rfl⟩
    have ex : ((s[0]'h0).toNat : Int) = (x : Int) := by rw [hx]
    have HX : Hid (bs9 s = x :: (bs9 s).drop 1) := by show _ = _; rw [hx]; exact idx_zero h0
    clear hx
    rcases Nat.decEq x a with hxa | hxa
    · have d2 : ((x : Int) != (a : Int)) = true := by rw [bne_iff_ne]; omega
      have E : Hid (n = 0) := by show _ = _; rw [← H.out]; exact bhn_no (by rw [HX.out]; exact fun e => hxa (Option.some.inj e))
      clear hxa
      go_enter Tryd.func45, Tryd.ntmps45
      go_wp2_with fail
      go_ret
      exact ⟨by rw [E.out]; rfl, rfl⟩
    · have d2 : ((x : Int) != (a : Int)) = false := by rw [hxa, bne_self_eq_false]
      obtain ⟨X, hX⟩ : ∃ X, s.extract 1 s.size = X := ⟨_, rfl⟩
      have hsl : ∀ w', (Instr.slice 9 (.string s) (some (.int .i64 1)) none none).run Tryd.prog w' = .ok (.string X) w' := sl_from (i := 1) h0 hX
      have XB : Hid (bs9 X = (bs9 s).drop 1) := by show _ = _; rw [← hX, bs9_drop]
      have hXs : X.size ≤ 1000000 := by rw [← bs9_len, XB.out, List.length_drop, bs9_len]; omega
      obtain ⟨m, hm⟩ : ∃ m, runl dgB (bs9 X) = m := ⟨_, rfl⟩
      have HM := Lib.hid hm
      have hm6 : m ≤ 1000000 := by have := runl_le dgB (bs9 X); rw [hm, bs9_len] at this; omega
      have HN : Hid (n = if m = 0 then 0 else m + 1) := by
        show _ = _
        rw [← H.out, HX.out, hxa, ← XB.out]; exact bhn_yes hm
      clear hm hX hxa
      rcases Nat.eq_zero_or_pos m with m0 | m0
      · have dm : ((m : Int) == 0) = true := by rw [beq_iff_eq]; omega
        have E : Hid (n = 0) := by show _ = _; rw [HN.out, if_pos m0]
        clear m0
        go_enter Tryd.func45, Tryd.ntmps45
        go_wp2_with fail
        refine (span_is (f := dgB) (by decide +kernel) HM.out hXs _).mono ?_; rintro e w1 ⟨rfl, hw⟩; obtain rfl := hw.symm
        go_wp2_with fail
        go_ret
        exact ⟨by rw [E.out]; rfl, rfl⟩
      · have dm : ((m : Int) == 0) = false := by rw [beq_eq_false_iff_ne]; omega
        have E : Hid (n = m + 1) := by show _ = _; rw [HN.out, if_neg (by omega)]
        clear m0
        have e1 : (1 : Int) + (m : Int) = ((m + 1 : Nat) : Int) := by omega
        obtain ⟨m1, hm1⟩ : ∃ m1, m + 1 = m1 := ⟨_, rfl⟩
        rw [hm1] at e1 E
        clear hm1
        go_enter Tryd.func45, Tryd.ntmps45
        go_wp2_with fail
        refine (span_is (f := dgB) (by decide +kernel) HM.out hXs _).mono ?_; rintro e w1 ⟨rfl, hw⟩; obtain rfl := hw.symm
        go_wp2_with fail
        go_ret
        exact ⟨by rw [E.out]; rfl, rfl⟩

set_option maxHeartbeats 4000000 in
set_option maxRecDepth 100000 in
theorem numsize_is {s : ByteArray} {n : Nat} (h : nmb (bs9 s) = n) (hs : s.size ≤ 1000000) (w : World) : Calls Tryd.prog 35 #[.string s] w (fun e w' => e = .returned (.int .i64 (n : Int)) ∧ w' = w) := by
  have H := Lib.hid h
  clear h
  obtain ⟨k0, hk0⟩ : ∃ k, runl dgB (bs9 s) = k := ⟨_, rfl⟩
  have K0 := Lib.hid hk0
  have hk0s : k0 ≤ s.size := by have := runl_le dgB (bs9 s); rw [hk0, bs9_len] at this; exact this
  have S0 : Hid (nmb1 (bs9 s) = k0 + nmb1 ((bs9 s).drop k0) ∧ ((bs9 s).drop k0).head?.any dgB = false) := ⟨by rw [← hk0]; exact nmb1_digits _, by rw [← hk0]; exact run_head _ _⟩
  clear hk0
  go_enter Tryd.func35, Tryd.ntmps35
  go_wp2_with fail
  refine (span_is (f := dgB) (by decide +kernel) K0.out hs _).mono ?_; rintro e w1 ⟨rfl, hw⟩; obtain rfl := hw.symm
  go_wp2_with fail
  go_loopw [3] (fun iv wr => ∃ i : Nat, iv = .int .i64 i ∧ i ≤ s.size ∧ (nmb1 (bs9 s) = i + nmb1 ((bs9 s).drop i) ∧ ((bs9 s).drop i).head?.any dgB = false) ∧ wr = w) (fun iv _ => s.size - (intOf iv).toNat)
  case atStart => exact ⟨k0, rfl, hk0s, S0.out, rfl⟩
  case round =>
    obtain ⟨i, rfl, hi, hj, rfl⟩ := hrel
    have HJ := Lib.hid hj
    clear hj
    obtain ⟨X, hX⟩ : ∃ X, s.extract i s.size = X := ⟨_, rfl⟩
    have hsl : ∀ w', (Instr.slice 9 (.string s) (some (.int .i64 (i : Int))) none none).run Tryd.prog w' = .ok (.string X) w' := sl_from hi hX
    have XB : Hid (bs9 X = (bs9 s).drop i) := by show _ = _; rw [← hX, bs9_drop]
    have hXs : X.size ≤ 1000000 := by rw [← bs9_len, XB.out, List.length_drop, bs9_len]; omega
    obtain ⟨m, hm⟩ : ∃ m, bhn 44 (bs9 X) = m := ⟨_, rfl⟩
    have HM := Lib.hid hm
    have him : i + m ≤ s.size := by have := bhn_le 44 (bs9 X); rw [hm, XB.out, List.length_drop, bs9_len] at this; omega
    clear hm hX
    rcases Nat.eq_zero_or_pos m with m0 | m0
    · have dm : ((m : Int) == 0) = true := by rw [beq_iff_eq]; omega
      have N1 : Hid (nmb1 (bs9 s) = i) := by
        show _ = _
        have := nmb1_end (m := (bs9 s).drop i) (by rw [← XB.out, HM.out]; exact m0) HJ.out.2
        rw [HJ.out.1, this]; rfl
      obtain ⟨r, hr⟩ : ∃ r, bhn 46 (bs9 X) = r := ⟨_, rfl⟩
      have HR := Lib.hid hr
      have hrl : i + r ≤ s.size := by have := bhn_le 46 (bs9 X); rw [hr, XB.out, List.length_drop, bs9_len] at this; omega
      have E : Hid (n = i + r) := by show _ = _; rw [← H.out]; unfold nmb; rw [N1.out, frac_bhn, ← XB.out, hr]
      clear m0 hr
      have e1 : (i : Int) + (r : Int) = (n : Int) := by have := E.out; omega
      go_wp2_with fail
      refine (behind_is HM.out hXs _).mono ?_; rintro e w1 ⟨rfl, hw⟩; obtain rfl := hw.symm
      go_wp2_with fail
      refine (behind_is HR.out hXs _).mono ?_; rintro e w1 ⟨rfl, hw⟩; obtain rfl := hw.symm
      go_wp2_with fail
      go_ret
      exact ⟨rfl, rfl⟩
    · have dm : ((m : Int) == 0) = false := by rw [beq_eq_false_iff_ne]; omega
      obtain ⟨j, hj⟩ : ∃ j, i + m = j := ⟨_, rfl⟩
      have e1 : (i : Int) + (m : Int) = (j : Int) := by omega
      rw [hj] at him
      have HJ2 : Hid (nmb1 (bs9 s) = j + nmb1 ((bs9 s).drop j) ∧ ((bs9 s).drop j).head?.any dgB = false) := by
        have hmm : bhn 44 ((bs9 s).drop i) = m := by rw [← XB.out]; exact HM.out
        obtain ⟨g1, g2⟩ := nmb1_more hmm m0
        rw [List.drop_drop, hj] at g1 g2
        refine ⟨?_, g2⟩
        rw [HJ.out.1, g1]; omega
      have MZ : Hid (i < j) := by show i < j; omega
      clear m0 hj
      go_wp2_with fail
      refine (behind_is HM.out hXs _).mono ?_; rintro e w1 ⟨rfl, hw⟩; obtain rfl := hw.symm
      go_wp2_with fail
      go_roundw
      case rel => exact ⟨j, by first | rfl | go_num, him, HJ2.out, trivial⟩
      case measure => have := MZ.out; simp [intOf] <;> omega

set_option maxHeartbeats 4000000 in
set_option maxRecDepth 100000 in
theorem lexmark_is {s : ByteArray} {n : Nat} (h : mrk (bs9 s) = n) (w : World) : Calls Tryd.prog 10 #[.string s] w (Ret9 w (.int .i64 (n : Int))) := by
  have H := Lib.hid h
  clear h
  cases hb : begB ones (bs9 s) with
  | false =>
    have HB := Lib.hid hb
    have E : Hid (n = 0) := by show _ = _; rw [← H.out]; exact mrk_zero hb
    clear hb
    go_enter Tryd.func10, Tryd.ntmps10
    go_wp2_with fail
    refine (begins_is (T := ⟨#[123, 125, 64, 42, 33, 43, 45, 47, 40, 41, 44, 126]⟩) HB.out _).mono ?_; rintro e w1 ⟨rfl, hw⟩; obtain rfl := hw.symm
    go_wp2_with fail
    go_ret
    exact ⟨by rw [E.out]; rfl, by first | exact Below.refl _ _ | exact below_drewN _ _⟩
  | true =>
    have HB := Lib.hid hb
    have h0 : 0 < s.size := by
      rcases Nat.eq_zero_or_pos s.size with h0 | h0
      · rw [nil_of h0] at hb; cases hb
      · exact h0
    obtain ⟨x, hx⟩ : ∃ x, x = (s[0]'h0).toNat := ⟨_, rfl⟩
    have ex : ((s[0]'h0).toNat : Int) = (x : Int) := by rw [hx]
    have HX : Hid (bs9 s = x :: (bs9 s).drop 1) := by show _ = _; rw [hx]; exact idx_zero h0
    have HO : Hid (ones.contains x = true) := by show _ = _; rw [HX.out, begB_cons] at hb; exact hb
    clear hx hb
    cases hd : [123, 125, 64].contains x with
    | false =>
      have HD : Hid (begB [123, 125, 64] (bs9 s) = false) := by show _ = _; rw [HX.out, begB_cons]; exact hd
      have E : Hid (n = 1) := by show _ = _; rw [← H.out, HX.out]; exact mrk_single HO.out (.inl hd)
      clear hd
      go_enter Tryd.func10, Tryd.ntmps10
      go_wp2_with fail
      refine (begins_is (T := ⟨#[123, 125, 64, 42, 33, 43, 45, 47, 40, 41, 44, 126]⟩) HB.out _).mono ?_; rintro e w1 ⟨rfl, hw⟩; obtain rfl := hw.symm
      go_wp2_with fail
      go_quiet ((go_at_call 19; exact Calls.quiet_of_same (begins_is (T := ⟨#[123, 125, 64]⟩) HD.out _)))
      go_wp2_with fail
      go_ret
      exact ⟨by rw [E.out]; rfl, by first | exact Below.refl _ _ | exact below_drewN _ _⟩
    | true =>
      have HD : Hid (begB [123, 125, 64] (bs9 s) = true) := by show _ = _; rw [HX.out, begB_cons]; exact hd
      have HDD := Lib.hid hd
      clear hd
      rcases Nat.lt_or_ge 1 s.size with h1 | h1
      · have dz : decide ((1 : Int) < (s.size : Int)) = true := decide_eq_true (by omega)
        obtain ⟨y, hy⟩ : ∃ y, y = (s[1]'h1).toNat := ⟨_, rfl⟩
        have ey : ((s[1]'h1).toNat : Int) = (y : Int) := by rw [hy]
        have HY : Hid (bs9 s = x :: y :: (bs9 s).drop 2) := by
          show _ = _
          have := bs9_get s 1 h1
          rw [← hy] at this
          rw [← this]; exact HX.out
        clear hy
        by_cases hxy : y = x
        · have de : ((y : Int) == (x : Int)) = true := by rw [hxy]; exact beq_self_eq_true _
          have E : Hid (n = 2) := by show _ = _; rw [← H.out, HY.out, hxy]; exact mrk_same HDD.out
          clear hxy
          go_enter Tryd.func10, Tryd.ntmps10
          go_wp2_with fail
          refine (begins_is (T := ⟨#[123, 125, 64, 42, 33, 43, 45, 47, 40, 41, 44, 126]⟩) HB.out _).mono ?_; rintro e w1 ⟨rfl, hw⟩; obtain rfl := hw.symm
          go_wp2_with fail
          go_quiet ((go_at_call 19; exact Calls.quiet_of_same (begins_is (T := ⟨#[123, 125, 64]⟩) HD.out _)))
          go_wp2_with fail
          go_ret
          exact ⟨by rw [E.out]; rfl, by first | exact Below.refl _ _ | exact below_drewN _ _⟩
        · have de : ((y : Int) == (x : Int)) = false := by rw [beq_eq_false_iff_ne]; omega
          have E : Hid (n = 1) := by show _ = _; rw [← H.out, HY.out]; exact mrk_single HO.out (.inr fun e => hxy (Option.some.inj e))
          clear hxy
          go_enter Tryd.func10, Tryd.ntmps10
          go_wp2_with fail
          refine (begins_is (T := ⟨#[123, 125, 64, 42, 33, 43, 45, 47, 40, 41, 44, 126]⟩) HB.out _).mono ?_; rintro e w1 ⟨rfl, hw⟩; obtain rfl := hw.symm
          go_wp2_with fail
          go_quiet ((go_at_call 19; exact Calls.quiet_of_same (begins_is (T := ⟨#[123, 125, 64]⟩) HD.out _)))
          go_wp2_with fail
          go_ret
          exact ⟨by rw [E.out]; rfl, by first | exact Below.refl _ _ | exact below_drewN _ _⟩
      · have dz : decide ((1 : Int) < (s.size : Int)) = false := decide_eq_false (by omega)
        have E : Hid (n = 1) := by
          show _ = _
          rw [← H.out, HX.out]
          refine mrk_single HO.out (.inr ?_)
          rw [List.drop_of_length_le (by rw [bs9_len]; exact h1)]
          exact fun e => by cases e
        go_enter Tryd.func10, Tryd.ntmps10
        go_wp2_with fail
        refine (begins_is (T := ⟨#[123, 125, 64, 42, 33, 43, 45, 47, 40, 41, 44, 126]⟩) HB.out _).mono ?_; rintro e w1 ⟨rfl, hw⟩; obtain rfl := hw.symm
        go_wp2_with fail
        go_quiet ((go_at_call 19; exact Calls.quiet_of_same (begins_is (T := ⟨#[123, 125, 64]⟩) HD.out _)))
        go_wp2_with fail
        go_ret
        exact ⟨by rw [E.out]; rfl, by first | exact Below.refl _ _ | exact below_drewN _ _⟩

end Go.Proofs.YtjkandnbjbfeiaaDoor

/-
  Contracts of layer 12, the program's own lex, the second part: made, text, marked, isDay, counted, named, plain, Next.
-/
namespace Go.Proofs.YtjkandnbjbfeiaaDoor
open Go.RowKit

/-- What Next answers: the kind, the text, how many bytes, the error. -/
def nvq : Nat ⊕ (Nat × List Nat × Nat) → Nat × ByteArray × Nat × Nat
  | .inl e => (0, ⟨#[]⟩, 0, e)
  | .inr (k, x, n) => (k, st9 x, n, 0)
/-- What made answers. -/
def mdv (k : Nat) (Y : ByteArray) (n : Nat) (g : Bool) : Nat × ByteArray × Nat × Nat := if g = true then (k, Y, n, 0) else (0, ⟨#[]⟩, 0, 3)
theorem nvq_tkn {k n : Nat} {Y : ByteArray} {x : List Nat} {g : Bool} (h : bs9 Y = x) : nvq (tkn k x n g) = mdv k Y n g := by
  subst h
  cases g with
  | true => show (k, st9 (bs9 Y), n, 0) = (k, Y, n, 0); rw [st9_bs9]
  | false => rfl
/-- A word as Next answers it. -/
def tk4 (q : Nat × ByteArray × Nat × Nat) : Value := .tuple #[.agg #[.int .i64 (q.1 : Int), .string q.2.1, .int .i64 0, .int .i64 0], .int .i64 (q.2.2.1 : Int), .int .i64 (q.2.2.2 : Int)]
/-- Contracts tell the value by its parts. -/
def Q4 (w : World) (k : Nat) (Y : ByteArray) (n e0 : Nat) : Ending → World → Prop := Ret9 w (.tuple #[.agg #[.int .i64 (k : Int), .string Y, .int .i64 0, .int .i64 0], .int .i64 (n : Int), .int .i64 (e0 : Int)])
/-- What is asked of the program's own elder layers: D tells which texts are days, N which are numbers. -/
def O08 (D : List Nat → Bool) (ok : World → Prop) : Prop := ∀ (s : ByteArray) (w : World), ok w → s.size ≤ 300 → Calls Tryd.prog 44 #[.string s] w (fun e w' => ∃ (y m d : Int) (z : Nat), e = .returned (.tuple #[.agg #[.int .i64 y, .int .i64 m, .int .i64 d], .int .i64 (z : Int)]) ∧ D (bs9 s) = decide (z = 0) ∧ Below w.heap.size w w')
def O07 (N : List Nat → Bool) (ok : World → Prop) : Prop := ∀ (s : ByteArray) (w : World), ok w → s.size ≤ 1000 → Calls Tryd.prog 36 #[.string s] w (fun e w' => ∃ (b : Bool) (A : Option Addr) (n c : Nat) (k : Int) (z : Nat), e = .returned (.tuple #[.agg #[.bool b, .slice A n c, .int .i64 k], .int .i64 (z : Int)]) ∧ N (bs9 s) = decide (z = 0) ∧ Below w.heap.size w w')
def O11 (ok : World → Prop) : Prop := ∀ (s : ByteArray) (w : World), ok w → s.size ≤ 1000 → Calls Tryd.prog 37 #[.string s] w (Ret9 w (.bool (accB (bs9 s))))
theorem dgz (z : Nat) : ((z : Int) == 0) = decide (z = 0) := by
  rw [Bool.eq_iff_iff, beq_iff_eq, decide_eq_true_iff]; omega

/-- HasPrefix of one byte. -/
theorem first_is {s p : ByteArray} {c : Nat} {b : Bool} (hp : bs9 p = [c]) (h : ((bs9 s).head? == some c) = b) (w : World) : Calls Tryd.prog 21 #[.string s, .string p] w (fun e w' => e = .returned (.bool b) ∧ w' = w) := by
  refine prefix_is ?_
  rw [hp, ← h, beq_iff_eq]
  constructor
  · rintro ⟨u, hu⟩; rw [hu]; rfl
  · intro hh
    cases hd : bs9 s with
    | nil => rw [hd] at hh; cases hh
    | cons d t => rw [hd] at hh; obtain rfl : d = c := Option.some.inj hh; exact ⟨t, rfl⟩

set_option maxHeartbeats 4000000 in
set_option maxRecDepth 100000 in
theorem made_is {k n k' n' e' : Nat} {Y Y' : ByteArray} {g : Bool} (h : mdv k Y n g = (k', Y', n', e')) (w : World) : Calls Tryd.prog 27 #[.int .i64 (k : Int), .string Y, .int .i64 (n : Int), .bool g] w (Q4 w k' Y' n' e') := by
  cases g with
  | true =>
    cases h
    go_enter Tryd.func27, Tryd.ntmps27
    go_wp2_with fail
    exact bodyPost_ret (v := .tuple #[.agg #[.int .i64 (k : Int), .string Y, .int .i64 0, .int .i64 0], .int .i64 (n : Int), .int .i64 0]) (by simp [results, Tryd.results27, go_sem]) rfl ⟨rfl, by first | exact (Below.refl _ _).alloc (Nat.le_refl _) _ | skip⟩
  | false =>
    cases h
    go_enter Tryd.func27, Tryd.ntmps27
    go_wp2_with fail
    exact bodyPost_ret (v := .tuple #[.agg #[.int .i64 0, .string ⟨#[]⟩, .int .i64 0, .int .i64 0], .int .i64 0, .int .i64 3]) (by simp [results, Tryd.results27, go_sem]) rfl ⟨rfl, by first | exact (Below.refl _ _).alloc (Nat.le_refl _) _ | skip⟩

/-- What text answers of what Unquote does. -/
def txq (X : ByteArray) (n e : Nat) : Nat × ByteArray × Nat × Nat := if e = 0 then (5, X, n, 0) else (0, ⟨#[]⟩, 0, e)
set_option maxHeartbeats 4000000 in
set_option maxRecDepth 100000 in
theorem lextext_is {s X Y : ByteArray} {n' e' k n e0 : Nat} {w : World} (hu : ∀ w', Below w.heap.size w w' → Calls Tryd.prog 9 #[.string s] w' (Ret9 w' (.tuple #[.string X, .int .i64 (n' : Int), .int .i64 (e' : Int)]))) (h : txq X n' e' = (k, Y, n, e0)) : Calls Tryd.prog 22 #[.string s] w (Q4 w k Y n e0) := by
  have HU := Lib.hid hu
  clear hu
  rcases Nat.eq_zero_or_pos e' with z0 | z0
  · have dz : ((e' : Int) != 0) = false := by rw [z0]; rfl
    have h2 : (5, X, n', 0) = (k, Y, n, e0) := by rw [← h]; unfold txq; rw [if_pos z0]
    have M : Hid (mdv 5 X n' true = (k, Y, n, e0)) := h2
    clear h z0 h2
    go_enter Tryd.func22, Tryd.ntmps22
    have RB : Hid (Rz w (w.alloc (.cells #[.int .i64 0, .string ⟨#[]⟩, .int .i64 0, .int .i64 0] 35))) := Rbx.new _ _ _ _ _ _
    go_wp2_with fail
    refine (HU.out _ RB.out.1).mono ?_; rintro e w1 ⟨rfl, hb⟩
    replace RB := Lib.hid (RB.out.on hb); clear hb
    go_wp2_with fail
    refine (made_is M.out _).mono ?_; rintro e w2 ⟨rfl, hb⟩
    replace RB := Lib.hid (RB.out.on hb); clear hb
    obtain ⟨p0, p1, p2, p3, pf0, pf1, pf2, pf3, plt⟩ := RB.out.2
    go_wp2_with fail
    have Z := ((((RB.out.2).set0 (.int .i64 (k : Int))).set1 (.string Y)).set2 (.int .i64 0)).set3 (.int .i64 0)
    obtain ⟨e0', e1', e2', e3', _, _, _, _, _⟩ := Z
    exact bodyPost_ret (v := .tuple #[.agg #[.int .i64 (k : Int), .string Y, .int .i64 0, .int .i64 0], .int .i64 (n : Int), .int .i64 (e0 : Int)]) (by simp [results, Tryd.results22, go_sem, e0', e1', e2', e3']) rfl ⟨rfl, (((RB.out.1.setCell (p := ⟨w.heap.size, 0, none⟩) (Nat.le_refl _) _).setCell (p := ⟨w.heap.size, 1, none⟩) (Nat.le_refl _) _).setCell (p := ⟨w.heap.size, 2, none⟩) (Nat.le_refl _) _).setCell (p := ⟨w.heap.size, 3, none⟩) (Nat.le_refl _) _⟩
  · have dz : ((e' : Int) != 0) = true := by rw [bne_iff_ne]; omega
    have h2 : (0, ⟨#[]⟩, 0, e') = (k, Y, n, e0) := by rw [← h]; unfold txq; rw [if_neg (by omega)]
    cases h2
    clear h z0
    go_enter Tryd.func22, Tryd.ntmps22
    have RB : Hid (Rz w (w.alloc (.cells #[.int .i64 0, .string ⟨#[]⟩, .int .i64 0, .int .i64 0] 35))) := Rbx.new _ _ _ _ _ _
    go_wp2_with fail
    refine (HU.out _ RB.out.1).mono ?_; rintro e w1 ⟨rfl, hb⟩
    replace RB := Lib.hid (RB.out.on hb); clear hb
    obtain ⟨p0, p1, p2, p3, pf0, pf1, pf2, pf3, plt⟩ := RB.out.2
    go_wp2_with fail
    have Z := ((((RB.out.2).set0 (.int .i64 0)).set1 (.string ⟨#[]⟩)).set2 (.int .i64 0)).set3 (.int .i64 0)
    obtain ⟨e0', e1', e2', e3', _, _, _, _, _⟩ := Z
    exact bodyPost_ret (v := .tuple #[.agg #[.int .i64 0, .string ⟨#[]⟩, .int .i64 0, .int .i64 0], .int .i64 0, .int .i64 (e' : Int)]) (by simp [results, Tryd.results22, go_sem, e0', e1', e2', e3']) rfl ⟨rfl, (((RB.out.1.setCell (p := ⟨w.heap.size, 0, none⟩) (Nat.le_refl _) _).setCell (p := ⟨w.heap.size, 1, none⟩) (Nat.le_refl _) _).setCell (p := ⟨w.heap.size, 2, none⟩) (Nat.le_refl _) _).setCell (p := ⟨w.heap.size, 3, none⟩) (Nat.le_refl _) _⟩

set_option maxHeartbeats 4000000 in
set_option maxRecDepth 100000 in
theorem marked_is {s : ByteArray} {c kd k n e0 : Nat} {Y : ByteArray} (h0 : 0 < s.size) (hk : (if c = 94 then 7 else 6) = kd) (h : nvq (tag12 c ((bs9 s).drop 1)) = (k, Y, n, e0)) (hs : s.size ≤ 1000) (w : World) : Calls Tryd.prog 23 #[.string s, .int .i64 (kd : Int)] w (Q4 w k Y n e0) := by
  obtain ⟨X, hX⟩ : ∃ X, s.extract 1 s.size = X := ⟨_, rfl⟩
  have hsl : ∀ w', (Instr.slice 9 (.string s) (some (.int .i64 1)) none none).run Tryd.prog w' = .ok (.string X) w' := sl_from (i := 1) h0 hX
  have XB : Hid (bs9 X = (bs9 s).drop 1) := by show _ = _; rw [← hX, bs9_drop]
  have hXs : X.size ≤ 1000000 := by rw [← bs9_len, XB.out, List.length_drop, bs9_len]; omega
  obtain ⟨m, hm⟩ : ∃ m, runl (runB mT) (bs9 X) = m := ⟨_, rfl⟩
  have HM := Lib.hid hm
  have hm2 : m + 1 ≤ s.size := by have := runl_le (runB mT) (bs9 X); rw [hm, XB.out, List.length_drop, bs9_len] at this; omega
  obtain ⟨m1, hm1⟩ : ∃ m1, m + 1 = m1 := ⟨_, rfl⟩
  rw [hm1] at hm2
  have e1 : (1 : Int) + (m : Int) = (m1 : Int) := by omega
  obtain ⟨T, hT⟩ : ∃ T, s.extract 1 m1 = T := ⟨_, rfl⟩
  have hsl2 : ∀ w', (Instr.slice 9 (.string s) (some (.int .i64 1)) (some (.int .i64 (m1 : Int))) none).run Tryd.prog w' = .ok (.string T) w' := sl_both (i := 1) (by omega) hm2 hT
  have TB : bs9 T = (bs9 X).take m := by
    rw [← hT, ← hm1, XB.out, bs9_extract, Nat.add_sub_cancel]
  have hTs : T.size ≤ 1000000 := by rw [← bs9_len, TB, List.length_take, bs9_len]; omega
  have TBH := Lib.hid TB
  have M : Hid (mdv kd T m1 (tagB (bs9 T)) = (k, Y, n, e0)) := by
    show _ = _
    rw [← h]
    unfold tag12
    rw [← XB.out, hm, hk, hm1, TB, nvq_tkn TB]
  clear hX hm hm1 hT TB h
  go_enter Tryd.func23, Tryd.ntmps23
  have RB : Hid (Rz w (w.alloc (.cells #[.int .i64 0, .string ⟨#[]⟩, .int .i64 0, .int .i64 0] 35))) := Rbx.new _ _ _ _ _ _
  go_wp2_with fail
  refine (span_is (f := runB mT) (by decide +kernel) HM.out hXs _).mono ?_; rintro e w1 ⟨rfl, hw⟩; obtain rfl := hw.symm
  go_wp2_with fail
  refine (tag_is rfl hTs _).mono ?_; rintro e w1 ⟨rfl, hw⟩; obtain rfl := hw.symm
  go_wp2_with fail
  refine (made_is M.out _).mono ?_; rintro e w2 ⟨rfl, hb⟩
  replace RB := Lib.hid (RB.out.on hb); clear hb
  obtain ⟨p0, p1, p2, p3, pf0, pf1, pf2, pf3, plt⟩ := RB.out.2
  go_wp2_with fail
  have Z := ((((RB.out.2).set0 (.int .i64 (k : Int))).set1 (.string Y)).set2 (.int .i64 0)).set3 (.int .i64 0)
  obtain ⟨e0', e1', e2', e3', _, _, _, _, _⟩ := Z
  exact bodyPost_ret (v := .tuple #[.agg #[.int .i64 (k : Int), .string Y, .int .i64 0, .int .i64 0], .int .i64 (n : Int), .int .i64 (e0 : Int)]) (by simp [results, Tryd.results23, go_sem, e0', e1', e2', e3']) rfl ⟨rfl, (((RB.out.1.setCell (p := ⟨w.heap.size, 0, none⟩) (Nat.le_refl _) _).setCell (p := ⟨w.heap.size, 1, none⟩) (Nat.le_refl _) _).setCell (p := ⟨w.heap.size, 2, none⟩) (Nat.le_refl _) _).setCell (p := ⟨w.heap.size, 3, none⟩) (Nat.le_refl _) _⟩

/-- Is it a day behind which no digit follows? -/
def dayB (D : List Nat → Bool) (l : List Nat) : Bool := decide (10 ≤ l.length) && (D (l.take 10) && !((l[10]?).any dgB))
theorem num12_day {D N : List Nat → Bool} {l : List Nat} : num12 D N l = if dayB D l = true then .inr (1, l.take 10, 10) else tkn 4 (l.take (nmb l)) (nmb l) (N (l.take (nmb l))) := by
  unfold num12 dayB
  by_cases h : 10 ≤ l.length ∧ D (l.take 10) = true ∧ ((l[10]?).any dgB) = false
  · rw [if_pos h, if_pos (by rw [decide_eq_true h.1, h.2.1, h.2.2]; rfl)]
  · rw [if_neg h, if_neg]
    intro e
    rw [Bool.and_eq_true, Bool.and_eq_true, decide_eq_true_iff, Bool.not_eq_true'] at e
    exact h e
set_option maxHeartbeats 4000000 in
set_option maxRecDepth 100000 in
theorem isday_is {D : List Nat → Bool} {ok : World → Prop} (h8 : O08 D ok) {s : ByteArray} {b : Bool} (h : dayB D (bs9 s) = b) (hs : s.size ≤ 1000) (w : World) (hok : ok w) : Calls Tryd.prog 34 #[.string s] w (Ret9 w (.bool b)) := by
  have H := Lib.hid h
  have H8 := Lib.hid h8
  have OK := Lib.hid hok
  clear h h8 hok
  rcases Nat.lt_or_ge s.size 10 with h10 | h10
  · have d10 : decide ((s.size : Int) < 10) = true := decide_eq_true (by omega)
    have E : Hid (false = b) := by show _ = _; rw [← H.out]; unfold dayB; rw [bs9_len, decide_eq_false (by omega)]; rfl
    go_enter Tryd.func34, Tryd.ntmps34
    go_wp2_with fail
    go_ret
    exact ⟨rb9 E.out, Below.refl _ _⟩
  · have d10 : decide ((s.size : Int) < 10) = false := decide_eq_false (by omega)
    obtain ⟨X, hX⟩ : ∃ X, s.extract 0 10 = X := ⟨_, rfl⟩
    have hslX : ∀ w', (Instr.slice 9 (.string s) none (some (.int .i64 10)) none).run Tryd.prog w' = .ok (.string X) w' := sl_to (i := 10) h10 hX
    have HXB : Hid (bs9 X = (bs9 s).take 10) := by show _ = _; rw [← hX, bs9_take]
    have hXs : X.size ≤ 300 := by rw [← bs9_len, HXB.out, List.length_take]; omega
    obtain ⟨R, hR⟩ : ∃ R, s.extract 10 s.size = R := ⟨_, rfl⟩
    have hslR : ∀ w', (Instr.slice 9 (.string s) (some (.int .i64 10)) none none).run Tryd.prog w' = .ok (.string R) w' := sl_from (i := 10) h10 hR
    have HRB : Hid (bs9 R = (bs9 s).drop 10) := by show _ = _; rw [← hR, bs9_drop]
    have GD : Hid (begB [48, 49, 50, 51, 52, 53, 54, 55, 56, 57] (bs9 R) = ((bs9 s)[10]?).any dgB) := by
      show _ = _
      rw [HRB.out]
      unfold begB
      rw [← List.head?_drop]
      cases hd : ((bs9 s).drop 10).head? with
      | none => rfl
      | some c =>
        have hc : c < 256 := bs9_lt s c (List.mem_of_mem_drop (List.mem_of_head? hd))
        have hT : ((List.range 256).all fun c => [48, 49, 50, 51, 52, 53, 54, 55, 56, 57].contains c == dgB c) = true := by decide +kernel
        rw [List.all_eq_true] at hT
        exact beq_iff_eq.1 (hT c (List.mem_range.2 hc))
    have HB : Hid (b = (D (bs9 X) && !(((bs9 s)[10]?).any dgB))) := by
      show _ = _
      rw [← H.out]; unfold dayB
      rw [bs9_len, decide_eq_true h10, Bool.true_and, HXB.out]
    clear hX hR
    go_enter Tryd.func34, Tryd.ntmps34
    go_wp2_with fail
    refine (H8.out X _ OK.out hXs).mono ?_; rintro e w1 ⟨y, m, d, z, rfl, hz, hb⟩
    have BB := Lib.hid hb
    have HZ := Lib.hid hz
    clear hz hb
    have hzz := dgz z
    rcases Nat.eq_zero_or_pos z with z0 | z0
    · have dz : ((z : Int) == 0) = true := by rw [z0]; rfl
      have E : Hid ((!(((bs9 s)[10]?).any dgB)) = b) := by show _ = _; rw [HB.out, HZ.out, decide_eq_true z0, Bool.true_and]
      clear hzz z0
      go_wp2_with fail
      refine (begins_is (T := ⟨#[48, 49, 50, 51, 52, 53, 54, 55, 56, 57]⟩) GD.out _).mono ?_; rintro e w1 ⟨rfl, hw⟩; obtain rfl := hw.symm
      go_wp2_with fail
      go_ret
      exact ⟨rb9 E.out, by first | exact BB.out.alloc BB.out.size _ | skip⟩
    · have dz : ((z : Int) == 0) = false := by rw [beq_eq_false_iff_ne]; omega
      have E : Hid (false = b) := by show _ = _; rw [HB.out, HZ.out, decide_eq_false (by omega), Bool.false_and]
      clear hzz z0
      go_wp2_with fail
      go_ret
      exact ⟨rb9 E.out, by first | exact BB.out.alloc BB.out.size _ | skip⟩

set_option maxHeartbeats 4000000 in
set_option maxRecDepth 100000 in
theorem counted_is {D N : List Nat → Bool} {ok : World → Prop} (hk : Okw ok) (h8 : O08 D ok) (h7 : O07 N ok) {s : ByteArray} {k n e0 : Nat} {Y : ByteArray} (h : nvq (num12 D N (bs9 s)) = (k, Y, n, e0)) (hs : s.size ≤ 1000) (w : World) (hok : ok w) : Calls Tryd.prog 24 #[.string s] w (Q4 w k Y n e0) := by
  have H8 := Lib.hid h8
  have H7 := Lib.hid h7
  have OK : Hid (∀ {W : World}, Below w.heap.size w W → ok W) := fun hb => hk hok hb
  clear h8 h7 hk hok
  have hs6 : s.size ≤ 1000000 := by omega
  rw [num12_day] at h
  cases hd : dayB D (bs9 s) with
  | true =>
    have h10 : 10 ≤ s.size := by
      unfold dayB at hd
      rw [Bool.and_eq_true, decide_eq_true_iff, bs9_len] at hd
      exact hd.1
    obtain ⟨X, hX⟩ : ∃ X, s.extract 0 10 = X := ⟨_, rfl⟩
    have hslX : ∀ w', (Instr.slice 9 (.string s) none (some (.int .i64 10)) none).run Tryd.prog w' = .ok (.string X) w' := sl_to (i := 10) h10 hX
    have M : Hid (mdv 1 X 10 true = (k, Y, n, e0)) := by
      show _ = _
      rw [← h, hd, if_pos rfl]
      show (1, X, 10, 0) = (1, st9 ((bs9 s).take 10), 10, 0)
      rw [st9_take hX]
    have HD := Lib.hid hd
    clear h hd hX
    go_enter Tryd.func24, Tryd.ntmps24
    have RB : Hid (Rz w (w.alloc (.cells #[.int .i64 0, .string ⟨#[]⟩, .int .i64 0, .int .i64 0] 35))) := Rbx.new _ _ _ _ _ _
    go_wp2_with fail
    refine (isday_is H8.out HD.out hs _ (OK.out RB.out.1)).mono ?_; rintro e w1 ⟨rfl, hb⟩
    replace RB := Lib.hid (RB.out.on hb); clear hb
    go_wp2_with fail
    refine (made_is (k := 1) (n := 10) M.out _).mono ?_; rintro e w2 ⟨rfl, hb⟩
    replace RB := Lib.hid (RB.out.on hb); clear hb
    obtain ⟨p0, p1, p2, p3, pf0, pf1, pf2, pf3, plt⟩ := RB.out.2
    go_wp2_with fail
    have Z := ((((RB.out.2).set0 (.int .i64 (k : Int))).set1 (.string Y)).set2 (.int .i64 0)).set3 (.int .i64 0)
    obtain ⟨e0', e1', e2', e3', _, _, _, _, _⟩ := Z
    exact bodyPost_ret (v := .tuple #[.agg #[.int .i64 (k : Int), .string Y, .int .i64 0, .int .i64 0], .int .i64 (n : Int), .int .i64 (e0 : Int)]) (by simp [results, Tryd.results24, go_sem, e0', e1', e2', e3']) rfl ⟨rfl, (((RB.out.1.setCell (p := ⟨w.heap.size, 0, none⟩) (Nat.le_refl _) _).setCell (p := ⟨w.heap.size, 1, none⟩) (Nat.le_refl _) _).setCell (p := ⟨w.heap.size, 2, none⟩) (Nat.le_refl _) _).setCell (p := ⟨w.heap.size, 3, none⟩) (Nat.le_refl _) _⟩
  | false =>
    obtain ⟨m, hm⟩ : ∃ m, nmb (bs9 s) = m := ⟨_, rfl⟩
    have HM := Lib.hid hm
    have hms : m ≤ s.size := by have := nmb_le (bs9 s); rw [hm, bs9_len] at this; exact this
    obtain ⟨X, hX⟩ : ∃ X, s.extract 0 m = X := ⟨_, rfl⟩
    have hslX : ∀ w', (Instr.slice 9 (.string s) none (some (.int .i64 (m : Int))) none).run Tryd.prog w' = .ok (.string X) w' := sl_to hms hX
    have XB : bs9 X = (bs9 s).take m := by rw [← hX, bs9_take]
    have hXm : X.size = m := by rw [← bs9_len, XB, List.length_take, bs9_len]; omega
    have hXs : X.size ≤ 1000 := by omega
    have hXm2 : (X.size : Int) = (m : Int) := by omega
    have M : Hid (mdv 4 X X.size (N (bs9 X)) = (k, Y, n, e0)) := by
      show _ = _
      rw [← h, hd, if_neg (by decide), hm, hXm, XB, nvq_tkn XB]
    have HD := Lib.hid hd
    clear h hd hX hm XB hXm hXm2
    go_enter Tryd.func24, Tryd.ntmps24
    have RB : Hid (Rz w (w.alloc (.cells #[.int .i64 0, .string ⟨#[]⟩, .int .i64 0, .int .i64 0] 35))) := Rbx.new _ _ _ _ _ _
    go_wp2_with fail
    refine (isday_is H8.out HD.out hs _ (OK.out RB.out.1)).mono ?_; rintro e w1 ⟨rfl, hb⟩
    replace RB := Lib.hid (RB.out.on hb); clear hb
    go_wp2_with fail
    refine (numsize_is HM.out hs6 _).mono ?_; rintro e w1 ⟨rfl, hw⟩; obtain rfl := hw.symm
    go_wp2_with fail
    refine (H7.out X _ (OK.out RB.out.1) hXs).mono ?_; rintro e w3 ⟨b, A, nn, c, kk, z, rfl, hz, hb⟩
    replace RB := Lib.hid (RB.out.on hb); clear hb
    rw [hz] at M
    have dz := dgz z
    clear hz
    go_wp2_with fail
    first | rw [dz] | skip
    refine (made_is M.out _).mono ?_; rintro e w4 ⟨rfl, hb⟩
    replace RB := Lib.hid ((Rbx.lay RB.out _).on hb)
    clear hb
    obtain ⟨p0, p1, p2, p3, pf0, pf1, pf2, pf3, plt⟩ := RB.out.2
    go_wp2_with fail
    have Z := ((((RB.out.2).set0 (.int .i64 (k : Int))).set1 (.string Y)).set2 (.int .i64 0)).set3 (.int .i64 0)
    obtain ⟨e0', e1', e2', e3', _, _, _, _, _⟩ := Z
    exact bodyPost_ret (v := .tuple #[.agg #[.int .i64 (k : Int), .string Y, .int .i64 0, .int .i64 0], .int .i64 (n : Int), .int .i64 (e0 : Int)]) (by simp [results, Tryd.results24, go_sem, e0', e1', e2', e3']) rfl ⟨rfl, (((RB.out.1.setCell (p := ⟨w.heap.size, 0, none⟩) (Nat.le_refl _) _).setCell (p := ⟨w.heap.size, 1, none⟩) (Nat.le_refl _) _).setCell (p := ⟨w.heap.size, 2, none⟩) (Nat.le_refl _) _).setCell (p := ⟨w.heap.size, 3, none⟩) (Nat.le_refl _) _⟩

set_option maxHeartbeats 4000000 in
set_option maxRecDepth 100000 in
theorem named_is {ok : World → Prop} (hk : Okw ok) (h11 : O11 ok) {s : ByteArray} {k n e0 : Nat} {Y : ByteArray} (h : nvq (acc12 (bs9 s)) = (k, Y, n, e0)) (hs : s.size ≤ 1000) (w : World) (hok : ok w) : Calls Tryd.prog 25 #[.string s] w (Q4 w k Y n e0) := by
  have H11 := Lib.hid h11
  have OK : Hid (∀ {W : World}, Below w.heap.size w W → ok W) := fun hb => hk hok hb
  clear h11 hk hok
  obtain ⟨m, hm⟩ : ∃ m, runl (runB mA) (bs9 s) = m := ⟨_, rfl⟩
  have HM := Lib.hid hm
  have hms : m ≤ s.size := by have := runl_le (runB mA) (bs9 s); rw [hm, bs9_len] at this; exact this
  obtain ⟨X, hX⟩ : ∃ X, s.extract 0 m = X := ⟨_, rfl⟩
  have hslX : ∀ w', (Instr.slice 9 (.string s) none (some (.int .i64 (m : Int))) none).run Tryd.prog w' = .ok (.string X) w' := sl_to hms hX
  have XB : bs9 X = (bs9 s).take m := by rw [← hX, bs9_take]
  have hXm : X.size = m := by rw [← bs9_len, XB, List.length_take, bs9_len]; omega
  have hXs : X.size ≤ 1000 := by omega
  have hXs6 : X.size ≤ 1000000 := by omega
  have hs6 : s.size ≤ 1000000 := by omega
  unfold acc12 at h
  rw [hm, ← XB] at h
  cases ha : accB (bs9 X) with
  | true =>
    have M : Hid (mdv 2 X X.size true = (k, Y, n, e0)) := by
      show _ = _
      rw [← h, if_pos ha, hXm]
      show (2, X, m, 0) = (2, st9 (bs9 X), m, 0)
      rw [st9_bs9]
    have HA := Lib.hid ha
    clear h ha hX hm XB hXm
    go_enter Tryd.func25, Tryd.ntmps25
    have RB : Hid (Rz w (w.alloc (.cells #[.int .i64 0, .string ⟨#[]⟩, .int .i64 0, .int .i64 0] 35))) := Rbx.new _ _ _ _ _ _
    go_wp2_with fail
    refine (span_is (f := runB mA) (by decide +kernel) HM.out hs6 _).mono ?_; rintro e w1 ⟨rfl, hw⟩; obtain rfl := hw.symm
    go_wp2_with fail
    refine (H11.out X _ (OK.out RB.out.1) hXs).mono ?_; rintro e w2 ⟨rfl, hb⟩
    rw [HA.out]
    replace RB := Lib.hid (RB.out.on hb); clear hb
    go_wp2_with fail
    refine (made_is (k := 2) M.out _).mono ?_; rintro e w3 ⟨rfl, hb⟩
    replace RB := Lib.hid (RB.out.on hb); clear hb
    obtain ⟨p0, p1, p2, p3, pf0, pf1, pf2, pf3, plt⟩ := RB.out.2
    go_wp2_with fail
    have Z := ((((RB.out.2).set0 (.int .i64 (k : Int))).set1 (.string Y)).set2 (.int .i64 0)).set3 (.int .i64 0)
    obtain ⟨e0', e1', e2', e3', _, _, _, _, _⟩ := Z
    exact bodyPost_ret (v := .tuple #[.agg #[.int .i64 (k : Int), .string Y, .int .i64 0, .int .i64 0], .int .i64 (n : Int), .int .i64 (e0 : Int)]) (by simp [results, Tryd.results25, go_sem, e0', e1', e2', e3']) rfl ⟨rfl, (((RB.out.1.setCell (p := ⟨w.heap.size, 0, none⟩) (Nat.le_refl _) _).setCell (p := ⟨w.heap.size, 1, none⟩) (Nat.le_refl _) _).setCell (p := ⟨w.heap.size, 2, none⟩) (Nat.le_refl _) _).setCell (p := ⟨w.heap.size, 3, none⟩) (Nat.le_refl _) _⟩
  | false =>
    have M : Hid (mdv 3 X X.size (curB (bs9 X)) = (k, Y, n, e0)) := by
      show _ = _
      rw [← h, if_neg (by rw [ha]; decide), hXm, nvq_tkn rfl]
    have HA := Lib.hid ha
    clear h ha hX hm XB hXm
    go_enter Tryd.func25, Tryd.ntmps25
    have RB : Hid (Rz w (w.alloc (.cells #[.int .i64 0, .string ⟨#[]⟩, .int .i64 0, .int .i64 0] 35))) := Rbx.new _ _ _ _ _ _
    go_wp2_with fail
    refine (span_is (f := runB mA) (by decide +kernel) HM.out hs6 _).mono ?_; rintro e w1 ⟨rfl, hw⟩; obtain rfl := hw.symm
    go_wp2_with fail
    refine (H11.out X _ (OK.out RB.out.1) hXs).mono ?_; rintro e w2 ⟨rfl, hb⟩
    rw [HA.out]
    replace RB := Lib.hid (RB.out.on hb); clear hb
    go_wp2_with fail
    refine (currency_is rfl hXs6 _).mono ?_; rintro e w1 ⟨rfl, hw⟩; obtain rfl := hw.symm
    go_wp2_with fail
    refine (made_is (k := 3) M.out _).mono ?_; rintro e w3 ⟨rfl, hb⟩
    replace RB := Lib.hid (RB.out.on hb); clear hb
    obtain ⟨p0, p1, p2, p3, pf0, pf1, pf2, pf3, plt⟩ := RB.out.2
    go_wp2_with fail
    have Z := ((((RB.out.2).set0 (.int .i64 (k : Int))).set1 (.string Y)).set2 (.int .i64 0)).set3 (.int .i64 0)
    obtain ⟨e0', e1', e2', e3', _, _, _, _, _⟩ := Z
    exact bodyPost_ret (v := .tuple #[.agg #[.int .i64 (k : Int), .string Y, .int .i64 0, .int .i64 0], .int .i64 (n : Int), .int .i64 (e0 : Int)]) (by simp [results, Tryd.results25, go_sem, e0', e1', e2', e3']) rfl ⟨rfl, (((RB.out.1.setCell (p := ⟨w.heap.size, 0, none⟩) (Nat.le_refl _) _).setCell (p := ⟨w.heap.size, 1, none⟩) (Nat.le_refl _) _).setCell (p := ⟨w.heap.size, 2, none⟩) (Nat.le_refl _) _).setCell (p := ⟨w.heap.size, 3, none⟩) (Nat.le_refl _) _⟩

set_option maxHeartbeats 4000000 in
set_option maxRecDepth 100000 in
theorem plain_is12 {s : ByteArray} {k n e0 : Nat} {Y : ByteArray} (h : nvq (key12 (bs9 s)) = (k, Y, n, e0)) (hs : s.size ≤ 1000) (w : World) : Calls Tryd.prog 26 #[.string s] w (Q4 w k Y n e0) := by
  obtain ⟨m, hm⟩ : ∃ m, runl (runB mK) (bs9 s) = m := ⟨_, rfl⟩
  have HM := Lib.hid hm
  have hms : m ≤ s.size := by have := runl_le (runB mK) (bs9 s); rw [hm, bs9_len] at this; exact this
  obtain ⟨X, hX⟩ : ∃ X, s.extract 0 m = X := ⟨_, rfl⟩
  have hslX : ∀ w', (Instr.slice 9 (.string s) none (some (.int .i64 (m : Int))) none).run Tryd.prog w' = .ok (.string X) w' := sl_to hms hX
  have XB : bs9 X = (bs9 s).take m := by rw [← hX, bs9_take]
  have hXm : X.size = m := by rw [← bs9_len, XB, List.length_take, bs9_len]; omega
  have hXs : X.size ≤ 1000 := by omega
  have hXs6 : X.size ≤ 1000000 := by omega
  have hs6 : s.size ≤ 1000000 := by omega
  obtain ⟨R, hR⟩ : ∃ R, s.extract m s.size = R := ⟨_, rfl⟩
  have hslR : ∀ w', (Instr.slice 9 (.string s) (some (.int .i64 (X.size : Int))) none none).run Tryd.prog w' = .ok (.string R) w' := by rw [hXm]; exact sl_from hms hR
  have RBs : bs9 R = (bs9 s).drop m := by rw [← hR, bs9_drop]
  have PRE : Hid ((bs9 R).head? = (bs9 s)[m]?) := by show _ = _; rw [RBs, ← List.head?_drop]
  unfold key12 at h
  rw [hm, ← XB] at h
  by_cases hc : (bs9 s)[m]? = some 58
  · obtain ⟨m1, hm1⟩ : ∃ m1, X.size + 1 = m1 := ⟨_, rfl⟩
    have e1 : (X.size : Int) + 1 = (m1 : Int) := by omega
    have PB : Hid (((bs9 R).head? == some 58) = true) := by show _ = _; rw [PRE.out, hc]; rfl
    have M : Hid (mdv 9 X m1 (keyB (bs9 X)) = (k, Y, n, e0)) := by
      show _ = _
      rw [← h, if_pos hc, ← hm1, hXm, nvq_tkn rfl]
    clear h hc hX hm XB hXm hm1 hR RBs PRE
    go_enter Tryd.func26, Tryd.ntmps26
    have RB : Hid (Rz w (w.alloc (.cells #[.int .i64 0, .string ⟨#[]⟩, .int .i64 0, .int .i64 0] 35))) := Rbx.new _ _ _ _ _ _
    go_wp2_with fail
    refine (span_is (f := runB mK) (by decide +kernel) HM.out hs6 _).mono ?_; rintro e w1 ⟨rfl, hw⟩; obtain rfl := hw.symm
    go_wp2_with fail
    refine (first_is (c := 58) (p := ⟨#[58]⟩) rfl PB.out _).mono ?_; rintro e w1 ⟨rfl, hw⟩; obtain rfl := hw.symm
    go_wp2_with fail
    refine (key_is rfl hXs6 _).mono ?_; rintro e w1 ⟨rfl, hw⟩; obtain rfl := hw.symm
    go_wp2_with fail
    refine (made_is (k := 9) M.out _).mono ?_; rintro e w3 ⟨rfl, hb⟩
    replace RB := Lib.hid (RB.out.on hb); clear hb
    obtain ⟨p0, p1, p2, p3, pf0, pf1, pf2, pf3, plt⟩ := RB.out.2
    go_wp2_with fail
    have Z := ((((RB.out.2).set0 (.int .i64 (k : Int))).set1 (.string Y)).set2 (.int .i64 0)).set3 (.int .i64 0)
    obtain ⟨e0', e1', e2', e3', _, _, _, _, _⟩ := Z
    exact bodyPost_ret (v := .tuple #[.agg #[.int .i64 (k : Int), .string Y, .int .i64 0, .int .i64 0], .int .i64 (n : Int), .int .i64 (e0 : Int)]) (by simp [results, Tryd.results26, go_sem, e0', e1', e2', e3']) rfl ⟨rfl, (((RB.out.1.setCell (p := ⟨w.heap.size, 0, none⟩) (Nat.le_refl _) _).setCell (p := ⟨w.heap.size, 1, none⟩) (Nat.le_refl _) _).setCell (p := ⟨w.heap.size, 2, none⟩) (Nat.le_refl _) _).setCell (p := ⟨w.heap.size, 3, none⟩) (Nat.le_refl _) _⟩
  · have PB : Hid (((bs9 R).head? == some 58) = false) := by show _ = _; rw [PRE.out, beq_eq_false_iff_ne]; exact hc
    have M : Hid (mdv 8 X X.size (keyB (bs9 X)) = (k, Y, n, e0)) := by
      show _ = _
      rw [← h, if_neg hc, hXm, nvq_tkn rfl]
    clear h hc hX hm XB hXm hR RBs PRE
    go_enter Tryd.func26, Tryd.ntmps26
    have RB : Hid (Rz w (w.alloc (.cells #[.int .i64 0, .string ⟨#[]⟩, .int .i64 0, .int .i64 0] 35))) := Rbx.new _ _ _ _ _ _
    go_wp2_with fail
    refine (span_is (f := runB mK) (by decide +kernel) HM.out hs6 _).mono ?_; rintro e w1 ⟨rfl, hw⟩; obtain rfl := hw.symm
    go_wp2_with fail
    refine (first_is (c := 58) (p := ⟨#[58]⟩) rfl PB.out _).mono ?_; rintro e w1 ⟨rfl, hw⟩; obtain rfl := hw.symm
    go_wp2_with fail
    refine (key_is rfl hXs6 _).mono ?_; rintro e w1 ⟨rfl, hw⟩; obtain rfl := hw.symm
    go_wp2_with fail
    refine (made_is (k := 8) M.out _).mono ?_; rintro e w3 ⟨rfl, hb⟩
    replace RB := Lib.hid (RB.out.on hb); clear hb
    obtain ⟨p0, p1, p2, p3, pf0, pf1, pf2, pf3, plt⟩ := RB.out.2
    go_wp2_with fail
    have Z := ((((RB.out.2).set0 (.int .i64 (k : Int))).set1 (.string Y)).set2 (.int .i64 0)).set3 (.int .i64 0)
    obtain ⟨e0', e1', e2', e3', _, _, _, _, _⟩ := Z
    exact bodyPost_ret (v := .tuple #[.agg #[.int .i64 (k : Int), .string Y, .int .i64 0, .int .i64 0], .int .i64 (n : Int), .int .i64 (e0 : Int)]) (by simp [results, Tryd.results26, go_sem, e0', e1', e2', e3']) rfl ⟨rfl, (((RB.out.1.setCell (p := ⟨w.heap.size, 0, none⟩) (Nat.le_refl _) _).setCell (p := ⟨w.heap.size, 1, none⟩) (Nat.le_refl _) _).setCell (p := ⟨w.heap.size, 2, none⟩) (Nat.le_refl _) _).setCell (p := ⟨w.heap.size, 3, none⟩) (Nat.le_refl _) _⟩

end Go.Proofs.YtjkandnbjbfeiaaDoor

/-
  Contracts of layer 12, the program's own lex, the third part: Next.
-/
namespace Go.Proofs.YtjkandnbjbfeiaaDoor
open Go.RowKit

/-- What the program's Unquote answers. -/
def UNQ (ok : World → Prop) : Prop := ∀ {s X : ByteArray} {n e : Nat} {w : World}, ok w → uqv (bs9 s) = (bs9 X, n, e) → s.size ≤ 1000 → Calls Tryd.prog 9 #[.string s] w (Ret9 w (.tuple #[.string X, .int .i64 (n : Int), .int .i64 (e : Int)]))
theorem beg_is {T s : ByteArray} {f : Nat → Bool} {x : Nat} {t : List Nat} {b : Bool} (hT : ((List.range 256).all fun c => (bs9 T).contains c == f c) = true) (hX : bs9 s = x :: t) (hx : x < 256) (h : f x = b) : begB (bs9 T) (bs9 s) = b := by
  rw [List.all_eq_true] at hT
  rw [hX, begB_cons, ← h]
  exact beq_iff_eq.1 (hT x (List.mem_range.2 hx))
theorem txq_is {D N : List Nat → Bool} {s : ByteArray} {t : List Nat} (hs : bs9 s = 34 :: t) : ∃ X n e, uqv (bs9 s) = (bs9 X, n, e) ∧ nvq (nxt D N (bs9 s)) = txq X n e := by
  have hl := bs9_lt s
  rw [hs] at hl
  rw [hs, (nxt_of D N 34 t).1 rfl]
  cases hu : uqg t with
  | inl e =>
    have he := nxt_err (D := D) (N := N) (l := 34 :: t) (e := e) (by rw [(nxt_of D N 34 t).1 rfl, hu]; rfl)
    refine ⟨⟨#[]⟩, 0, e, by rw [uqv, if_pos rfl, hu]; rfl, ?_⟩
    unfold txq
    rw [if_neg (by omega)]; rfl
  | inr p =>
    obtain ⟨y, n⟩ := p
    have hy : ∀ c ∈ y, c < 256 := nxt_lt (D := D) (N := N) (l := 34 :: t) (k := 5) (n := n + 1) (by rw [(nxt_of D N 34 t).1 rfl, hu]; rfl) hl
    refine ⟨st9 y, n + 1, 0, by rw [uqv, if_pos rfl, hu, bs9_st9 hy], ?_⟩
    rfl

set_option maxHeartbeats 4000000 in
set_option maxRecDepth 100000 in
theorem lexnext_is {D N : List Nat → Bool} {ok : World → Prop} (hk : Okw ok) (hu : UNQ ok) (h8 : O08 D ok) (h7 : O07 N ok) (h11 : O11 ok) {s : ByteArray} {k n e0 : Nat} {Y : ByteArray} (h : nvq (nxt D N (bs9 s)) = (k, Y, n, e0)) (hs : s.size ≤ 1000) (w : World) (hok : ok w) : Calls Tryd.prog 12 #[.string s] w (Q4 w k Y n e0) := by
  have HU : Hid (UNQ ok) := hu
  have H8 := Lib.hid h8
  have H7 := Lib.hid h7
  have H11 := Lib.hid h11
  have HK : Hid (Okw ok) := hk
  have OK : Hid (∀ {W : World}, Below w.heap.size w W → ok W) := fun hb => hk hok hb
  clear hu h8 h7 h11 hk hok
  have hs6 : s.size ≤ 1000000 := by omega
  rcases Nat.eq_zero_or_pos s.size with h0 | h0
  · have d := str_emp h0
    have h2 : (0, ⟨#[]⟩, 0, 1) = (k, Y, n, e0) := by rw [← h, nil_of h0]; rfl
    cases h2
    clear h
    go_enter Tryd.func12, Tryd.ntmps12
    have RB : Hid (Rz w (w.alloc (.cells #[.int .i64 0, .string ⟨#[]⟩, .int .i64 0, .int .i64 0] 35))) := Rbx.new _ _ _ _ _ _
    go_wp2_with fail
    exact bodyPost_ret (v := .tuple #[.agg #[.int .i64 0, .string ⟨#[]⟩, .int .i64 0, .int .i64 0], .int .i64 0, .int .i64 1]) (by simp [results, Tryd.results12, go_sem]) rfl ⟨rfl, (Below.refl _ _).alloc (Nat.le_refl _) _⟩
  have d := str_ne h0
  obtain ⟨x, hx⟩ : ∃ x, x = (s[0]'h0).toNat := ⟨_, rfl⟩
  have ex : ((s[0]'h0).toNat : Int) = (x : Int) := by rw [hx]
  have hx2 : x < 256 := by rw [hx]; exact UInt8.toNat_lt _
  have HX : Hid (bs9 s = x :: (bs9 s).drop 1) := by show _ = _; rw [hx]; exact idx_zero h0
  obtain ⟨X1, hX1⟩ : ∃ X, s.extract 0 1 = X := ⟨_, rfl⟩
  have hsl1 : ∀ w', (Instr.slice 9 (.string s) none (some (.int .i64 1)) none).run Tryd.prog w' = .ok (.string X1) w' := sl_to (i := 1) h0 hX1
  have XB1 : Hid (bs9 X1 = [x]) := by show _ = _; rw [← hX1, bs9_take, HX.out]; rfl
  have yes : ∀ {c : UInt8}, x = c.toNat → (X1.toList == [c]) = true := fun {c} e => lit_yes (l := [c]) (by rw [XB1.out, e]; rfl)
  have no : ∀ {c : UInt8}, x ≠ c.toNat → (X1.toList == [c]) = false := fun {c} e => lit_not (l := [c]) (by rw [XB1.out]; intro e2; exact e (List.cons.inj e2).1)
  have YES : Hid (∀ {c : UInt8}, x = c.toNat → (X1.toList == [c]) = true) := yes
  have NO : Hid (∀ {c : UInt8}, x ≠ c.toNat → (X1.toList == [c]) = false) := no
  have BEG : Hid (∀ {T : ByteArray} {f : Nat → Bool} {b : Bool}, ((List.range 256).all fun c => (bs9 T).contains c == f c) = true → f x = b → begB (bs9 T) (bs9 s) = b) := fun hT hf => beg_is hT HX.out hx2 hf
  have NX : Hid (nvq (nxt D N (bs9 s)) = (k, Y, n, e0)) := h
  have WAY := Lib.hid (nxt_of D N x ((bs9 s).drop 1))
  clear yes no h hx hX1
  by_cases c34 : x = 34
  · have d34 : ((x : Int) == 34) = true := by rw [c34]; rfl
    obtain ⟨X, m, z, hq, hv⟩ := txq_is (D := D) (N := N) (t := (bs9 s).drop 1) (by rw [← c34]; exact HX.out)
    have Q := Lib.hid hq
    have V : Hid (txq X m z = (k, Y, n, e0)) := by show _ = _; rw [← hv]; exact NX.out
    clear hq hv c34
    have US : Hid (∀ w', Below w.heap.size w w' → ∀ w2, Below w'.heap.size w' w2 → Calls Tryd.prog 9 #[.string s] w2 (Ret9 w2 (.tuple #[.string X, .int .i64 (m : Int), .int .i64 (z : Int)]))) := fun w' hb w2 hb2 => HU.out (OK.out (hb.trans (hb2.mono hb.size))) Q.out hs
    go_enter Tryd.func12, Tryd.ntmps12
    have RB : Hid (Rz w (w.alloc (.cells #[.int .i64 0, .string ⟨#[]⟩, .int .i64 0, .int .i64 0] 35))) := Rbx.new _ _ _ _ _ _
    go_wp2_with fail
    refine (lextext_is (US.out _ RB.out.1) V.out).mono ?_; rintro e w9 ⟨rfl, hb⟩
    replace RB := Lib.hid (RB.out.on hb); clear hb
    obtain ⟨p0, p1, p2, p3, pf0, pf1, pf2, pf3, plt⟩ := RB.out.2
    go_wp2_with fail
    have Z := ((((RB.out.2).set0 (.int .i64 (k : Int))).set1 (.string Y)).set2 (.int .i64 0)).set3 (.int .i64 0)
    obtain ⟨e0', e1', e2', e3', _, _, _, _, _⟩ := Z
    exact bodyPost_ret (v := .tuple #[.agg #[.int .i64 (k : Int), .string Y, .int .i64 0, .int .i64 0], .int .i64 (n : Int), .int .i64 (e0 : Int)]) (by simp [results, Tryd.results12, go_sem, e0', e1', e2', e3']) rfl ⟨rfl, (((RB.out.1.setCell (p := ⟨w.heap.size, 0, none⟩) (Nat.le_refl _) _).setCell (p := ⟨w.heap.size, 1, none⟩) (Nat.le_refl _) _).setCell (p := ⟨w.heap.size, 2, none⟩) (Nat.le_refl _) _).setCell (p := ⟨w.heap.size, 3, none⟩) (Nat.le_refl _) _⟩
  have d34 : ((x : Int) == 34) = false := by rw [beq_eq_false_iff_ne]; omega
  by_cases c35 : x = 35
  · have l35 := YES.out (c := 35) (show x = 35 from c35)
    have M : Hid (nvq (tag12 x ((bs9 s).drop 1)) = (k, Y, n, e0)) := by show _ = _; rw [← WAY.out.2.1 (by omega), ← HX.out]; exact NX.out
    have KD : Hid ((if x = 94 then 7 else 6) = 6) := by show _ = _; rw [c35]; rfl
    clear c35 
    go_enter Tryd.func12, Tryd.ntmps12
    have RB : Hid (Rz w (w.alloc (.cells #[.int .i64 0, .string ⟨#[]⟩, .int .i64 0, .int .i64 0] 35))) := Rbx.new _ _ _ _ _ _
    go_wp2_with fail
    refine (marked_is (kd := 6) h0 KD.out M.out hs _).mono ?_; rintro e w9 ⟨rfl, hb⟩
    replace RB := Lib.hid (RB.out.on hb); clear hb
    obtain ⟨p0, p1, p2, p3, pf0, pf1, pf2, pf3, plt⟩ := RB.out.2
    go_wp2_with fail
    have Z := ((((RB.out.2).set0 (.int .i64 (k : Int))).set1 (.string Y)).set2 (.int .i64 0)).set3 (.int .i64 0)
    obtain ⟨e0', e1', e2', e3', _, _, _, _, _⟩ := Z
    exact bodyPost_ret (v := .tuple #[.agg #[.int .i64 (k : Int), .string Y, .int .i64 0, .int .i64 0], .int .i64 (n : Int), .int .i64 (e0 : Int)]) (by simp [results, Tryd.results12, go_sem, e0', e1', e2', e3']) rfl ⟨rfl, (((RB.out.1.setCell (p := ⟨w.heap.size, 0, none⟩) (Nat.le_refl _) _).setCell (p := ⟨w.heap.size, 1, none⟩) (Nat.le_refl _) _).setCell (p := ⟨w.heap.size, 2, none⟩) (Nat.le_refl _) _).setCell (p := ⟨w.heap.size, 3, none⟩) (Nat.le_refl _) _⟩
  by_cases c94 : x = 94
  · have l35 := NO.out (c := 35) (show x ≠ 35 from c35)
    have l94 := YES.out (c := 94) (show x = 94 from c94)
    have M : Hid (nvq (tag12 x ((bs9 s).drop 1)) = (k, Y, n, e0)) := by show _ = _; rw [← WAY.out.2.1 (by omega), ← HX.out]; exact NX.out
    have KD : Hid ((if x = 94 then 7 else 6) = 7) := by show _ = _; rw [c94]; rfl
    clear c94 c35
    go_enter Tryd.func12, Tryd.ntmps12
    have RB : Hid (Rz w (w.alloc (.cells #[.int .i64 0, .string ⟨#[]⟩, .int .i64 0, .int .i64 0] 35))) := Rbx.new _ _ _ _ _ _
    go_wp2_with fail
    refine (marked_is (kd := 7) h0 KD.out M.out hs _).mono ?_; rintro e w9 ⟨rfl, hb⟩
    replace RB := Lib.hid (RB.out.on hb); clear hb
    obtain ⟨p0, p1, p2, p3, pf0, pf1, pf2, pf3, plt⟩ := RB.out.2
    go_wp2_with fail
    have Z := ((((RB.out.2).set0 (.int .i64 (k : Int))).set1 (.string Y)).set2 (.int .i64 0)).set3 (.int .i64 0)
    obtain ⟨e0', e1', e2', e3', _, _, _, _, _⟩ := Z
    exact bodyPost_ret (v := .tuple #[.agg #[.int .i64 (k : Int), .string Y, .int .i64 0, .int .i64 0], .int .i64 (n : Int), .int .i64 (e0 : Int)]) (by simp [results, Tryd.results12, go_sem, e0', e1', e2', e3']) rfl ⟨rfl, (((RB.out.1.setCell (p := ⟨w.heap.size, 0, none⟩) (Nat.le_refl _) _).setCell (p := ⟨w.heap.size, 1, none⟩) (Nat.le_refl _) _).setCell (p := ⟨w.heap.size, 2, none⟩) (Nat.le_refl _) _).setCell (p := ⟨w.heap.size, 3, none⟩) (Nat.le_refl _) _⟩
  have l35 := NO.out (c := 35) (show x ≠ 35 from c35)
  have l94 := NO.out (c := 94) (show x ≠ 94 from c94)
  cases hd : dgB x with
  | true =>
    have HD := Lib.hid hd
    have M : Hid (nvq (num12 D N (bs9 s)) = (k, Y, n, e0)) := by show _ = _; have := WAY.out.2.2.1 hd; rw [← HX.out] at this; rw [← this]; exact NX.out
    clear hd c34 c35 c94
    go_enter Tryd.func12, Tryd.ntmps12
    have RB : Hid (Rz w (w.alloc (.cells #[.int .i64 0, .string ⟨#[]⟩, .int .i64 0, .int .i64 0] 35))) := Rbx.new _ _ _ _ _ _
    go_wp2_with fail
    refine (begins_is (T := ⟨#[48, 49, 50, 51, 52, 53, 54, 55, 56, 57]⟩) (BEG.out (f := dgB) (by decide +kernel) HD.out) _).mono ?_; rintro e w1 ⟨rfl, hw⟩; obtain rfl := hw.symm
    go_wp2_with fail
    refine (counted_is HK.out H8.out H7.out M.out hs _ (OK.out RB.out.1)).mono ?_; rintro e w9 ⟨rfl, hb⟩
    replace RB := Lib.hid (RB.out.on hb); clear hb
    obtain ⟨p0, p1, p2, p3, pf0, pf1, pf2, pf3, plt⟩ := RB.out.2
    go_wp2_with fail
    have Z := ((((RB.out.2).set0 (.int .i64 (k : Int))).set1 (.string Y)).set2 (.int .i64 0)).set3 (.int .i64 0)
    obtain ⟨e0', e1', e2', e3', _, _, _, _, _⟩ := Z
    exact bodyPost_ret (v := .tuple #[.agg #[.int .i64 (k : Int), .string Y, .int .i64 0, .int .i64 0], .int .i64 (n : Int), .int .i64 (e0 : Int)]) (by simp [results, Tryd.results12, go_sem, e0', e1', e2', e3']) rfl ⟨rfl, (((RB.out.1.setCell (p := ⟨w.heap.size, 0, none⟩) (Nat.le_refl _) _).setCell (p := ⟨w.heap.size, 1, none⟩) (Nat.le_refl _) _).setCell (p := ⟨w.heap.size, 2, none⟩) (Nat.le_refl _) _).setCell (p := ⟨w.heap.size, 3, none⟩) (Nat.le_refl _) _⟩
  | false =>
  have HD := Lib.hid hd
  cases hu : upB x with
  | true =>
    have HUP := Lib.hid hu
    have M : Hid (nvq (acc12 (bs9 s)) = (k, Y, n, e0)) := by show _ = _; have := WAY.out.2.2.2.1 hu; rw [← HX.out] at this; rw [← this]; exact NX.out
    clear hd hu c34 c35 c94
    go_enter Tryd.func12, Tryd.ntmps12
    have RB : Hid (Rz w (w.alloc (.cells #[.int .i64 0, .string ⟨#[]⟩, .int .i64 0, .int .i64 0] 35))) := Rbx.new _ _ _ _ _ _
    go_wp2_with fail
    refine (begins_is (T := ⟨#[48, 49, 50, 51, 52, 53, 54, 55, 56, 57]⟩) (BEG.out (f := dgB) (by decide +kernel) HD.out) _).mono ?_; rintro e w1 ⟨rfl, hw⟩; obtain rfl := hw.symm
    go_wp2_with fail
    refine (begins_is (T := ⟨#[65, 66, 67, 68, 69, 70, 71, 72, 73, 74, 75, 76, 77, 78, 79, 80, 81, 82, 83, 84, 85, 86, 87, 88, 89, 90]⟩) (BEG.out (f := upB) (by decide +kernel) HUP.out) _).mono ?_; rintro e w1 ⟨rfl, hw⟩; obtain rfl := hw.symm
    go_wp2_with fail
    refine (named_is HK.out H11.out M.out hs _ (OK.out RB.out.1)).mono ?_; rintro e w9 ⟨rfl, hb⟩
    replace RB := Lib.hid (RB.out.on hb); clear hb
    obtain ⟨p0, p1, p2, p3, pf0, pf1, pf2, pf3, plt⟩ := RB.out.2
    go_wp2_with fail
    have Z := ((((RB.out.2).set0 (.int .i64 (k : Int))).set1 (.string Y)).set2 (.int .i64 0)).set3 (.int .i64 0)
    obtain ⟨e0', e1', e2', e3', _, _, _, _, _⟩ := Z
    exact bodyPost_ret (v := .tuple #[.agg #[.int .i64 (k : Int), .string Y, .int .i64 0, .int .i64 0], .int .i64 (n : Int), .int .i64 (e0 : Int)]) (by simp [results, Tryd.results12, go_sem, e0', e1', e2', e3']) rfl ⟨rfl, (((RB.out.1.setCell (p := ⟨w.heap.size, 0, none⟩) (Nat.le_refl _) _).setCell (p := ⟨w.heap.size, 1, none⟩) (Nat.le_refl _) _).setCell (p := ⟨w.heap.size, 2, none⟩) (Nat.le_refl _) _).setCell (p := ⟨w.heap.size, 3, none⟩) (Nat.le_refl _) _⟩
  | false =>
  have HUP := Lib.hid hu
  cases hl : lwB x with
  | true =>
    have HLW := Lib.hid hl
    have M : Hid (nvq (key12 (bs9 s)) = (k, Y, n, e0)) := by show _ = _; have := WAY.out.2.2.2.2.1 hl; rw [← HX.out] at this; rw [← this]; exact NX.out
    clear hd hu hl c34 c35 c94
    go_enter Tryd.func12, Tryd.ntmps12
    have RB : Hid (Rz w (w.alloc (.cells #[.int .i64 0, .string ⟨#[]⟩, .int .i64 0, .int .i64 0] 35))) := Rbx.new _ _ _ _ _ _
    go_wp2_with fail
    refine (begins_is (T := ⟨#[48, 49, 50, 51, 52, 53, 54, 55, 56, 57]⟩) (BEG.out (f := dgB) (by decide +kernel) HD.out) _).mono ?_; rintro e w1 ⟨rfl, hw⟩; obtain rfl := hw.symm
    go_wp2_with fail
    refine (begins_is (T := ⟨#[65, 66, 67, 68, 69, 70, 71, 72, 73, 74, 75, 76, 77, 78, 79, 80, 81, 82, 83, 84, 85, 86, 87, 88, 89, 90]⟩) (BEG.out (f := upB) (by decide +kernel) HUP.out) _).mono ?_; rintro e w1 ⟨rfl, hw⟩; obtain rfl := hw.symm
    go_wp2_with fail
    refine (begins_is (T := ⟨#[97, 98, 99, 100, 101, 102, 103, 104, 105, 106, 107, 108, 109, 110, 111, 112, 113, 114, 115, 116, 117, 118, 119, 120, 121, 122]⟩) (BEG.out (f := lwB) (by decide +kernel) HLW.out) _).mono ?_; rintro e w1 ⟨rfl, hw⟩; obtain rfl := hw.symm
    go_wp2_with fail
    refine (plain_is12 M.out hs _).mono ?_; rintro e w9 ⟨rfl, hb⟩
    replace RB := Lib.hid (RB.out.on hb); clear hb
    obtain ⟨p0, p1, p2, p3, pf0, pf1, pf2, pf3, plt⟩ := RB.out.2
    go_wp2_with fail
    have Z := ((((RB.out.2).set0 (.int .i64 (k : Int))).set1 (.string Y)).set2 (.int .i64 0)).set3 (.int .i64 0)
    obtain ⟨e0', e1', e2', e3', _, _, _, _, _⟩ := Z
    exact bodyPost_ret (v := .tuple #[.agg #[.int .i64 (k : Int), .string Y, .int .i64 0, .int .i64 0], .int .i64 (n : Int), .int .i64 (e0 : Int)]) (by simp [results, Tryd.results12, go_sem, e0', e1', e2', e3']) rfl ⟨rfl, (((RB.out.1.setCell (p := ⟨w.heap.size, 0, none⟩) (Nat.le_refl _) _).setCell (p := ⟨w.heap.size, 1, none⟩) (Nat.le_refl _) _).setCell (p := ⟨w.heap.size, 2, none⟩) (Nat.le_refl _) _).setCell (p := ⟨w.heap.size, 3, none⟩) (Nat.le_refl _) _⟩
  | false =>
  have HLW := Lib.hid hl
  obtain ⟨m, hm⟩ : ∃ m, mrk (bs9 s) = m := ⟨_, rfl⟩
  have HM := Lib.hid hm
  have hms : m ≤ s.size := by have := mrk_le (bs9 s); rw [hm, bs9_len] at this; exact this
  obtain ⟨X, hX⟩ : ∃ X, s.extract 0 m = X := ⟨_, rfl⟩
  have hslX : ∀ w', (Instr.slice 9 (.string s) none (some (.int .i64 (m : Int))) none).run Tryd.prog w' = .ok (.string X) w' := sl_to hms hX
  have XB : bs9 X = (bs9 s).take m := by rw [← hX, bs9_take]
  have hXm : X.size = m := by rw [← bs9_len, XB, List.length_take, bs9_len]; omega
  have M : Hid (mdv 10 X X.size (decide (0 < m)) = (k, Y, n, e0)) := by
    show _ = _
    have := WAY.out.2.2.2.2.2 c34 (by omega) hd hu hl
    rw [← HX.out, hm] at this
    rw [← NX.out, this, nvq_tkn XB, hXm]
  clear hX hm XB hd hu hl c34 c35 c94
  rcases Nat.eq_zero_or_pos m with m0 | m0
  · have dX := emp_yes (s := X) (by omega)
    have dX2 := str_emp (s := X) (by omega)
    rw [decide_eq_false (by omega)] at M
    clear m0 hXm
    go_enter Tryd.func12, Tryd.ntmps12
    have RB : Hid (Rz w (w.alloc (.cells #[.int .i64 0, .string ⟨#[]⟩, .int .i64 0, .int .i64 0] 35))) := Rbx.new _ _ _ _ _ _
    go_wp2_with fail
    refine (begins_is (T := ⟨#[48, 49, 50, 51, 52, 53, 54, 55, 56, 57]⟩) (BEG.out (f := dgB) (by decide +kernel) HD.out) _).mono ?_; rintro e w1 ⟨rfl, hw⟩; obtain rfl := hw.symm
    go_wp2_with fail
    refine (begins_is (T := ⟨#[65, 66, 67, 68, 69, 70, 71, 72, 73, 74, 75, 76, 77, 78, 79, 80, 81, 82, 83, 84, 85, 86, 87, 88, 89, 90]⟩) (BEG.out (f := upB) (by decide +kernel) HUP.out) _).mono ?_; rintro e w1 ⟨rfl, hw⟩; obtain rfl := hw.symm
    go_wp2_with fail
    refine (begins_is (T := ⟨#[97, 98, 99, 100, 101, 102, 103, 104, 105, 106, 107, 108, 109, 110, 111, 112, 113, 114, 115, 116, 117, 118, 119, 120, 121, 122]⟩) (BEG.out (f := lwB) (by decide +kernel) HLW.out) _).mono ?_; rintro e w1 ⟨rfl, hw⟩; obtain rfl := hw.symm
    go_wp2_with fail
    refine (lexmark_is HM.out _).mono ?_; rintro e w8 ⟨rfl, hb⟩
    replace RB := Lib.hid (RB.out.on hb); clear hb
    go_wp2_with fail
    refine (made_is (k := 10) M.out _).mono ?_; rintro e w9 ⟨rfl, hb⟩
    replace RB := Lib.hid (RB.out.on hb); clear hb
    obtain ⟨p0, p1, p2, p3, pf0, pf1, pf2, pf3, plt⟩ := RB.out.2
    go_wp2_with fail
    have Z := ((((RB.out.2).set0 (.int .i64 (k : Int))).set1 (.string Y)).set2 (.int .i64 0)).set3 (.int .i64 0)
    obtain ⟨e0', e1', e2', e3', _, _, _, _, _⟩ := Z
    exact bodyPost_ret (v := .tuple #[.agg #[.int .i64 (k : Int), .string Y, .int .i64 0, .int .i64 0], .int .i64 (n : Int), .int .i64 (e0 : Int)]) (by simp [results, Tryd.results12, go_sem, e0', e1', e2', e3']) rfl ⟨rfl, (((RB.out.1.setCell (p := ⟨w.heap.size, 0, none⟩) (Nat.le_refl _) _).setCell (p := ⟨w.heap.size, 1, none⟩) (Nat.le_refl _) _).setCell (p := ⟨w.heap.size, 2, none⟩) (Nat.le_refl _) _).setCell (p := ⟨w.heap.size, 3, none⟩) (Nat.le_refl _) _⟩
  · have dX := emp_not (s := X) (by omega)
    have dX2 := str_ne (s := X) (by omega)
    rw [decide_eq_true m0] at M
    clear m0 hXm
    go_enter Tryd.func12, Tryd.ntmps12
    have RB : Hid (Rz w (w.alloc (.cells #[.int .i64 0, .string ⟨#[]⟩, .int .i64 0, .int .i64 0] 35))) := Rbx.new _ _ _ _ _ _
    go_wp2_with fail
    refine (begins_is (T := ⟨#[48, 49, 50, 51, 52, 53, 54, 55, 56, 57]⟩) (BEG.out (f := dgB) (by decide +kernel) HD.out) _).mono ?_; rintro e w1 ⟨rfl, hw⟩; obtain rfl := hw.symm
    go_wp2_with fail
    refine (begins_is (T := ⟨#[65, 66, 67, 68, 69, 70, 71, 72, 73, 74, 75, 76, 77, 78, 79, 80, 81, 82, 83, 84, 85, 86, 87, 88, 89, 90]⟩) (BEG.out (f := upB) (by decide +kernel) HUP.out) _).mono ?_; rintro e w1 ⟨rfl, hw⟩; obtain rfl := hw.symm
    go_wp2_with fail
    refine (begins_is (T := ⟨#[97, 98, 99, 100, 101, 102, 103, 104, 105, 106, 107, 108, 109, 110, 111, 112, 113, 114, 115, 116, 117, 118, 119, 120, 121, 122]⟩) (BEG.out (f := lwB) (by decide +kernel) HLW.out) _).mono ?_; rintro e w1 ⟨rfl, hw⟩; obtain rfl := hw.symm
    go_wp2_with fail
    refine (lexmark_is HM.out _).mono ?_; rintro e w8 ⟨rfl, hb⟩
    replace RB := Lib.hid (RB.out.on hb); clear hb
    go_wp2_with fail
    refine (made_is (k := 10) M.out _).mono ?_; rintro e w9 ⟨rfl, hb⟩
    replace RB := Lib.hid (RB.out.on hb); clear hb
    obtain ⟨p0, p1, p2, p3, pf0, pf1, pf2, pf3, plt⟩ := RB.out.2
    go_wp2_with fail
    have Z := ((((RB.out.2).set0 (.int .i64 (k : Int))).set1 (.string Y)).set2 (.int .i64 0)).set3 (.int .i64 0)
    obtain ⟨e0', e1', e2', e3', _, _, _, _, _⟩ := Z
    exact bodyPost_ret (v := .tuple #[.agg #[.int .i64 (k : Int), .string Y, .int .i64 0, .int .i64 0], .int .i64 (n : Int), .int .i64 (e0 : Int)]) (by simp [results, Tryd.results12, go_sem, e0', e1', e2', e3']) rfl ⟨rfl, (((RB.out.1.setCell (p := ⟨w.heap.size, 0, none⟩) (Nat.le_refl _) _).setCell (p := ⟨w.heap.size, 1, none⟩) (Nat.le_refl _) _).setCell (p := ⟨w.heap.size, 2, none⟩) (Nat.le_refl _) _).setCell (p := ⟨w.heap.size, 3, none⟩) (Nat.le_refl _) _⟩

end Go.Proofs.YtjkandnbjbfeiaaDoor

/-
  Contracts of layer 12, the program's own lex, the fourth part: Quote, Unquote, Text.
-/
namespace Go.Proofs.YtjkandnbjbfeiaaDoor
open Go.RowKit

theorem lt_app {acc : List Nat} {x : Nat} (h : ∀ c ∈ acc, c < 256) (hx : x < 256) : ∀ c ∈ acc ++ [x], c < 256 := fun c hc => by
  rcases List.mem_append.1 hc with hc | hc
  · exact h c hc
  · rw [List.mem_singleton.1 hc]; exact hx
def bv12 (ys : List Nat) : List Value := ys.map fun (y : Nat) => Value.int .u8 (y : Int)
theorem bv12_len (ys : List Nat) : (bv12 ys).length = ys.length := List.length_map _
theorem bv12_bytes {ys : List Nat} (h : ∀ c ∈ ys, c < 256) : bv12 ys = Lib.byteCells (ys.map UInt8.ofNat) := by
  unfold bv12 Lib.byteCells
  rw [List.map_map]
  refine List.map_congr_left fun c hc => ?_
  have := h c hc
  simp [UInt8.toNat_ofNat']
  omega
/-- A Builder that lies at B holds these bytes. -/
def Bld (B : Nat) (acc : List Nat) (w : World) : Prop := Lib.IsBuilder 52 5 B B (bv12 acc) w
theorem wrb_is {B x : Nat} {acc : List Nat} {w : World} (h : Bld B acc w) (hl : acc.length ≤ 1000000) (hB : B ≤ w.heap.size) : Calls Tryd.prog 16 #[.pointer (some ⟨B, 0, none⟩), .int .u8 (x : Int)] w (fun e w' => e = .returned .nilIface ∧ Bld B (acc ++ [x]) w' ∧ Below B w w') := by
  refine (Tryd.Builder_WriteByte B B (bv12 acc) (x : Int) w h (by rw [bv12_len]; omega) hB).mono fun e w' h2 => ⟨h2.1, ?_, h2.2.2⟩
  have := h2.2.1
  unfold Bld bv12
  rw [List.map_append]
  exact .inr this
theorem bst_is {B : Nat} {X : ByteArray} {acc : List Nat} {w : World} (h : Bld B acc w) (hX : acc = bs9 X) (hB : B ≤ w.heap.size) : Calls Tryd.prog 18 #[.pointer (some ⟨B, 0, none⟩)] w (fun e w' => e = .returned (.string X) ∧ Below B w w') := by
  subst hX
  unfold Bld at h
  rw [bv12_bytes (bs9_lt X)] at h
  refine (Tryd.Builder_String_any B B ((bs9 X).map UInt8.ofNat) w h hB).mono fun e w' h2 => ⟨?_, h2.2⟩
  rw [h2.1]
  show Ending.returned (.string (st9 (bs9 X))) = _
  rw [st9_bs9]
/-- The places of the bytes that are quoted by others, and of those that then stand there. -/
def idxm (x : Nat) : Int := if x = 34 then 0 else if x = 92 then 1 else if x = 10 then 2 else if x = 9 then 3 else -1
def idxw (x : Nat) : Int := if x = 34 then 0 else if x = 92 then 1 else if x = 110 then 2 else if x = 116 then 3 else -1
theorem idxm_is {x : Nat} {z : Int} (hx : x < 256) (hz : idxm x = z) (w : World) : Calls Tryd.prog 17 #[.string ⟨#[34, 92, 10, 9]⟩, .int .u8 (x : Int)] w (fun e w' => e = .returned (.int .i64 z) ∧ w' = w) := by
  refine (Tryd.strings_IndexByte ⟨#[34, 92, 10, 9]⟩ (x : Int) w).mono fun e w' h => ⟨?_, h.2⟩
  rw [h.1, ← hz, Int.toNat_natCast]
  have : ((List.range 256).all fun x => Lib.indexByte [34, 92, 10, 9] x.toUInt8 == idxm x) = true := by decide +kernel
  rw [List.all_eq_true] at this
  exact congrArg (fun v => Ending.returned (.int .i64 v)) (beq_iff_eq.1 (this x (List.mem_range.2 hx)))
theorem idxw_is {x : Nat} {z : Int} (hx : x < 256) (hz : idxw x = z) (w : World) : Calls Tryd.prog 17 #[.string ⟨#[34, 92, 110, 116]⟩, .int .u8 (x : Int)] w (fun e w' => e = .returned (.int .i64 z) ∧ w' = w) := by
  refine (Tryd.strings_IndexByte ⟨#[34, 92, 110, 116]⟩ (x : Int) w).mono fun e w' h => ⟨?_, h.2⟩
  rw [h.1, ← hz, Int.toNat_natCast]
  have : ((List.range 256).all fun x => Lib.indexByte [34, 92, 110, 116] x.toUInt8 == idxw x) = true := by decide +kernel
  rw [List.all_eq_true] at this
  exact congrArg (fun v => Ending.returned (.int .i64 v)) (beq_iff_eq.1 (this x (List.mem_range.2 hx)))
theorem atm_0 (w : World) : (Instr.index 9 (.string ⟨#[34, 92, 10, 9]⟩) (.int .i64 0)).run Tryd.prog w = .ok (.int .u8 34) w := by kernel_rfl
theorem atm_1 (w : World) : (Instr.index 9 (.string ⟨#[34, 92, 10, 9]⟩) (.int .i64 1)).run Tryd.prog w = .ok (.int .u8 92) w := by kernel_rfl
theorem atm_2 (w : World) : (Instr.index 9 (.string ⟨#[34, 92, 10, 9]⟩) (.int .i64 2)).run Tryd.prog w = .ok (.int .u8 10) w := by kernel_rfl
theorem atm_3 (w : World) : (Instr.index 9 (.string ⟨#[34, 92, 10, 9]⟩) (.int .i64 3)).run Tryd.prog w = .ok (.int .u8 9) w := by kernel_rfl
theorem atw_0 (w : World) : (Instr.index 9 (.string ⟨#[34, 92, 110, 116]⟩) (.int .i64 0)).run Tryd.prog w = .ok (.int .u8 34) w := by kernel_rfl
theorem atw_1 (w : World) : (Instr.index 9 (.string ⟨#[34, 92, 110, 116]⟩) (.int .i64 1)).run Tryd.prog w = .ok (.int .u8 92) w := by kernel_rfl
theorem atw_2 (w : World) : (Instr.index 9 (.string ⟨#[34, 92, 110, 116]⟩) (.int .i64 2)).run Tryd.prog w = .ok (.int .u8 110) w := by kernel_rfl
theorem atw_3 (w : World) : (Instr.index 9 (.string ⟨#[34, 92, 110, 116]⟩) (.int .i64 3)).run Tryd.prog w = .ok (.int .u8 116) w := by kernel_rfl
set_option maxHeartbeats 4000000 in
set_option maxRecDepth 100000 in
theorem lexquote_is {s X0 : ByteArray} (h : qt (bs9 s) = bs9 X0) (hs : s.size ≤ 1000) (w : World) : Calls Tryd.prog 8 #[.string s] w (Ret9 w (.string X0)) := by
  have H := Lib.hid h
  clear h
  obtain ⟨g, hg⟩ : ∃ g : Nat, (s.size : Int) + 2 = (g : Int) := ⟨s.size + 2, by omega⟩
  have hgb : g ≤ 1000000 := by omega
  go_enter Tryd.func8, Tryd.ntmps8
  go_wp2_with fail
  generalize hW : World.alloc w _ = W0
  have hbk : Hid (W0.heap[w.heap.size]? = some (.cells #[.pointer none, .slice none 0 0] 52 (0, 0))) := by show _ = _; rw [← hW]; exact heap_alloc_new w _
  have HB : Hid (Below w.heap.size w W0) := by show Below _ _ _; rw [← hW]; exact (Below.refl _ _).alloc (Nat.le_refl _) _
  clear hW
  refine (Tryd.Builder_Grow_fresh w.heap.size w.heap.size g W0 (Nat.le_refl _) hbk.out HB.out.size (by omega)).mono ?_
  rintro e w1 ⟨rfl, h1, hb1⟩
  have X : Hid (Bld w.heap.size [] w1) := .inr h1
  replace HB := Lib.hid (HB.out.trans hb1)
  clear h1 hb1 hbk hg
  go_wp2_with fail
  refine (wrb_is (x := 34) X.out (by decide) HB.out.size).mono ?_; rintro e w2 ⟨rfl, h2, hb2⟩
  replace X := Lib.hid h2
  replace HB := Lib.hid (HB.out.trans hb2)
  clear h2 hb2
  go_wp2_with fail
  go_loopw [13] (fun iv wr => ∃ i : Nat, iv = .int .i64 i ∧ i ≤ s.size ∧ Bld w.heap.size (34 :: qtb ((bs9 s).take i)) wr ∧ Below w.heap.size w wr) (fun iv _ => s.size - (intOf iv).toNat)
  case atStart => exact ⟨0, rfl, Nat.zero_le _, X.out, HB.out⟩
  case round =>
    obtain ⟨i, rfl, hi, hx, hb⟩ := hrel
    clear X HB
    have X := Lib.hid hx
    have HB := Lib.hid hb
    clear hx hb
    have HQ : Hid ((34 :: qtb ((bs9 s).take i)).length ≤ 2001) := by
      show _ ≤ _
      have := qtb_len ((bs9 s).take i)
      rw [List.length_take] at this
      rw [List.length_cons]; omega
    rcases Nat.lt_or_ge i s.size with hlt | hge
    · obtain ⟨x, hx⟩ : ∃ x, x = (s[i]'hlt).toNat := ⟨_, rfl⟩
      have ex : ((s[i]'hlt).toNat : Int) = (x : Int) := by rw [hx]
      have hx2 : x < 256 := by rw [hx]; exact UInt8.toNat_lt _
      have HT : Hid (34 :: qtb ((bs9 s).take (i + 1)) = 34 :: qtb ((bs9 s).take i) ++ esc x) := by
        show _ = _
        rw [List.take_add_one, bs9_at s i hlt, ← hx, Option.toList_some, qtb_push]; rfl
      clear hx
      obtain ⟨acc, ha⟩ : ∃ acc, 34 :: qtb ((bs9 s).take i) = acc := ⟨_, rfl⟩
      rw [ha] at X HQ HT
      clear ha
      by_cases c34 : x = 34
      · have IX : Hid (idxm x = 0) := by show _ = _; rw [c34]; rfl
        have IW := Lib.hid (atw_0)
        have IW2 := IW.out
        have HE : Hid (acc ++ [92] ++ [34] = 34 :: qtb ((bs9 s).take (i + 1))) := by show _ = _; rw [HT.out, c34]; exact List.append_assoc _ _ _
        clear c34 
        go_wp2_with fail
        refine (idxm_is hx2 IX.out _).mono ?_; rintro e w1 ⟨rfl, hw⟩; obtain rfl := hw.symm
        go_wp2_with fail
        refine (wrb_is (x := 92) X.out (by have := HQ.out; omega) HB.out.size).mono ?_; rintro e w2 ⟨rfl, h2, hb2⟩
        replace X := Lib.hid h2
        replace HB := Lib.hid (HB.out.trans hb2)
        clear h2 hb2
        go_wp2_with fail
        refine (wrb_is (x := 34) X.out (by have := HQ.out; rw [List.length_append]; simp; omega) HB.out.size).mono ?_; rintro e w2 ⟨rfl, h2, hb2⟩
        replace X := Lib.hid h2
        replace HB := Lib.hid (HB.out.trans hb2)
        clear h2 hb2
        go_wp2_with fail
        go_roundw
        case rel => exact ⟨i + 1, by go_num, by omega, by rw [← HE.out]; exact X.out, HB.out⟩
        case measure => simp [intOf] <;> omega
      by_cases c92 : x = 92
      · have IX : Hid (idxm x = 1) := by show _ = _; rw [c92]; rfl
        have IW := Lib.hid (atw_1)
        have IW2 := IW.out
        have HE : Hid (acc ++ [92] ++ [92] = 34 :: qtb ((bs9 s).take (i + 1))) := by show _ = _; rw [HT.out, c92]; exact List.append_assoc _ _ _
        clear c92 c34 
        go_wp2_with fail
        refine (idxm_is hx2 IX.out _).mono ?_; rintro e w1 ⟨rfl, hw⟩; obtain rfl := hw.symm
        go_wp2_with fail
        refine (wrb_is (x := 92) X.out (by have := HQ.out; omega) HB.out.size).mono ?_; rintro e w2 ⟨rfl, h2, hb2⟩
        replace X := Lib.hid h2
        replace HB := Lib.hid (HB.out.trans hb2)
        clear h2 hb2
        go_wp2_with fail
        refine (wrb_is (x := 92) X.out (by have := HQ.out; rw [List.length_append]; simp; omega) HB.out.size).mono ?_; rintro e w2 ⟨rfl, h2, hb2⟩
        replace X := Lib.hid h2
        replace HB := Lib.hid (HB.out.trans hb2)
        clear h2 hb2
        go_wp2_with fail
        go_roundw
        case rel => exact ⟨i + 1, by go_num, by omega, by rw [← HE.out]; exact X.out, HB.out⟩
        case measure => simp [intOf] <;> omega
      by_cases c10 : x = 10
      · have IX : Hid (idxm x = 2) := by show _ = _; rw [c10]; rfl
        have IW := Lib.hid (atw_2)
        have IW2 := IW.out
        have HE : Hid (acc ++ [92] ++ [110] = 34 :: qtb ((bs9 s).take (i + 1))) := by show _ = _; rw [HT.out, c10]; exact List.append_assoc _ _ _
        clear c10 c34 c92 
        go_wp2_with fail
        refine (idxm_is hx2 IX.out _).mono ?_; rintro e w1 ⟨rfl, hw⟩; obtain rfl := hw.symm
        go_wp2_with fail
        refine (wrb_is (x := 92) X.out (by have := HQ.out; omega) HB.out.size).mono ?_; rintro e w2 ⟨rfl, h2, hb2⟩
        replace X := Lib.hid h2
        replace HB := Lib.hid (HB.out.trans hb2)
        clear h2 hb2
        go_wp2_with fail
        refine (wrb_is (x := 110) X.out (by have := HQ.out; rw [List.length_append]; simp; omega) HB.out.size).mono ?_; rintro e w2 ⟨rfl, h2, hb2⟩
        replace X := Lib.hid h2
        replace HB := Lib.hid (HB.out.trans hb2)
        clear h2 hb2
        go_wp2_with fail
        go_roundw
        case rel => exact ⟨i + 1, by go_num, by omega, by rw [← HE.out]; exact X.out, HB.out⟩
        case measure => simp [intOf] <;> omega
      by_cases c9 : x = 9
      · have IX : Hid (idxm x = 3) := by show _ = _; rw [c9]; rfl
        have IW := Lib.hid (atw_3)
        have IW2 := IW.out
        have HE : Hid (acc ++ [92] ++ [116] = 34 :: qtb ((bs9 s).take (i + 1))) := by show _ = _; rw [HT.out, c9]; exact List.append_assoc _ _ _
        clear c9 c34 c92 c10 
        go_wp2_with fail
        refine (idxm_is hx2 IX.out _).mono ?_; rintro e w1 ⟨rfl, hw⟩; obtain rfl := hw.symm
        go_wp2_with fail
        refine (wrb_is (x := 92) X.out (by have := HQ.out; omega) HB.out.size).mono ?_; rintro e w2 ⟨rfl, h2, hb2⟩
        replace X := Lib.hid h2
        replace HB := Lib.hid (HB.out.trans hb2)
        clear h2 hb2
        go_wp2_with fail
        refine (wrb_is (x := 116) X.out (by have := HQ.out; rw [List.length_append]; simp; omega) HB.out.size).mono ?_; rintro e w2 ⟨rfl, h2, hb2⟩
        replace X := Lib.hid h2
        replace HB := Lib.hid (HB.out.trans hb2)
        clear h2 hb2
        go_wp2_with fail
        go_roundw
        case rel => exact ⟨i + 1, by go_num, by omega, by rw [← HE.out]; exact X.out, HB.out⟩
        case measure => simp [intOf] <;> omega
      have IX : Hid (idxm x = -1) := by show _ = _; unfold idxm; rw [if_neg c34, if_neg c92, if_neg c10, if_neg c9]
      have HE : Hid (acc ++ [x] = 34 :: qtb ((bs9 s).take (i + 1))) := by show _ = _; rw [HT.out, (esc_at (x := x)).2.2.2.2 c34 c92 c10 c9]
      clear c34 c92 c10 c9
      go_wp2_with fail
      refine (idxm_is hx2 IX.out _).mono ?_; rintro e w1 ⟨rfl, hw⟩; obtain rfl := hw.symm
      go_wp2_with fail
      refine (wrb_is (x := x) X.out (by have := HQ.out; omega) HB.out.size).mono ?_; rintro e w2 ⟨rfl, h2, hb2⟩
      replace X := Lib.hid h2
      replace HB := Lib.hid (HB.out.trans hb2)
      clear h2 hb2
      go_wp2_with fail
      go_roundw
      case rel => exact ⟨i + 1, by go_num, by omega, by rw [← HE.out]; exact X.out, HB.out⟩
      case measure => simp [intOf] <;> omega
    · have HE : Hid (34 :: qtb ((bs9 s).take i) ++ [34] = bs9 X0) := by show _ = _; rw [← H.out, List.take_of_length_le (by rw [bs9_len]; exact hge)]; rfl
      go_wp2_with fail
      refine (wrb_is (x := 34) X.out (by have := HQ.out; omega) HB.out.size).mono ?_; rintro e w2 ⟨rfl, h2, hb2⟩
      replace X := Lib.hid h2
      replace HB := Lib.hid (HB.out.trans hb2)
      clear h2 hb2
      go_wp2_with fail
      refine (bst_is X.out HE.out HB.out.size).mono ?_; rintro e w3 ⟨rfl, hb2⟩
      replace HB := Lib.hid (HB.out.trans hb2)
      clear hb2
      go_wp2_with fail
      go_ret
      exact ⟨rfl, HB.out⟩

set_option maxHeartbeats 4000000 in
set_option maxRecDepth 100000 in
theorem lexunquote_is {s X0 : ByteArray} {n e0 : Nat} (h : uqv (bs9 s) = (bs9 X0, n, e0)) (hs : s.size ≤ 1000) (w : World) : Calls Tryd.prog 9 #[.string s] w (Ret9 w (.tuple #[.string X0, .int .i64 (n : Int), .int .i64 (e0 : Int)])) := by
  have H := Lib.hid h
  clear h
  have out : Hid (∀ {Y : ByteArray} {m d : Nat}, uqv (bs9 s) = (bs9 Y, m, d) → Ending.returned (.tuple #[.string Y, .int .i64 (m : Int), .int .i64 (d : Int)]) = .returned (.tuple #[.string X0, .int .i64 (n : Int), .int .i64 (e0 : Int)])) := fun {Y m d} h => by
    rw [H.out] at h
    have h1 := congrArg Prod.fst h
    have h2 := congrArg (fun p => p.2.1) h
    have h3 := congrArg (fun p => p.2.2) h
    have e1 : X0 = Y := bs9_inj h1
    have e2 : n = m := h2
    have e3 : e0 = d := h3
    rw [e1, e2, e3]
  rcases Nat.eq_zero_or_pos s.size with h0 | h0
  · have d := str_emp h0
    have E : Hid (uqv (bs9 s) = (bs9 ⟨#[]⟩, 0, 1)) := uqv_no (.inl h0)
    go_enter Tryd.func9, Tryd.ntmps9
    go_wp2_with fail
    go_ret3
    exact ⟨out.out E.out, Below.refl _ _⟩
  have d := str_ne h0
  obtain ⟨x0, hx0⟩ : ∃ x, x = (s[0]'h0).toNat := ⟨_, rfl⟩
  have ex0 : ((s[0]'h0).toNat : Int) = (x0 : Int) := by rw [hx0]
  rcases Nat.decEq x0 34 with h34 | h34
  · have d2 : ((x0 : Int) != 34) = true := by rw [bne_iff_ne]; omega
    have E : Hid (uqv (bs9 s) = (bs9 ⟨#[]⟩, 0, 1)) := uqv_no (.inr ⟨h0, by rw [← hx0]; exact h34⟩)
    clear h34 hx0
    go_enter Tryd.func9, Tryd.ntmps9
    go_wp2_with fail
    go_ret3
    exact ⟨out.out E.out, Below.refl _ _⟩
  have d2 : ((x0 : Int) != 34) = false := by rw [h34]; rfl
  have S0 : Hid (uqv (bs9 s) = cmb [] 1 (uqg ((bs9 s).drop 1))) := uqv_start h0 (by rw [← hx0]; exact h34)
  clear h34 hx0
  go_enter Tryd.func9, Tryd.ntmps9
  go_wp2_with fail
  generalize hW : World.alloc w _ = W0
  have HB : Hid (Below w.heap.size w W0) := by show Below _ _ _; rw [← hW]; exact (Below.refl _ _).alloc (Nat.le_refl _) _
  have X : Hid (Bld w.heap.size [] W0) := by show Lib.IsBuilder _ _ _ _ _ _; rw [← hW]; exact Lib.fresh_isBuilder _ _ _
  clear hW
  go_loopw [6] (fun iv wr => ∃ (acc : List Nat) (i : Nat), iv = .int .i64 i ∧ i ≤ s.size ∧ uqv (bs9 s) = cmb acc i (uqg ((bs9 s).drop i)) ∧ acc.length ≤ i ∧ (∀ c ∈ acc, c < 256) ∧ Bld w.heap.size acc wr ∧ Below w.heap.size w wr) (fun iv _ => s.size - (intOf iv).toNat)
  case atStart => exact ⟨[], 1, rfl, h0, S0.out, Nat.zero_le _, (fun c hc => by cases hc), X.out, HB.out⟩
  case round =>
    obtain ⟨acc, i, rfl, hi, hO, hOs, hlt2, hx, hb⟩ := hrel
    clear X HB
    have X := Lib.hid hx
    have HB := Lib.hid hb
    have HO := Lib.hid hO
    have LT := Lib.hid hlt2
    have AL := Lib.hid hOs
    clear hO S0 hx hb hlt2 hOs
    rcases Nat.lt_or_ge i s.size with hlt | hge
    · obtain ⟨x, hx⟩ : ∃ x, x = (s[i]'hlt).toNat := ⟨_, rfl⟩
      have ex : ((s[i]'hlt).toNat : Int) = (x : Int) := by rw [hx]
      have hx2 : Hid (x < 256) := by show x < 256; rw [hx]; exact UInt8.toNat_lt _
      have HD : Hid ((bs9 s).drop i = x :: (bs9 s).drop (i + 1)) := by show _ = _; rw [bs9_get s i hlt, hx]
      obtain ⟨i1, hi1⟩ : ∃ i1, i1 = i + 1 := ⟨_, rfl⟩
      have ei : (i : Int) + 1 = (i1 : Int) := by omega
      have hi1s : i1 ≤ s.size := by omega
      clear hx
      by_cases k34 : x = 34
      · have d34 : ((x : Int) == 34) = true := by rw [k34]; rfl
        obtain ⟨Z, hZ⟩ : ∃ Z, acc = bs9 Z := ⟨st9 acc, (bs9_st9 LT.out).symm⟩
        have HZ := Lib.hid hZ
        have E : Hid (uqv (bs9 s) = (bs9 Z, i1, 0)) := by
          show _ = _
          rw [HO.out, HD.out, k34, uqg_end, hi1, ← hZ]
          show (acc ++ [], i + 1, 0) = _
          rw [List.append_nil]
        clear k34 hi1 hZ
        go_wp2_with fail
        refine (bst_is X.out HZ.out HB.out.size).mono ?_; rintro e w3 ⟨rfl, hb2⟩
        replace HB := Lib.hid (HB.out.trans hb2)
        clear hb2
        go_wp2_with fail
        go_ret3
        exact ⟨out.out E.out, HB.out⟩
      have d34 : ((x : Int) == 34) = false := by rw [beq_eq_false_iff_ne]; omega
      by_cases k92 : x = 92
      · have d92 : ((x : Int) == 92) = true := by rw [k92]; rfl
        rcases (Nat.lt_or_ge i1 s.size).symm with hge2 | hlt2
        · have dz : ((i1 : Int) == (s.size : Int)) = true := by rw [beq_iff_eq]; omega
          have E : Hid (uqv (bs9 s) = (bs9 ⟨#[]⟩, 0, 2)) := by
            show _ = _
            rw [HO.out, HD.out, k92, List.drop_of_length_le (show (bs9 s).length ≤ i + 1 by rw [bs9_len]; omega), uqg, if_neg (by decide)]; rfl
          clear k34 k92 hi1
          go_wp2_with fail
          go_ret3
          exact ⟨out.out E.out, HB.out⟩
        have dz : ((i1 : Int) == (s.size : Int)) = false := by rw [beq_eq_false_iff_ne]; omega
        obtain ⟨c, hc⟩ : ∃ c, c = (s[i1]'hlt2).toNat := ⟨_, rfl⟩
        have ec : ((s[i1]'hlt2).toNat : Int) = (c : Int) := by rw [hc]
        have hc2 : c < 256 := by rw [hc]; exact UInt8.toNat_lt _
        obtain ⟨i2, hi2⟩ : ∃ i2, i2 = i1 + 1 := ⟨_, rfl⟩
        have ei2 : (i1 : Int) + 1 = (i2 : Int) := by omega
        have hi2s : i2 ≤ s.size := by omega
        have HD2 : Hid ((bs9 s).drop i = 92 :: c :: (bs9 s).drop i2) := by show _ = _; rw [HD.out, k92, ← hi1, bs9_get s i1 hlt2, hc, hi2]
        have NEXT : Hid (∀ {d : Nat}, une c = some d → uqv (bs9 s) = cmb (acc ++ [d]) i2 (uqg ((bs9 s).drop i2))) := fun {d} hu => by
          rw [HO.out, HD2.out, uqg_esc hu, cmb_pre, hi2, hi1]
        have HI : Hid (i2 = i + 2) := by show _ = _; omega
        clear hc k34 k92 hi1 hi2
        by_cases c34 : c = 34
        · have IX : Hid (idxw c = 0) := by show _ = _; rw [c34]; rfl
          have IM := atm_0
          have HN := Lib.hid (NEXT.out (d := 34) (by rw [c34]; rfl))
          clear c34 
          go_wp2_with fail
          refine (idxw_is hc2 IX.out _).mono ?_; rintro e w1 ⟨rfl, hw⟩; obtain rfl := hw.symm
          go_wp2_with fail
          refine (wrb_is (x := 34) X.out (by have := AL.out; omega) HB.out.size).mono ?_; rintro e w2 ⟨rfl, h2, hb2⟩
          replace X := Lib.hid h2
          replace HB := Lib.hid (HB.out.trans hb2)
          clear h2 hb2
          go_wp2_with fail
          go_roundw
          case rel => exact ⟨acc ++ [34], i2, by first | rfl | go_num, hi2s, HN.out, by have := AL.out; have := HI.out; rw [List.length_append]; simp; omega, lt_app LT.out (by decide), X.out, HB.out⟩
          case measure => have := HI.out; simp [intOf] <;> omega
        by_cases c92 : c = 92
        · have IX : Hid (idxw c = 1) := by show _ = _; rw [c92]; rfl
          have IM := atm_1
          have HN := Lib.hid (NEXT.out (d := 92) (by rw [c92]; rfl))
          clear c92 c34 
          go_wp2_with fail
          refine (idxw_is hc2 IX.out _).mono ?_; rintro e w1 ⟨rfl, hw⟩; obtain rfl := hw.symm
          go_wp2_with fail
          refine (wrb_is (x := 92) X.out (by have := AL.out; omega) HB.out.size).mono ?_; rintro e w2 ⟨rfl, h2, hb2⟩
          replace X := Lib.hid h2
          replace HB := Lib.hid (HB.out.trans hb2)
          clear h2 hb2
          go_wp2_with fail
          go_roundw
          case rel => exact ⟨acc ++ [92], i2, by first | rfl | go_num, hi2s, HN.out, by have := AL.out; have := HI.out; rw [List.length_append]; simp; omega, lt_app LT.out (by decide), X.out, HB.out⟩
          case measure => have := HI.out; simp [intOf] <;> omega
        by_cases c110 : c = 110
        · have IX : Hid (idxw c = 2) := by show _ = _; rw [c110]; rfl
          have IM := atm_2
          have HN := Lib.hid (NEXT.out (d := 10) (by rw [c110]; rfl))
          clear c110 c34 c92 
          go_wp2_with fail
          refine (idxw_is hc2 IX.out _).mono ?_; rintro e w1 ⟨rfl, hw⟩; obtain rfl := hw.symm
          go_wp2_with fail
          refine (wrb_is (x := 10) X.out (by have := AL.out; omega) HB.out.size).mono ?_; rintro e w2 ⟨rfl, h2, hb2⟩
          replace X := Lib.hid h2
          replace HB := Lib.hid (HB.out.trans hb2)
          clear h2 hb2
          go_wp2_with fail
          go_roundw
          case rel => exact ⟨acc ++ [10], i2, by first | rfl | go_num, hi2s, HN.out, by have := AL.out; have := HI.out; rw [List.length_append]; simp; omega, lt_app LT.out (by decide), X.out, HB.out⟩
          case measure => have := HI.out; simp [intOf] <;> omega
        by_cases c116 : c = 116
        · have IX : Hid (idxw c = 3) := by show _ = _; rw [c116]; rfl
          have IM := atm_3
          have HN := Lib.hid (NEXT.out (d := 9) (by rw [c116]; rfl))
          clear c116 c34 c92 c110 
          go_wp2_with fail
          refine (idxw_is hc2 IX.out _).mono ?_; rintro e w1 ⟨rfl, hw⟩; obtain rfl := hw.symm
          go_wp2_with fail
          refine (wrb_is (x := 9) X.out (by have := AL.out; omega) HB.out.size).mono ?_; rintro e w2 ⟨rfl, h2, hb2⟩
          replace X := Lib.hid h2
          replace HB := Lib.hid (HB.out.trans hb2)
          clear h2 hb2
          go_wp2_with fail
          go_roundw
          case rel => exact ⟨acc ++ [9], i2, by first | rfl | go_num, hi2s, HN.out, by have := AL.out; have := HI.out; rw [List.length_append]; simp; omega, lt_app LT.out (by decide), X.out, HB.out⟩
          case measure => have := HI.out; simp [intOf] <;> omega
        have IX : Hid (idxw c = -1) := by show _ = _; unfold idxw; rw [if_neg c34, if_neg c92, if_neg c110, if_neg c116]
        have E : Hid (uqv (bs9 s) = (bs9 ⟨#[]⟩, 0, 3)) := by
          show _ = _
          rw [HO.out, HD2.out, uqg_none (by unfold une; rw [if_neg c34, if_neg c92, if_neg c110, if_neg c116])]; rfl
        clear c34 c92 c110 c116
        go_wp2_with fail
        refine (idxw_is hc2 IX.out _).mono ?_; rintro e w1 ⟨rfl, hw⟩; obtain rfl := hw.symm
        go_wp2_with fail
        go_ret3
        exact ⟨out.out E.out, HB.out⟩
      have d92 : ((x : Int) == 92) = false := by rw [beq_eq_false_iff_ne]; omega
      have HN : Hid (uqv (bs9 s) = cmb (acc ++ [x]) i1 (uqg ((bs9 s).drop i1))) := by show _ = _; rw [HO.out, HD.out, uqg_byte k34 k92, cmb_pre, hi1]
      have HI : Hid (i1 = i + 1) := hi1
      clear k34 k92 hi1
      go_wp2_with fail
      refine (wrb_is (x := x) X.out (by have := AL.out; omega) HB.out.size).mono ?_; rintro e w2 ⟨rfl, h2, hb2⟩
      replace X := Lib.hid h2
      replace HB := Lib.hid (HB.out.trans hb2)
      clear h2 hb2
      go_wp2_with fail
      go_roundw
      case rel => exact ⟨acc ++ [x], i1, by first | rfl | go_num, hi1s, HN.out, by have := AL.out; have := HI.out; rw [List.length_append]; simp; omega, lt_app LT.out hx2.out, X.out, HB.out⟩
      case measure => have := HI.out; simp [intOf] <;> omega
    · have E : Hid (uqv (bs9 s) = (bs9 ⟨#[]⟩, 0, 2)) := by show _ = _; rw [HO.out, List.drop_of_length_le (by rw [bs9_len]; exact hge), uqg]; rfl
      go_wp2_with fail
      go_ret3
      exact ⟨out.out E.out, HB.out⟩

end Go.Proofs.YtjkandnbjbfeiaaDoor

/-
  Contracts of layer 12, the program's own lex, the fifth part: Text.
-/
namespace Go.Proofs.YtjkandnbjbfeiaaDoor
open Go.RowKit

set_option maxHeartbeats 4000000 in
set_option maxRecDepth 100000 in
theorem lextxt_is {k : Nat} {X Y : ByteArray} (h : txt k (bs9 X) = bs9 Y) (hX : X.size ≤ 1000) (l c : Int) (w : World) : Calls Tryd.prog 7 #[.agg #[.int .i64 (k : Int), .string X, .int .i64 l, .int .i64 c]] w (Ret9 w (.string Y)) := by
  have H := Lib.hid h
  clear h
  have HB : Hid (Below w.heap.size w (w.alloc (.cells #[.int .i64 (k : Int), .string X, .int .i64 l, .int .i64 c] 35))) := (Below.refl _ _).alloc (Nat.le_refl _) _
  by_cases k5 : k = 5
  · have d5 : ((k : Int) == 5) = true := by rw [k5]; rfl
    have E : Hid (qt (bs9 X) = bs9 Y) := by show _ = _; rw [← H.out, k5]; rfl
    clear k5
    go_enter Tryd.func7, Tryd.ntmps7
    go_wp2_with fail
    refine (lexquote_is E.out hX _).mono ?_; rintro e w4 ⟨rfl, hb⟩; replace HB := Lib.hid (HB.out.trans (hb.mono HB.out.size)); clear hb
    go_wp2_with fail
    go_ret
    exact ⟨rfl, HB.out⟩
  have d5 : ((k : Int) == 5) = false := by rw [beq_eq_false_iff_ne]; omega
  by_cases k6 : k = 6
  · have d6 : ((k : Int) == 6) = true := by rw [k6]; rfl
    have E : Hid (35 :: bs9 X = bs9 Y) := by show _ = _; rw [← H.out, k6]; rfl
    have hadd : ∀ w, (Op.stringOp .add ⟨#[35]⟩ X).run Tryd.prog w = .ok (.string Y) w := fun w => add9 (by rw [← E.out]; rfl) (by show 1 + X.size ≤ _; omega) w
    clear k6
    go_enter Tryd.func7, Tryd.ntmps7
    go_wp2_with fail
    go_ret
    exact ⟨rfl, HB.out⟩
  have d6 : ((k : Int) == 6) = false := by rw [beq_eq_false_iff_ne]; omega
  by_cases k7 : k = 7
  · have d7 : ((k : Int) == 7) = true := by rw [k7]; rfl
    have E : Hid (94 :: bs9 X = bs9 Y) := by show _ = _; rw [← H.out, k7]; rfl
    have hadd : ∀ w, (Op.stringOp .add ⟨#[94]⟩ X).run Tryd.prog w = .ok (.string Y) w := fun w => add9 (by rw [← E.out]; rfl) (by show 1 + X.size ≤ _; omega) w
    clear k7
    go_enter Tryd.func7, Tryd.ntmps7
    go_wp2_with fail
    go_ret
    exact ⟨rfl, HB.out⟩
  have d7 : ((k : Int) == 7) = false := by rw [beq_eq_false_iff_ne]; omega
  by_cases k9 : k = 9
  · have d9 : ((k : Int) == 9) = true := by rw [k9]; rfl
    have E : Hid (bs9 X ++ [58] = bs9 Y) := by show _ = _; rw [← H.out, k9]; rfl
    have hadd : ∀ w, (Op.stringOp .add X ⟨#[58]⟩).run Tryd.prog w = .ok (.string Y) w := fun w => add9 (by rw [← E.out]; rfl) (by show X.size + 1 ≤ _; omega) w
    clear k9
    go_enter Tryd.func7, Tryd.ntmps7
    go_wp2_with fail
    go_ret
    exact ⟨rfl, HB.out⟩
  have d9 : ((k : Int) == 9) = false := by rw [beq_eq_false_iff_ne]; omega
  have E : Hid (X = Y) := bs9_inj (by rw [← H.out]; unfold txt; rw [if_neg k5, if_neg k6, if_neg k7, if_neg k9])
  clear k5 k6 k7 k9
  go_enter Tryd.func7, Tryd.ntmps7
  go_wp2_with fail
  go_ret
  exact ⟨by rw [← E.out]; rfl, HB.out⟩

end Go.Proofs.YtjkandnbjbfeiaaDoor
