/- What the proofs of this layer need of the layer Lex, in one text. -/
import Derived.Test.YtjkandnbjbfeiaaGreatDoorAllLexMathA
set_option linter.unusedVariables false
set_option linter.unusedSimpArgs false

/-
  Contracts of layer 12: the document's Quote and Unquote.
-/
namespace Go.Proofs.YtjkandnbjbfeiaaGreatDoor
open Go.RowKit

set_option maxHeartbeats 1000000 in
theorem up12 {x : Nat} {b : Bool} (h : upB x = b) (w : World) : Calls Tryz.prog 34 #[.int .u8 (x : Int)] w (fun e w' => e = .returned (.bool b) ∧ w' = w) := by
  have H := Lib.hid h
  clear h
  rcases Nat.lt_or_ge x 65 with h1 | h1
  · have E : Hid (false = b) := by show _ = _; rw [← H.out]; unfold upB; rw [decide_eq_false (by omega)]; rfl
    go_enter Tryz.func34, Tryz.ntmps34
    go_wp2_with fail
    go_ret
    exact ⟨rb9 E.out, rfl⟩
  · have E : Hid (decide ((x : Int) ≤ 90) = b) := by show _ = _; rw [← H.out]; unfold upB; rw [decide_eq_true h1, Bool.true_and]; exact decide_eq_decide.2 (by omega)
    go_enter Tryz.func34, Tryz.ntmps34
    go_wp2_with fail
    go_ret
    exact ⟨rb9 E.out, rfl⟩
set_option maxHeartbeats 1000000 in
theorem lw12 {x : Nat} {b : Bool} (h : lwB x = b) (w : World) : Calls Tryz.prog 37 #[.int .u8 (x : Int)] w (fun e w' => e = .returned (.bool b) ∧ w' = w) := by
  have H := Lib.hid h
  clear h
  rcases Nat.lt_or_ge x 97 with h1 | h1
  · have E : Hid (false = b) := by show _ = _; rw [← H.out]; unfold lwB; rw [decide_eq_false (by omega)]; rfl
    go_enter Tryz.func37, Tryz.ntmps37
    go_wp2_with fail
    go_ret
    exact ⟨rb9 E.out, rfl⟩
  · have E : Hid (decide ((x : Int) ≤ 122) = b) := by show _ = _; rw [← H.out]; unfold lwB; rw [decide_eq_true h1, Bool.true_and]; exact decide_eq_decide.2 (by omega)
    go_enter Tryz.func37, Tryz.ntmps37
    go_wp2_with fail
    go_ret
    exact ⟨rb9 E.out, rfl⟩
set_option maxHeartbeats 1000000 in
theorem dg12 {x : Nat} {b : Bool} (h : dgB x = b) (w : World) : Calls Tryz.prog 32 #[.int .u8 (x : Int)] w (fun e w' => e = .returned (.bool b) ∧ w' = w) := by
  have H := Lib.hid h
  clear h
  rcases Nat.lt_or_ge x 48 with h1 | h1
  · have E : Hid (false = b) := by show _ = _; rw [← H.out]; unfold dgB; rw [decide_eq_false (by omega)]; rfl
    go_enter Tryz.func32, Tryz.ntmps32
    go_wp2_with fail
    go_ret
    exact ⟨rb9 E.out, rfl⟩
  · have E : Hid (decide ((x : Int) ≤ 57) = b) := by show _ = _; rw [← H.out]; unfold dgB; rw [decide_eq_true h1, Bool.true_and]; exact decide_eq_decide.2 (by omega)
    go_enter Tryz.func32, Tryz.ntmps32
    go_wp2_with fail
    go_ret
    exact ⟨rb9 E.out, rfl⟩
theorem one_at {s : ByteArray} {i : Nat} (h : i < s.size) : ∃ X, s.extract i (i + 1) = X ∧ bs9 X = [(s[i]'h).toNat] ∧ X.size = 1 := by
  have e : bs9 (s.extract i (i + 1)) = [(s[i]'h).toNat] := by
    rw [bs9_extract, bs9_get s i h, show i + 1 - i = 1 by omega]; rfl
  exact ⟨_, rfl, e, by rw [← bs9_len, e]; rfl⟩
theorem qtb_push (l : List Nat) (x : Nat) : qtb (l ++ [x]) = qtb l ++ esc x := by unfold qtb; rw [List.flatMap_append, List.flatMap_singleton]
theorem esc_len (x : Nat) : (esc x).length ≤ 2 := by unfold esc; (repeat' split) <;> simp
set_option maxHeartbeats 4000000 in
set_option maxRecDepth 100000 in
theorem refquote_is {s X : ByteArray} (h : qt (bs9 s) = bs9 X) (hs : s.size ≤ 1000000) (w : World) : Calls Tryz.prog 15 #[.string s] w (fun e w' => e = .returned (.string X) ∧ w' = w) := by
  have H := Lib.hid h
  clear h
  go_enter Tryz.func15, Tryz.ntmps15
  go_wp2_with fail
  go_loopw [3, 7] (fun ov iv wr => ∃ (O : ByteArray) (i : Nat), ov = .string O ∧ iv = .int .i64 i ∧ i ≤ s.size ∧ bs9 O = 34 :: qtb ((bs9 s).take i) ∧ O.size ≤ 2 * i + 1 ∧ wr = w) (fun _ iv _ => s.size - (intOf iv).toNat)
  case atStart => exact ⟨⟨#[34]⟩, 0, rfl, rfl, Nat.zero_le _, rfl, Nat.le_refl _, rfl⟩
  case round =>
    obtain ⟨O, i, rfl, rfl, hi, hO, hOs, rfl⟩ := hrel
    have HO := Lib.hid hO
    clear hO
    rcases Nat.lt_or_ge i s.size with hlt | hge
    · obtain ⟨x, hx⟩ : ∃ x, x = (s[i]'hlt).toNat := ⟨_, rfl⟩
      have ex : ((s[i]'hlt).toNat : Int) = (x : Int) := by rw [hx]
      have HX : Hid ((bs9 s)[i]? = some x) := by show _ = _; rw [bs9_at s i hlt, hx]
      obtain ⟨X1, hX1, hXb, hXs⟩ := one_at hlt
      rw [← hx] at hXb
      obtain ⟨i1, hi1⟩ : ∃ i1, i1 = i + 1 := ⟨_, rfl⟩
      have ei : (i : Int) + 1 = (i1 : Int) := by omega
      have hsl : ∀ w', (Instr.slice 9 (.string s) (some (.int .i64 (i : Int))) (some (.int .i64 (i1 : Int))) none).run Tryz.prog w' = .ok (.string X1) w' := sl_both (by omega) (by omega) (by rw [hi1]; exact hX1)
      have HT : Hid (qtb ((bs9 s).take i1) = qtb ((bs9 s).take i) ++ esc x) := by show _ = _; rw [hi1, List.take_add_one, HX.out]; exact qtb_push _ _
      have HXB := Lib.hid hXb
      clear hx hX1 hXb
      by_cases h34 : x = 34
      · have d34 : ((x : Int) == 34) = true := by rw [h34]; rfl
        obtain ⟨Z, hZ⟩ : ∃ Z, O ++ ⟨#[92, 34]⟩ = Z := ⟨_, rfl⟩
        have hadd : ∀ w, (Op.stringOp .add O ⟨#[92, 34]⟩).run Tryz.prog w = .ok (.string Z) w := fun w => add9 (by rw [← bs9_append, hZ]) (by show O.size + 2 ≤ _; omega) w
        have HZ : Hid (bs9 Z = 34 :: qtb ((bs9 s).take i1) ∧ Z.size ≤ 2 * i1 + 1) := by
          have e : bs9 Z = 34 :: qtb ((bs9 s).take i1) := by rw [← hZ, bs9_append, HO.out, HT.out, h34]; rfl
          exact ⟨e, by rw [← hZ]; show (O ++ ⟨#[92, 34]⟩).size ≤ _; rw [ByteArray.size_append]; show O.size + 2 ≤ _; omega⟩
        have HI : Hid (i1 = i + 1) := hi1
        clear h34 hZ hi1
        go_wp2_with fail
        go_roundw
        case rel => exact ⟨Z, i1, rfl, by first | rfl | go_num, by have := HI.out; omega, HZ.out.1, HZ.out.2, trivial⟩
        case measure => have := HI.out; simp [intOf] <;> omega
      have d34 : ((x : Int) == 34) = false := by rw [beq_eq_false_iff_ne]; omega
      by_cases h92 : x = 92
      · have d92 : ((x : Int) == 92) = true := by rw [h92]; rfl
        obtain ⟨Z, hZ⟩ : ∃ Z, O ++ ⟨#[92, 92]⟩ = Z := ⟨_, rfl⟩
        have hadd : ∀ w, (Op.stringOp .add O ⟨#[92, 92]⟩).run Tryz.prog w = .ok (.string Z) w := fun w => add9 (by rw [← bs9_append, hZ]) (by show O.size + 2 ≤ _; omega) w
        have HZ : Hid (bs9 Z = 34 :: qtb ((bs9 s).take i1) ∧ Z.size ≤ 2 * i1 + 1) := by
          have e : bs9 Z = 34 :: qtb ((bs9 s).take i1) := by rw [← hZ, bs9_append, HO.out, HT.out, h92]; rfl
          exact ⟨e, by rw [← hZ]; show (O ++ ⟨#[92, 92]⟩).size ≤ _; rw [ByteArray.size_append]; show O.size + 2 ≤ _; omega⟩
        have HI : Hid (i1 = i + 1) := hi1
        clear h92 hZ hi1
        go_wp2_with fail
        go_roundw
        case rel => exact ⟨Z, i1, rfl, by first | rfl | go_num, by have := HI.out; omega, HZ.out.1, HZ.out.2, trivial⟩
        case measure => have := HI.out; simp [intOf] <;> omega
      have d92 : ((x : Int) == 92) = false := by rw [beq_eq_false_iff_ne]; omega
      by_cases h10 : x = 10
      · have d10 : ((x : Int) == 10) = true := by rw [h10]; rfl
        obtain ⟨Z, hZ⟩ : ∃ Z, O ++ ⟨#[92, 110]⟩ = Z := ⟨_, rfl⟩
        have hadd : ∀ w, (Op.stringOp .add O ⟨#[92, 110]⟩).run Tryz.prog w = .ok (.string Z) w := fun w => add9 (by rw [← bs9_append, hZ]) (by show O.size + 2 ≤ _; omega) w
        have HZ : Hid (bs9 Z = 34 :: qtb ((bs9 s).take i1) ∧ Z.size ≤ 2 * i1 + 1) := by
          have e : bs9 Z = 34 :: qtb ((bs9 s).take i1) := by rw [← hZ, bs9_append, HO.out, HT.out, h10]; rfl
          exact ⟨e, by rw [← hZ]; show (O ++ ⟨#[92, 110]⟩).size ≤ _; rw [ByteArray.size_append]; show O.size + 2 ≤ _; omega⟩
        have HI : Hid (i1 = i + 1) := hi1
        clear h10 hZ hi1
        go_wp2_with fail
        go_roundw
        case rel => exact ⟨Z, i1, rfl, by first | rfl | go_num, by have := HI.out; omega, HZ.out.1, HZ.out.2, trivial⟩
        case measure => have := HI.out; simp [intOf] <;> omega
      have d10 : ((x : Int) == 10) = false := by rw [beq_eq_false_iff_ne]; omega
      by_cases h9 : x = 9
      · have d9 : ((x : Int) == 9) = true := by rw [h9]; rfl
        obtain ⟨Z, hZ⟩ : ∃ Z, O ++ ⟨#[92, 116]⟩ = Z := ⟨_, rfl⟩
        have hadd : ∀ w, (Op.stringOp .add O ⟨#[92, 116]⟩).run Tryz.prog w = .ok (.string Z) w := fun w => add9 (by rw [← bs9_append, hZ]) (by show O.size + 2 ≤ _; omega) w
        have HZ : Hid (bs9 Z = 34 :: qtb ((bs9 s).take i1) ∧ Z.size ≤ 2 * i1 + 1) := by
          have e : bs9 Z = 34 :: qtb ((bs9 s).take i1) := by rw [← hZ, bs9_append, HO.out, HT.out, h9]; rfl
          exact ⟨e, by rw [← hZ]; show (O ++ ⟨#[92, 116]⟩).size ≤ _; rw [ByteArray.size_append]; show O.size + 2 ≤ _; omega⟩
        have HI : Hid (i1 = i + 1) := hi1
        clear h9 hZ hi1
        go_wp2_with fail
        go_roundw
        case rel => exact ⟨Z, i1, rfl, by first | rfl | go_num, by have := HI.out; omega, HZ.out.1, HZ.out.2, trivial⟩
        case measure => have := HI.out; simp [intOf] <;> omega
      have d9 : ((x : Int) == 9) = false := by rw [beq_eq_false_iff_ne]; omega
      obtain ⟨Z, hZ⟩ : ∃ Z, O ++ X1 = Z := ⟨_, rfl⟩
      have hadd : ∀ w, (Op.stringOp .add O X1).run Tryz.prog w = .ok (.string Z) w := fun w => add9 (by rw [← bs9_append, hZ]) (by omega) w
      have HZ : Hid (bs9 Z = 34 :: qtb ((bs9 s).take i1) ∧ Z.size ≤ 2 * i1 + 1) := by
        have e : bs9 Z = 34 :: qtb ((bs9 s).take i1) := by
          rw [← hZ, bs9_append, HO.out, HT.out, HXB.out]
          unfold esc
          rw [if_neg h34, if_neg h92, if_neg h10, if_neg h9]; rfl
        exact ⟨e, by rw [← hZ, ByteArray.size_append]; omega⟩
      have HI : Hid (i1 = i + 1) := hi1
      clear h34 h92 h10 h9 hZ hi1
      go_wp2_with fail
      go_roundw
      case rel => exact ⟨Z, i1, rfl, by first | rfl | go_num, by have := HI.out; omega, HZ.out.1, HZ.out.2, trivial⟩
      case measure => have := HI.out; simp [intOf] <;> omega
    · obtain ⟨Z, hZ⟩ : ∃ Z, O ++ ⟨#[34]⟩ = Z := ⟨_, rfl⟩
      have hadd : ∀ w, (Op.stringOp .add O ⟨#[34]⟩).run Tryz.prog w = .ok (.string Z) w := fun w => add9 (by rw [← bs9_append, hZ]) (by show O.size + 1 ≤ _; omega) w
      have E : Hid (Z = X) := bs9_inj (by
        rw [← hZ, bs9_append, HO.out, ← H.out, List.take_of_length_le (by rw [bs9_len]; exact hge)]; rfl)
      clear hZ
      go_wp2_with fail
      go_ret
      exact ⟨by rw [E.out]; rfl, rfl⟩

/-- What Unquote answers: the text, how many bytes, the error. -/
def uqv : List Nat → List Nat × Nat × Nat
  | [] => ([], 0, 1)
  | c :: t => if c = 34 then (match uqg t with | .inl e => ([], 0, e) | .inr (o, n) => (o, n + 1, 0)) else ([], 0, 1)
/-- What was unquoted up to i, and what is behind. -/
def cmb (o : List Nat) (i : Nat) : Nat ⊕ (List Nat × Nat) → List Nat × Nat × Nat
  | .inl e => ([], 0, e)
  | .inr (o', n') => (o ++ o', i + n', 0)
theorem cmb_pre (o : List Nat) (i k d : Nat) (u : Nat ⊕ (List Nat × Nat)) : cmb o i (pre k d u) = cmb (o ++ [d]) (i + k) u := by
  cases u with
  | inl e => rfl
  | inr p =>
    obtain ⟨o', n'⟩ := p
    show (o ++ d :: o', i + (n' + k), 0) = (o ++ [d] ++ o', i + k + n', 0)
    rw [List.append_assoc, show i + (n' + k) = i + k + n' by omega]; rfl
theorem uqv_start {s : ByteArray} (h0 : 0 < s.size) (h : (s[0]'h0).toNat = 34) : uqv (bs9 s) = cmb [] 1 (uqg ((bs9 s).drop 1)) := by
  have e := bs9_get s 0 h0
  rw [List.drop_zero] at e
  rw [e, h, uqv, if_pos rfl]
  show _ = cmb [] 1 (uqg (bs9 s |>.drop 1))
  cases hu : uqg ((bs9 s).drop (0 + 1)) with
  | inl x =>
    have hu' : uqg ((bs9 s).drop 1) = .inl x := hu
    first | rfl | (rw [hu']; rfl)
  | inr p =>
    have hu' : uqg ((bs9 s).drop 1) = .inr p := hu
    obtain ⟨o', n'⟩ := p
    first | (show (o', n' + 1, 0) = ([] ++ o', 1 + n', 0); rw [Nat.add_comm]; rfl) | (rw [hu']; show (o', n' + 1, 0) = ([] ++ o', 1 + n', 0); rw [Nat.add_comm]; rfl)
theorem uqv_no {s : ByteArray} (h : s.size = 0 ∨ ∃ h0 : 0 < s.size, (s[0]'h0).toNat ≠ 34) : uqv (bs9 s) = ([], 0, 1) := by
  rcases h with h | ⟨h0, h⟩
  · rw [nil_of h]; rfl
  · have e := bs9_get s 0 h0
    rw [List.drop_zero] at e
    rw [e, uqv, if_neg h]

set_option maxHeartbeats 4000000 in
set_option maxRecDepth 100000 in
theorem refunquote_is {s X : ByteArray} {n e0 : Nat} (h : uqv (bs9 s) = (bs9 X, n, e0)) (hs : s.size ≤ 1000000) (w : World) : Calls Tryz.prog 10 #[.string s] w (fun e w' => e = .returned (.tuple #[.string X, .int .i64 (n : Int), .int .i64 (e0 : Int)]) ∧ w' = w) := by
  have H := Lib.hid h
  clear h
  have out : Hid (∀ {Y : ByteArray} {m d : Nat}, uqv (bs9 s) = (bs9 Y, m, d) → Ending.returned (.tuple #[.string Y, .int .i64 (m : Int), .int .i64 (d : Int)]) = .returned (.tuple #[.string X, .int .i64 (n : Int), .int .i64 (e0 : Int)])) := fun {Y m d} h => by
    rw [H.out] at h
    have h1 := congrArg Prod.fst h
    have h2 := congrArg (fun p => p.2.1) h
    have h3 := congrArg (fun p => p.2.2) h
    have e1 : X = Y := bs9_inj h1
    have e2 : n = m := h2
    have e3 : e0 = d := h3
    rw [e1, e2, e3]
  rcases Nat.eq_zero_or_pos s.size with h0 | h0
  · have d := str_emp h0
    have E : Hid (uqv (bs9 s) = (bs9 ⟨#[]⟩, 0, 1)) := uqv_no (.inl h0)
    go_enter Tryz.func10, Tryz.ntmps10
    go_wp2_with fail
    go_ret3
    exact ⟨out.out E.out, rfl⟩
  have d := str_ne h0
  obtain ⟨x0, hx0⟩ : ∃ x, x = (s[0]'h0).toNat := ⟨_, rfl⟩
  have ex0 : ((s[0]'h0).toNat : Int) = (x0 : Int) := by rw [hx0]
  rcases Nat.decEq x0 34 with h34 | h34
  · have d2 : ((x0 : Int) != 34) = true := by rw [bne_iff_ne]; omega
    have E : Hid (uqv (bs9 s) = (bs9 ⟨#[]⟩, 0, 1)) := uqv_no (.inr ⟨h0, by rw [← hx0]; exact h34⟩)
    clear h34 hx0
    go_enter Tryz.func10, Tryz.ntmps10
    go_wp2_with fail
    go_ret3
    exact ⟨out.out E.out, rfl⟩
  have d2 : ((x0 : Int) != 34) = false := by rw [h34]; rfl
  have S0 : Hid (uqv (bs9 s) = cmb [] 1 (uqg ((bs9 s).drop 1))) := uqv_start h0 (by rw [← hx0]; exact h34)
  clear h34 hx0
  go_enter Tryz.func10, Tryz.ntmps10
  go_wp2_with fail
  go_loopw [5, 6] (fun ov iv wr => ∃ (O : ByteArray) (i : Nat), ov = .string O ∧ iv = .int .i64 i ∧ i ≤ s.size ∧ uqv (bs9 s) = cmb (bs9 O) i (uqg ((bs9 s).drop i)) ∧ O.size ≤ i ∧ wr = w) (fun _ iv _ => s.size - (intOf iv).toNat)
  case atStart => exact ⟨⟨#[]⟩, 1, rfl, rfl, h0, S0.out, Nat.zero_le _, rfl⟩
  case round =>
    obtain ⟨O, i, rfl, rfl, hi, hO, hOs, rfl⟩ := hrel
    have HO := Lib.hid hO
    clear hO S0
    rcases Nat.lt_or_ge i s.size with hlt | hge
    · obtain ⟨x, hx⟩ : ∃ x, x = (s[i]'hlt).toNat := ⟨_, rfl⟩
      have ex : ((s[i]'hlt).toNat : Int) = (x : Int) := by rw [hx]
      have HD : Hid ((bs9 s).drop i = x :: (bs9 s).drop (i + 1)) := by show _ = _; rw [bs9_get s i hlt, hx]
      obtain ⟨X1, hX1, hXb, hXs⟩ := one_at hlt
      rw [← hx] at hXb
      obtain ⟨i1, hi1⟩ : ∃ i1, i1 = i + 1 := ⟨_, rfl⟩
      have ei : (i : Int) + 1 = (i1 : Int) := by omega
      have hi1s : i1 ≤ s.size := by omega
      have hsl : ∀ w', (Instr.slice 9 (.string s) (some (.int .i64 (i : Int))) (some (.int .i64 (i1 : Int))) none).run Tryz.prog w' = .ok (.string X1) w' := sl_both (by omega) (by omega) (by rw [hi1]; exact hX1)
      have HXB := Lib.hid hXb
      clear hx hX1 hXb
      by_cases k34 : x = 34
      · have d34 : ((x : Int) == 34) = true := by rw [k34]; rfl
        have E : Hid (uqv (bs9 s) = (bs9 O, i1, 0)) := by
          show _ = _
          rw [HO.out, HD.out, k34, uqg_end, hi1]
          show (bs9 O ++ [], i + 1, 0) = _
          rw [List.append_nil]
        clear k34 hi1
        go_wp2_with fail
        go_ret3
        exact ⟨out.out E.out, rfl⟩
      have d34 : ((x : Int) == 34) = false := by rw [beq_eq_false_iff_ne]; omega
      by_cases k92 : x = 92
      · have d92 : ((x : Int) == 92) = true := by rw [k92]; rfl
        rcases (Nat.lt_or_ge i1 s.size).symm with hge2 | hlt2
        · have dz : ((i1 : Int) == (s.size : Int)) = true := by rw [beq_iff_eq]; omega
          have E : Hid (uqv (bs9 s) = (bs9 ⟨#[]⟩, 0, 2)) := by
            show _ = _
            rw [HO.out, HD.out, k92, List.drop_of_length_le (show (bs9 s).length ≤ i + 1 by rw [bs9_len]; omega), uqg, if_neg (by decide)]; rfl
          clear k34 k92 hi1
          go_wp2_with fail
          go_ret3
          exact ⟨out.out E.out, rfl⟩
        have dz : ((i1 : Int) == (s.size : Int)) = false := by rw [beq_eq_false_iff_ne]; omega
        obtain ⟨c, hc⟩ : ∃ c, c = (s[i1]'hlt2).toNat := ⟨_, rfl⟩
        have ec : ((s[i1]'hlt2).toNat : Int) = (c : Int) := by rw [hc]
        obtain ⟨i2, hi2⟩ : ∃ i2, i2 = i1 + 1 := ⟨_, rfl⟩
        have ei2 : (i1 : Int) + 1 = (i2 : Int) := by omega
        have hi2s : i2 ≤ s.size := by omega
        have HD2 : Hid ((bs9 s).drop i = 92 :: c :: (bs9 s).drop i2) := by show _ = _; rw [HD.out, k92, ← hi1, bs9_get s i1 hlt2, hc, hi2]
        obtain ⟨X2, hX2, hXb2, hXs2⟩ := one_at hlt2
        rw [← hc] at hXb2
        have hsl2 : ∀ w', (Instr.slice 9 (.string s) (some (.int .i64 (i1 : Int))) (some (.int .i64 (i2 : Int))) none).run Tryz.prog w' = .ok (.string X2) w' := sl_both (by omega) (by omega) (by rw [hi2]; exact hX2)
        have HXB2 := Lib.hid hXb2
        have NEXT : Hid (∀ {Z : ByteArray} {d : Nat}, une c = some d → bs9 Z = bs9 O ++ [d] → uqv (bs9 s) = cmb (bs9 Z) i2 (uqg ((bs9 s).drop i2))) := fun {Z d} hu hZ => by
          rw [HO.out, HD2.out, uqg_esc hu, cmb_pre, hZ, hi2, hi1]
        have HI : Hid (i2 = i + 2) := by show _ = _; omega
        clear hc hX2 hXb2 k34 k92 hi1 hi2
        by_cases c34 : c = 34
        · have e34 : ((c : Int) == 34) = true := by rw [c34]; rfl
          obtain ⟨Z, hZ⟩ : ∃ Z, O ++ X2 = Z := ⟨_, rfl⟩
          have hadd : ∀ w, (Op.stringOp .add O X2).run Tryz.prog w = .ok (.string Z) w := fun w => add9 (by rw [← bs9_append, hZ]) (by omega) w
          have HN := Lib.hid (NEXT.out (Z := Z) (d := 34) (by rw [c34]; rfl) (by rw [← hZ, bs9_append, HXB2.out, c34]))
          have HZ : Hid (Z.size ≤ i2) := by show _ ≤ _; rw [← hZ, ByteArray.size_append]; have := HI.out; omega
          clear c34 hZ
          go_wp2_with fail
          go_roundw
          case rel => exact ⟨Z, i2, rfl, by first | rfl | go_num, hi2s, HN.out, HZ.out, trivial⟩
          case measure => have := HI.out; simp [intOf] <;> omega
        have e34 : ((c : Int) == 34) = false := by rw [beq_eq_false_iff_ne]; omega
        by_cases c92 : c = 92
        · have e92 : ((c : Int) == 92) = true := by rw [c92]; rfl
          obtain ⟨Z, hZ⟩ : ∃ Z, O ++ X2 = Z := ⟨_, rfl⟩
          have hadd : ∀ w, (Op.stringOp .add O X2).run Tryz.prog w = .ok (.string Z) w := fun w => add9 (by rw [← bs9_append, hZ]) (by omega) w
          have HN := Lib.hid (NEXT.out (Z := Z) (d := 92) (by rw [c92]; rfl) (by rw [← hZ, bs9_append, HXB2.out, c92]))
          have HZ : Hid (Z.size ≤ i2) := by show _ ≤ _; rw [← hZ, ByteArray.size_append]; have := HI.out; omega
          clear c92 hZ
          go_wp2_with fail
          go_roundw
          case rel => exact ⟨Z, i2, rfl, by first | rfl | go_num, hi2s, HN.out, HZ.out, trivial⟩
          case measure => have := HI.out; simp [intOf] <;> omega
        have e92 : ((c : Int) == 92) = false := by rw [beq_eq_false_iff_ne]; omega
        by_cases c110 : c = 110
        · have e110 : ((c : Int) == 110) = true := by rw [c110]; rfl
          obtain ⟨Z, hZ⟩ : ∃ Z, O ++ ⟨#[10]⟩ = Z := ⟨_, rfl⟩
          have hadd : ∀ w, (Op.stringOp .add O ⟨#[10]⟩).run Tryz.prog w = .ok (.string Z) w := fun w => add9 (by rw [← bs9_append, hZ]) (by show O.size + 1 ≤ _; omega) w
          have HN := Lib.hid (NEXT.out (Z := Z) (d := 10) (by rw [c110]; rfl) (by rw [← hZ, bs9_append]; rfl))
          have HZ : Hid (Z.size ≤ i2) := by show _ ≤ _; rw [← hZ, ByteArray.size_append]; have := HI.out; show O.size + 1 ≤ _; omega
          clear c110 hZ
          go_wp2_with fail
          go_roundw
          case rel => exact ⟨Z, i2, rfl, by first | rfl | go_num, hi2s, HN.out, HZ.out, trivial⟩
          case measure => have := HI.out; simp [intOf] <;> omega
        have e110 : ((c : Int) == 110) = false := by rw [beq_eq_false_iff_ne]; omega
        by_cases c116 : c = 116
        · have e116 : ((c : Int) == 116) = true := by rw [c116]; rfl
          obtain ⟨Z, hZ⟩ : ∃ Z, O ++ ⟨#[9]⟩ = Z := ⟨_, rfl⟩
          have hadd : ∀ w, (Op.stringOp .add O ⟨#[9]⟩).run Tryz.prog w = .ok (.string Z) w := fun w => add9 (by rw [← bs9_append, hZ]) (by show O.size + 1 ≤ _; omega) w
          have HN := Lib.hid (NEXT.out (Z := Z) (d := 9) (by rw [c116]; rfl) (by rw [← hZ, bs9_append]; rfl))
          have HZ : Hid (Z.size ≤ i2) := by show _ ≤ _; rw [← hZ, ByteArray.size_append]; have := HI.out; show O.size + 1 ≤ _; omega
          clear c116 hZ
          go_wp2_with fail
          go_roundw
          case rel => exact ⟨Z, i2, rfl, by first | rfl | go_num, hi2s, HN.out, HZ.out, trivial⟩
          case measure => have := HI.out; simp [intOf] <;> omega
        have e116 : ((c : Int) == 116) = false := by rw [beq_eq_false_iff_ne]; omega
        have E : Hid (uqv (bs9 s) = (bs9 ⟨#[]⟩, 0, 3)) := by
          show _ = _
          rw [HO.out, HD2.out, uqg_none (by unfold une; rw [if_neg c34, if_neg c92, if_neg c110, if_neg c116])]; rfl
        clear c34 c92 c110 c116
        go_wp2_with fail
        go_ret3
        exact ⟨out.out E.out, rfl⟩
      have d92 : ((x : Int) == 92) = false := by rw [beq_eq_false_iff_ne]; omega
      obtain ⟨Z, hZ⟩ : ∃ Z, O ++ X1 = Z := ⟨_, rfl⟩
      have hadd : ∀ w, (Op.stringOp .add O X1).run Tryz.prog w = .ok (.string Z) w := fun w => add9 (by rw [← bs9_append, hZ]) (by omega) w
      have HN : Hid (uqv (bs9 s) = cmb (bs9 Z) i1 (uqg ((bs9 s).drop i1))) := by show _ = _; rw [HO.out, HD.out, uqg_byte k34 k92, cmb_pre, ← hZ, bs9_append, HXB.out, hi1]
      have HZ : Hid (Z.size ≤ i1) := by show _ ≤ _; rw [← hZ, ByteArray.size_append]; omega
      have HI : Hid (i1 = i + 1) := hi1
      clear k34 k92 hZ hi1
      go_wp2_with fail
      go_roundw
      case rel => exact ⟨Z, i1, rfl, by first | rfl | go_num, hi1s, HN.out, HZ.out, trivial⟩
      case measure => have := HI.out; simp [intOf] <;> omega
    · have E : Hid (uqv (bs9 s) = (bs9 ⟨#[]⟩, 0, 2)) := by show _ = _; rw [HO.out, List.drop_of_length_le (by rw [bs9_len]; exact hge), uqg]; rfl
      go_wp2_with fail
      go_ret3
      exact ⟨out.out E.out, rfl⟩

end Go.Proofs.YtjkandnbjbfeiaaGreatDoor

/-
  Contracts of layer 12: the document's run and number.
-/
namespace Go.Proofs.YtjkandnbjbfeiaaGreatDoor
open Go.RowKit

theorem runl_is {f : Nat → Bool} {l : List Nat} {i : Nat} (h : (l.take i).all f = true) (h2 : l.length ≤ i ∨ ∃ x, l[i]? = some x ∧ f x = false) (hi : i ≤ l.length) : runl f l = i := by
  have e := runl_stop (f := f) (l := l.take i) (r := l.drop i) (fun c hc => by rw [List.all_eq_true] at h; exact h c hc) (fun c hc => by
    rw [List.head?_drop] at hc
    rcases h2 with h2 | ⟨x, hx, hf⟩
    · rw [List.getElem?_eq_none h2] at hc; cases hc
    · rw [hx] at hc; rw [← Option.some.inj hc]; exact hf)
  rw [List.take_append_drop] at e
  rw [e, List.length_take]; omega

set_option maxHeartbeats 4000000 in
set_option maxRecDepth 100000 in
theorem run12 {s m : ByteArray} {n : Nat} (h : runl (runB (bs9 m)) (bs9 s) = n) (hs : s.size ≤ 1000000) (hm : m.size ≤ 1000000) (w : World) : Calls Tryz.prog 30 #[.string s, .string m] w (fun e w' => e = .returned (.int .i64 (n : Int)) ∧ w' = w) := by
  have H := Lib.hid h
  clear h
  go_enter Tryz.func30, Tryz.ntmps30
  go_wp2_with fail
  go_loopw [5] (fun nv wr => ∃ i : Nat, nv = .int .i64 i ∧ i ≤ s.size ∧ ((bs9 s).take i).all (runB (bs9 m)) = true ∧ wr = w) (fun nv _ => s.size - (intOf nv).toNat)
  case atStart => exact ⟨0, rfl, Nat.zero_le _, rfl, rfl⟩
  case round =>
    obtain ⟨i, rfl, hi, ha, rfl⟩ := hrel
    have HA := Lib.hid ha
    clear ha
    rcases Nat.lt_or_ge i s.size with hlt | hge
    · obtain ⟨x, hx⟩ : ∃ x, x = (s[i]'hlt).toNat := ⟨_, rfl⟩
      have ex : ((s[i]'hlt).toNat : Int) = (x : Int) := by rw [hx]
      have HX : Hid ((bs9 s)[i]? = some x) := by show _ = _; rw [bs9_at s i hlt, hx]
      have HS : Hid (runB (bs9 m) x = false → i = n) := fun h => by rw [← H.out]; exact (runl_is HA.out (.inr ⟨x, HX.out, h⟩) (by rw [bs9_len]; exact hi)).symm
      have HG : Hid (runB (bs9 m) x = true → ((bs9 s).take (i + 1)).all (runB (bs9 m)) = true) := fun h => all_step HX.out HA.out h
      clear hx
      cases hu : upB x with
      | true =>
        have U := Lib.hid hu
        clear hu
        go_wp2_with fail
        refine (up12 U.out _).mono ?_; rintro e w1 ⟨rfl, hw⟩; obtain rfl := hw.symm
        obtain ⟨wo, hwo⟩ : ∃ wo : World, wo = wr := ⟨_, rfl⟩
        go_wp2_with fail
        go_loopw [7, 28] (fun iv kv wq => ∃ (v : Bool) (k : Nat), iv = .bool v ∧ kv = .int .i64 k ∧ k ≤ m.size ∧ v = (true || ((bs9 m).take k).contains x) ∧ wq = wr) (fun _ kv _ => m.size - (intOf kv).toNat)
        case atStart => exact ⟨true, 0, rfl, rfl, Nat.zero_le _, by rw [List.take_zero]; rfl, rfl⟩
        case round =>
          obtain ⟨v, k, rfl, rfl, hk, hv, rfl⟩ := hrel
          have HV := Lib.hid hv
          clear hv
          rcases Nat.lt_or_ge k m.size with hkl | hkg
          · obtain ⟨y, hy⟩ : ∃ y, y = (m[k]'hkl).toNat := ⟨_, rfl⟩
            have ey : ((m[k]'hkl).toNat : Int) = (y : Int) := by rw [hy]
            have HN : Hid ((true || ((bs9 m).take (k + 1)).contains x) = (v || x == y)) := by
              show _ = _
              rw [List.take_add_one, bs9_at m k hkl, ← hy, HV.out, Bool.or_assoc]
              congr 1
              rw [Bool.eq_iff_iff, Bool.or_eq_true, List.contains_iff_mem, List.contains_iff_mem, List.mem_append, beq_iff_eq]
              simp
            clear hy
            cases v with
            | true =>
              go_wp2_with fail
              go_roundw
              case rel => exact ⟨true, k + 1, rfl, by go_num, by omega, by rw [HN.out]; rfl, trivial⟩
              case measure => simp [intOf] <;> omega
            | false =>
              by_cases hxy : x = y
              · have d : ((x : Int) == (y : Int)) = true := by rw [hxy, beq_self_eq_true]
                have HN2 : Hid (true = (true || ((bs9 m).take (k + 1)).contains x)) := by show _ = _; rw [HN.out, hxy, beq_self_eq_true]; rfl
                clear hxy
                go_wp2_with fail
                go_roundw
                case rel => exact ⟨true, k + 1, rfl, by go_num, by omega, HN2.out, trivial⟩
                case measure => simp [intOf] <;> omega
              · have d : ((x : Int) == (y : Int)) = false := by rw [beq_eq_false_iff_ne]; omega
                have HN2 : Hid (false = (true || ((bs9 m).take (k + 1)).contains x)) := by show _ = _; rw [HN.out, Bool.false_or]; exact (beq_eq_false_iff_ne.2 hxy).symm
                clear hxy
                go_wp2_with fail
                go_roundw
                case rel => exact ⟨false, k + 1, rfl, by go_num, by omega, HN2.out, trivial⟩
                case measure => simp [intOf] <;> omega
          · have HR : Hid (runB (bs9 m) x = v) := by
              show _ = _
              have hv := HV.out
              rw [List.take_of_length_le (by rw [bs9_len]; exact hkg)] at hv
              rw [hv]; unfold runB; rw [U.out]; try rfl
            cases v with
            | true =>
              have HA2 := Lib.hid (HG.out HR.out)
              go_wp2_with fail
              go_roundw
              case rel => exact ⟨i + 1, by go_num, by omega, HA2.out, trivial⟩
              case measure => simp [intOf] <;> omega
            | false =>
              exact absurd HV.out (by simp)
      | false =>
        have U := Lib.hid hu
        clear hu
        cases hl : lwB x with
        | true =>
          have L := Lib.hid hl
          clear hl
          go_wp2_with fail
          refine (up12 U.out _).mono ?_; rintro e w1 ⟨rfl, hw⟩; obtain rfl := hw.symm
          go_wp2_with fail
          refine (lw12 L.out _).mono ?_; rintro e w1 ⟨rfl, hw⟩; obtain rfl := hw.symm
          obtain ⟨wo, hwo⟩ : ∃ wo : World, wo = wr := ⟨_, rfl⟩
          go_wp2_with fail
          go_loopw [7, 28] (fun iv kv wq => ∃ (v : Bool) (k : Nat), iv = .bool v ∧ kv = .int .i64 k ∧ k ≤ m.size ∧ v = (true || ((bs9 m).take k).contains x) ∧ wq = wr) (fun _ kv _ => m.size - (intOf kv).toNat)
          case atStart => exact ⟨true, 0, rfl, rfl, Nat.zero_le _, by rw [List.take_zero]; rfl, rfl⟩
          case round =>
            obtain ⟨v, k, rfl, rfl, hk, hv, rfl⟩ := hrel
            have HV := Lib.hid hv
            clear hv
            rcases Nat.lt_or_ge k m.size with hkl | hkg
            · obtain ⟨y, hy⟩ : ∃ y, y = (m[k]'hkl).toNat := ⟨_, rfl⟩
              have ey : ((m[k]'hkl).toNat : Int) = (y : Int) := by rw [hy]
              have HN : Hid ((true || ((bs9 m).take (k + 1)).contains x) = (v || x == y)) := by
                show _ = _
                rw [List.take_add_one, bs9_at m k hkl, ← hy, HV.out, Bool.or_assoc]
                congr 1
                rw [Bool.eq_iff_iff, Bool.or_eq_true, List.contains_iff_mem, List.contains_iff_mem, List.mem_append, beq_iff_eq]
                simp
              clear hy
              cases v with
              | true =>
                go_wp2_with fail
                go_roundw
                case rel => exact ⟨true, k + 1, rfl, by go_num, by omega, by rw [HN.out]; rfl, trivial⟩
                case measure => simp [intOf] <;> omega
              | false =>
                by_cases hxy : x = y
                · have d : ((x : Int) == (y : Int)) = true := by rw [hxy, beq_self_eq_true]
                  have HN2 : Hid (true = (true || ((bs9 m).take (k + 1)).contains x)) := by show _ = _; rw [HN.out, hxy, beq_self_eq_true]; rfl
                  clear hxy
                  go_wp2_with fail
                  go_roundw
                  case rel => exact ⟨true, k + 1, rfl, by go_num, by omega, HN2.out, trivial⟩
                  case measure => simp [intOf] <;> omega
                · have d : ((x : Int) == (y : Int)) = false := by rw [beq_eq_false_iff_ne]; omega
                  have HN2 : Hid (false = (true || ((bs9 m).take (k + 1)).contains x)) := by show _ = _; rw [HN.out, Bool.false_or]; exact (beq_eq_false_iff_ne.2 hxy).symm
                  clear hxy
                  go_wp2_with fail
                  go_roundw
                  case rel => exact ⟨false, k + 1, rfl, by go_num, by omega, HN2.out, trivial⟩
                  case measure => simp [intOf] <;> omega
            · have HR : Hid (runB (bs9 m) x = v) := by
                show _ = _
                have hv := HV.out
                rw [List.take_of_length_le (by rw [bs9_len]; exact hkg)] at hv
                rw [hv]; unfold runB; rw [U.out, L.out]; try rfl
              cases v with
              | true =>
                have HA2 := Lib.hid (HG.out HR.out)
                go_wp2_with fail
                go_roundw
                case rel => exact ⟨i + 1, by go_num, by omega, HA2.out, trivial⟩
                case measure => simp [intOf] <;> omega
              | false =>
                exact absurd HV.out (by simp)
        | false =>
          have L := Lib.hid hl
          clear hl
          cases hd : dgB x with
          | true =>
            have D := Lib.hid hd
            clear hd
            go_wp2_with fail
            refine (up12 U.out _).mono ?_; rintro e w1 ⟨rfl, hw⟩; obtain rfl := hw.symm
            go_wp2_with fail
            refine (lw12 L.out _).mono ?_; rintro e w1 ⟨rfl, hw⟩; obtain rfl := hw.symm
            go_wp2_with fail
            refine (dg12 D.out _).mono ?_; rintro e w1 ⟨rfl, hw⟩; obtain rfl := hw.symm
            obtain ⟨wo, hwo⟩ : ∃ wo : World, wo = wr := ⟨_, rfl⟩
            go_wp2_with fail
            go_loopw [7, 28] (fun iv kv wq => ∃ (v : Bool) (k : Nat), iv = .bool v ∧ kv = .int .i64 k ∧ k ≤ m.size ∧ v = (true || ((bs9 m).take k).contains x) ∧ wq = wr) (fun _ kv _ => m.size - (intOf kv).toNat)
            case atStart => exact ⟨true, 0, rfl, rfl, Nat.zero_le _, by rw [List.take_zero]; rfl, rfl⟩
            case round =>
              obtain ⟨v, k, rfl, rfl, hk, hv, rfl⟩ := hrel
              have HV := Lib.hid hv
              clear hv
              rcases Nat.lt_or_ge k m.size with hkl | hkg
              · obtain ⟨y, hy⟩ : ∃ y, y = (m[k]'hkl).toNat := ⟨_, rfl⟩
                have ey : ((m[k]'hkl).toNat : Int) = (y : Int) := by rw [hy]
                have HN : Hid ((true || ((bs9 m).take (k + 1)).contains x) = (v || x == y)) := by
                  show _ = _
                  rw [List.take_add_one, bs9_at m k hkl, ← hy, HV.out, Bool.or_assoc]
                  congr 1
                  rw [Bool.eq_iff_iff, Bool.or_eq_true, List.contains_iff_mem, List.contains_iff_mem, List.mem_append, beq_iff_eq]
                  simp
                clear hy
                cases v with
                | true =>
                  go_wp2_with fail
                  go_roundw
                  case rel => exact ⟨true, k + 1, rfl, by go_num, by omega, by rw [HN.out]; rfl, trivial⟩
                  case measure => simp [intOf] <;> omega
                | false =>
                  by_cases hxy : x = y
                  · have d : ((x : Int) == (y : Int)) = true := by rw [hxy, beq_self_eq_true]
                    have HN2 : Hid (true = (true || ((bs9 m).take (k + 1)).contains x)) := by show _ = _; rw [HN.out, hxy, beq_self_eq_true]; rfl
                    clear hxy
                    go_wp2_with fail
                    go_roundw
                    case rel => exact ⟨true, k + 1, rfl, by go_num, by omega, HN2.out, trivial⟩
                    case measure => simp [intOf] <;> omega
                  · have d : ((x : Int) == (y : Int)) = false := by rw [beq_eq_false_iff_ne]; omega
                    have HN2 : Hid (false = (true || ((bs9 m).take (k + 1)).contains x)) := by show _ = _; rw [HN.out, Bool.false_or]; exact (beq_eq_false_iff_ne.2 hxy).symm
                    clear hxy
                    go_wp2_with fail
                    go_roundw
                    case rel => exact ⟨false, k + 1, rfl, by go_num, by omega, HN2.out, trivial⟩
                    case measure => simp [intOf] <;> omega
              · have HR : Hid (runB (bs9 m) x = v) := by
                  show _ = _
                  have hv := HV.out
                  rw [List.take_of_length_le (by rw [bs9_len]; exact hkg)] at hv
                  rw [hv]; unfold runB; rw [U.out, L.out, D.out]; try rfl
                cases v with
                | true =>
                  have HA2 := Lib.hid (HG.out HR.out)
                  go_wp2_with fail
                  go_roundw
                  case rel => exact ⟨i + 1, by go_num, by omega, HA2.out, trivial⟩
                  case measure => simp [intOf] <;> omega
                | false =>
                  exact absurd HV.out (by simp)
          | false =>
            have D := Lib.hid hd
            clear hd
            go_wp2_with fail
            refine (up12 U.out _).mono ?_; rintro e w1 ⟨rfl, hw⟩; obtain rfl := hw.symm
            go_wp2_with fail
            refine (lw12 L.out _).mono ?_; rintro e w1 ⟨rfl, hw⟩; obtain rfl := hw.symm
            go_wp2_with fail
            refine (dg12 D.out _).mono ?_; rintro e w1 ⟨rfl, hw⟩; obtain rfl := hw.symm
            obtain ⟨wo, hwo⟩ : ∃ wo : World, wo = wr := ⟨_, rfl⟩
            go_wp2_with fail
            go_loopw [7, 28] (fun iv kv wq => ∃ (v : Bool) (k : Nat), iv = .bool v ∧ kv = .int .i64 k ∧ k ≤ m.size ∧ v = (false || ((bs9 m).take k).contains x) ∧ wq = wr) (fun _ kv _ => m.size - (intOf kv).toNat)
            case atStart => exact ⟨false, 0, rfl, rfl, Nat.zero_le _, by rw [List.take_zero]; rfl, rfl⟩
            case round =>
              obtain ⟨v, k, rfl, rfl, hk, hv, rfl⟩ := hrel
              have HV := Lib.hid hv
              clear hv
              rcases Nat.lt_or_ge k m.size with hkl | hkg
              · obtain ⟨y, hy⟩ : ∃ y, y = (m[k]'hkl).toNat := ⟨_, rfl⟩
                have ey : ((m[k]'hkl).toNat : Int) = (y : Int) := by rw [hy]
                have HN : Hid ((false || ((bs9 m).take (k + 1)).contains x) = (v || x == y)) := by
                  show _ = _
                  rw [List.take_add_one, bs9_at m k hkl, ← hy, HV.out, Bool.or_assoc]
                  congr 1
                  rw [Bool.eq_iff_iff, Bool.or_eq_true, List.contains_iff_mem, List.contains_iff_mem, List.mem_append, beq_iff_eq]
                  simp
                clear hy
                cases v with
                | true =>
                  go_wp2_with fail
                  go_roundw
                  case rel => exact ⟨true, k + 1, rfl, by go_num, by omega, by rw [HN.out]; rfl, trivial⟩
                  case measure => simp [intOf] <;> omega
                | false =>
                  by_cases hxy : x = y
                  · have d : ((x : Int) == (y : Int)) = true := by rw [hxy, beq_self_eq_true]
                    have HN2 : Hid (true = (false || ((bs9 m).take (k + 1)).contains x)) := by show _ = _; rw [HN.out, hxy, beq_self_eq_true]; rfl
                    clear hxy
                    go_wp2_with fail
                    go_roundw
                    case rel => exact ⟨true, k + 1, rfl, by go_num, by omega, HN2.out, trivial⟩
                    case measure => simp [intOf] <;> omega
                  · have d : ((x : Int) == (y : Int)) = false := by rw [beq_eq_false_iff_ne]; omega
                    have HN2 : Hid (false = (false || ((bs9 m).take (k + 1)).contains x)) := by show _ = _; rw [HN.out, Bool.false_or]; exact (beq_eq_false_iff_ne.2 hxy).symm
                    clear hxy
                    go_wp2_with fail
                    go_roundw
                    case rel => exact ⟨false, k + 1, rfl, by go_num, by omega, HN2.out, trivial⟩
                    case measure => simp [intOf] <;> omega
              · have HR : Hid (runB (bs9 m) x = v) := by
                  show _ = _
                  have hv := HV.out
                  rw [List.take_of_length_le (by rw [bs9_len]; exact hkg)] at hv
                  rw [hv]; unfold runB; rw [U.out, L.out, D.out]; try rfl
                cases v with
                | true =>
                  have HA2 := Lib.hid (HG.out HR.out)
                  go_wp2_with fail
                  go_roundw
                  case rel => exact ⟨i + 1, by go_num, by omega, HA2.out, trivial⟩
                  case measure => simp [intOf] <;> omega
                | false =>
                  have E := Lib.hid (HS.out HR.out)
                  go_wp2_with fail
                  go_ret
                  exact ⟨by rw [← E.out]; rfl, rfl⟩
    · have E : Hid (i = n) := by show _ = _; rw [← H.out]; exact (runl_is HA.out (.inl (by rw [bs9_len]; exact hge)) (by rw [bs9_len]; exact hi)).symm
      go_wp2_with fail
      go_ret
      exact ⟨by rw [← E.out]; rfl, rfl⟩

theorem frac_at {l : List Nat} {i x y : Nat} (hx : l[i]? = some x) (hy : l[i + 1]? = some y) : (x = 46 → dgB y = true → frac (l.drop i) = 1 + runl dgB (l.drop (i + 1))) ∧ (x ≠ 46 ∨ dgB y = false → frac (l.drop i) = 0) := by
  have e : l.drop i = x :: l.drop (i + 1) := by
    have hl := (List.getElem?_eq_some_iff.1 hx).1
    rw [List.drop_eq_getElem_cons hl, (List.getElem?_eq_some_iff.1 hx).2]
  have e2 : (l.drop (i + 1)).head? = some y := by rw [List.head?_drop]; exact hy
  rw [e]
  unfold frac
  constructor
  · rintro rfl h; rw [if_pos ⟨rfl, by rw [List.tail_cons, e2]; exact h⟩]; rfl
  · intro h
    rw [if_neg]
    rintro ⟨h1, h2⟩
    rcases h with h | h
    · exact h (Option.some.inj h1)
    · rw [List.tail_cons, e2] at h2
      have h3 : dgB y = true := h2
      rw [h] at h3; cases h3
theorem frac_end {l : List Nat} {i : Nat} (h : l.length ≤ i + 1) : frac (l.drop i) = 0 := by
  unfold frac
  rw [if_neg]
  rintro ⟨h1, h2⟩
  rw [List.tail_drop, List.drop_of_length_le h] at h2
  cases h2
theorem nmb1_at {l : List Nat} {i x : Nat} (hx : l[i]? = some x) : (dgB x = true ∨ (x = 44 ∧ ∃ y, l[i + 1]? = some y ∧ dgB y = true) → nmb1 (l.drop i) = nmb1 (l.drop (i + 1)) + 1) ∧ (dgB x = false → (x ≠ 44 ∨ l.length ≤ i + 1 ∨ ∃ y, l[i + 1]? = some y ∧ dgB y = false) → nmb1 (l.drop i) = 0) := by
  have e : l.drop i = x :: l.drop (i + 1) := by
    have hl := (List.getElem?_eq_some_iff.1 hx).1
    rw [List.drop_eq_getElem_cons hl, (List.getElem?_eq_some_iff.1 hx).2]
  rw [e]
  constructor
  · rintro (h | ⟨rfl, y, hy, h⟩)
    · rw [nmb1, if_pos]; rw [h]; rfl
    · rw [nmb1, if_pos]
      rw [List.head?_drop, hy]
      show (dgB 44 || (true && dgB y)) = true
      rw [h]; rfl
  · intro hd h
    rw [nmb1, if_neg]
    rw [hd, Bool.false_or, Bool.and_eq_true, beq_iff_eq, List.head?_drop]
    rintro ⟨h1, h2⟩
    rcases h with h | h | ⟨y, hy, h⟩
    · exact h h1
    · rw [List.getElem?_eq_none h] at h2; cases h2
    · rw [hy] at h2
      have h3 : dgB y = true := h2
      rw [h] at h3; cases h3

set_option maxHeartbeats 4000000 in
set_option maxRecDepth 100000 in
theorem number12 {s : ByteArray} {n : Nat} (h : nmb (bs9 s) = n) (hs : s.size ≤ 1000000) (w : World) : Calls Tryz.prog 57 #[.string s] w (fun e w' => e = .returned (.int .i64 (n : Int)) ∧ w' = w) := by
  have H := Lib.hid h
  clear h
  have HL : Hid ((bs9 s).length = s.size) := bs9_len s
  go_enter Tryz.func57, Tryz.ntmps57
  go_wp2_with fail
  go_loopw [3] (fun nv wr => ∃ i : Nat, nv = .int .i64 i ∧ i ≤ s.size ∧ nmb1 (bs9 s) = i + nmb1 ((bs9 s).drop i) ∧ wr = w) (fun nv _ => s.size - (intOf nv).toNat)
  case atStart => exact ⟨0, rfl, Nat.zero_le _, by rw [List.drop_zero, Nat.zero_add], rfl⟩
  case round =>
    obtain ⟨i, rfl, hi, hg, rfl⟩ := hrel
    have G := Lib.hid hg
    clear hg
    obtain ⟨i1, hi1⟩ : ∃ i1, i1 = i + 1 := ⟨_, rfl⟩
    have ei : (i : Int) + 1 = (i1 : Int) := by omega
    have HI : Hid (i1 = i + 1) := hi1
    have ST : Hid (nmb1 ((bs9 s).drop i) = 0 → frac ((bs9 s).drop i) = 0 → i = n) := fun h1 h2 => by
      have g := G.out
      rw [h1] at g
      rw [← H.out]; unfold nmb; rw [g, Nat.add_zero, h2]; rfl
    rcases Nat.lt_or_ge i s.size with hlt | hge
    · have di : decide ((i : Int) < (s.size : Int)) = true := decide_eq_true (by omega)
      obtain ⟨x, hx⟩ : ∃ x, x = (s[i]'hlt).toNat := ⟨_, rfl⟩
      have ex : ((s[i]'hlt).toNat : Int) = (x : Int) := by rw [hx]
      have hxs : (bs9 s)[i]? = some x := by rw [bs9_at s i hlt, hx]
      have N1 := Lib.hid (nmb1_at hxs)
      have HX := Lib.hid hxs
      clear hx hxs
      cases hd : dgB x with
      | true =>
        have D := Lib.hid hd
        have G2 : Hid (nmb1 (bs9 s) = i1 + nmb1 ((bs9 s).drop i1)) := by show _ = _; rw [G.out, N1.out.1 (.inl hd), hi1]; omega
        have his : i1 ≤ s.size := by omega
        clear hd hi1
        go_wp2_with fail
        refine (dg12 D.out _).mono ?_; rintro e w1 ⟨rfl, hw⟩; obtain rfl := hw.symm
        go_wp2_with fail
        go_roundw
        case rel => exact ⟨i1, by first | rfl | go_num, his, G2.out, trivial⟩
        case measure => have := HI.out; simp [intOf] <;> omega
      | false =>
        have D := Lib.hid hd
        clear hd
        rcases Nat.lt_or_ge i1 s.size with h1 | h1
        · have dj : decide ((i1 : Int) < (s.size : Int)) = true := decide_eq_true (by omega)
          obtain ⟨y, hy⟩ : ∃ y, y = (s[i1]'h1).toNat := ⟨_, rfl⟩
          have ey : ((s[i1]'h1).toNat : Int) = (y : Int) := by rw [hy]
          have hys : (bs9 s)[i + 1]? = some y := by rw [← hi1, bs9_at s i1 h1, hy]
          have HY := Lib.hid hys
          clear hy hys
          cases hdy : dgB y with
          | true =>
            have DY := Lib.hid hdy
            clear hdy
            by_cases h44 : x = 44
            · have d44 : ((x : Int) == 44) = true := by rw [h44]; rfl
              have G2 : Hid (nmb1 (bs9 s) = i1 + nmb1 ((bs9 s).drop i1)) := by show _ = _; rw [G.out, N1.out.1 (.inr ⟨h44, y, HY.out, DY.out⟩), hi1]; omega
              have his : i1 ≤ s.size := by omega
              clear h44 hi1
              go_wp2_with fail
              refine (dg12 D.out _).mono ?_; rintro e w1 ⟨rfl, hw⟩; obtain rfl := hw.symm
              go_wp2_with fail
              refine (dg12 DY.out _).mono ?_; rintro e w1 ⟨rfl, hw⟩; obtain rfl := hw.symm
              go_wp2_with fail
              go_roundw
              case rel => exact ⟨i1, by first | rfl | go_num, his, G2.out, trivial⟩
              case measure => have := HI.out; simp [intOf] <;> omega
            · have d44 : ((x : Int) == 44) = false := by rw [beq_eq_false_iff_ne]; omega
              have Z0 := Lib.hid (N1.out.2 D.out (.inl h44))
              by_cases h46 : x = 46
              · have d46 : ((x : Int) == 46) = true := by rw [h46]; rfl
                have FR : Hid (frac ((bs9 s).drop i) = 1 + runl dgB ((bs9 s).drop i1)) := by show _ = _; rw [hi1]; exact (frac_at HX.out HY.out).1 h46 DY.out
                have EN : Hid (n = i1 + runl dgB ((bs9 s).drop i1)) := by
                  show _ = _
                  have g := G.out
                  rw [Z0.out] at g
                  rw [← H.out]; unfold nmb; rw [g, Nat.add_zero, FR.out, hi1]; omega
                have his : i1 ≤ s.size := by omega
                clear h44 h46 hi1
                go_wp2_with fail
                refine (dg12 D.out _).mono ?_; rintro e w1 ⟨rfl, hw⟩; obtain rfl := hw.symm
                go_wp2_with fail
                refine (dg12 DY.out _).mono ?_; rintro e w1 ⟨rfl, hw⟩; obtain rfl := hw.symm
                obtain ⟨wo, hwo⟩ : ∃ wo : World, wo = wr := ⟨_, rfl⟩
                go_wp2_with fail
                go_loopw [3] (fun nv wq => ∃ q : Nat, nv = .int .i64 ((i1 + q : Nat) : Int) ∧ i1 + q ≤ s.size ∧ (((bs9 s).drop i1).take q).all dgB = true ∧ wq = wr) (fun nv _ => s.size - (intOf nv).toNat)
                case atStart => exact ⟨0, by first | rfl | go_num, his, by rw [List.take_zero]; rfl, rfl⟩
                case round =>
                  obtain ⟨q, rfl, hq, hqa, rfl⟩ := hrel
                  have QA := Lib.hid hqa
                  clear hqa
                  obtain ⟨j, hj⟩ : ∃ j, i1 + q = j := ⟨_, rfl⟩
                  rw [hj] at hq ⊢
                  rcases Nat.lt_or_ge j s.size with hjl | hjg
                  · have dq : decide ((j : Int) < (s.size : Int)) = true := decide_eq_true (by omega)
                    obtain ⟨z, hz⟩ : ∃ z, z = (s[j]'hjl).toNat := ⟨_, rfl⟩
                    have ez : ((s[j]'hjl).toNat : Int) = (z : Int) := by rw [hz]
                    have HZ : Hid (((bs9 s).drop i1)[q]? = some z) := by show _ = _; rw [List.getElem?_drop, hj, bs9_at s j hjl, hz]
                    clear hz
                    cases hdz : dgB z with
                    | true =>
                      have DZ := Lib.hid hdz
                      have QA2 := Lib.hid (all_step HZ.out QA.out hdz)
                      have HJ := Lib.hid hj
                      clear hdz hj
                      go_wp2_with fail
                      refine (dg12 DZ.out _).mono ?_; rintro e w1 ⟨rfl, hw⟩; obtain rfl := hw.symm
                      go_wp2_with fail
                      go_roundw
                      case rel => exact ⟨q + 1, by rw [← Nat.add_assoc, HJ.out]; go_num, by have := HJ.out; omega, QA2.out, trivial⟩
                      case measure => simp [intOf] <;> omega
                    | false =>
                      have DZ := Lib.hid hdz
                      have E : Hid (j = n) := by
                        show _ = _
                        rw [EN.out, runl_is QA.out (.inr ⟨z, HZ.out, hdz⟩) (by rw [List.length_drop, HL.out]; omega), hj]
                      clear hdz hj
                      go_wp2_with fail
                      refine (dg12 DZ.out _).mono ?_; rintro e w1 ⟨rfl, hw⟩; obtain rfl := hw.symm
                      go_wp2_with fail
                      go_ret
                      exact ⟨by rw [← E.out]; rfl, rfl⟩
                  · have dq : decide ((j : Int) < (s.size : Int)) = false := decide_eq_false (by omega)
                    have E : Hid (j = n) := by
                      show _ = _
                      rw [EN.out, runl_is QA.out (.inl (by rw [List.length_drop, HL.out]; omega)) (by rw [List.length_drop, HL.out]; omega), hj]
                    clear hj
                    go_wp2_with fail
                    go_ret
                    exact ⟨by rw [← E.out]; rfl, rfl⟩
              · have d46 : ((x : Int) == 46) = false := by rw [beq_eq_false_iff_ne]; omega
                have E := Lib.hid (ST.out Z0.out ((frac_at HX.out HY.out).2 (.inl h46)))
                clear h44 h46 hi1
                go_wp2_with fail
                refine (dg12 D.out _).mono ?_; rintro e w1 ⟨rfl, hw⟩; obtain rfl := hw.symm
                go_wp2_with fail
                go_ret
                exact ⟨by rw [← E.out]; rfl, rfl⟩
          | false =>
            have DY := Lib.hid hdy
            clear hdy
            have Z0 := Lib.hid (N1.out.2 D.out (.inr (.inr ⟨y, HY.out, DY.out⟩)))
            have E := Lib.hid (ST.out Z0.out ((frac_at HX.out HY.out).2 (.inr DY.out)))
            by_cases h44 : x = 44
            · have d44 : ((x : Int) == 44) = true := by rw [h44]; rfl
              have d46 : ((x : Int) == 46) = false := by rw [h44]; rfl
              clear h44 hi1
              go_wp2_with fail
              refine (dg12 D.out _).mono ?_; rintro e w1 ⟨rfl, hw⟩; obtain rfl := hw.symm
              go_wp2_with fail
              refine (dg12 DY.out _).mono ?_; rintro e w1 ⟨rfl, hw⟩; obtain rfl := hw.symm
              go_wp2_with fail
              go_ret
              exact ⟨by rw [← E.out]; rfl, rfl⟩
            · have d44 : ((x : Int) == 44) = false := by rw [beq_eq_false_iff_ne]; omega
              by_cases h46 : x = 46
              · have d46 : ((x : Int) == 46) = true := by rw [h46]; rfl
                clear h44 h46 hi1
                go_wp2_with fail
                refine (dg12 D.out _).mono ?_; rintro e w1 ⟨rfl, hw⟩; obtain rfl := hw.symm
                go_wp2_with fail
                refine (dg12 DY.out _).mono ?_; rintro e w1 ⟨rfl, hw⟩; obtain rfl := hw.symm
                go_wp2_with fail
                go_ret
                exact ⟨by rw [← E.out]; rfl, rfl⟩
              · have d46 : ((x : Int) == 46) = false := by rw [beq_eq_false_iff_ne]; omega
                clear h44 h46 hi1
                go_wp2_with fail
                refine (dg12 D.out _).mono ?_; rintro e w1 ⟨rfl, hw⟩; obtain rfl := hw.symm
                go_wp2_with fail
                go_ret
                exact ⟨by rw [← E.out]; rfl, rfl⟩
        · have dj : decide ((i1 : Int) < (s.size : Int)) = false := decide_eq_false (by omega)
          have Z0 := Lib.hid (N1.out.2 D.out (.inr (.inl (by rw [HL.out]; omega))))
          have E := Lib.hid (ST.out Z0.out (frac_end (by rw [HL.out]; omega)))
          by_cases h44 : x = 44
          · have d44 : ((x : Int) == 44) = true := by rw [h44]; rfl
            clear h44 hi1
            go_wp2_with fail
            refine (dg12 D.out _).mono ?_; rintro e w1 ⟨rfl, hw⟩; obtain rfl := hw.symm
            go_wp2_with fail
            go_ret
            exact ⟨by rw [← E.out]; rfl, rfl⟩
          · have d44 : ((x : Int) == 44) = false := by rw [beq_eq_false_iff_ne]; omega
            clear h44 hi1
            go_wp2_with fail
            refine (dg12 D.out _).mono ?_; rintro e w1 ⟨rfl, hw⟩; obtain rfl := hw.symm
            go_wp2_with fail
            go_ret
            exact ⟨by rw [← E.out]; rfl, rfl⟩
    · have di : decide ((i : Int) < (s.size : Int)) = false := decide_eq_false (by omega)
      have dj : decide ((i1 : Int) < (s.size : Int)) = false := decide_eq_false (by omega)
      have E := Lib.hid (ST.out (by rw [List.drop_of_length_le (by rw [HL.out]; exact hge)]; rfl) (frac_end (by rw [HL.out]; omega)))
      clear hi1
      go_wp2_with fail
      go_ret
      exact ⟨by rw [← E.out]; rfl, rfl⟩

end Go.Proofs.YtjkandnbjbfeiaaGreatDoor

/-
  Contracts of layer 12: the document's Mark and token.
-/
namespace Go.Proofs.YtjkandnbjbfeiaaGreatDoor
open Go.RowKit

def twos : List (List Nat) := [[123, 123], [125, 125], [64, 64]]
theorem arr12_0 (w : World) : (Instr.index 64 (.agg #[.string ⟨#[123, 123]⟩, .string ⟨#[125, 125]⟩, .string ⟨#[64, 64]⟩]) (.int .i64 0)).run Tryz.prog w = .ok (.string ⟨#[123, 123]⟩) w := by kernel_rfl
theorem arr12_1 (w : World) : (Instr.index 64 (.agg #[.string ⟨#[123, 123]⟩, .string ⟨#[125, 125]⟩, .string ⟨#[64, 64]⟩]) (.int .i64 1)).run Tryz.prog w = .ok (.string ⟨#[125, 125]⟩) w := by kernel_rfl
theorem arr12_2 (w : World) : (Instr.index 64 (.agg #[.string ⟨#[123, 123]⟩, .string ⟨#[125, 125]⟩, .string ⟨#[64, 64]⟩]) (.int .i64 2)).run Tryz.prog w = .ok (.string ⟨#[64, 64]⟩) w := by kernel_rfl
theorem mrk_two {l : List Nat} {k : Nat} (h : twos[k]? = some (l.take 2)) : mrk l = 2 := by
  unfold mrk
  rw [if_pos]
  have hk : k < 3 := (List.getElem?_eq_some_iff.1 h).1
  obtain rfl | rfl | rfl : k = 0 ∨ k = 1 ∨ k = 2 := by omega
  · exact .inl (Option.some.inj h).symm
  · exact .inr (.inl (Option.some.inj h).symm)
  · exact .inr (.inr (Option.some.inj h).symm)
theorem mrk_not {l : List Nat} (h : ∀ j, j < 3 → twos[j]? ≠ some (l.take 2)) : mrk l = if l.head?.any ones.contains = true then 1 else 0 := by
  unfold mrk
  rw [if_neg]
  rintro (e | e | e)
  · exact h 0 (by decide) (by rw [e]; rfl)
  · exact h 1 (by decide) (by rw [e]; rfl)
  · exact h 2 (by decide) (by rw [e]; rfl)
theorem mrk_one {l : List Nat} (h : ∀ j, j < 3 → twos[j]? ≠ some (l.take 2)) {k : Nat} {x : Nat} (hx : l.head? = some x) (hk : ones[k]? = some x) : mrk l = 1 := by
  rw [mrk_not h, hx, if_pos]
  show ones.contains x = true
  rw [List.contains_iff_mem]
  exact List.mem_of_getElem? hk
theorem mrk_none {l : List Nat} (h : ∀ j, j < 3 → twos[j]? ≠ some (l.take 2)) (h2 : ∀ j, j < 12 → ∀ x, l.head? = some x → ones[j]? ≠ some x) : mrk l = 0 := by
  rw [mrk_not h, if_neg]
  intro e
  cases hh : l.head? with
  | none => rw [hh] at e; cases e
  | some x =>
    rw [hh] at e
    have e2 : ones.contains x = true := e
    rw [List.contains_iff_mem] at e2
    obtain ⟨j, hj⟩ := List.getElem?_of_mem e2
    exact h2 j (List.getElem?_eq_some_iff.1 hj).1 x hh hj
theorem all_next {p : Nat → Prop} {k : Nat} (h : ∀ j, j < k → p j) (h2 : p k) : ∀ j, j < k + 1 → p j := fun j hj => by
  rcases Nat.lt_or_ge j k with h3 | h3
  · exact h j h3
  · obtain rfl : j = k := by omega
    exact h2

set_option maxHeartbeats 4000000 in
set_option maxRecDepth 100000 in
theorem mark12 {s : ByteArray} {n : Nat} (h : mrk (bs9 s) = n) (hs : s.size ≤ 1000000) (w : World) : Calls Tryz.prog 17 #[.string s] w (Ret9 w (.int .i64 (n : Int))) := by
  have H := Lib.hid h
  clear h
  have SZ : Hid (s.size < 2 → ∀ j, j < 3 → twos[j]? ≠ some ((bs9 s).take 2)) := fun hz j hj e => by
    have e2 : ((bs9 s).take 2).length < 2 := by rw [List.length_take, bs9_len]; omega
    obtain rfl | rfl | rfl : j = 0 ∨ j = 1 ∨ j = 2 := by omega
    · rw [← Option.some.inj e] at e2; exact absurd e2 (by decide)
    · rw [← Option.some.inj e] at e2; exact absurd e2 (by decide)
    · rw [← Option.some.inj e] at e2; exact absurd e2 (by decide)
  go_enter Tryz.func17, Tryz.ntmps17
  go_wp2_with fail
  go_loopw [9] (fun kv wr => ∃ (y : Int) (k : Nat), kv = .int .i64 y ∧ y = (k : Int) ∧ k ≤ 3 ∧ (∀ j, j < k → twos[j]? ≠ some ((bs9 s).take 2)) ∧ Below w.heap.size w wr) (fun kv _ => 3 - (intOf kv).toNat)
  case atStart => exact ⟨0, 0, rfl, rfl, by decide, fun j hj => absurd hj (Nat.not_lt_zero _), by first | exact (Below.refl _ _).alloc (Nat.le_refl _) _ | exact Below.refl _ _⟩
  case round =>
    obtain ⟨y, k, rfl, hy, hk, hn, hb⟩ := hrel
    have HN := Lib.hid hn
    have HB := Lib.hid hb
    clear hn hb
    rcases Nat.lt_or_ge k 3 with hk3 | hk3
    · rcases Nat.lt_or_ge s.size 2 with h2 | h2
      · have d2 : decide ((2 : Int) ≤ (s.size : Int)) = false := decide_eq_false (by omega)
        have HZ := Lib.hid (SZ.out h2)
        obtain rfl | rfl | rfl : k = 0 ∨ k = 1 ∨ k = 2 := by omega
        · obtain rfl : y = 0 := hy
          have ha := arr12_0
          clear hk hk3
          go_wp2_with fail
          go_roundw
          case rel => exact ⟨_, 1, rfl, rfl, by decide, fun j hj => HZ.out j (by omega), HB.out⟩
          case measure => simp [intOf]
        · obtain rfl : y = 1 := hy
          have ha := arr12_1
          clear hk hk3
          go_wp2_with fail
          go_roundw
          case rel => exact ⟨_, 2, rfl, rfl, by decide, fun j hj => HZ.out j (by omega), HB.out⟩
          case measure => simp [intOf]
        · obtain rfl : y = 2 := hy
          have ha := arr12_2
          clear hk hk3
          go_wp2_with fail
          go_roundw
          case rel => exact ⟨_, 3, rfl, rfl, by decide, fun j hj => HZ.out j (by omega), HB.out⟩
          case measure => simp [intOf]
      · have d2 : decide ((2 : Int) ≤ (s.size : Int)) = true := decide_eq_true (by omega)
        obtain ⟨X, hX⟩ : ∃ X, s.extract 0 2 = X := ⟨_, rfl⟩
        have hsl : ∀ w', (Instr.slice 9 (.string s) none (some (.int .i64 2)) none).run Tryz.prog w' = .ok (.string X) w' := sl_to (i := 2) h2 hX
        have HXB : Hid (bs9 X = (bs9 s).take 2) := by show _ = _; rw [← hX, bs9_take]
        clear hX
        obtain rfl | rfl | rfl : k = 0 ∨ k = 1 ∨ k = 2 := by omega
        · obtain rfl : y = 0 := hy
          have ha := arr12_0
          by_cases hx : bs9 X = [123, 123]
          · have d : (X.toList == ([123, 123] : List UInt8)) = true := lit_yes hx
            have E : Hid (n = 2) := by show _ = _; rw [← H.out]; exact mrk_two (k := 0) (by rw [← HXB.out, hx]; rfl)
            clear hx hk hk3
            go_wp2_with fail
            go_ret
            exact ⟨by rw [E.out]; rfl, HB.out⟩
          · have d : (X.toList == ([123, 123] : List UInt8)) = false := lit_not hx
            have E : Hid (∀ j, j < 1 → twos[j]? ≠ some ((bs9 s).take 2)) := all_next HN.out (fun e => hx (by rw [HXB.out]; exact (Option.some.inj e).symm))
            clear hx hk hk3
            go_wp2_with fail
            go_roundw
            case rel => exact ⟨_, 1, rfl, rfl, by decide, E.out, HB.out⟩
            case measure => simp [intOf]
        · obtain rfl : y = 1 := hy
          have ha := arr12_1
          by_cases hx : bs9 X = [125, 125]
          · have d : (X.toList == ([125, 125] : List UInt8)) = true := lit_yes hx
            have E : Hid (n = 2) := by show _ = _; rw [← H.out]; exact mrk_two (k := 1) (by rw [← HXB.out, hx]; rfl)
            clear hx hk hk3
            go_wp2_with fail
            go_ret
            exact ⟨by rw [E.out]; rfl, HB.out⟩
          · have d : (X.toList == ([125, 125] : List UInt8)) = false := lit_not hx
            have E : Hid (∀ j, j < 2 → twos[j]? ≠ some ((bs9 s).take 2)) := all_next HN.out (fun e => hx (by rw [HXB.out]; exact (Option.some.inj e).symm))
            clear hx hk hk3
            go_wp2_with fail
            go_roundw
            case rel => exact ⟨_, 2, rfl, rfl, by decide, E.out, HB.out⟩
            case measure => simp [intOf]
        · obtain rfl : y = 2 := hy
          have ha := arr12_2
          by_cases hx : bs9 X = [64, 64]
          · have d : (X.toList == ([64, 64] : List UInt8)) = true := lit_yes hx
            have E : Hid (n = 2) := by show _ = _; rw [← H.out]; exact mrk_two (k := 2) (by rw [← HXB.out, hx]; rfl)
            clear hx hk hk3
            go_wp2_with fail
            go_ret
            exact ⟨by rw [E.out]; rfl, HB.out⟩
          · have d : (X.toList == ([64, 64] : List UInt8)) = false := lit_not hx
            have E : Hid (∀ j, j < 3 → twos[j]? ≠ some ((bs9 s).take 2)) := all_next HN.out (fun e => hx (by rw [HXB.out]; exact (Option.some.inj e).symm))
            clear hx hk hk3
            go_wp2_with fail
            go_roundw
            case rel => exact ⟨_, 3, rfl, rfl, by decide, E.out, HB.out⟩
            case measure => simp [intOf]
    · obtain rfl : k = 3 := by omega
      obtain rfl : y = 3 := hy
      clear hk hk3
      obtain ⟨wo, hwo⟩ : ∃ wo : World, wo = wr := ⟨_, rfl⟩
      rcases Nat.eq_zero_or_pos s.size with h0 | h0
      · have de := emp_yes h0
        have E : Hid (n = 0) := by show _ = _; rw [← H.out]; exact mrk_none HN.out (fun j _ x hx => by rw [nil_of h0] at hx; cases hx)
        go_wp2_with fail
        go_loopw [22] (fun kv wq => ∃ k : Nat, kv = .int .i64 k ∧ k ≤ 12 ∧ Below w.heap.size w wq) (fun kv _ => 12 - (intOf kv).toNat)
        case atStart => exact ⟨0, rfl, by decide, HB.out⟩
        case round =>
          obtain ⟨k, rfl, hk, hb⟩ := hrel
          clear HB
          have HB := Lib.hid hb
          clear hb
          rcases Nat.lt_or_ge k 12 with hkl | hkg
          · go_wp2_with fail
            go_quiet (fail)
            go_wp2_with fail
            go_roundw
            case rel => exact ⟨k + 1, by go_num, by omega, HB.out.trans ((below_drewN _ _).mono HB.out.size)⟩
            case measure => simp [intOf] <;> omega
          · go_wp2_with fail
            go_ret
            exact ⟨by rw [E.out]; rfl, HB.out⟩
      · have de := emp_not h0
        obtain ⟨x, hx⟩ : ∃ x, x = (s[0]'h0).toNat := ⟨_, rfl⟩
        have ex : ((s[0]'h0).toNat : Int) = (x : Int) := by rw [hx]
        have HX : Hid ((bs9 s).head? = some x) := by show _ = _; rw [List.head?_eq_getElem?, bs9_at s 0 h0, hx]
        clear hx
        go_wp2_with fail
        go_loopw [22] (fun kv wq => ∃ (y : Int) (k : Nat), kv = .int .i64 y ∧ y = (k : Int) ∧ k ≤ 12 ∧ (∀ j, j < k → ones[j]? ≠ some x) ∧ Below w.heap.size w wq) (fun kv _ => 12 - (intOf kv).toNat)
        case atStart => exact ⟨0, 0, rfl, rfl, by decide, fun j hj => absurd hj (Nat.not_lt_zero _), HB.out⟩
        case round =>
          obtain ⟨y, k, rfl, hy, hk, hn2, hb⟩ := hrel
          clear HB
          have HB := Lib.hid hb
          have HN2 := Lib.hid hn2
          clear hb hn2
          obtain rfl | rfl | rfl | rfl | rfl | rfl | rfl | rfl | rfl | rfl | rfl | rfl | rfl : k = 0 ∨ k = 1 ∨ k = 2 ∨ k = 3 ∨ k = 4 ∨ k = 5 ∨ k = 6 ∨ k = 7 ∨ k = 8 ∨ k = 9 ∨ k = 10 ∨ k = 11 ∨ k = 12 := by omega
          · obtain rfl : y = 0 := hy
            have ec : (((⟨#[123, 125, 64, 42, 33, 43, 45, 47, 40, 41, 44, 126]⟩ : ByteArray)[0]'(by decide)).toNat : Int) = 123 := rfl
            by_cases hxk : x = 123
            · have d : ((x : Int) == 123) = true := by rw [hxk]; rfl
              have E : Hid (n = 1) := by show _ = _; rw [← H.out]; exact mrk_one HN.out (k := 0) HX.out (by rw [hxk]; rfl)
              clear hxk hk
              go_wp2_with fail
              go_quiet (fail)
              go_wp2_with fail
              go_ret
              exact ⟨by rw [E.out]; rfl, HB.out.trans ((below_drewN _ _).mono HB.out.size)⟩
            · have d : ((x : Int) == 123) = false := by rw [beq_eq_false_iff_ne]; omega
              have E : Hid (∀ j, j < 1 → ones[j]? ≠ some x) := all_next HN2.out (fun e => hxk (Option.some.inj e).symm)
              clear hxk hk
              go_wp2_with fail
              go_quiet (fail)
              go_wp2_with fail
              go_roundw
              case rel => exact ⟨_, 1, rfl, rfl, by decide, E.out, HB.out.trans ((below_drewN _ _).mono HB.out.size)⟩
              case measure => simp [intOf]
          · obtain rfl : y = 1 := hy
            have ec : (((⟨#[123, 125, 64, 42, 33, 43, 45, 47, 40, 41, 44, 126]⟩ : ByteArray)[1]'(by decide)).toNat : Int) = 125 := rfl
            by_cases hxk : x = 125
            · have d : ((x : Int) == 125) = true := by rw [hxk]; rfl
              have E : Hid (n = 1) := by show _ = _; rw [← H.out]; exact mrk_one HN.out (k := 1) HX.out (by rw [hxk]; rfl)
              clear hxk hk
              go_wp2_with fail
              go_quiet (fail)
              go_wp2_with fail
              go_ret
              exact ⟨by rw [E.out]; rfl, HB.out.trans ((below_drewN _ _).mono HB.out.size)⟩
            · have d : ((x : Int) == 125) = false := by rw [beq_eq_false_iff_ne]; omega
              have E : Hid (∀ j, j < 2 → ones[j]? ≠ some x) := all_next HN2.out (fun e => hxk (Option.some.inj e).symm)
              clear hxk hk
              go_wp2_with fail
              go_quiet (fail)
              go_wp2_with fail
              go_roundw
              case rel => exact ⟨_, 2, rfl, rfl, by decide, E.out, HB.out.trans ((below_drewN _ _).mono HB.out.size)⟩
              case measure => simp [intOf]
          · obtain rfl : y = 2 := hy
            have ec : (((⟨#[123, 125, 64, 42, 33, 43, 45, 47, 40, 41, 44, 126]⟩ : ByteArray)[2]'(by decide)).toNat : Int) = 64 := rfl
            by_cases hxk : x = 64
            · have d : ((x : Int) == 64) = true := by rw [hxk]; rfl
              have E : Hid (n = 1) := by show _ = _; rw [← H.out]; exact mrk_one HN.out (k := 2) HX.out (by rw [hxk]; rfl)
              clear hxk hk
              go_wp2_with fail
              go_quiet (fail)
              go_wp2_with fail
              go_ret
              exact ⟨by rw [E.out]; rfl, HB.out.trans ((below_drewN _ _).mono HB.out.size)⟩
            · have d : ((x : Int) == 64) = false := by rw [beq_eq_false_iff_ne]; omega
              have E : Hid (∀ j, j < 3 → ones[j]? ≠ some x) := all_next HN2.out (fun e => hxk (Option.some.inj e).symm)
              clear hxk hk
              go_wp2_with fail
              go_quiet (fail)
              go_wp2_with fail
              go_roundw
              case rel => exact ⟨_, 3, rfl, rfl, by decide, E.out, HB.out.trans ((below_drewN _ _).mono HB.out.size)⟩
              case measure => simp [intOf]
          · obtain rfl : y = 3 := hy
            have ec : (((⟨#[123, 125, 64, 42, 33, 43, 45, 47, 40, 41, 44, 126]⟩ : ByteArray)[3]'(by decide)).toNat : Int) = 42 := rfl
            by_cases hxk : x = 42
            · have d : ((x : Int) == 42) = true := by rw [hxk]; rfl
              have E : Hid (n = 1) := by show _ = _; rw [← H.out]; exact mrk_one HN.out (k := 3) HX.out (by rw [hxk]; rfl)
              clear hxk hk
              go_wp2_with fail
              go_quiet (fail)
              go_wp2_with fail
              go_ret
              exact ⟨by rw [E.out]; rfl, HB.out.trans ((below_drewN _ _).mono HB.out.size)⟩
            · have d : ((x : Int) == 42) = false := by rw [beq_eq_false_iff_ne]; omega
              have E : Hid (∀ j, j < 4 → ones[j]? ≠ some x) := all_next HN2.out (fun e => hxk (Option.some.inj e).symm)
              clear hxk hk
              go_wp2_with fail
              go_quiet (fail)
              go_wp2_with fail
              go_roundw
              case rel => exact ⟨_, 4, rfl, rfl, by decide, E.out, HB.out.trans ((below_drewN _ _).mono HB.out.size)⟩
              case measure => simp [intOf]
          · obtain rfl : y = 4 := hy
            have ec : (((⟨#[123, 125, 64, 42, 33, 43, 45, 47, 40, 41, 44, 126]⟩ : ByteArray)[4]'(by decide)).toNat : Int) = 33 := rfl
            by_cases hxk : x = 33
            · have d : ((x : Int) == 33) = true := by rw [hxk]; rfl
              have E : Hid (n = 1) := by show _ = _; rw [← H.out]; exact mrk_one HN.out (k := 4) HX.out (by rw [hxk]; rfl)
              clear hxk hk
              go_wp2_with fail
              go_quiet (fail)
              go_wp2_with fail
              go_ret
              exact ⟨by rw [E.out]; rfl, HB.out.trans ((below_drewN _ _).mono HB.out.size)⟩
            · have d : ((x : Int) == 33) = false := by rw [beq_eq_false_iff_ne]; omega
              have E : Hid (∀ j, j < 5 → ones[j]? ≠ some x) := all_next HN2.out (fun e => hxk (Option.some.inj e).symm)
              clear hxk hk
              go_wp2_with fail
              go_quiet (fail)
              go_wp2_with fail
              go_roundw
              case rel => exact ⟨_, 5, rfl, rfl, by decide, E.out, HB.out.trans ((below_drewN _ _).mono HB.out.size)⟩
              case measure => simp [intOf]
          · obtain rfl : y = 5 := hy
            have ec : (((⟨#[123, 125, 64, 42, 33, 43, 45, 47, 40, 41, 44, 126]⟩ : ByteArray)[5]'(by decide)).toNat : Int) = 43 := rfl
            by_cases hxk : x = 43
            · have d : ((x : Int) == 43) = true := by rw [hxk]; rfl
              have E : Hid (n = 1) := by show _ = _; rw [← H.out]; exact mrk_one HN.out (k := 5) HX.out (by rw [hxk]; rfl)
              clear hxk hk
              go_wp2_with fail
              go_quiet (fail)
              go_wp2_with fail
              go_ret
              exact ⟨by rw [E.out]; rfl, HB.out.trans ((below_drewN _ _).mono HB.out.size)⟩
            · have d : ((x : Int) == 43) = false := by rw [beq_eq_false_iff_ne]; omega
              have E : Hid (∀ j, j < 6 → ones[j]? ≠ some x) := all_next HN2.out (fun e => hxk (Option.some.inj e).symm)
              clear hxk hk
              go_wp2_with fail
              go_quiet (fail)
              go_wp2_with fail
              go_roundw
              case rel => exact ⟨_, 6, rfl, rfl, by decide, E.out, HB.out.trans ((below_drewN _ _).mono HB.out.size)⟩
              case measure => simp [intOf]
          · obtain rfl : y = 6 := hy
            have ec : (((⟨#[123, 125, 64, 42, 33, 43, 45, 47, 40, 41, 44, 126]⟩ : ByteArray)[6]'(by decide)).toNat : Int) = 45 := rfl
            by_cases hxk : x = 45
            · have d : ((x : Int) == 45) = true := by rw [hxk]; rfl
              have E : Hid (n = 1) := by show _ = _; rw [← H.out]; exact mrk_one HN.out (k := 6) HX.out (by rw [hxk]; rfl)
              clear hxk hk
              go_wp2_with fail
              go_quiet (fail)
              go_wp2_with fail
              go_ret
              exact ⟨by rw [E.out]; rfl, HB.out.trans ((below_drewN _ _).mono HB.out.size)⟩
            · have d : ((x : Int) == 45) = false := by rw [beq_eq_false_iff_ne]; omega
              have E : Hid (∀ j, j < 7 → ones[j]? ≠ some x) := all_next HN2.out (fun e => hxk (Option.some.inj e).symm)
              clear hxk hk
              go_wp2_with fail
              go_quiet (fail)
              go_wp2_with fail
              go_roundw
              case rel => exact ⟨_, 7, rfl, rfl, by decide, E.out, HB.out.trans ((below_drewN _ _).mono HB.out.size)⟩
              case measure => simp [intOf]
          · obtain rfl : y = 7 := hy
            have ec : (((⟨#[123, 125, 64, 42, 33, 43, 45, 47, 40, 41, 44, 126]⟩ : ByteArray)[7]'(by decide)).toNat : Int) = 47 := rfl
            by_cases hxk : x = 47
            · have d : ((x : Int) == 47) = true := by rw [hxk]; rfl
              have E : Hid (n = 1) := by show _ = _; rw [← H.out]; exact mrk_one HN.out (k := 7) HX.out (by rw [hxk]; rfl)
              clear hxk hk
              go_wp2_with fail
              go_quiet (fail)
              go_wp2_with fail
              go_ret
              exact ⟨by rw [E.out]; rfl, HB.out.trans ((below_drewN _ _).mono HB.out.size)⟩
            · have d : ((x : Int) == 47) = false := by rw [beq_eq_false_iff_ne]; omega
              have E : Hid (∀ j, j < 8 → ones[j]? ≠ some x) := all_next HN2.out (fun e => hxk (Option.some.inj e).symm)
              clear hxk hk
              go_wp2_with fail
              go_quiet (fail)
              go_wp2_with fail
              go_roundw
              case rel => exact ⟨_, 8, rfl, rfl, by decide, E.out, HB.out.trans ((below_drewN _ _).mono HB.out.size)⟩
              case measure => simp [intOf]
          · obtain rfl : y = 8 := hy
            have ec : (((⟨#[123, 125, 64, 42, 33, 43, 45, 47, 40, 41, 44, 126]⟩ : ByteArray)[8]'(by decide)).toNat : Int) = 40 := rfl
            by_cases hxk : x = 40
            · have d : ((x : Int) == 40) = true := by rw [hxk]; rfl
              have E : Hid (n = 1) := by show _ = _; rw [← H.out]; exact mrk_one HN.out (k := 8) HX.out (by rw [hxk]; rfl)
              clear hxk hk
              go_wp2_with fail
              go_quiet (fail)
              go_wp2_with fail
              go_ret
              exact ⟨by rw [E.out]; rfl, HB.out.trans ((below_drewN _ _).mono HB.out.size)⟩
            · have d : ((x : Int) == 40) = false := by rw [beq_eq_false_iff_ne]; omega
              have E : Hid (∀ j, j < 9 → ones[j]? ≠ some x) := all_next HN2.out (fun e => hxk (Option.some.inj e).symm)
              clear hxk hk
              go_wp2_with fail
              go_quiet (fail)
              go_wp2_with fail
              go_roundw
              case rel => exact ⟨_, 9, rfl, rfl, by decide, E.out, HB.out.trans ((below_drewN _ _).mono HB.out.size)⟩
              case measure => simp [intOf]
          · obtain rfl : y = 9 := hy
            have ec : (((⟨#[123, 125, 64, 42, 33, 43, 45, 47, 40, 41, 44, 126]⟩ : ByteArray)[9]'(by decide)).toNat : Int) = 41 := rfl
            by_cases hxk : x = 41
            · have d : ((x : Int) == 41) = true := by rw [hxk]; rfl
              have E : Hid (n = 1) := by show _ = _; rw [← H.out]; exact mrk_one HN.out (k := 9) HX.out (by rw [hxk]; rfl)
              clear hxk hk
              go_wp2_with fail
              go_quiet (fail)
              go_wp2_with fail
              go_ret
              exact ⟨by rw [E.out]; rfl, HB.out.trans ((below_drewN _ _).mono HB.out.size)⟩
            · have d : ((x : Int) == 41) = false := by rw [beq_eq_false_iff_ne]; omega
              have E : Hid (∀ j, j < 10 → ones[j]? ≠ some x) := all_next HN2.out (fun e => hxk (Option.some.inj e).symm)
              clear hxk hk
              go_wp2_with fail
              go_quiet (fail)
              go_wp2_with fail
              go_roundw
              case rel => exact ⟨_, 10, rfl, rfl, by decide, E.out, HB.out.trans ((below_drewN _ _).mono HB.out.size)⟩
              case measure => simp [intOf]
          · obtain rfl : y = 10 := hy
            have ec : (((⟨#[123, 125, 64, 42, 33, 43, 45, 47, 40, 41, 44, 126]⟩ : ByteArray)[10]'(by decide)).toNat : Int) = 44 := rfl
            by_cases hxk : x = 44
            · have d : ((x : Int) == 44) = true := by rw [hxk]; rfl
              have E : Hid (n = 1) := by show _ = _; rw [← H.out]; exact mrk_one HN.out (k := 10) HX.out (by rw [hxk]; rfl)
              clear hxk hk
              go_wp2_with fail
              go_quiet (fail)
              go_wp2_with fail
              go_ret
              exact ⟨by rw [E.out]; rfl, HB.out.trans ((below_drewN _ _).mono HB.out.size)⟩
            · have d : ((x : Int) == 44) = false := by rw [beq_eq_false_iff_ne]; omega
              have E : Hid (∀ j, j < 11 → ones[j]? ≠ some x) := all_next HN2.out (fun e => hxk (Option.some.inj e).symm)
              clear hxk hk
              go_wp2_with fail
              go_quiet (fail)
              go_wp2_with fail
              go_roundw
              case rel => exact ⟨_, 11, rfl, rfl, by decide, E.out, HB.out.trans ((below_drewN _ _).mono HB.out.size)⟩
              case measure => simp [intOf]
          · obtain rfl : y = 11 := hy
            have ec : (((⟨#[123, 125, 64, 42, 33, 43, 45, 47, 40, 41, 44, 126]⟩ : ByteArray)[11]'(by decide)).toNat : Int) = 126 := rfl
            by_cases hxk : x = 126
            · have d : ((x : Int) == 126) = true := by rw [hxk]; rfl
              have E : Hid (n = 1) := by show _ = _; rw [← H.out]; exact mrk_one HN.out (k := 11) HX.out (by rw [hxk]; rfl)
              clear hxk hk
              go_wp2_with fail
              go_quiet (fail)
              go_wp2_with fail
              go_ret
              exact ⟨by rw [E.out]; rfl, HB.out.trans ((below_drewN _ _).mono HB.out.size)⟩
            · have d : ((x : Int) == 126) = false := by rw [beq_eq_false_iff_ne]; omega
              have E : Hid (∀ j, j < 12 → ones[j]? ≠ some x) := all_next HN2.out (fun e => hxk (Option.some.inj e).symm)
              clear hxk hk
              go_wp2_with fail
              go_quiet (fail)
              go_wp2_with fail
              go_roundw
              case rel => exact ⟨_, 12, rfl, rfl, by decide, E.out, HB.out.trans ((below_drewN _ _).mono HB.out.size)⟩
              case measure => simp [intOf]
          · obtain rfl : y = 12 := hy
            have E : Hid (n = 0) := by show _ = _; rw [← H.out]; exact mrk_none HN.out (fun j hj z hz => by rw [HX.out] at hz; rw [← Option.some.inj hz]; exact HN2.out j hj)
            clear hk
            go_wp2_with fail
            go_ret
            exact ⟨by rw [E.out]; rfl, HB.out⟩

/-- A word as a value. -/
def tkv (k : Nat) (X : ByteArray) (l c : Int) : Value := .agg #[.int .i64 (k : Int), .string X, .int .i64 l, .int .i64 c]
set_option maxHeartbeats 4000000 in
set_option maxRecDepth 100000 in
theorem token_ok (k : Nat) (X : ByteArray) (n : Nat) (w : World) : Calls Tryz.prog 29 #[.int .i64 (k : Int), .string X, .int .i64 (n : Int), .bool true] w (Ret9 w (.tuple #[.agg #[.int .i64 (k : Int), .string X, .int .i64 0, .int .i64 0], .int .i64 (n : Int), .int .i64 0])) := by
  go_enter Tryz.func29, Tryz.ntmps29
  go_wp2_with fail
  exact bodyPost_ret (v := .tuple #[.agg #[.int .i64 (k : Int), .string X, .int .i64 0, .int .i64 0], .int .i64 (n : Int), .int .i64 0]) (by simp [results, Tryz.results29, go_sem, tkv]) rfl ⟨rfl, by first | exact (Below.refl _ _).alloc (Nat.le_refl _) _ | skip⟩
set_option maxHeartbeats 4000000 in
set_option maxRecDepth 100000 in
theorem token_no (k : Nat) (X : ByteArray) (n : Nat) (w : World) : Calls Tryz.prog 29 #[.int .i64 (k : Int), .string X, .int .i64 (n : Int), .bool false] w (Ret9 w (.tuple #[.agg #[.int .i64 0, .string ⟨#[]⟩, .int .i64 0, .int .i64 0], .int .i64 0, .int .i64 3])) := by
  go_enter Tryz.func29, Tryz.ntmps29
  go_wp2_with fail
  exact bodyPost_ret (v := .tuple #[.agg #[.int .i64 0, .string ⟨#[]⟩, .int .i64 0, .int .i64 0], .int .i64 0, .int .i64 3]) (by simp [results, Tryz.results29, go_sem, tkv]) rfl ⟨rfl, by first | exact (Below.refl _ _).alloc (Nat.le_refl _) _ | skip⟩

end Go.Proofs.YtjkandnbjbfeiaaGreatDoor

/-
  Contracts of layer 12: a word's box in memory; the document's numeral.
-/
namespace Go.Proofs.YtjkandnbjbfeiaaGreatDoor
open Go.RowKit

/-- A block of four cells, none of them frozen. -/
structure Bx4 (v : World) (g : Nat) (x0 x1 x2 x3 : Value) : Prop where
  c0 : v.cell? ⟨g, 0, none⟩ = some x0
  c1 : v.cell? ⟨g, 1, none⟩ = some x1
  c2 : v.cell? ⟨g, 2, none⟩ = some x2
  c3 : v.cell? ⟨g, 3, none⟩ = some x3
  f0 : v.frozen? ⟨g, 0, none⟩ = false
  f1 : v.frozen? ⟨g, 1, none⟩ = false
  f2 : v.frozen? ⟨g, 2, none⟩ = false
  f3 : v.frozen? ⟨g, 3, none⟩ = false
  lt : g < v.heap.size
section
variable {v v' : World} {g : Nat} {x0 x1 x2 x3 : Value}
theorem Bx4.newAt (v : World) (x0 x1 x2 x3 : Value) (t : TypeId) (h : g = v.heap.size) : Bx4 (v.alloc (.cells #[x0, x1, x2, x3] t)) g x0 x1 x2 x3 := by
  subst h; exact ⟨by simp, by simp, by simp, by simp, by simp, by simp, by simp, by simp, by simp⟩
theorem Bx4.on (h : Bx4 v g x0 x1 x2 x3) (hb : Below v.heap.size v v') : Bx4 v' g x0 x1 x2 x3 :=
  ⟨(hb.cell (p := ⟨g, 0, none⟩) h.lt).trans h.c0, (hb.cell (p := ⟨g, 1, none⟩) h.lt).trans h.c1, (hb.cell (p := ⟨g, 2, none⟩) h.lt).trans h.c2, (hb.cell (p := ⟨g, 3, none⟩) h.lt).trans h.c3,
   (hb.frozen (p := ⟨g, 0, none⟩) h.lt).trans h.f0, (hb.frozen (p := ⟨g, 1, none⟩) h.lt).trans h.f1, (hb.frozen (p := ⟨g, 2, none⟩) h.lt).trans h.f2, (hb.frozen (p := ⟨g, 3, none⟩) h.lt).trans h.f3, Nat.lt_of_lt_of_le h.lt hb.size⟩
theorem Bx4.set0 (h : Bx4 v g x0 x1 x2 x3) (y : Value) : Bx4 (v.setCell ⟨g, 0, none⟩ y) g y x1 x2 x3 :=
  ⟨World.cell?_setCell_same _ _ _ h.c0, (World.cell?_setCell_other _ _ _ _ (by simp)).trans h.c1, (World.cell?_setCell_other _ _ _ _ (by simp)).trans h.c2, (World.cell?_setCell_other _ _ _ _ (by simp)).trans h.c3, by rw [World.frozen?_setCell]; exact h.f0, by rw [World.frozen?_setCell]; exact h.f1, by rw [World.frozen?_setCell]; exact h.f2, by rw [World.frozen?_setCell]; exact h.f3, by have := h.lt; simpa using this⟩
theorem Bx4.set1 (h : Bx4 v g x0 x1 x2 x3) (y : Value) : Bx4 (v.setCell ⟨g, 1, none⟩ y) g x0 y x2 x3 :=
  ⟨(World.cell?_setCell_other _ _ _ _ (by simp)).trans h.c0, World.cell?_setCell_same _ _ _ h.c1, (World.cell?_setCell_other _ _ _ _ (by simp)).trans h.c2, (World.cell?_setCell_other _ _ _ _ (by simp)).trans h.c3, by rw [World.frozen?_setCell]; exact h.f0, by rw [World.frozen?_setCell]; exact h.f1, by rw [World.frozen?_setCell]; exact h.f2, by rw [World.frozen?_setCell]; exact h.f3, by have := h.lt; simpa using this⟩
theorem Bx4.set2 (h : Bx4 v g x0 x1 x2 x3) (y : Value) : Bx4 (v.setCell ⟨g, 2, none⟩ y) g x0 x1 y x3 :=
  ⟨(World.cell?_setCell_other _ _ _ _ (by simp)).trans h.c0, (World.cell?_setCell_other _ _ _ _ (by simp)).trans h.c1, World.cell?_setCell_same _ _ _ h.c2, (World.cell?_setCell_other _ _ _ _ (by simp)).trans h.c3, by rw [World.frozen?_setCell]; exact h.f0, by rw [World.frozen?_setCell]; exact h.f1, by rw [World.frozen?_setCell]; exact h.f2, by rw [World.frozen?_setCell]; exact h.f3, by have := h.lt; simpa using this⟩
theorem Bx4.set3 (h : Bx4 v g x0 x1 x2 x3) (y : Value) : Bx4 (v.setCell ⟨g, 3, none⟩ y) g x0 x1 x2 y :=
  ⟨(World.cell?_setCell_other _ _ _ _ (by simp)).trans h.c0, (World.cell?_setCell_other _ _ _ _ (by simp)).trans h.c1, (World.cell?_setCell_other _ _ _ _ (by simp)).trans h.c2, World.cell?_setCell_same _ _ _ h.c3, by rw [World.frozen?_setCell]; exact h.f0, by rw [World.frozen?_setCell]; exact h.f1, by rw [World.frozen?_setCell]; exact h.f2, by rw [World.frozen?_setCell]; exact h.f3, by have := h.lt; simpa using this⟩
end
/-- A result's box: it lies where the call's own memory begins. -/
def Rbx (w W : World) (x0 x1 x2 x3 : Value) : Prop := Below w.heap.size w W ∧ Bx4 W w.heap.size x0 x1 x2 x3
abbrev Rz (w W : World) : Prop := Rbx w W (.int .i64 0) (.string ⟨#[]⟩) (.int .i64 0) (.int .i64 0)
theorem Rbx.on {w W W' : World} {x0 x1 x2 x3 : Value} (h : Rbx w W x0 x1 x2 x3) (hb : Below W.heap.size W W') : Rbx w W' x0 x1 x2 x3 := ⟨h.1.trans (hb.mono h.1.size), h.2.on hb⟩
theorem Rbx.new (w : World) (x0 x1 x2 x3 : Value) (t : TypeId) : Rbx w (w.alloc (.cells #[x0, x1, x2, x3] t)) x0 x1 x2 x3 := ⟨(Below.refl _ _).alloc (Nat.le_refl _) _, Bx4.newAt _ _ _ _ _ _ rfl⟩
theorem Rbx.lay {w W : World} {x0 x1 x2 x3 : Value} (h : Rbx w W x0 x1 x2 x3) (ob : Obj) : Rbx w (W.alloc ob) x0 x1 x2 x3 := h.on ((Below.refl _ _).alloc (Nat.le_refl _) _)
/-- What Next answers, as a value. -/
def nv : Nat ⊕ (Nat × List Nat × Nat) → Value
  | .inl e => .tuple #[tkv 0 ⟨#[]⟩ 0 0, .int .i64 0, .int .i64 (e : Int)]
  | .inr (k, x, n) => .tuple #[tkv k (st9 x) 0 0, .int .i64 (n : Int), .int .i64 0]
/-- What is asked of a world (that tables hold what the text lays) and stays so. -/
def Okw (ok : World → Prop) : Prop := ∀ {w w' : World}, ok w → Below w.heap.size w w' → ok w'
/-- What is known of the elder layers' answers: D tells which texts are days, N which are numbers. -/
def P08 (D : List Nat → Bool) (ok : World → Prop) : Prop := ∀ (s : ByteArray) (w : World), ok w → s.size ≤ 300 → Calls Tryz.prog 56 #[.string s] w (fun e w' => ∃ (y m d : Int) (z : Nat), e = .returned (.tuple #[.agg #[.int .i64 y, .int .i64 m, .int .i64 d], .int .i64 (z : Int)]) ∧ D (bs9 s) = decide (z = 0) ∧ Below w.heap.size w w')
def P07 (N : List Nat → Bool) (ok : World → Prop) : Prop := ∀ (s : ByteArray) (w : World), ok w → s.size ≤ 1000 → Calls Tryz.prog 58 #[.string s] w (fun e w' => ∃ (b : Bool) (A : Option Addr) (n c : Nat) (k : Int) (z : Nat), e = .returned (.tuple #[.agg #[.bool b, .slice A n c, .int .i64 k], .int .i64 (z : Int)]) ∧ N (bs9 s) = decide (z = 0) ∧ Below w.heap.size w w')
theorem st9_take {s X : ByteArray} {n : Nat} (h : s.extract 0 n = X) : st9 ((bs9 s).take n) = X := by rw [← bs9_take, h, st9_bs9]

set_option maxHeartbeats 4000000 in
set_option maxRecDepth 100000 in
theorem numeral12 {D N : List Nat → Bool} {ok : World → Prop} (hk : Okw ok) (h8 : P08 D ok) (h7 : P07 N ok) {s : ByteArray} {r : Nat ⊕ (Nat × List Nat × Nat)} (h : num12 D N (bs9 s) = r) (hs : s.size ≤ 1000) (w : World) (hok : ok w) : Calls Tryz.prog 33 #[.string s] w (Ret9 w (nv r)) := by
  have H := Lib.hid h
  have H8 := Lib.hid h8
  have H7 := Lib.hid h7
  have OK : Hid (∀ {W : World}, Below w.heap.size w W → ok W) := fun hb => hk hok hb
  clear h h8 h7 hk hok
  have hs6 : s.size ≤ 1000000 := by omega
  obtain ⟨n, hn⟩ : ∃ n, nmb (bs9 s) = n := ⟨_, rfl⟩
  have hns : n ≤ s.size := by have := nmb_le (bs9 s); rw [bs9_len] at this; omega
  obtain ⟨Y, hY⟩ : ∃ Y, s.extract 0 n = Y := ⟨_, rfl⟩
  have hslY : ∀ w', (Instr.slice 9 (.string s) none (some (.int .i64 (n : Int))) none).run Tryz.prog w' = .ok (.string Y) w' := sl_to hns hY
  have HNB := Lib.hid hn
  have HYB : Hid (bs9 Y = (bs9 s).take n) := by show _ = _; rw [← hY, bs9_take]
  have hYs : Y.size ≤ 1000 := by rw [← bs9_len, HYB.out, List.length_take, bs9_len]; omega
  have HYS : Hid (st9 ((bs9 s).take n) = Y) := st9_take hY
  -- what a number is, if there is no day
  have NUM : Hid (¬ (10 ≤ s.size ∧ D ((bs9 s).take 10) = true ∧ ((bs9 s)[10]?).any dgB = false) → r = tkn 4 ((bs9 s).take n) n (N (bs9 Y))) := fun hno => by
    rw [← H.out]; unfold num12
    rw [bs9_len, if_neg hno, HYB.out, hn]
  clear hn hY
  rcases Nat.lt_or_ge s.size 10 with h10 | h10
  · have d10 : decide ((10 : Int) ≤ (s.size : Int)) = false := decide_eq_false (by omega)
    have hno : ¬ (10 ≤ s.size ∧ D ((bs9 s).take 10) = true ∧ ((bs9 s)[10]?).any dgB = false) := fun e => by omega
    go_enter Tryz.func33, Tryz.ntmps33
    have RB : Hid (Rz w (w.alloc (.cells #[.int .i64 0, .string ⟨#[]⟩, .int .i64 0, .int .i64 0] 34))) := Rbx.new _ _ _ _ _ _
    have E0 := Lib.hid (NUM.out hno)
    clear hno
    go_wp2_with fail
    refine (number12 HNB.out hs6 _).mono ?_; rintro e w4 ⟨rfl, hw⟩; obtain rfl := hw.symm
    go_wp2_with fail
    refine (H7.out Y _ (OK.out RB.out.1) hYs).mono ?_; rintro e w5 ⟨b, A, nn, c, k, z, rfl, hz, hb⟩
    replace RB := Lib.hid ((RB.out).on hb)
    have HZ := Lib.hid hz
    clear hb hz
    rcases Nat.eq_zero_or_pos z with z0 | z0
    · have dz : ((z : Int) == 0) = true := by rw [z0]; rfl
      have E : Hid (r = .inr (4, bs9 Y, n)) := by show _ = _; rw [E0.out, HZ.out, z0, ← HYB.out]; rfl
      clear z0
      go_wp2_with fail
      refine (token_ok 4 Y n _).mono ?_; rintro e w6 ⟨rfl, hb⟩
      replace RB := Lib.hid ((Rbx.lay RB.out _).on hb)
      clear hb
      obtain ⟨p0, p1, p2, p3, pf0, pf1, pf2, pf3, plt⟩ := RB.out.2
      go_wp2_with fail
      have Z := ((((RB.out.2).set0 (.int .i64 4)).set1 (.string Y)).set2 (.int .i64 0)).set3 (.int .i64 0)
      obtain ⟨e0, e1, e2, e3, _, _, _, _, _⟩ := Z
      exact bodyPost_ret (v := .tuple #[.agg #[.int .i64 4, .string Y, .int .i64 0, .int .i64 0], .int .i64 (n : Int), .int .i64 0]) (by simp [results, Tryz.results33, go_sem, tkv, e0, e1, e2, e3]) rfl ⟨by rw [E.out, nv, st9_bs9]; rfl, (((RB.out.1.setCell (p := ⟨w.heap.size, 0, none⟩) (Nat.le_refl _) _).setCell (p := ⟨w.heap.size, 1, none⟩) (Nat.le_refl _) _).setCell (p := ⟨w.heap.size, 2, none⟩) (Nat.le_refl _) _).setCell (p := ⟨w.heap.size, 3, none⟩) (Nat.le_refl _) _⟩
    · have dz : ((z : Int) == 0) = false := by rw [beq_eq_false_iff_ne]; omega
      have E : Hid (r = .inl 3) := by show _ = _; rw [E0.out, HZ.out, decide_eq_false (by omega)]; rfl
      clear z0
      go_wp2_with fail
      refine (token_no 4 Y n _).mono ?_; rintro e w6 ⟨rfl, hb⟩
      replace RB := Lib.hid ((Rbx.lay RB.out _).on hb)
      clear hb
      obtain ⟨p0, p1, p2, p3, pf0, pf1, pf2, pf3, plt⟩ := RB.out.2
      go_wp2_with fail
      have Z := ((((RB.out.2).set0 (.int .i64 0)).set1 (.string ⟨#[]⟩)).set2 (.int .i64 0)).set3 (.int .i64 0)
      obtain ⟨e0, e1, e2, e3, _, _, _, _, _⟩ := Z
      exact bodyPost_ret (v := .tuple #[.agg #[.int .i64 0, .string ⟨#[]⟩, .int .i64 0, .int .i64 0], .int .i64 0, .int .i64 3]) (by simp [results, Tryz.results33, go_sem, tkv, e0, e1, e2, e3]) rfl ⟨by rw [E.out, nv]; rfl, (((RB.out.1.setCell (p := ⟨w.heap.size, 0, none⟩) (Nat.le_refl _) _).setCell (p := ⟨w.heap.size, 1, none⟩) (Nat.le_refl _) _).setCell (p := ⟨w.heap.size, 2, none⟩) (Nat.le_refl _) _).setCell (p := ⟨w.heap.size, 3, none⟩) (Nat.le_refl _) _⟩
  · have d10 : decide ((10 : Int) ≤ (s.size : Int)) = true := decide_eq_true (by omega)
    obtain ⟨X, hX⟩ : ∃ X, s.extract 0 10 = X := ⟨_, rfl⟩
    have hslX : ∀ w', (Instr.slice 9 (.string s) none (some (.int .i64 10)) none).run Tryz.prog w' = .ok (.string X) w' := sl_to (i := 10) h10 hX
    have HXB : Hid (bs9 X = (bs9 s).take 10) := by show _ = _; rw [← hX, bs9_take]
    have hXs : X.size ≤ 300 := by rw [← bs9_len, HXB.out, List.length_take]; omega
    clear hX
    go_enter Tryz.func33, Tryz.ntmps33
    have RB : Hid (Rz w (w.alloc (.cells #[.int .i64 0, .string ⟨#[]⟩, .int .i64 0, .int .i64 0] 34))) := Rbx.new _ _ _ _ _ _
    go_wp2_with fail
    refine (H8.out X _ (OK.out RB.out.1) hXs).mono ?_; rintro e w1 ⟨y, m, d, z, rfl, hz, hb⟩
    replace RB := Lib.hid (RB.out.on hb)
    have HZ := Lib.hid hz
    clear hb hz
    rcases Nat.eq_zero_or_pos z with z0 | z0
    · have dz : ((z : Int) == 0) = true := by rw [z0]; rfl
      have HD : Hid (D ((bs9 s).take 10) = true) := by show _ = _; rw [← HXB.out, HZ.out, z0]; rfl
      clear z0
      rcases Nat.lt_or_ge 10 s.size with h11 | h11
      · have ds : ((s.size : Int) == 10) = false := by rw [beq_eq_false_iff_ne]; omega
        obtain ⟨x, hx⟩ : ∃ x, x = (s[10]'h11).toNat := ⟨_, rfl⟩
        have ex : ((s[10]'h11).toNat : Int) = (x : Int) := by rw [hx]
        have HX : Hid ((bs9 s)[10]? = some x) := by show _ = _; rw [bs9_at s 10 h11, hx]
        clear hx
        cases hd : dgB x with
        | true =>
          have DG := Lib.hid hd
          have hno : ¬ (10 ≤ s.size ∧ D ((bs9 s).take 10) = true ∧ ((bs9 s)[10]?).any dgB = false) := fun e => by
            have e2 := e.2.2
            rw [HX.out] at e2
            have e3 : dgB x = false := e2
            rw [hd] at e3; cases e3
          clear hd
          go_wp2_with fail
          refine (dg12 DG.out _).mono ?_; rintro e w4 ⟨rfl, hw⟩; obtain rfl := hw.symm
          replace RB := Lib.hid (Rbx.lay RB.out (.cells #[.int .i64 y, .int .i64 m, .int .i64 d] 72))
          have E0 := Lib.hid (NUM.out hno)
          clear hno
          go_wp2_with fail
          refine (number12 HNB.out hs6 _).mono ?_; rintro e w4 ⟨rfl, hw⟩; obtain rfl := hw.symm
          go_wp2_with fail
          refine (H7.out Y _ (OK.out RB.out.1) hYs).mono ?_; rintro e w5 ⟨b, A, nn, c, k, z, rfl, hz, hb⟩
          replace RB := Lib.hid ((RB.out).on hb)
          have HZ := Lib.hid hz
          clear hb hz
          rcases Nat.eq_zero_or_pos z with z0 | z0
          · have dz : ((z : Int) == 0) = true := by rw [z0]; rfl
            have E : Hid (r = .inr (4, bs9 Y, n)) := by show _ = _; rw [E0.out, HZ.out, z0, ← HYB.out]; rfl
            clear z0
            go_wp2_with fail
            refine (token_ok 4 Y n _).mono ?_; rintro e w6 ⟨rfl, hb⟩
            replace RB := Lib.hid ((Rbx.lay RB.out _).on hb)
            clear hb
            obtain ⟨p0, p1, p2, p3, pf0, pf1, pf2, pf3, plt⟩ := RB.out.2
            go_wp2_with fail
            have Z := ((((RB.out.2).set0 (.int .i64 4)).set1 (.string Y)).set2 (.int .i64 0)).set3 (.int .i64 0)
            obtain ⟨e0, e1, e2, e3, _, _, _, _, _⟩ := Z
            exact bodyPost_ret (v := .tuple #[.agg #[.int .i64 4, .string Y, .int .i64 0, .int .i64 0], .int .i64 (n : Int), .int .i64 0]) (by simp [results, Tryz.results33, go_sem, tkv, e0, e1, e2, e3]) rfl ⟨by rw [E.out, nv, st9_bs9]; rfl, (((RB.out.1.setCell (p := ⟨w.heap.size, 0, none⟩) (Nat.le_refl _) _).setCell (p := ⟨w.heap.size, 1, none⟩) (Nat.le_refl _) _).setCell (p := ⟨w.heap.size, 2, none⟩) (Nat.le_refl _) _).setCell (p := ⟨w.heap.size, 3, none⟩) (Nat.le_refl _) _⟩
          · have dz : ((z : Int) == 0) = false := by rw [beq_eq_false_iff_ne]; omega
            have E : Hid (r = .inl 3) := by show _ = _; rw [E0.out, HZ.out, decide_eq_false (by omega)]; rfl
            clear z0
            go_wp2_with fail
            refine (token_no 4 Y n _).mono ?_; rintro e w6 ⟨rfl, hb⟩
            replace RB := Lib.hid ((Rbx.lay RB.out _).on hb)
            clear hb
            obtain ⟨p0, p1, p2, p3, pf0, pf1, pf2, pf3, plt⟩ := RB.out.2
            go_wp2_with fail
            have Z := ((((RB.out.2).set0 (.int .i64 0)).set1 (.string ⟨#[]⟩)).set2 (.int .i64 0)).set3 (.int .i64 0)
            obtain ⟨e0, e1, e2, e3, _, _, _, _, _⟩ := Z
            exact bodyPost_ret (v := .tuple #[.agg #[.int .i64 0, .string ⟨#[]⟩, .int .i64 0, .int .i64 0], .int .i64 0, .int .i64 3]) (by simp [results, Tryz.results33, go_sem, tkv, e0, e1, e2, e3]) rfl ⟨by rw [E.out, nv]; rfl, (((RB.out.1.setCell (p := ⟨w.heap.size, 0, none⟩) (Nat.le_refl _) _).setCell (p := ⟨w.heap.size, 1, none⟩) (Nat.le_refl _) _).setCell (p := ⟨w.heap.size, 2, none⟩) (Nat.le_refl _) _).setCell (p := ⟨w.heap.size, 3, none⟩) (Nat.le_refl _) _⟩
        | false =>
          have DG := Lib.hid hd
          have E : Hid (r = .inr (1, bs9 X, 10)) := by
            show _ = _
            rw [← H.out]; unfold num12
            rw [bs9_len, if_pos ⟨h10, HD.out, by rw [HX.out]; exact hd⟩, HXB.out]
          clear hd
          go_wp2_with fail
          refine (dg12 DG.out _).mono ?_; rintro e w4 ⟨rfl, hw⟩; obtain rfl := hw.symm
          go_wp2_with fail
          refine (token_ok 1 X 10 _).mono ?_; rintro e w6 ⟨rfl, hb⟩
          replace RB := Lib.hid ((Rbx.lay RB.out _).on hb)
          clear hb
          obtain ⟨p0, p1, p2, p3, pf0, pf1, pf2, pf3, plt⟩ := RB.out.2
          go_wp2_with fail
          have Z := ((((RB.out.2).set0 (.int .i64 1)).set1 (.string X)).set2 (.int .i64 0)).set3 (.int .i64 0)
          obtain ⟨e0, e1, e2, e3, _, _, _, _, _⟩ := Z
          exact bodyPost_ret (v := .tuple #[.agg #[.int .i64 1, .string X, .int .i64 0, .int .i64 0], .int .i64 10, .int .i64 0]) (by simp [results, Tryz.results33, go_sem, tkv, e0, e1, e2, e3]) rfl ⟨by rw [E.out, nv, st9_bs9]; rfl, (((RB.out.1.setCell (p := ⟨w.heap.size, 0, none⟩) (Nat.le_refl _) _).setCell (p := ⟨w.heap.size, 1, none⟩) (Nat.le_refl _) _).setCell (p := ⟨w.heap.size, 2, none⟩) (Nat.le_refl _) _).setCell (p := ⟨w.heap.size, 3, none⟩) (Nat.le_refl _) _⟩
      · have ds : ((s.size : Int) == 10) = true := by rw [beq_iff_eq]; omega
        have E : Hid (r = .inr (1, bs9 X, 10)) := by
          show _ = _
          rw [← H.out]; unfold num12
          rw [bs9_len, if_pos ⟨h10, HD.out, by rw [List.getElem?_eq_none (by rw [bs9_len]; exact h11)]; rfl⟩, HXB.out]
        go_wp2_with fail
        refine (token_ok 1 X 10 _).mono ?_; rintro e w6 ⟨rfl, hb⟩
        replace RB := Lib.hid ((Rbx.lay RB.out _).on hb)
        clear hb
        obtain ⟨p0, p1, p2, p3, pf0, pf1, pf2, pf3, plt⟩ := RB.out.2
        go_wp2_with fail
        have Z := ((((RB.out.2).set0 (.int .i64 1)).set1 (.string X)).set2 (.int .i64 0)).set3 (.int .i64 0)
        obtain ⟨e0, e1, e2, e3, _, _, _, _, _⟩ := Z
        exact bodyPost_ret (v := .tuple #[.agg #[.int .i64 1, .string X, .int .i64 0, .int .i64 0], .int .i64 10, .int .i64 0]) (by simp [results, Tryz.results33, go_sem, tkv, e0, e1, e2, e3]) rfl ⟨by rw [E.out, nv, st9_bs9]; rfl, (((RB.out.1.setCell (p := ⟨w.heap.size, 0, none⟩) (Nat.le_refl _) _).setCell (p := ⟨w.heap.size, 1, none⟩) (Nat.le_refl _) _).setCell (p := ⟨w.heap.size, 2, none⟩) (Nat.le_refl _) _).setCell (p := ⟨w.heap.size, 3, none⟩) (Nat.le_refl _) _⟩
    · have dz : ((z : Int) == 0) = false := by rw [beq_eq_false_iff_ne]; omega
      have hno : ¬ (10 ≤ s.size ∧ D ((bs9 s).take 10) = true ∧ ((bs9 s)[10]?).any dgB = false) := fun e => by
        have e2 := e.2.1
        rw [← HXB.out, HZ.out, decide_eq_true_iff] at e2
        omega
      clear z0
      replace RB := Lib.hid (Rbx.lay RB.out (.cells #[.int .i64 y, .int .i64 m, .int .i64 d] 72))
      have E0 := Lib.hid (NUM.out hno)
      clear hno
      go_wp2_with fail
      refine (number12 HNB.out hs6 _).mono ?_; rintro e w4 ⟨rfl, hw⟩; obtain rfl := hw.symm
      go_wp2_with fail
      refine (H7.out Y _ (OK.out RB.out.1) hYs).mono ?_; rintro e w5 ⟨b, A, nn, c, k, z, rfl, hz, hb⟩
      replace RB := Lib.hid ((RB.out).on hb)
      have HZ := Lib.hid hz
      clear hb hz
      rcases Nat.eq_zero_or_pos z with z0 | z0
      · have dz : ((z : Int) == 0) = true := by rw [z0]; rfl
        have E : Hid (r = .inr (4, bs9 Y, n)) := by show _ = _; rw [E0.out, HZ.out, z0, ← HYB.out]; rfl
        clear z0
        go_wp2_with fail
        refine (token_ok 4 Y n _).mono ?_; rintro e w6 ⟨rfl, hb⟩
        replace RB := Lib.hid ((Rbx.lay RB.out _).on hb)
        clear hb
        obtain ⟨p0, p1, p2, p3, pf0, pf1, pf2, pf3, plt⟩ := RB.out.2
        go_wp2_with fail
        have Z := ((((RB.out.2).set0 (.int .i64 4)).set1 (.string Y)).set2 (.int .i64 0)).set3 (.int .i64 0)
        obtain ⟨e0, e1, e2, e3, _, _, _, _, _⟩ := Z
        exact bodyPost_ret (v := .tuple #[.agg #[.int .i64 4, .string Y, .int .i64 0, .int .i64 0], .int .i64 (n : Int), .int .i64 0]) (by simp [results, Tryz.results33, go_sem, tkv, e0, e1, e2, e3]) rfl ⟨by rw [E.out, nv, st9_bs9]; rfl, (((RB.out.1.setCell (p := ⟨w.heap.size, 0, none⟩) (Nat.le_refl _) _).setCell (p := ⟨w.heap.size, 1, none⟩) (Nat.le_refl _) _).setCell (p := ⟨w.heap.size, 2, none⟩) (Nat.le_refl _) _).setCell (p := ⟨w.heap.size, 3, none⟩) (Nat.le_refl _) _⟩
      · have dz : ((z : Int) == 0) = false := by rw [beq_eq_false_iff_ne]; omega
        have E : Hid (r = .inl 3) := by show _ = _; rw [E0.out, HZ.out, decide_eq_false (by omega)]; rfl
        clear z0
        go_wp2_with fail
        refine (token_no 4 Y n _).mono ?_; rintro e w6 ⟨rfl, hb⟩
        replace RB := Lib.hid ((Rbx.lay RB.out _).on hb)
        clear hb
        obtain ⟨p0, p1, p2, p3, pf0, pf1, pf2, pf3, plt⟩ := RB.out.2
        go_wp2_with fail
        have Z := ((((RB.out.2).set0 (.int .i64 0)).set1 (.string ⟨#[]⟩)).set2 (.int .i64 0)).set3 (.int .i64 0)
        obtain ⟨e0, e1, e2, e3, _, _, _, _, _⟩ := Z
        exact bodyPost_ret (v := .tuple #[.agg #[.int .i64 0, .string ⟨#[]⟩, .int .i64 0, .int .i64 0], .int .i64 0, .int .i64 3]) (by simp [results, Tryz.results33, go_sem, tkv, e0, e1, e2, e3]) rfl ⟨by rw [E.out, nv]; rfl, (((RB.out.1.setCell (p := ⟨w.heap.size, 0, none⟩) (Nat.le_refl _) _).setCell (p := ⟨w.heap.size, 1, none⟩) (Nat.le_refl _) _).setCell (p := ⟨w.heap.size, 2, none⟩) (Nat.le_refl _) _).setCell (p := ⟨w.heap.size, 3, none⟩) (Nat.le_refl _) _⟩

end Go.Proofs.YtjkandnbjbfeiaaGreatDoor
