/-
  Contracts of layer 11, the second part: isPart, Currency, Tag, Key and the document's.
-/
import Derived.Test.YtaaikbbgbnbmkaaDoorNamA
set_option linter.unusedVariables false
set_option linter.unusedSimpArgs false
namespace Go.Proofs.YtaaikbbgbnbmkaaDoor
open Go.RowKit

def prtC (c : Nat) : Bool := upB c || dgB c || lwB c || c == 45
def curC (c : Nat) : Bool := upB c || dgB c || c == 39 || c == 46 || c == 95 || c == 45
def tagC (c : Nat) : Bool := upB c || lwB c || dgB c || c == 45 || c == 95 || c == 47 || c == 46
def keyC (c : Nat) : Bool := upB c || lwB c || dgB c || c == 45 || c == 95
def ud (c : Nat) : Bool := upB c || dgB c
/-- A part of an account, a currency, a tag, a key. -/
def prtB (l : List Nat) : Bool := !l.isEmpty && ud (l.headD 0) && l.all prtC
def curB (l : List Nat) : Bool := !l.isEmpty && decide (l.length ≤ 24) && upB (l.headD 0) && l.all curC && ud (l.getLastD 0)
def tagB (l : List Nat) : Bool := !l.isEmpty && l.all tagC
def keyB (l : List Nat) : Bool := !l.isEmpty && lwB (l.headD 0) && l.all keyC

theorem fst_of {s : ByteArray} (h : 0 < s.size) : (bs9 s).isEmpty = false ∧ (bs9 s).headD 0 = (s[0]'h).toNat ∧ bs9 (s.extract 0 1) = [(s[0]'h).toNat] := by
  have e := bs9_get s 0 h
  rw [List.drop_zero] at e
  rw [bs9_take, e]
  exact ⟨rfl, rfl, rfl⟩
theorem lst_of {s : ByteArray} {m : Nat} (h : m < s.size) (hm : m + 1 = s.size) : (bs9 s).getLastD 0 = (s[m]'h).toNat ∧ bs9 (s.extract m s.size) = [(s[m]'h).toNat] := by
  have e := bs9_get s m h
  rw [List.drop_of_length_le (show (bs9 s).length ≤ m + 1 by rw [bs9_len]; omega)] at e
  rw [bs9_drop, e]
  refine ⟨?_, rfl⟩
  rw [List.getLastD_eq_getLast?, List.getLast?_eq_getElem?, bs9_len, ← hm, Nat.add_sub_cancel, bs9_at s m h]; rfl
theorem sl_one {s X : ByteArray} (h : 1 ≤ s.size) (hX : s.extract 0 1 = X) (w' : World) : (Instr.slice 9 (.string s) none (some (.int .i64 1)) none).run Tryd.prog w' = .ok (.string X) w' := sl_to (i := 1) h hX w'
theorem all_one {X : ByteArray} {x : Nat} {f : Nat → Bool} {b : Bool} (h : bs9 X = [x]) (h2 : f x = b) : (bs9 X).all f = b := by rw [h, List.all_cons, h2]; cases b <;> rfl
theorem size_one {X : ByteArray} {x : Nat} (h : bs9 X = [x]) : X.size ≤ 1000000 := by rw [← bs9_len, h, List.length_singleton]; omega
theorem b_nil : prtB [] = false ∧ curB [] = false ∧ tagB [] = false ∧ keyB [] = false := ⟨rfl, rfl, rfl, rfl⟩

set_option maxHeartbeats 4000000 in
set_option maxRecDepth 100000 in
theorem ispart_is {s : ByteArray} {b : Bool} (h : prtB (bs9 s) = b) (hs : s.size ≤ 1000000) (w : World) : Calls Tryd.prog 34 #[.string s] w (fun e w' => e = .returned (.bool b) ∧ w' = w) := by
  have H := Lib.hid h
  clear h
  rcases Nat.eq_zero_or_pos s.size with h0 | h0
  · have d := emp_yes h0
    have E : Hid (false = b) := by show _ = _; rw [← H.out, nil_of h0]; rfl
    go_enter Tryd.func34, Tryd.ntmps34
    go_wp2_with fail
    go_ret
    exact ⟨rb9 E.out, rfl⟩
  · have d := emp_not h0
    obtain ⟨g1, g2, g3⟩ := fst_of h0
    obtain ⟨X, hX⟩ : ∃ X, s.extract 0 1 = X := ⟨_, rfl⟩
    obtain ⟨x, hx⟩ : ∃ x, (s[0]'h0).toNat = x := ⟨_, rfl⟩
    have hsl : ∀ w', (Instr.slice 9 (.string s) none (some (.int .i64 1)) none).run Tryd.prog w' = .ok (.string X) w' := sl_one h0 hX
    rw [hX, hx] at g3
    rw [hx] at g2
    have G3 := Lib.hid g3
    have HB : Hid (b = (ud x && (bs9 s).all prtC)) := by show _ = _; rw [← H.out]; unfold prtB; rw [g1, g2]; rfl
    clear g1 g2 g3 hx hX
    cases hc : ud x with
    | false =>
      have E : Hid (false = b) := by show _ = _; rw [HB.out, hc]; rfl
      have HC := Lib.hid hc
      clear hc
      go_enter Tryd.func34, Tryd.ntmps34
      go_wp2_with fail
      refine (just_is (f := ud) (by decide +kernel) (all_one G3.out HC.out) (size_one G3.out)).mono ?_; rintro e w1 ⟨rfl, rfl⟩
      go_wp2_with fail
      go_ret
      exact ⟨rb9 E.out, rfl⟩
    | true =>
      have E : Hid ((bs9 s).all prtC = b) := by show _ = _; rw [HB.out, hc]; rfl
      have HC := Lib.hid hc
      clear hc
      go_enter Tryd.func34, Tryd.ntmps34
      go_wp2_with fail
      refine (just_is (f := ud) (by decide +kernel) (all_one G3.out HC.out) (size_one G3.out)).mono ?_; rintro e w1 ⟨rfl, rfl⟩
      go_wp2_with fail
      refine (just_is (f := prtC) (by decide +kernel) E.out hs).mono ?_; rintro e w1 ⟨rfl, rfl⟩
      go_wp2_with fail
      go_ret
      exact ⟨rfl, rfl⟩

set_option maxHeartbeats 4000000 in
set_option maxRecDepth 100000 in
theorem key_is {s : ByteArray} {b : Bool} (h : keyB (bs9 s) = b) (hs : s.size ≤ 1000000) (w : World) : Calls Tryd.prog 16 #[.string s] w (fun e w' => e = .returned (.bool b) ∧ w' = w) := by
  have H := Lib.hid h
  clear h
  rcases Nat.eq_zero_or_pos s.size with h0 | h0
  · have d := emp_yes h0
    have E : Hid (false = b) := by show _ = _; rw [← H.out, nil_of h0]; rfl
    go_enter Tryd.func16, Tryd.ntmps16
    go_wp2_with fail
    go_ret
    exact ⟨rb9 E.out, rfl⟩
  · have d := emp_not h0
    obtain ⟨g1, g2, g3⟩ := fst_of h0
    obtain ⟨X, hX⟩ : ∃ X, s.extract 0 1 = X := ⟨_, rfl⟩
    obtain ⟨x, hx⟩ : ∃ x, (s[0]'h0).toNat = x := ⟨_, rfl⟩
    have hsl : ∀ w', (Instr.slice 9 (.string s) none (some (.int .i64 1)) none).run Tryd.prog w' = .ok (.string X) w' := sl_one h0 hX
    rw [hX, hx] at g3
    rw [hx] at g2
    have G3 := Lib.hid g3
    have HB : Hid (b = (lwB x && (bs9 s).all keyC)) := by show _ = _; rw [← H.out]; unfold keyB; rw [g1, g2]; rfl
    clear g1 g2 g3 hx hX
    cases hc : lwB x with
    | false =>
      have E : Hid (false = b) := by show _ = _; rw [HB.out, hc]; rfl
      have HC := Lib.hid hc
      clear hc
      go_enter Tryd.func16, Tryd.ntmps16
      go_wp2_with fail
      refine (just_is (f := lwB) (by decide +kernel) (all_one G3.out HC.out) (size_one G3.out)).mono ?_; rintro e w1 ⟨rfl, rfl⟩
      go_wp2_with fail
      go_ret
      exact ⟨rb9 E.out, rfl⟩
    | true =>
      have E : Hid ((bs9 s).all keyC = b) := by show _ = _; rw [HB.out, hc]; rfl
      have HC := Lib.hid hc
      clear hc
      go_enter Tryd.func16, Tryd.ntmps16
      go_wp2_with fail
      refine (just_is (f := lwB) (by decide +kernel) (all_one G3.out HC.out) (size_one G3.out)).mono ?_; rintro e w1 ⟨rfl, rfl⟩
      go_wp2_with fail
      refine (just_is (f := keyC) (by decide +kernel) E.out hs).mono ?_; rintro e w1 ⟨rfl, rfl⟩
      go_wp2_with fail
      go_ret
      exact ⟨rfl, rfl⟩

set_option maxHeartbeats 4000000 in
set_option maxRecDepth 100000 in
theorem tag_is {s : ByteArray} {b : Bool} (h : tagB (bs9 s) = b) (hs : s.size ≤ 1000000) (w : World) : Calls Tryd.prog 14 #[.string s] w (fun e w' => e = .returned (.bool b) ∧ w' = w) := by
  have H := Lib.hid h
  clear h
  rcases Nat.eq_zero_or_pos s.size with h0 | h0
  · have d := emp_yes h0
    have E : Hid (false = b) := by show _ = _; rw [← H.out, nil_of h0]; rfl
    go_enter Tryd.func14, Tryd.ntmps14
    go_wp2_with fail
    go_ret
    exact ⟨rb9 E.out, rfl⟩
  · have d := emp_not h0
    have E : Hid ((bs9 s).all tagC = b) := by show _ = _; rw [← H.out]; unfold tagB; rw [(fst_of h0).1]; rfl
    go_enter Tryd.func14, Tryd.ntmps14
    go_wp2_with fail
    refine (just_is (f := tagC) (by decide +kernel) E.out hs).mono ?_; rintro e w1 ⟨rfl, rfl⟩
    go_wp2_with fail
    go_ret
    exact ⟨rfl, rfl⟩

set_option maxHeartbeats 4000000 in
set_option maxRecDepth 100000 in
theorem currency_is {s : ByteArray} {b : Bool} (h : curB (bs9 s) = b) (hs : s.size ≤ 1000000) (w : World) : Calls Tryd.prog 12 #[.string s] w (fun e w' => e = .returned (.bool b) ∧ w' = w) := by
  have H := Lib.hid h
  clear h
  rcases Nat.eq_zero_or_pos s.size with h0 | h0
  · have d := str_emp h0
    have E : Hid (false = b) := by show _ = _; rw [← H.out, nil_of h0]; rfl
    go_enter Tryd.func12, Tryd.ntmps12
    go_wp2_with fail
    go_ret
    exact ⟨rb9 E.out, rfl⟩
  have d := str_ne h0
  rcases Nat.lt_or_ge 24 s.size with h24 | h24
  · have E : Hid (false = b) := by show _ = _; rw [← H.out]; unfold curB; rw [(fst_of h0).1, bs9_len, decide_eq_false (by omega)]; rfl
    have d2 : decide ((24 : Int) < (s.size : Int)) = true := decide_eq_true (by omega)
    go_enter Tryd.func12, Tryd.ntmps12
    go_wp2_with fail
    go_ret
    exact ⟨rb9 E.out, rfl⟩
  · have d2 : decide ((24 : Int) < (s.size : Int)) = false := decide_eq_false (by omega)
    obtain ⟨g1, g2, g3⟩ := fst_of h0
    obtain ⟨m, hm⟩ : ∃ m, m + 1 = s.size := ⟨s.size - 1, by omega⟩
    have em : (s.size : Int) - 1 = (m : Int) := by omega
    have hms : m < s.size := by omega
    obtain ⟨m1, m2⟩ := lst_of hms hm
    obtain ⟨X, hX⟩ : ∃ X, s.extract 0 1 = X := ⟨_, rfl⟩
    obtain ⟨Y, hY⟩ : ∃ Y, s.extract m s.size = Y := ⟨_, rfl⟩
    obtain ⟨x, hx⟩ : ∃ x, (s[0]'h0).toNat = x := ⟨_, rfl⟩
    obtain ⟨y, hy⟩ : ∃ y, (s[m]'hms).toNat = y := ⟨_, rfl⟩
    have hsl : ∀ w', (Instr.slice 9 (.string s) none (some (.int .i64 1)) none).run Tryd.prog w' = .ok (.string X) w' := sl_one h0 hX
    have hsl2 : ∀ w', (Instr.slice 9 (.string s) (some (.int .i64 (m : Int))) none none).run Tryd.prog w' = .ok (.string Y) w' := sl_from (Nat.le_of_lt hms) hY
    rw [hX, hx] at g3
    rw [hx] at g2
    rw [hY, hy] at m2
    rw [hy] at m1
    have G3 := Lib.hid g3
    have M3 := Lib.hid m2
    have HB : Hid (b = (upB x && (bs9 s).all curC && ud y)) := by show _ = _; rw [← H.out]; unfold curB; rw [g1, g2, m1, bs9_len, decide_eq_true (by omega)]; rfl
    clear g1 g2 g3 hx hX m1 m2 hY hy
    cases hc : upB x with
    | false =>
      have E : Hid (false = b) := by show _ = _; rw [HB.out, hc]; rfl
      have HC := Lib.hid hc
      clear hc
      go_enter Tryd.func12, Tryd.ntmps12
      go_wp2_with fail
      refine (just_is (f := upB) (by decide +kernel) (all_one G3.out HC.out) (size_one G3.out)).mono ?_; rintro e w1 ⟨rfl, rfl⟩
      go_wp2_with fail
      go_ret
      exact ⟨rb9 E.out, rfl⟩
    | true =>
     cases hc2 : (bs9 s).all curC with
     | false =>
      have E : Hid (false = b) := by show _ = _; rw [HB.out, hc, hc2]; rfl
      have HC := Lib.hid hc
      have HC2 := Lib.hid hc2
      clear hc hc2
      go_enter Tryd.func12, Tryd.ntmps12
      go_wp2_with fail
      refine (just_is (f := upB) (by decide +kernel) (all_one G3.out HC.out) (size_one G3.out)).mono ?_; rintro e w1 ⟨rfl, rfl⟩
      go_wp2_with fail
      refine (just_is (f := curC) (by decide +kernel) HC2.out hs).mono ?_; rintro e w1 ⟨rfl, rfl⟩
      go_wp2_with fail
      go_ret
      exact ⟨rb9 E.out, rfl⟩
     | true =>
      have E : Hid (ud y = b) := by show _ = _; rw [HB.out, hc, hc2]; rfl
      have HC := Lib.hid hc
      have HC2 := Lib.hid hc2
      clear hc hc2
      go_enter Tryd.func12, Tryd.ntmps12
      go_wp2_with fail
      refine (just_is (f := upB) (by decide +kernel) (all_one G3.out HC.out) (size_one G3.out)).mono ?_; rintro e w1 ⟨rfl, rfl⟩
      go_wp2_with fail
      refine (just_is (f := curC) (by decide +kernel) HC2.out hs).mono ?_; rintro e w1 ⟨rfl, rfl⟩
      go_wp2_with fail
      refine (just_is (f := ud) (by decide +kernel) (all_one M3.out E.out) (size_one M3.out)).mono ?_; rintro e w1 ⟨rfl, rfl⟩
      go_wp2_with fail
      go_ret
      exact ⟨rfl, rfl⟩

end Go.Proofs.YtaaikbbgbnbmkaaDoor
