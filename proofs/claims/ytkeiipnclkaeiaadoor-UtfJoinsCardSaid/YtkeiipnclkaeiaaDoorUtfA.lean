/-
  Contracts of layer 9, the first part: the tables; isSign, length, told, the document's cont.
-/
import Derived.Test.YtkeiipnclkaeiaaDoorUtfMath
import Derived.Test.YtkeiipnclkaeiaaDoorChecked
import Derived.Test.YtkeiipnclkaeiaaDoorShelf
import Derived.Lib.LaidTab
import Derived.Lib.AppendIntMem
import Derived.KernelRfl
import Derived.Deep.QuietTactic
import Derived.BigQuiet
import Derived.WalkMore
import Derived.Deep.LoopGhost
import Derived.Deep.RegionWith
import Derived.Deep.RegionHeld3
import Derived.Lib.Hide
import Derived.IntWalk
import Derived.Laws.BytesArg
set_option linter.unusedVariables false
set_option linter.unusedSimpArgs false
namespace Go.Proofs.YtkeiipnclkaeiaaDoor
open Go.RowKit

/-- What a call hands back; nothing that was there has turned. -/
def Ret9 (W : World) (v : Value) (e : Ending) (w' : World) : Prop := e = .returned v ∧ Below W.heap.size W w'
theorem rb9 {a b : Bool} (h : a = b) : Ending.returned (.bool a) = .returned (.bool b) := by rw [h]
theorem ri9 {a b : Int} (h : a = b) : Ending.returned (.int .i64 a) = .returned (.int .i64 b) := by rw [h]
/-- The two tables hold what their initialisers lay. -/
structure Tabs9 (w : World) : Prop where
  marks : Lib.TabIs Tryd.prog w "quittance/utf.marks" .i64 [0, 192, 224, 240]
  least : Lib.TabIs Tryd.prog w "quittance/utf.least" .i64 [0, 128, 2048, 65536]
theorem Tabs9.on {w w' : World} (h : Tabs9 w) (hb : Below w.heap.size w w') : Tabs9 w' := ⟨Lib.tabBelow_of_tabIs h.marks w' hb, Lib.tabBelow_of_tabIs h.least w' hb⟩
theorem Tabs9.mk_ {w : World} (h : Tabs9 w) (i : Nat) (hi : i < 4) : w.cell? ⟨0, i, none⟩ = some (.int .i64 ([0, 192, 224, 240].getD i 0)) := h.marks.cell (by kernel_rfl) i hi
theorem Tabs9.lt_ {w : World} (h : Tabs9 w) (i : Nat) (hi : i < 4) : w.cell? ⟨1, i, none⟩ = some (.int .i64 ([0, 128, 2048, 65536].getD i 0)) := h.least.cell (by kernel_rfl) i hi
theorem tld_is {a n : Nat} (h : (n = 4 ∧ 240 ≤ a) ∨ (n = 3 ∧ 224 ≤ a ∧ a < 240) ∨ (n = 2 ∧ 192 ≤ a ∧ a < 224) ∨ (n = 1 ∧ a < 192)) : tld a = n := by
  unfold tld; (repeat' split) <;> omega
theorem lng_is {a n : Nat} (h : (n = 4 ∧ 65536 ≤ a) ∨ (n = 3 ∧ 2048 ≤ a ∧ a < 65536) ∨ (n = 2 ∧ 128 ≤ a ∧ a < 2048) ∨ (n = 1 ∧ a < 128)) : lng a = n := by
  unfold lng; (repeat' split) <;> omega

set_option maxRecDepth 100000 in
theorem isSign_any (x : Int) (w : World) : Calls Tryd.prog 22 #[.int .i64 x] w fun e w' => e = .returned (.bool (decide (0 ≤ x ∧ Sg x.toNat))) ∧ w = w' := by
  go_enter Tryd.func22, Tryd.ntmps22
  by_cases h1 : 0 ≤ x ∧ x ≤ 1114111 ∧ (x < 55296 ∨ 57343 < x)
  · have H : Hid (decide (0 ≤ x ∧ Sg x.toNat) = true) := decide_eq_true ⟨h1.1, by unfold Sg; omega⟩
    rw [H.out]
    obtain ⟨a1, a2, a3⟩ := h1
    have d1 : decide (0 ≤ x) = true := decide_eq_true a1
    have d2 : decide (x ≤ 1114111) = true := decide_eq_true a2
    rcases (show x < 55296 ∨ 55296 ≤ x by omega) with b | b
    · have d3 : decide (x < 55296) = true := decide_eq_true b
      clear a1 a2 a3 b
      go_wp2
      go_ret
      exact ⟨rfl, rfl⟩
    · have d3 : decide (x < 55296) = false := decide_eq_false (by omega)
      have d4 : decide (57343 < x) = true := decide_eq_true (by omega)
      clear a1 a2 a3 b
      go_wp2
      go_ret
      exact ⟨rfl, rfl⟩
  · have H : Hid (decide (0 ≤ x ∧ Sg x.toNat) = false) := decide_eq_false (fun e => h1 (by unfold Sg at e; omega))
    rw [H.out]
    rcases (show x < 0 ∨ 0 ≤ x by omega) with b | b
    · have d1 : decide (0 ≤ x) = false := decide_eq_false (by omega)
      clear h1 b
      go_wp2
      go_ret
      exact ⟨rfl, rfl⟩
    · have d1 : decide (0 ≤ x) = true := decide_eq_true b
      rcases (show 1114111 < x ∨ x ≤ 1114111 by omega) with c | c
      · have d2 : decide (x ≤ 1114111) = false := decide_eq_false (by omega)
        clear h1 b c
        go_wp2
        go_ret
        exact ⟨rfl, rfl⟩
      · have d2 : decide (x ≤ 1114111) = true := decide_eq_true c
        have d3 : decide (x < 55296) = false := decide_eq_false (by omega)
        have d4 : decide (57343 < x) = false := decide_eq_false (by omega)
        clear h1 b c
        go_wp2
        go_ret
        exact ⟨rfl, rfl⟩
set_option maxRecDepth 100000 in
theorem cont_any (b : Nat) (w : World) : Calls Tryd.prog 25 #[.int .u8 (b : Int)] w fun e w' => e = .returned (.bool (decide (cn9 b))) ∧ w = w' := by
  go_enter Tryd.func25, Tryd.ntmps25
  rcases Nat.lt_or_ge b 128 with h | h
  · have d1 : decide ((128 : Int) ≤ (b : Int)) = false := decide_eq_false (by omega)
    have H : Hid (decide (cn9 b) = false) := decide_eq_false (by unfold cn9; omega)
    rw [H.out]
    clear h
    go_wp2
    go_ret
    exact ⟨rfl, rfl⟩
  · have d1 : decide ((128 : Int) ≤ (b : Int)) = true := decide_eq_true (by omega)
    rcases Nat.lt_or_ge b 192 with h2 | h2
    · have d2 : decide ((b : Int) < 192) = true := decide_eq_true (by omega)
      have H : Hid (decide (cn9 b) = true) := decide_eq_true (by unfold cn9; omega)
      rw [H.out]
      clear h h2
      go_wp2
      go_ret
      exact ⟨rfl, rfl⟩
    · have d2 : decide ((b : Int) < 192) = false := decide_eq_false (by omega)
      have H : Hid (decide (cn9 b) = false) := decide_eq_false (by unfold cn9; omega)
      rw [H.out]
      clear h h2
      go_wp2
      go_ret
      exact ⟨rfl, rfl⟩

set_option maxRecDepth 100000 in
theorem told_any (a : Nat) (w : World) (hT : Tabs9 w) (ha : a < 256) : Calls Tryd.prog 24 #[.int .u8 (a : Int)] w fun e w' => e = .returned (.int .i64 (tld a : Nat)) ∧ w = w' := by
  have c3 : w.cell? ⟨0, 3, none⟩ = some (.int .i64 240) := hT.mk_ 3 (by decide)
  have c2 : w.cell? ⟨0, 2, none⟩ = some (.int .i64 224) := hT.mk_ 2 (by decide)
  have c1 : w.cell? ⟨0, 1, none⟩ = some (.int .i64 192) := hT.mk_ 1 (by decide)
  have c0 : w.cell? ⟨0, 0, none⟩ = some (.int .i64 0) := hT.mk_ 0 (by decide)
  obtain ⟨n, hn⟩ : ∃ n, tld a = n := ⟨_, rfl⟩
  have HN := Lib.hid hn
  rw [hn]
  clear hT hn
  go_enter Tryd.func24, Tryd.ntmps24
  go_wp2
  go_loop [3] (fun v => v = .int .i64 4 ∨ (v = .int .i64 3 ∧ a < 240) ∨ (v = .int .i64 2 ∧ a < 224) ∨ (v = .int .i64 1 ∧ a < 192)) (fun v => (intOf v).toNat)
  case atStart => exact .inl rfl
  case round =>
    rcases hrel with rfl | ⟨rfl, h⟩ | ⟨rfl, h⟩ | ⟨rfl, h⟩
    · rcases Nat.lt_or_ge a 240 with k | k
      · have d : decide ((a : Int) < 240) = true := decide_eq_true (by omega)
        go_wp2
        go_round
        case rel => exact .inr (.inl ⟨rfl, k⟩)
        case measure => decide
      · have d : decide ((a : Int) < 240) = false := decide_eq_false (by omega)
        have E : Hid (n = 4) := by show _ = _; rw [← HN.out]; exact tld_is (by omega)
        go_wp2
        go_ret
        exact ⟨by rw [E.out]; rfl, rfl⟩
    · rcases Nat.lt_or_ge a 224 with k | k
      · have d : decide ((a : Int) < 224) = true := decide_eq_true (by omega)
        go_wp2
        go_round
        case rel => exact .inr (.inr (.inl ⟨rfl, k⟩))
        case measure => decide
      · have d : decide ((a : Int) < 224) = false := decide_eq_false (by omega)
        have E : Hid (n = 3) := by show _ = _; rw [← HN.out]; exact tld_is (by omega)
        go_wp2
        go_ret
        exact ⟨by rw [E.out]; rfl, rfl⟩
    · rcases Nat.lt_or_ge a 192 with k | k
      · have d : decide ((a : Int) < 192) = true := decide_eq_true (by omega)
        go_wp2
        go_round
        case rel => exact .inr (.inr (.inr ⟨rfl, k⟩))
        case measure => decide
      · have d : decide ((a : Int) < 192) = false := decide_eq_false (by omega)
        have E : Hid (n = 2) := by show _ = _; rw [← HN.out]; exact tld_is (by omega)
        go_wp2
        go_ret
        exact ⟨by rw [E.out]; rfl, rfl⟩
    · have d : decide ((a : Int) < 0) = false := decide_eq_false (by omega)
      have E : Hid (n = 1) := by show _ = _; rw [← HN.out]; exact tld_is (by omega)
      go_wp2
      go_ret
      exact ⟨by rw [E.out]; rfl, rfl⟩
set_option maxRecDepth 100000 in
theorem length_any (a : Nat) (w : World) (hT : Tabs9 w) : Calls Tryd.prog 23 #[.int .i64 (a : Int)] w fun e w' => e = .returned (.int .i64 (lng a : Nat)) ∧ w = w' := by
  have c3 : w.cell? ⟨1, 3, none⟩ = some (.int .i64 65536) := hT.lt_ 3 (by decide)
  have c2 : w.cell? ⟨1, 2, none⟩ = some (.int .i64 2048) := hT.lt_ 2 (by decide)
  have c1 : w.cell? ⟨1, 1, none⟩ = some (.int .i64 128) := hT.lt_ 1 (by decide)
  have c0 : w.cell? ⟨1, 0, none⟩ = some (.int .i64 0) := hT.lt_ 0 (by decide)
  obtain ⟨n, hn⟩ : ∃ n, lng a = n := ⟨_, rfl⟩
  have HN := Lib.hid hn
  rw [hn]
  clear hT hn
  go_enter Tryd.func23, Tryd.ntmps23
  go_wp2
  go_loop [3] (fun v => v = .int .i64 4 ∨ (v = .int .i64 3 ∧ Hid (a < 65536)) ∨ (v = .int .i64 2 ∧ Hid (a < 2048)) ∨ (v = .int .i64 1 ∧ Hid (a < 128))) (fun v => (intOf v).toNat)
  case atStart => exact .inl rfl
  case round =>
    rcases hrel with rfl | ⟨rfl, h⟩ | ⟨rfl, h⟩ | ⟨rfl, h⟩
    · rcases Nat.lt_or_ge a 65536 with k | k
      · have d : decide ((a : Int) < 65536) = true := decide_eq_true (by omega)
        have K := Lib.hid k
        clear k
        go_wp2
        go_round
        case rel => exact .inr (.inl ⟨rfl, K⟩)
        case measure => decide
      · have d : decide ((a : Int) < 65536) = false := decide_eq_false (by omega)
        have E : Hid (n = 4) := by show _ = _; rw [← HN.out]; exact lng_is (by omega)
        clear k
        go_wp2
        go_ret
        exact ⟨by rw [E.out]; rfl, rfl⟩
    · rcases Nat.lt_or_ge a 2048 with k | k
      · have d : decide ((a : Int) < 2048) = true := decide_eq_true (by omega)
        have K := Lib.hid k
        clear k
        go_wp2
        go_round
        case rel => exact .inr (.inr (.inl ⟨rfl, K⟩))
        case measure => decide
      · have d : decide ((a : Int) < 2048) = false := decide_eq_false (by omega)
        have E : Hid (n = 3) := by show _ = _; rw [← HN.out]; have := h.out; exact lng_is (by omega)
        clear k
        go_wp2
        go_ret
        exact ⟨by rw [E.out]; rfl, rfl⟩
    · rcases Nat.lt_or_ge a 128 with k | k
      · have d : decide ((a : Int) < 128) = true := decide_eq_true (by omega)
        have K := Lib.hid k
        clear k
        go_wp2
        go_round
        case rel => exact .inr (.inr (.inr ⟨rfl, K⟩))
        case measure => decide
      · have d : decide ((a : Int) < 128) = false := decide_eq_false (by omega)
        have E : Hid (n = 2) := by show _ = _; rw [← HN.out]; have := h.out; exact lng_is (by omega)
        clear k
        go_wp2
        go_ret
        exact ⟨by rw [E.out]; rfl, rfl⟩
    · have d : decide ((a : Int) < 0) = false := decide_eq_false (by omega)
      have E : Hid (n = 1) := by show _ = _; rw [← HN.out]; have := h.out; exact lng_is (by omega)
      go_wp2
      go_ret
      exact ⟨by rw [E.out]; rfl, rfl⟩

end Go.Proofs.YtkeiipnclkaeiaaDoor
