/-
  Contracts of layer 8, the first part: Leap, length, and the document's; the tables; days in memory.
-/
import Derived.Test.YtnndamhilbcdfaaDoorDatMath
import Derived.Test.YtnndamhilbcdfaaDoorChecked
import Derived.Test.YtnndamhilbcdfaaDoorShelf
import Derived.Lib.LaidTab
import Derived.Lib.AppendIntMem
import Derived.KernelRfl
import Derived.Deep.QuietTactic
import Derived.BigQuiet
import Derived.WalkMore
import Derived.Deep.LoopGhost
import Derived.Deep.RegionWith
import Derived.Deep.RegionHeld3
import Derived.Lib.Hide
import Derived.IntWalk
set_option linter.unusedVariables false
set_option linter.unusedSimpArgs false
set_option linter.unusedVariables false
set_option linter.unusedSimpArgs false
set_option linter.unusedVariables false
set_option linter.unusedSimpArgs false
namespace Go.Proofs.YtnndamhilbcdfaaDoor
open Go.RowKit

/-- What a call hands back; nothing that was there has turned. -/
def Ret8 (W : World) (v : Value) (e : Ending) (w' : World) : Prop := e = .returned v ∧ Below W.heap.size W w'
theorem rb8 {a b : Bool} (h : a = b) : Ending.returned (.bool a) = .returned (.bool b) := by rw [h]
theorem ri8 {a b : Int} (h : a = b) : Ending.returned (.int .i64 a) = .returned (.int .i64 b) := by rw [h]
theorem cell_on8 {w w' : World} {a : Addr} {v : Value} (h : w.cell? a = some v) (hb : Below w.heap.size w w') : w'.cell? a = some v := by
  have hlt : a.block < w.heap.size := by
    rcases Nat.lt_or_ge a.block w.heap.size with h' | h'
    · exact h'
    · unfold World.cell? at h
      rw [Array.getElem?_eq_none h'] at h
      cases h
  rw [hb.cell hlt]; exact h
def lens8 : List Int := [31, 28, 31, 30, 31, 30, 31, 31, 30, 31, 30, 31]
/-- The two tables hold what their initialisers lay. -/
structure Tabs (w : World) : Prop where
  len : Lib.TabIs Tryd.prog w "quittance/date.lengths" .i64 lens8
  pow : Lib.TabIs Tryd.prog w "internal/strconv.uint64pow10" .u64 Lib.pow10Tab
theorem Tabs.on {w w' : World} (h : Tabs w) (hb : Below w.heap.size w w') : Tabs w' := ⟨Lib.tabBelow_of_tabIs h.len w' hb, Lib.tabBelow_of_tabIs h.pow w' hb⟩
theorem Tabs.at_ {w : World} (h : Tabs w) (i : Nat) (hi : i < 12) : w.cell? ⟨0, i, none⟩ = some (.int .i64 (lens8.getD i 0)) := h.len.cell (by kernel_rfl) i hi
theorem lens8_len {m : Int} (h1 : 1 ≤ m) (h2 : m ≤ 12) {y : Int} (h : ¬ (m = 2 ∧ leap8 y = true)) : lens8.getD (m - 1).toNat 0 = len8 y m := by
  have : m = 1 ∨ m = 2 ∨ m = 3 ∨ m = 4 ∨ m = 5 ∨ m = 6 ∨ m = 7 ∨ m = 8 ∨ m = 9 ∨ m = 10 ∨ m = 11 ∨ m = 12 := by omega
  unfold len8
  rcases this with rfl | rfl | rfl | rfl | rfl | rfl | rfl | rfl | rfl | rfl | rfl | rfl
  case inr.inl =>
    have h3 : ¬ leap8 y = true := fun e => h ⟨rfl, e⟩
    rw [if_pos rfl, if_neg h3]; rfl
  all_goals rfl

set_option maxRecDepth 100000 in
theorem leap_any (y : Int) (w : World) : Calls Tryd.prog 17 #[.int .i64 y] w fun e w' => e = .returned (.bool (leap8 y)) ∧ w = w' := by
  go_enter Tryd.func17, Tryd.ntmps17
  go_wp2
  all_goals
    go_ret
    exact ⟨rb8 (by simp_all [leap8]), rfl⟩
set_option maxRecDepth 100000 in
theorem refleap_any (y : Int) (w : World) : Calls Tryd.prog 18 #[.int .i64 y] w fun e w' => e = .returned (.bool (leap8 y)) ∧ w = w' := by
  go_enter Tryd.func18, Tryd.ntmps18
  go_wp2
  all_goals
    go_ret
    exact ⟨rb8 (by simp_all [leap8]), rfl⟩

set_option maxRecDepth 100000 in
theorem length_any (y m : Int) (w : World) (hT : Tabs w) (h1 : 1 ≤ m) (h2 : m ≤ 12) : Calls Tryd.prog 41 #[.int .i64 y, .int .i64 m] w fun e w' => e = .returned (.int .i64 (len8 y m)) ∧ w = w' := by
  by_cases hm : m = 2
  · subst hm
    have c1 : w.cell? ⟨0, 1, none⟩ = some (.int .i64 28) := hT.at_ 1 (by decide)
    clear hT h1 h2
    cases hl : leap8 y with
    | true =>
      have HL := Lib.hid hl
      clear hl
      go_enter Tryd.func41, Tryd.ntmps41
      go_wp2_with fail
      refine (leap_any _ _).mono ?_; rintro e w' ⟨rfl, rfl⟩
      rw [HL.out]
      go_wp2_with fail
      go_ret
      exact ⟨ri8 (by unfold len8; rw [if_pos rfl, if_pos HL.out]), rfl⟩
    | false =>
      have HL := Lib.hid hl
      clear hl
      go_enter Tryd.func41, Tryd.ntmps41
      go_wp2_with fail
      refine (leap_any _ _).mono ?_; rintro e w' ⟨rfl, rfl⟩
      rw [HL.out]
      go_wp2_with fail
      go_ret
      exact ⟨ri8 (by unfold len8; rw [if_pos rfl, HL.out, if_neg (by simp)]), rfl⟩
  · obtain ⟨k, hk⟩ : ∃ k : Nat, m = k + 1 := ⟨(m - 1).toNat, by omega⟩
    have c1 := hT.at_ k (by omega)
    have E : Hid (lens8.getD k 0 = len8 y m) := by
      show _ = _
      have := lens8_len h1 h2 (y := y) (fun e => hm e.1)
      rwa [show (m - 1).toNat = k by omega] at this
    have hb : k < 12 := by omega
    have hne : (((k : Int) + 1) == 2) = false := by simp; omega
    subst hk
    clear hT h1 h2 hm
    go_enter Tryd.func41, Tryd.ntmps41
    go_wp2_with fail
    go_ret
    exact ⟨ri8 E.out, rfl⟩
theorem length_q (y m : Int) (w : World) (hT : Tabs w) (h1 : 1 ≤ m) (h2 : m ≤ 12) : Calls Tryd.prog 41 #[.int .i64 y, .int .i64 m] w fun e w' => e = .returned (.int .i64 (len8 y m)) ∧ w' = w :=
  (length_any y m w hT h1 h2).mono fun _ _ h => ⟨h.1, h.2.symm⟩

end Go.Proofs.YtnndamhilbcdfaaDoor
