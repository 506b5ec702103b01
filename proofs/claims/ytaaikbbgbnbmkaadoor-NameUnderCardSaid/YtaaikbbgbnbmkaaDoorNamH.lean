/-
  Contracts of layer 11: Root and the document's.
-/
import Derived.Test.YtaaikbbgbnbmkaaDoorNamG
set_option linter.unusedVariables false
set_option linter.unusedSimpArgs false
namespace Go.Proofs.YtaaikbbgbnbmkaaDoor
open Go.RowKit

/-- The five first parts, and the number of one; 0 of another. -/
def rtl : List (List Nat) := [[65, 115, 115, 101, 116, 115],
  [76, 105, 97, 98, 105, 108, 105, 116, 105, 101, 115],
  [69, 113, 117, 105, 116, 121],
  [73, 110, 99, 111, 109, 101],
  [69, 120, 112, 101, 110, 115, 101, 115]]
def rotX (x : List Nat) : Nat := if x = [65, 115, 115, 101, 116, 115] then 1 else if x = [76, 105, 97, 98, 105, 108, 105, 116, 105, 101, 115] then 2 else if x = [69, 113, 117, 105, 116, 121] then 3 else if x = [73, 110, 99, 111, 109, 101] then 4 else if x = [69, 120, 112, 101, 110, 115, 101, 115] then 5 else 0
def rot (l : List Nat) : Nat := rotX (hdc l)
/-- None of the first k. -/
def NR (k : Nat) (x : List Nat) : Prop := ∀ j, j < k → rtl[j]? ≠ some x
theorem NR.next {k : Nat} {x y : List Nat} (h : NR k x) (h2 : rtl[k]? = some y) (h3 : x ≠ y) : NR (k + 1) x := by
  intro j hj e
  rcases Nat.lt_or_ge j k with h4 | h4
  · exact h j h4 e
  · obtain rfl : j = k := by omega
    rw [h2] at e
    exact h3 (Option.some.inj e).symm
theorem NR.zero (x : List Nat) : NR 0 x := fun j hj => absurd hj (Nat.not_lt_zero _)
theorem rotX_0 {x : List Nat} (h : NR 0 x) (h2 : x = [65, 115, 115, 101, 116, 115]) : rotX x = 1 := by
  unfold rotX
  rw [if_pos h2]
theorem rotX_1 {x : List Nat} (h : NR 1 x) (h2 : x = [76, 105, 97, 98, 105, 108, 105, 116, 105, 101, 115]) : rotX x = 2 := by
  have n0 : x ≠ [65, 115, 115, 101, 116, 115] := fun e => h 0 (by decide) (congrArg some e.symm)
  unfold rotX
  rw [if_neg n0, if_pos h2]
theorem rotX_2 {x : List Nat} (h : NR 2 x) (h2 : x = [69, 113, 117, 105, 116, 121]) : rotX x = 3 := by
  have n0 : x ≠ [65, 115, 115, 101, 116, 115] := fun e => h 0 (by decide) (congrArg some e.symm)
  have n1 : x ≠ [76, 105, 97, 98, 105, 108, 105, 116, 105, 101, 115] := fun e => h 1 (by decide) (congrArg some e.symm)
  unfold rotX
  rw [if_neg n0, if_neg n1, if_pos h2]
theorem rotX_3 {x : List Nat} (h : NR 3 x) (h2 : x = [73, 110, 99, 111, 109, 101]) : rotX x = 4 := by
  have n0 : x ≠ [65, 115, 115, 101, 116, 115] := fun e => h 0 (by decide) (congrArg some e.symm)
  have n1 : x ≠ [76, 105, 97, 98, 105, 108, 105, 116, 105, 101, 115] := fun e => h 1 (by decide) (congrArg some e.symm)
  have n2 : x ≠ [69, 113, 117, 105, 116, 121] := fun e => h 2 (by decide) (congrArg some e.symm)
  unfold rotX
  rw [if_neg n0, if_neg n1, if_neg n2, if_pos h2]
theorem rotX_4 {x : List Nat} (h : NR 4 x) (h2 : x = [69, 120, 112, 101, 110, 115, 101, 115]) : rotX x = 5 := by
  have n0 : x ≠ [65, 115, 115, 101, 116, 115] := fun e => h 0 (by decide) (congrArg some e.symm)
  have n1 : x ≠ [76, 105, 97, 98, 105, 108, 105, 116, 105, 101, 115] := fun e => h 1 (by decide) (congrArg some e.symm)
  have n2 : x ≠ [69, 113, 117, 105, 116, 121] := fun e => h 2 (by decide) (congrArg some e.symm)
  have n3 : x ≠ [73, 110, 99, 111, 109, 101] := fun e => h 3 (by decide) (congrArg some e.symm)
  unfold rotX
  rw [if_neg n0, if_neg n1, if_neg n2, if_neg n3, if_pos h2]
theorem rotX_5 {x : List Nat} (h : NR 5 x) : rotX x = 0 := by
  have n0 : x ≠ [65, 115, 115, 101, 116, 115] := fun e => h 0 (by decide) (congrArg some e.symm)
  have n1 : x ≠ [76, 105, 97, 98, 105, 108, 105, 116, 105, 101, 115] := fun e => h 1 (by decide) (congrArg some e.symm)
  have n2 : x ≠ [69, 113, 117, 105, 116, 121] := fun e => h 2 (by decide) (congrArg some e.symm)
  have n3 : x ≠ [73, 110, 99, 111, 109, 101] := fun e => h 3 (by decide) (congrArg some e.symm)
  have n4 : x ≠ [69, 120, 112, 101, 110, 115, 101, 115] := fun e => h 4 (by decide) (congrArg some e.symm)
  unfold rotX
  rw [if_neg n0, if_neg n1, if_neg n2, if_neg n3, if_neg n4]
/-- The program's own table. -/
def Roots (w : World) : Prop := w.cell? ⟨0, 0, none⟩ = some (.string ⟨#[65, 115, 115, 101, 116, 115]⟩) ∧ w.cell? ⟨0, 1, none⟩ = some (.string ⟨#[76, 105, 97, 98, 105, 108, 105, 116, 105, 101, 115]⟩) ∧ w.cell? ⟨0, 2, none⟩ = some (.string ⟨#[69, 113, 117, 105, 116, 121]⟩) ∧ w.cell? ⟨0, 3, none⟩ = some (.string ⟨#[73, 110, 99, 111, 109, 101]⟩) ∧ w.cell? ⟨0, 4, none⟩ = some (.string ⟨#[69, 120, 112, 101, 110, 115, 101, 115]⟩)
theorem cell_on11 {w w' : World} {a : Addr} {u : Value} (h : w.cell? a = some u) (hb : Below w.heap.size w w') : w'.cell? a = some u := (hb.cell (World.block_lt_of_cell? w _ h)).trans h
theorem Roots.on {w w' : World} (h : Roots w) (hb : Below w.heap.size w w') : Roots w' :=
  ⟨cell_on11 h.1 hb, cell_on11 h.2.1 hb, cell_on11 h.2.2.1 hb, cell_on11 h.2.2.2.1 hb, cell_on11 h.2.2.2.2 hb⟩
theorem arr11_0 (w : World) : (Instr.index 36 (.agg #[.string ⟨#[65, 115, 115, 101, 116, 115]⟩, .string ⟨#[76, 105, 97, 98, 105, 108, 105, 116, 105, 101, 115]⟩, .string ⟨#[69, 113, 117, 105, 116, 121]⟩, .string ⟨#[73, 110, 99, 111, 109, 101]⟩, .string ⟨#[69, 120, 112, 101, 110, 115, 101, 115]⟩]) (.int .i64 0)).run Tryd.prog w = .ok (.string ⟨#[65, 115, 115, 101, 116, 115]⟩) w := by kernel_rfl
theorem arr11_1 (w : World) : (Instr.index 36 (.agg #[.string ⟨#[65, 115, 115, 101, 116, 115]⟩, .string ⟨#[76, 105, 97, 98, 105, 108, 105, 116, 105, 101, 115]⟩, .string ⟨#[69, 113, 117, 105, 116, 121]⟩, .string ⟨#[73, 110, 99, 111, 109, 101]⟩, .string ⟨#[69, 120, 112, 101, 110, 115, 101, 115]⟩]) (.int .i64 1)).run Tryd.prog w = .ok (.string ⟨#[76, 105, 97, 98, 105, 108, 105, 116, 105, 101, 115]⟩) w := by kernel_rfl
theorem arr11_2 (w : World) : (Instr.index 36 (.agg #[.string ⟨#[65, 115, 115, 101, 116, 115]⟩, .string ⟨#[76, 105, 97, 98, 105, 108, 105, 116, 105, 101, 115]⟩, .string ⟨#[69, 113, 117, 105, 116, 121]⟩, .string ⟨#[73, 110, 99, 111, 109, 101]⟩, .string ⟨#[69, 120, 112, 101, 110, 115, 101, 115]⟩]) (.int .i64 2)).run Tryd.prog w = .ok (.string ⟨#[69, 113, 117, 105, 116, 121]⟩) w := by kernel_rfl
theorem arr11_3 (w : World) : (Instr.index 36 (.agg #[.string ⟨#[65, 115, 115, 101, 116, 115]⟩, .string ⟨#[76, 105, 97, 98, 105, 108, 105, 116, 105, 101, 115]⟩, .string ⟨#[69, 113, 117, 105, 116, 121]⟩, .string ⟨#[73, 110, 99, 111, 109, 101]⟩, .string ⟨#[69, 120, 112, 101, 110, 115, 101, 115]⟩]) (.int .i64 3)).run Tryd.prog w = .ok (.string ⟨#[73, 110, 99, 111, 109, 101]⟩) w := by kernel_rfl
theorem arr11_4 (w : World) : (Instr.index 36 (.agg #[.string ⟨#[65, 115, 115, 101, 116, 115]⟩, .string ⟨#[76, 105, 97, 98, 105, 108, 105, 116, 105, 101, 115]⟩, .string ⟨#[69, 113, 117, 105, 116, 121]⟩, .string ⟨#[73, 110, 99, 111, 109, 101]⟩, .string ⟨#[69, 120, 112, 101, 110, 115, 101, 115]⟩]) (.int .i64 4)).run Tryd.prog w = .ok (.string ⟨#[69, 120, 112, 101, 110, 115, 101, 115]⟩) w := by kernel_rfl
theorem lit_yes {s : ByteArray} {l : List UInt8} (h : bs9 s = l.map UInt8.toNat) : (s.toList == l) = true := by
  have : s = ⟨l.toArray⟩ := bs9_inj (h.trans (bs9_mk l).symm)
  rw [this, ByteArray.toList_eq, beq_iff_eq]
theorem lit_not {s : ByteArray} {l : List UInt8} (h : bs9 s ≠ l.map UInt8.toNat) : (s.toList == l) = false := by
  rw [beq_eq_false_iff_ne, ByteArray.toList_eq]
  intro e
  exact h (by unfold bs9; rw [e])
/-- strings.Cut at a colon, whatever there is. -/
theorem cut_any (s : ByteArray) (hs : s.size ≤ 1000000) : ∃ (X Y : ByteArray) (b : Bool), bs9 X = hdc (bs9 s) ∧ (58 ∈ bs9 s ↔ b = true) ∧ (b = true → bs9 Y = bdc (bs9 s) ∧ Y.size < s.size) ∧ (b = false → Y.size = 0) ∧ X.size ≤ s.size ∧
    ∀ w, MaxLen w → Calls Tryd.prog 33 #[.string s, .string ⟨#[58]⟩] w (Ret9 w (.tuple #[.string X, .string Y, .bool b])) := by
  have hx : ∀ {l : List Nat}, (∀ c ∈ l, c ∈ bs9 s) → ∀ c ∈ l, c < 256 := fun h c hc => bs9_lt s c (h c hc)
  by_cases h : 58 ∈ bs9 s
  · have e := hdc_bdc h
    have eX : bs9 (st9 (hdc (bs9 s))) = hdc (bs9 s) := bs9_st9 (hx fun c hc => by rw [e]; exact List.mem_append_left _ hc)
    have eY : bs9 (st9 (bdc (bs9 s))) = bdc (bs9 s) := bs9_st9 (hx fun c hc => by rw [e]; exact List.mem_append_right _ (List.mem_cons_of_mem _ hc))
    have hl := congrArg List.length e
    rw [List.length_append, List.length_cons, bs9_len] at hl
    exact ⟨st9 (hdc (bs9 s)), st9 (bdc (bs9 s)), true, eX, ⟨fun _ => rfl, fun _ => h⟩, fun _ => ⟨eY, by rw [← bs9_len (st9 _), eY]; omega⟩, fun e => (by cases e), by rw [← bs9_len (st9 _), eX]; omega, fun w hm => cut_yes hs hm h eX eY⟩
  · exact ⟨s, ⟨#[]⟩, false, by rw [hdc_no h], ⟨fun e => absurd e h, fun e => (by cases e)⟩, fun e => (by cases e), fun _ => rfl, Nat.le_refl _, fun w hm => cut_no hs hm h⟩

set_option maxHeartbeats 4000000 in
set_option maxRecDepth 100000 in
theorem root_is {s : ByteArray} {z : Nat} (h : rot (bs9 s) = z) (hs : s.size ≤ 1000000) {w : World} (hm : MaxLen w) (hr : Roots w) : Calls Tryd.prog 26 #[.string s] w (Ret9 w (.int .i64 (z : Int))) := by
  obtain ⟨X, Y, m, hX, _, _, _, _, hcut⟩ := cut_any s hs
  have HZ : Hid (rotX (bs9 X) = z) := by show _ = _; rw [hX]; exact h
  have HC : Hid (Calls Tryd.prog 33 #[.string s, .string ⟨#[58]⟩] w (Ret9 w (.tuple #[.string X, .string Y, .bool m]))) := hcut w hm
  have HR := Lib.hid hr
  clear h hX hcut hm hr
  go_enter Tryd.func26, Tryd.ntmps26
  go_wp2_with fail
  refine HC.out.mono ?_; rintro e w1 ⟨rfl, hb⟩
  obtain ⟨c0, c1, c2, c3, c4⟩ := HR.out.on hb
  have HB := Lib.hid hb
  clear hb
  go_wp2_with fail
  clear c0 c1 c2 c3 c4
  go_loopw [15] (fun kv wr => ∃ (y : Int) (k : Nat), kv = .int .i64 y ∧ y = (k : Int) ∧ k ≤ 5 ∧ NR k (bs9 X) ∧ wr = w1) (fun kv _ => 5 - (intOf kv).toNat)
  case atStart => exact ⟨0, 0, rfl, rfl, by decide, NR.zero _, rfl⟩
  case round =>
    obtain ⟨y, k, rfl, hy, hk, hn, rfl⟩ := hrel
    have HN := Lib.hid hn
    clear hn
    obtain rfl | rfl | rfl | rfl | rfl | rfl : k = 0 ∨ k = 1 ∨ k = 2 ∨ k = 3 ∨ k = 4 ∨ k = 5 := by omega
    · obtain rfl : y = 0 := hy
      have ha := arr11_0
      by_cases hx : bs9 X = [65, 115, 115, 101, 116, 115]
      · have d : (X.toList == ([65, 115, 115, 101, 116, 115] : List UInt8)) = true := lit_yes hx
        have E : Hid (z = 1) := by show _ = _; rw [← HZ.out]; exact rotX_0 HN.out hx
        clear hx hk
        go_wp2_with fail
        go_ret
        exact ⟨by rw [E.out]; rfl, HB.out⟩
      · have d : (X.toList == ([65, 115, 115, 101, 116, 115] : List UInt8)) = false := lit_not hx
        have E : Hid (NR 1 (bs9 X)) := HN.out.next rfl hx
        clear hx hk
        go_wp2_with fail
        go_roundw
        case rel => exact ⟨_, 1, rfl, rfl, by decide, E.out, trivial⟩
        case measure => simp [intOf]
    · obtain rfl : y = 1 := hy
      have ha := arr11_1
      by_cases hx : bs9 X = [76, 105, 97, 98, 105, 108, 105, 116, 105, 101, 115]
      · have d : (X.toList == ([76, 105, 97, 98, 105, 108, 105, 116, 105, 101, 115] : List UInt8)) = true := lit_yes hx
        have E : Hid (z = 2) := by show _ = _; rw [← HZ.out]; exact rotX_1 HN.out hx
        clear hx hk
        go_wp2_with fail
        go_ret
        exact ⟨by rw [E.out]; rfl, HB.out⟩
      · have d : (X.toList == ([76, 105, 97, 98, 105, 108, 105, 116, 105, 101, 115] : List UInt8)) = false := lit_not hx
        have E : Hid (NR 2 (bs9 X)) := HN.out.next rfl hx
        clear hx hk
        go_wp2_with fail
        go_roundw
        case rel => exact ⟨_, 2, rfl, rfl, by decide, E.out, trivial⟩
        case measure => simp [intOf]
    · obtain rfl : y = 2 := hy
      have ha := arr11_2
      by_cases hx : bs9 X = [69, 113, 117, 105, 116, 121]
      · have d : (X.toList == ([69, 113, 117, 105, 116, 121] : List UInt8)) = true := lit_yes hx
        have E : Hid (z = 3) := by show _ = _; rw [← HZ.out]; exact rotX_2 HN.out hx
        clear hx hk
        go_wp2_with fail
        go_ret
        exact ⟨by rw [E.out]; rfl, HB.out⟩
      · have d : (X.toList == ([69, 113, 117, 105, 116, 121] : List UInt8)) = false := lit_not hx
        have E : Hid (NR 3 (bs9 X)) := HN.out.next rfl hx
        clear hx hk
        go_wp2_with fail
        go_roundw
        case rel => exact ⟨_, 3, rfl, rfl, by decide, E.out, trivial⟩
        case measure => simp [intOf]
    · obtain rfl : y = 3 := hy
      have ha := arr11_3
      by_cases hx : bs9 X = [73, 110, 99, 111, 109, 101]
      · have d : (X.toList == ([73, 110, 99, 111, 109, 101] : List UInt8)) = true := lit_yes hx
        have E : Hid (z = 4) := by show _ = _; rw [← HZ.out]; exact rotX_3 HN.out hx
        clear hx hk
        go_wp2_with fail
        go_ret
        exact ⟨by rw [E.out]; rfl, HB.out⟩
      · have d : (X.toList == ([73, 110, 99, 111, 109, 101] : List UInt8)) = false := lit_not hx
        have E : Hid (NR 4 (bs9 X)) := HN.out.next rfl hx
        clear hx hk
        go_wp2_with fail
        go_roundw
        case rel => exact ⟨_, 4, rfl, rfl, by decide, E.out, trivial⟩
        case measure => simp [intOf]
    · obtain rfl : y = 4 := hy
      have ha := arr11_4
      by_cases hx : bs9 X = [69, 120, 112, 101, 110, 115, 101, 115]
      · have d : (X.toList == ([69, 120, 112, 101, 110, 115, 101, 115] : List UInt8)) = true := lit_yes hx
        have E : Hid (z = 5) := by show _ = _; rw [← HZ.out]; exact rotX_4 HN.out hx
        clear hx hk
        go_wp2_with fail
        go_ret
        exact ⟨by rw [E.out]; rfl, HB.out⟩
      · have d : (X.toList == ([69, 120, 112, 101, 110, 115, 101, 115] : List UInt8)) = false := lit_not hx
        have E : Hid (NR 5 (bs9 X)) := HN.out.next rfl hx
        clear hx hk
        go_wp2_with fail
        go_roundw
        case rel => exact ⟨_, 5, rfl, rfl, by decide, E.out, trivial⟩
        case measure => simp [intOf]
    · obtain rfl : y = 5 := hy
      have E : Hid (z = 0) := by show _ = _; rw [← HZ.out]; exact rotX_5 HN.out
      clear hk
      go_wp2_with fail
      go_ret
      exact ⟨by rw [E.out]; rfl, HB.out⟩

set_option maxHeartbeats 4000000 in
set_option maxRecDepth 100000 in
theorem refroot_is {s : ByteArray} {z : Nat} (h : rot (bs9 s) = z) (hs : s.size ≤ 1000000) (w : World) : Calls Tryd.prog 27 #[.string s] w (Ret9 w (.int .i64 (z : Int))) := by
  have HZ : Hid (rotX (hdc (bs9 s)) = z) := h
  clear h
  go_enter Tryd.func27, Tryd.ntmps27
  go_wp2_with fail
  go_loopw [8] (fun kv wr => ∃ (y : Int) (k : Nat), kv = .int .i64 y ∧ y = (k : Int) ∧ k ≤ 5 ∧ NR k (hdc (bs9 s)) ∧ Below w.heap.size w wr) (fun kv _ => 5 - (intOf kv).toNat)
  case atStart => exact ⟨0, 0, rfl, rfl, by decide, NR.zero _, by first | exact Below.refl _ _ | exact (Below.refl _ _).alloc (Nat.le_refl _) _ | exact ((Below.refl _ _).alloc (Nat.le_refl _) _).setCell (by simp)⟩
  case round =>
    obtain ⟨y, k, rfl, hy, hk, hn, hb⟩ := hrel
    have HN := Lib.hid hn
    have HB := Lib.hid hb
    clear hn hb
    obtain ⟨X, hX⟩ : ∃ X, st9 (hdc (bs9 s)) = X := ⟨_, rfl⟩
    have HXB : Hid (bs9 X = hdc (bs9 s)) := by
      show _ = _
      rw [← hX]
      exact bs9_st9 fun c hc => bs9_lt s c (prt_mem _ _ (List.mem_of_mem_head? (by rw [prt_head]; rfl)) c hc)
    have HP : Hid (∀ w', Calls Tryd.prog 9 #[.string s] w' (fun e w2 => ∃ b o n c, e = .returned (.slice (some ⟨b, o, none⟩) n c) ∧ 0 < n ∧ n ≤ c ∧ c ≤ maxLen ∧ b < w2.heap.size ∧ w2.cell? ⟨b, o, none⟩ = some (.string X) ∧ Below w'.heap.size w' w2)) := by
      intro w'
      refine (refparts_any s w' hs).mono ?_
      rintro e w2 ⟨A, c, rfl, h, hb⟩
      obtain ⟨b, o, rfl, r1, r2, r3, t, r4, r5⟩ := h.at_ (k := 0) (List.length_pos_iff.2 (prt_ne _))
      have e1 := prt_head (bs9 s)
      rw [List.head?_eq_getElem?, r4] at e1
      rw [Option.some.inj e1, hX] at r5
      exact ⟨b, o, _, c, rfl, List.length_pos_iff.2 (prt_ne _), r1, r2, r3, r5, hb⟩
    clear hX
    obtain rfl | rfl | rfl | rfl | rfl | rfl : k = 0 ∨ k = 1 ∨ k = 2 ∨ k = 3 ∨ k = 4 ∨ k = 5 := by omega
    · obtain rfl : y = 0 := hy
      have ha := arr11_0
      by_cases hx : hdc (bs9 s) = [65, 115, 115, 101, 116, 115]
      · have d : (X.toList == ([65, 115, 115, 101, 116, 115] : List UInt8)) = true := lit_yes (HXB.out.trans hx)
        have E : Hid (z = 1) := by show _ = _; rw [← HZ.out]; exact rotX_0 HN.out hx
        clear hx hk
        go_wp2_with fail
        refine (HP.out _).mono ?_; rintro e w3 ⟨b, o, n, c, rfl, r0, r1, r2, r3, r4, hb⟩
        replace HB := Lib.hid (HB.out.trans (hb.mono HB.out.size)); clear hb
        have r5 : n ≤ 9223372036854775807 := Nat.le_trans r1 r2
        go_wp2_with fail
        go_ret
        exact ⟨by rw [E.out]; rfl, HB.out⟩
      · have d : (X.toList == ([65, 115, 115, 101, 116, 115] : List UInt8)) = false := lit_not (fun e => hx (HXB.out.symm.trans e))
        have E : Hid (NR 1 (hdc (bs9 s))) := HN.out.next rfl hx
        clear hx hk
        go_wp2_with fail
        refine (HP.out _).mono ?_; rintro e w3 ⟨b, o, n, c, rfl, r0, r1, r2, r3, r4, hb⟩
        replace HB := Lib.hid (HB.out.trans (hb.mono HB.out.size)); clear hb
        have r5 : n ≤ 9223372036854775807 := Nat.le_trans r1 r2
        go_wp2_with fail
        go_roundw
        case rel => exact ⟨_, 1, rfl, rfl, by decide, E.out, HB.out⟩
        case measure => simp [intOf]
    · obtain rfl : y = 1 := hy
      have ha := arr11_1
      by_cases hx : hdc (bs9 s) = [76, 105, 97, 98, 105, 108, 105, 116, 105, 101, 115]
      · have d : (X.toList == ([76, 105, 97, 98, 105, 108, 105, 116, 105, 101, 115] : List UInt8)) = true := lit_yes (HXB.out.trans hx)
        have E : Hid (z = 2) := by show _ = _; rw [← HZ.out]; exact rotX_1 HN.out hx
        clear hx hk
        go_wp2_with fail
        refine (HP.out _).mono ?_; rintro e w3 ⟨b, o, n, c, rfl, r0, r1, r2, r3, r4, hb⟩
        replace HB := Lib.hid (HB.out.trans (hb.mono HB.out.size)); clear hb
        have r5 : n ≤ 9223372036854775807 := Nat.le_trans r1 r2
        go_wp2_with fail
        go_ret
        exact ⟨by rw [E.out]; rfl, HB.out⟩
      · have d : (X.toList == ([76, 105, 97, 98, 105, 108, 105, 116, 105, 101, 115] : List UInt8)) = false := lit_not (fun e => hx (HXB.out.symm.trans e))
        have E : Hid (NR 2 (hdc (bs9 s))) := HN.out.next rfl hx
        clear hx hk
        go_wp2_with fail
        refine (HP.out _).mono ?_; rintro e w3 ⟨b, o, n, c, rfl, r0, r1, r2, r3, r4, hb⟩
        replace HB := Lib.hid (HB.out.trans (hb.mono HB.out.size)); clear hb
        have r5 : n ≤ 9223372036854775807 := Nat.le_trans r1 r2
        go_wp2_with fail
        go_roundw
        case rel => exact ⟨_, 2, rfl, rfl, by decide, E.out, HB.out⟩
        case measure => simp [intOf]
    · obtain rfl : y = 2 := hy
      have ha := arr11_2
      by_cases hx : hdc (bs9 s) = [69, 113, 117, 105, 116, 121]
      · have d : (X.toList == ([69, 113, 117, 105, 116, 121] : List UInt8)) = true := lit_yes (HXB.out.trans hx)
        have E : Hid (z = 3) := by show _ = _; rw [← HZ.out]; exact rotX_2 HN.out hx
        clear hx hk
        go_wp2_with fail
        refine (HP.out _).mono ?_; rintro e w3 ⟨b, o, n, c, rfl, r0, r1, r2, r3, r4, hb⟩
        replace HB := Lib.hid (HB.out.trans (hb.mono HB.out.size)); clear hb
        have r5 : n ≤ 9223372036854775807 := Nat.le_trans r1 r2
        go_wp2_with fail
        go_ret
        exact ⟨by rw [E.out]; rfl, HB.out⟩
      · have d : (X.toList == ([69, 113, 117, 105, 116, 121] : List UInt8)) = false := lit_not (fun e => hx (HXB.out.symm.trans e))
        have E : Hid (NR 3 (hdc (bs9 s))) := HN.out.next rfl hx
        clear hx hk
        go_wp2_with fail
        refine (HP.out _).mono ?_; rintro e w3 ⟨b, o, n, c, rfl, r0, r1, r2, r3, r4, hb⟩
        replace HB := Lib.hid (HB.out.trans (hb.mono HB.out.size)); clear hb
        have r5 : n ≤ 9223372036854775807 := Nat.le_trans r1 r2
        go_wp2_with fail
        go_roundw
        case rel => exact ⟨_, 3, rfl, rfl, by decide, E.out, HB.out⟩
        case measure => simp [intOf]
    · obtain rfl : y = 3 := hy
      have ha := arr11_3
      by_cases hx : hdc (bs9 s) = [73, 110, 99, 111, 109, 101]
      · have d : (X.toList == ([73, 110, 99, 111, 109, 101] : List UInt8)) = true := lit_yes (HXB.out.trans hx)
        have E : Hid (z = 4) := by show _ = _; rw [← HZ.out]; exact rotX_3 HN.out hx
        clear hx hk
        go_wp2_with fail
        refine (HP.out _).mono ?_; rintro e w3 ⟨b, o, n, c, rfl, r0, r1, r2, r3, r4, hb⟩
        replace HB := Lib.hid (HB.out.trans (hb.mono HB.out.size)); clear hb
        have r5 : n ≤ 9223372036854775807 := Nat.le_trans r1 r2
        go_wp2_with fail
        go_ret
        exact ⟨by rw [E.out]; rfl, HB.out⟩
      · have d : (X.toList == ([73, 110, 99, 111, 109, 101] : List UInt8)) = false := lit_not (fun e => hx (HXB.out.symm.trans e))
        have E : Hid (NR 4 (hdc (bs9 s))) := HN.out.next rfl hx
        clear hx hk
        go_wp2_with fail
        refine (HP.out _).mono ?_; rintro e w3 ⟨b, o, n, c, rfl, r0, r1, r2, r3, r4, hb⟩
        replace HB := Lib.hid (HB.out.trans (hb.mono HB.out.size)); clear hb
        have r5 : n ≤ 9223372036854775807 := Nat.le_trans r1 r2
        go_wp2_with fail
        go_roundw
        case rel => exact ⟨_, 4, rfl, rfl, by decide, E.out, HB.out⟩
        case measure => simp [intOf]
    · obtain rfl : y = 4 := hy
      have ha := arr11_4
      by_cases hx : hdc (bs9 s) = [69, 120, 112, 101, 110, 115, 101, 115]
      · have d : (X.toList == ([69, 120, 112, 101, 110, 115, 101, 115] : List UInt8)) = true := lit_yes (HXB.out.trans hx)
        have E : Hid (z = 5) := by show _ = _; rw [← HZ.out]; exact rotX_4 HN.out hx
        clear hx hk
        go_wp2_with fail
        refine (HP.out _).mono ?_; rintro e w3 ⟨b, o, n, c, rfl, r0, r1, r2, r3, r4, hb⟩
        replace HB := Lib.hid (HB.out.trans (hb.mono HB.out.size)); clear hb
        have r5 : n ≤ 9223372036854775807 := Nat.le_trans r1 r2
        go_wp2_with fail
        go_ret
        exact ⟨by rw [E.out]; rfl, HB.out⟩
      · have d : (X.toList == ([69, 120, 112, 101, 110, 115, 101, 115] : List UInt8)) = false := lit_not (fun e => hx (HXB.out.symm.trans e))
        have E : Hid (NR 5 (hdc (bs9 s))) := HN.out.next rfl hx
        clear hx hk
        go_wp2_with fail
        refine (HP.out _).mono ?_; rintro e w3 ⟨b, o, n, c, rfl, r0, r1, r2, r3, r4, hb⟩
        replace HB := Lib.hid (HB.out.trans (hb.mono HB.out.size)); clear hb
        have r5 : n ≤ 9223372036854775807 := Nat.le_trans r1 r2
        go_wp2_with fail
        go_roundw
        case rel => exact ⟨_, 5, rfl, rfl, by decide, E.out, HB.out⟩
        case measure => simp [intOf]
    · obtain rfl : y = 5 := hy
      have E : Hid (z = 0) := by show _ = _; rw [← HZ.out]; exact rotX_5 HN.out
      clear hk
      go_wp2_with fail
      go_ret
      exact ⟨by rw [E.out]; rfl, HB.out⟩

end Go.Proofs.YtaaikbbgbnbmkaaDoor
