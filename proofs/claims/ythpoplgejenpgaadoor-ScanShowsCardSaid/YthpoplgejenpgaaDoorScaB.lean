/-
  Contracts of layer 10, the second part: Count, Indent, Blank and the document's.
-/
import Derived.Test.YthpoplgejenpgaaDoorScaA
set_option linter.unusedVariables false
set_option linter.unusedSimpArgs false
namespace Go.Proofs.YthpoplgejenpgaaDoor
open Go.RowKit

theorem lin_end {s : ByteArray} {i : Nat} (h : s.size ≤ i) : linl ((bs9 s).drop i) = [] := by
  rw [List.drop_of_length_le (by rw [bs9_len]; exact h), linl_nil]
theorem lin_step {s : ByteArray} {i : Nat} (h : i < s.size) : linl ((bs9 s).drop i) = strl (hdl ((bs9 s).drop i)) :: linl ((bs9 s).drop (i + (hdl ((bs9 s).drop i)).length + 1)) := linl_at (by rw [bs9_len]; exact h)
theorem hd_le {s : ByteArray} {i : Nat} (h : i ≤ s.size) : i + (hdl ((bs9 s).drop i)).length ≤ s.size := by
  have := hdl_le ((bs9 s).drop i)
  rw [List.length_drop, bs9_len] at this; omega

set_option maxHeartbeats 4000000 in
set_option maxRecDepth 100000 in
theorem count_any (s : ByteArray) (w : World) (hs : s.size ≤ 1000000) : Calls Tryd.prog 11 #[.string s] w (Ret9 w (.int .i64 ((linl (bs9 s)).length : Nat))) := by
  obtain ⟨z, hz⟩ : ∃ z, (linl (bs9 s)).length = z := ⟨_, rfl⟩
  rw [hz]
  have HZ := Lib.hid hz
  clear hz
  go_enter Tryd.func11, Tryd.ntmps11
  go_wp2_with fail
  go_loopw [3, 4] (fun cv iv wr => ∃ c i : Nat, cv = .int .i64 c ∧ iv = .int .i64 i ∧ i ≤ s.size + 1 ∧ c ≤ i ∧ z = c + (linl ((bs9 s).drop i)).length ∧ Below w.heap.size w wr) (fun _ iv _ => s.size + 1 - (intOf iv).toNat)
  case atStart => exact ⟨0, 0, rfl, rfl, Nat.zero_le _, Nat.le_refl _, by rw [← HZ.out, List.drop_zero, Nat.zero_add], Below.refl _ _⟩
  case round =>
    obtain ⟨c, i, rfl, rfl, hi, hci, hz, hb⟩ := hrel
    have HG := Lib.hid hz
    have HB := Lib.hid hb
    clear hz hb
    rcases Nat.lt_or_ge i s.size with hlt | hge
    · have hkl := hd_le (Nat.le_of_lt hlt)
      obtain ⟨k, hk⟩ : ∃ k, i + (hdl ((bs9 s).drop i)).length = k := ⟨_, rfl⟩
      have HK := Lib.hid hk
      rw [hk] at hkl
      have hik : i ≤ k := by omega
      have E : Hid (z = (c + 1) + (linl ((bs9 s).drop (k + 1))).length) := by
        show _ = _
        rw [HG.out, lin_step hlt, hk, List.length_cons]; omega
      clear hk
      go_wp2_with fail
      refine (end_any s i _ (Nat.le_of_lt hlt) hs).mono ?_; rintro e w1 ⟨rfl, hb⟩
      rw [HK.out]
      replace HB := Lib.hid (HB.out.trans (hb.mono HB.out.size))
      clear hb
      go_wp2_with fail
      go_round
      case rel => exact ⟨c + 1, k + 1, by go_num, by go_num, by omega, by omega, E.out, HB.out⟩
      case measure => simp [intOf]; omega
    · have E : Hid (z = c) := by show _ = _; rw [HG.out, lin_end hge]; rfl
      have hg2 : (s.size : Int) ≤ (i : Int) := by omega
      go_wp2_with fail
      go_ret
      exact ⟨by rw [E.out]; rfl, HB.out⟩

theorem str_nil {s : ByteArray} (h : s.size = 0) : s = ⟨#[]⟩ := bs9_inj (by rw [List.eq_nil_of_length_eq_zero ((bs9_len s).trans h)]; rfl)
theorem str_ne {s : ByteArray} (h : 0 < s.size) : (s.toList == []) = false := by
  rw [beq_eq_false_iff_ne]
  intro e
  have e2 : bs9 s = [] := by unfold bs9; rw [← ByteArray.toList_eq, e]; rfl
  have := bs9_len s
  rw [e2] at this
  simp at this; omega

set_option maxHeartbeats 4000000 in
set_option maxRecDepth 100000 in
theorem indent_any (s : ByteArray) (w : World) (hs : s.size ≤ 1000000) : Calls Tryd.prog 12 #[.string s] w (Ret9 w (.int .i64 (indl (bs9 s) : Nat))) := by
  obtain ⟨z, hz⟩ : ∃ z, indl (bs9 s) = z := ⟨_, rfl⟩
  have hzl := indl_le (bs9 s)
  rw [hz, bs9_len] at hzl
  rw [hz]
  have HS : Hid (∀ n x, n ≤ z → (bs9 s)[n]? = some x → ((x = 32 ∨ x = 9) → n + 1 ≤ z) ∧ (¬ (x = 32 ∨ x = 9) → z = n)) := fun n x hn hx => by
    have := indl_at (l := bs9 s) (n := n) (x := x) (by omega) hx
    rw [hz] at this; exact this
  clear hz
  go_enter Tryd.func12, Tryd.ntmps12
  go_wp2_with fail
  go_loopw [6] (fun nv wr => ∃ n : Nat, nv = .int .i64 n ∧ n ≤ z ∧ Below w.heap.size w wr) (fun nv _ => s.size - (intOf nv).toNat)
  case atStart => exact ⟨0, rfl, Nat.zero_le _, Below.refl _ _⟩
  case round =>
    obtain ⟨n, rfl, hn, hb⟩ := hrel
    have HB := Lib.hid hb
    clear hb
    rcases Nat.lt_or_ge n s.size with hlt | hge
    · obtain ⟨x, hx⟩ : ∃ x, x = (s[n]'hlt).toNat := ⟨_, rfl⟩
      have ex : ((s[n]'hlt).toNat : Int) = (x : Int) := by rw [hx]
      have h2 := HS.out n x hn (by rw [bs9_at s n hlt, hx])
      clear hx
      by_cases h32 : x = 32
      · have d : ((x : Int) != 32) = false := by rw [h32]; rfl
        have E : Hid (n + 1 ≤ z) := h2.1 (.inl h32)
        clear h2 h32
        go_wp2_with fail
        go_roundw
        case rel => exact ⟨n + 1, by go_num, E.out, HB.out⟩
        case measure => simp [intOf]; omega
      · have d : ((x : Int) != 32) = true := by rw [bne_iff_ne]; omega
        by_cases h9 : x = 9
        · have d2 : ((x : Int) != 9) = false := by rw [h9]; rfl
          have E : Hid (n + 1 ≤ z) := h2.1 (.inr h9)
          clear h2 h32 h9
          go_wp2_with fail
          go_roundw
          case rel => exact ⟨n + 1, by go_num, E.out, HB.out⟩
          case measure => simp [intOf]; omega
        · have d2 : ((x : Int) != 9) = true := by rw [bne_iff_ne]; omega
          have E : Hid (z = n) := h2.2 (by omega)
          clear h2 h32 h9
          go_wp2_with fail
          go_ret
          exact ⟨by rw [E.out]; rfl, HB.out⟩
    · have E : Hid (z = s.size) := by show _ = _; omega
      go_wp2_with fail
      go_ret
      exact ⟨by rw [E.out]; rfl, HB.out⟩

theorem rb9 {a b : Bool} (h : a = b) : Ending.returned (.bool a) = .returned (.bool b) := by rw [h]
set_option maxHeartbeats 4000000 in
set_option maxRecDepth 100000 in
theorem blank_any (s : ByteArray) (w : World) (hs : s.size ≤ 1000000) : Calls Tryd.prog 13 #[.string s] w (Ret9 w (.bool (decide (Blk (bs9 s))))) := by
  obtain ⟨z, hz⟩ : ∃ z, indl (bs9 s) = z := ⟨_, rfl⟩
  have hzl := indl_le (bs9 s)
  rw [hz, bs9_len] at hzl
  obtain ⟨X, hX⟩ : ∃ X, s.extract z s.size = X := ⟨_, rfl⟩
  have hXs : X.size = s.size - z := by rw [← hX]; simp only [ByteArray.size_extract]; omega
  have hXb : bs9 X = (bs9 s).drop z := by rw [← hX]; exact bs9_drop s z
  have hsl : ∀ w', (Instr.slice 9 (.string s) (some (.int .i64 (z : Int))) none none).run Tryd.prog w' = .ok (.string X) w' := sl_from hzl hX
  obtain ⟨r, hr⟩ : ∃ r, decide (Blk (bs9 s)) = r := ⟨_, rfl⟩
  rw [hr]
  have HR : Hid (r = decide (z = s.size ∨ (bs9 s)[z]? = some 59 ∨ (bs9 s)[0]? = some 42)) := by show _ = _; rw [← hr]; unfold Blk; simp only [hz, bs9_len]
  have HZ := Lib.hid hz
  clear hX hz hr
  rcases Nat.lt_or_ge z s.size with hlt | hge
  · have d1 := str_ne (s := X) (by omega)
    have hX0 : 0 < X.size := by omega
    have hs0 : 0 < s.size := by omega
    obtain ⟨x, hx⟩ : ∃ x, x = (X[0]'hX0).toNat := ⟨_, rfl⟩
    have ex : ((X[0]'hX0).toNat : Int) = (x : Int) := by rw [hx]
    obtain ⟨y, hy⟩ : ∃ y, y = (s[0]'hs0).toNat := ⟨_, rfl⟩
    have ey : ((s[0]'hs0).toNat : Int) = (y : Int) := by rw [hy]
    have h1 : (bs9 s)[z]? = some x := by
      have := bs9_at X 0 hX0
      rw [hXb, List.getElem?_drop, ← hx] at this; exact this
    have h2 : (bs9 s)[0]? = some y := by rw [bs9_at s 0 hs0, hy]
    by_cases k : x = 59
    · have d2 : ((x : Int) == 59) = true := by rw [k]; rfl
      have E : Hid (r = true) := by show _ = _; rw [HR.out, decide_eq_true_iff]; exact .inr (.inl (by rw [h1, k]))
      clear hx hy h1 h2 k hXb
      go_enter Tryd.func13, Tryd.ntmps13
      go_wp2_with fail
      refine (indent_any s _ hs).mono ?_; rintro e w1 ⟨rfl, hb⟩
      rw [HZ.out]
      go_wp2_with fail
      go_ret
      exact ⟨by rw [E.out]; rfl, hb⟩
    · have d2 : ((x : Int) == 59) = false := by rw [beq_eq_false_iff_ne]; omega
      have E : Hid (((y : Int) == 42) = r) := by
        show _ = _
        rw [HR.out, Bool.eq_iff_iff, beq_iff_eq, decide_eq_true_iff, h1, h2]
        constructor
        · intro e; exact .inr (.inr (congrArg some (by omega)))
        · rintro (e | e | e)
          · omega
          · exact absurd (Option.some.inj e) k
          · have := Option.some.inj e; omega
      clear hx hy h1 h2 k hXb
      go_enter Tryd.func13, Tryd.ntmps13
      go_wp2_with fail
      refine (indent_any s _ hs).mono ?_; rintro e w1 ⟨rfl, hb⟩
      rw [HZ.out]
      go_wp2_with fail
      go_ret
      exact ⟨rb9 E.out, hb⟩
  · have d1 : (X.toList == []) = true := by rw [str_nil (s := X) (by omega), ByteArray.toList_eq]; rfl
    have E : Hid (r = true) := by show _ = _; rw [HR.out, decide_eq_true_iff]; exact .inl (by omega)
    clear hXb
    go_enter Tryd.func13, Tryd.ntmps13
    go_wp2_with fail
    refine (indent_any s _ hs).mono ?_; rintro e w1 ⟨rfl, hb⟩
    rw [HZ.out]
    go_wp2_with fail
    go_ret
    exact ⟨by rw [E.out]; rfl, hb⟩

end Go.Proofs.YthpoplgejenpgaaDoor
