/-
  Contracts of layer 10, the fifth part: the document's Lines.
-/
import Derived.Test.YthpoplgejenpgaaDoorScaD
set_option linter.unusedVariables false
set_option linter.unusedSimpArgs false
namespace Go.Proofs.YthpoplgejenpgaaDoor
open Go.RowKit

theorem line_of {s : ByteArray} {a i : Nat} (h : (hdl ((bs9 s).drop a)).length = i - a) (ha : a ≤ i) (hi : i ≤ s.size) (k : a = i ∨ (a < i ∧ (bs9 s)[i - 1]? ≠ some 13)) : strl (hdl ((bs9 s).drop a)) = bs9 (s.extract a i) := by
  have e : hdl ((bs9 s).drop a) = bs9 (s.extract a i) := by rw [bs9_extract, ← h, ← hdl_take]
  rw [e]
  unfold strl
  rw [if_neg]
  rcases k with k | ⟨k1, k2⟩
  · have : bs9 (s.extract a i) = [] := by rw [← e]; exact List.eq_nil_of_length_eq_zero (by omega)
    rw [this]; simp
  · rw [← e, List.getLast?_eq_getElem?, h, hdl_take, List.getElem?_take_of_lt (by omega), List.getElem?_drop, show a + (i - a - 1) = i - 1 by omega]
    exact k2
theorem line_cr {s : ByteArray} {a i : Nat} (h : (hdl ((bs9 s).drop a)).length = i - a) (hi : i ≤ s.size) (k1 : a < i) (k2 : (bs9 s)[i - 1]? = some 13) : strl (hdl ((bs9 s).drop a)) = bs9 (s.extract a (i - 1)) := by
  unfold strl
  rw [if_pos]
  · rw [List.dropLast_eq_take, h, hdl_take, List.take_take, bs9_extract, h]
    congr 1; omega
  · rw [List.getLast?_eq_getElem?, h, hdl_take, List.getElem?_take_of_lt (by omega), List.getElem?_drop, show a + (i - a - 1) = i - 1 by omega]
    exact k2

set_option maxHeartbeats 8000000 in
set_option maxRecDepth 100000 in
theorem reflines_any (s : ByteArray) (w : World) (hs : s.size ≤ 1000000) : Calls Tryd.prog 20 #[.string s] w (RetL w (lns s)) := by
  obtain ⟨i0, hi, hz0, hz1, hz2⟩ := info_parts10 info_line
  obtain ⟨G, hG⟩ : ∃ G, lns s = G := ⟨_, rfl⟩
  rw [hG]
  have HG0 := Lib.hid hG
  clear hG
  go_enter Tryd.func20, Tryd.ntmps20
  go_wp2_with fail
  go_loopw [3, 4, 5] (fun lv av iv wr => ∃ (L : List (List Nat)) (a i : Nat), OwnL wr w.heap.size lv L ∧ av = .int .i64 a ∧ iv = .int .i64 i ∧ a ≤ i ∧ i ≤ s.size + 1 ∧ L.length ≤ a ∧ (i ≤ s.size → i ≤ a + (hdl ((bs9 s).drop a)).length) ∧ (i = s.size + 1 → a = s.size + 1) ∧ L ++ linl ((bs9 s).drop a) = G ∧ Below w.heap.size w wr) (fun _ _ iv _ => s.size + 1 - (intOf iv).toNat)
  case atStart => exact ⟨[], 0, 0, OwnL.start _ _, rfl, rfl, Nat.le_refl _, Nat.zero_le _, Nat.le_refl _, fun _ => Nat.zero_le _, fun e => by omega, HG0.out, Below.refl _ _⟩
  case round =>
    obtain ⟨L, a, i, hown, rfl, rfl, hai, hi1, hL, hh1, hh2, hsp, hb⟩ := hrel
    obtain ⟨A, cp, rfl⟩ := hown.slen
    have HG := Lib.hid hsp
    have OW := Lib.hid hown
    have HB := Lib.hid hb
    have HH := Lib.hid hh1
    clear hsp hown hb hh1
    by_cases hle : i ≤ s.size
    case neg =>
      have E : Hid (L = G) := by show _ = _; rw [← HG.out, lin_end (by have := hh2 (by omega); omega), List.append_nil]
      have d0 : decide (i ≤ s.size) = false := decide_eq_false hle
      have d1 : decide ((i : Int) ≤ (s.size : Int)) = false := decide_eq_false (by omega)
      clear hh2 hle
      go_wp2_with fail
      go_ret
      exact ⟨_, rfl, by rw [← E.out]; exact OW.out, HB.out⟩
    clear hh2
    have l1 : decide ((i : Int) ≤ (s.size : Int)) = true := decide_eq_true (by omega)
    have l0 : decide (i ≤ s.size) = true := decide_eq_true hle
    rcases Nat.lt_or_ge i s.size with hlt | hge
    · obtain ⟨x, hx⟩ : ∃ x, x = (s[i]'hlt).toNat := ⟨_, rfl⟩
      have ex : ((s[i]'hlt).toNat : Int) = (x : Int) := by rw [hx]
      have h2 := hdl_ten (l := (bs9 s).drop a) (n := i - a) (x := x) (by have := HH.out hle; omega) (by rw [List.getElem?_drop, show a + (i - a) = i by omega, bs9_at s i hlt, hx])
      clear hx
      by_cases h10 : x = 10
      case neg =>
        have d : ((x : Int) != 10) = true := by rw [bne_iff_ne]; omega
        have E : Hid (i + 1 ≤ s.size → i + 1 ≤ a + (hdl ((bs9 s).drop a)).length) := fun _ => by have := h2.2 h10; omega
        clear h2 h10 l0 l1
        go_wp2_with fail
        go_round
        case rel => exact ⟨L, a, i + 1, OW.out, rfl, by go_num, by omega, by omega, hL, E.out, fun e => by omega, HG.out, HB.out⟩
        case measure => simp [intOf] <;> omega
      have HL := Lib.hid (h2.1 h10)
      have d : ((x : Int) != 10) = false := by rw [h10]; rfl
      have de : ((i : Int) == (s.size : Int)) = false := by rw [beq_eq_false_iff_ne]; omega
      have has : a < s.size := by omega
      clear h2 h10 l0 l1
      by_cases hei : a = i
      case pos =>
        subst hei
        have HT : Hid (strl (hdl ((bs9 s).drop a)) = bs9 (s.extract a a)) := line_of HL.out (Nat.le_refl _) (by omega) (.inl rfl)
        have c0 : a ≤ a := Nat.le_refl _
        have c1 : a ≤ s.size := by omega
        obtain ⟨Y, hY⟩ : ∃ Y, s.extract a a = Y := ⟨_, rfl⟩
        obtain ⟨T, hT⟩ : ∃ T, strl (hdl ((bs9 s).drop a)) = T := ⟨_, rfl⟩
        have hYT : st9 T = Y := by rw [← hT, HT.out, st9_bs9, hY]
        have E : Hid ((L ++ [T]) ++ linl ((bs9 s).drop (a + 1)) = G) := by
          show _ = _
          have h := lin_step has
          rw [hT, HL.out, show a + (a - a) + 1 = a + 1 by omega] at h
          rw [List.append_assoc, ← HG.out, h]; rfl
        have hsl : ∀ w', (Instr.slice 9 (.string s) (some (.int .i64 (a : Int))) (some (.int .i64 (a : Int))) none).run Tryd.prog w' = .ok (.string Y) w' := sl_both c0 c1 hY
        obtain ⟨W9, hW9⟩ : ∃ v, World.alloc wr (.cells #[.int .i64 ((L.length : Int) + 1), .string Y] 32) = v := ⟨_, rfl⟩
        have OW9 : Hid (OwnL W9 w.heap.size (.slice A L.length cp) L) := by rw [← hW9]; exact OW.out.on ((Below.refl _ _).alloc (Nat.le_refl _) _)
        have HB9 : Hid (Below w.heap.size w W9) := by rw [← hW9]; exact HB.out.alloc HB.out.size _
        have NEW : Hid (∀ j u, ([.int .i64 ((L.length + 1 : Nat) : Int), .string (st9 T)] : List Value)[j]? = some u → W9.cell? ((⟨wr.heap.size, 0, none⟩ : Addr).add j) = some u) := by
          show ∀ j u, _
          rw [← hW9, ← hYT]
          exact line_new L.length T _
        have HL9 : Hid (L.length ≤ 1000000) := by show _ ≤ _; omega
        clear hY hYT hT HT c0
        go_wp2_with (at_builtin; (try rw [hW9]); refine wpList_append_lies _ rfl (.tmp 45) (.tmp 54) 29 rfl w.heap.size 32 i0 (.agg #[.int .i64 0, .string ⟨#[]⟩]) 2 24 Tryd.underlying29 hi hz0 hz1 hz2 zcells2 (by decide) (.slice A L.length cp) L.length (row10 0 L) rfl OW9.out ⟨wr.heap.size, 0, none⟩ 1 1 [.int .i64 ((L.length + 1 : Nat) : Int), .string (st9 T)] rfl rfl NEW.out (by intro u hu; simp at hu; rcases hu with rfl | rfl <;> rfl) (by decide) (by have := HL9.out; unfold maxLen; omega) (by have := HL9.out; omega) HB9.out.size W9.heap.size rfl ?_; intro g4 cap4 w11 hown4 hgr4 hat4 hlt4; have OWB : Hid (OwnL w11 w.heap.size (.slice (some ⟨g4, 0, none⟩) (L.length + 1) cap4) (L ++ [T])) := (by show OwnL _ _ _ _; unfold OwnL; rw [List.length_append, row10_push, Nat.zero_add]; exact hown4); have HBB : Hid (Below w.heap.size w w11) := below_grown HB9.out OW9.out hgr4; clear hown4 hgr4 hat4 hlt4)
        go_round
        case rel => exact ⟨L ++ [T], a + 1, a + 1, OWB.out, by go_num, by go_num, Nat.le_refl _, by omega, by rw [List.length_append, List.length_singleton]; omega, fun _ => Nat.le_add_right _ _, fun e => e, E.out, HBB.out⟩
        case measure => simp [intOf] <;> omega
      have hlt2 : a < i := by omega
      have d5 : decide ((a : Int) < (i : Int)) = true := decide_eq_true (by omega)
      have d6 : decide (a < i) = true := decide_eq_true hlt2
      obtain ⟨m, hm⟩ : ∃ m, m + 1 = i := ⟨i - 1, by omega⟩
      have em : (i : Int) - 1 = (m : Int) := by omega
      have hms : m < s.size := by omega
      obtain ⟨y, hy⟩ : ∃ y, y = (s[m]'hms).toNat := ⟨_, rfl⟩
      have ey : ((s[m]'hms).toNat : Int) = (y : Int) := by rw [hy]
      have hy1 : (bs9 s)[i - 1]? = some y := by rw [show i - 1 = m by omega, bs9_at s m hms, hy]
      clear hy
      by_cases h13 : y = 13
      case pos =>
        have d7 : ((y : Int) == 13) = true := by rw [h13]; rfl
        have HT : Hid (strl (hdl ((bs9 s).drop a)) = bs9 (s.extract a m)) := by rw [show m = i - 1 by omega]; exact line_cr HL.out (by omega) hlt2 (by rw [hy1, h13])
        have c0 : a ≤ m := by omega
        have c1 : m ≤ s.size := by omega
        clear hy1 h13
        obtain ⟨Y, hY⟩ : ∃ Y, s.extract a m = Y := ⟨_, rfl⟩
        obtain ⟨T, hT⟩ : ∃ T, strl (hdl ((bs9 s).drop a)) = T := ⟨_, rfl⟩
        have hYT : st9 T = Y := by rw [← hT, HT.out, st9_bs9, hY]
        have E : Hid ((L ++ [T]) ++ linl ((bs9 s).drop (i + 1)) = G) := by
          show _ = _
          have h := lin_step has
          rw [hT, HL.out, show a + (i - a) + 1 = i + 1 by omega] at h
          rw [List.append_assoc, ← HG.out, h]; rfl
        have hsl : ∀ w', (Instr.slice 9 (.string s) (some (.int .i64 (a : Int))) (some (.int .i64 (m : Int))) none).run Tryd.prog w' = .ok (.string Y) w' := sl_both c0 c1 hY
        obtain ⟨W9, hW9⟩ : ∃ v, World.alloc wr (.cells #[.int .i64 ((L.length : Int) + 1), .string Y] 32) = v := ⟨_, rfl⟩
        have OW9 : Hid (OwnL W9 w.heap.size (.slice A L.length cp) L) := by rw [← hW9]; exact OW.out.on ((Below.refl _ _).alloc (Nat.le_refl _) _)
        have HB9 : Hid (Below w.heap.size w W9) := by rw [← hW9]; exact HB.out.alloc HB.out.size _
        have NEW : Hid (∀ j u, ([.int .i64 ((L.length + 1 : Nat) : Int), .string (st9 T)] : List Value)[j]? = some u → W9.cell? ((⟨wr.heap.size, 0, none⟩ : Addr).add j) = some u) := by
          show ∀ j u, _
          rw [← hW9, ← hYT]
          exact line_new L.length T _
        have HL9 : Hid (L.length ≤ 1000000) := by show _ ≤ _; omega
        clear hY hYT hT HT c0
        go_wp2_with (at_builtin; (try rw [hW9]); refine wpList_append_lies _ rfl (.tmp 45) (.tmp 54) 29 rfl w.heap.size 32 i0 (.agg #[.int .i64 0, .string ⟨#[]⟩]) 2 24 Tryd.underlying29 hi hz0 hz1 hz2 zcells2 (by decide) (.slice A L.length cp) L.length (row10 0 L) rfl OW9.out ⟨wr.heap.size, 0, none⟩ 1 1 [.int .i64 ((L.length + 1 : Nat) : Int), .string (st9 T)] rfl rfl NEW.out (by intro u hu; simp at hu; rcases hu with rfl | rfl <;> rfl) (by decide) (by have := HL9.out; unfold maxLen; omega) (by have := HL9.out; omega) HB9.out.size W9.heap.size rfl ?_; intro g4 cap4 w11 hown4 hgr4 hat4 hlt4; have OWB : Hid (OwnL w11 w.heap.size (.slice (some ⟨g4, 0, none⟩) (L.length + 1) cap4) (L ++ [T])) := (by show OwnL _ _ _ _; unfold OwnL; rw [List.length_append, row10_push, Nat.zero_add]; exact hown4); have HBB : Hid (Below w.heap.size w w11) := below_grown HB9.out OW9.out hgr4; clear hown4 hgr4 hat4 hlt4)
        go_round
        case rel => exact ⟨L ++ [T], i + 1, i + 1, OWB.out, by go_num, by go_num, Nat.le_refl _, by omega, by rw [List.length_append, List.length_singleton]; omega, fun _ => Nat.le_add_right _ _, fun e => e, E.out, HBB.out⟩
        case measure => simp [intOf] <;> omega
      have d7 : ((y : Int) == 13) = false := by rw [beq_eq_false_iff_ne]; omega
      have HT : Hid (strl (hdl ((bs9 s).drop a)) = bs9 (s.extract a i)) := line_of HL.out hai (by omega) (.inr ⟨hlt2, by rw [hy1]; intro e; exact h13 (Option.some.inj e)⟩)
      have c0 : a ≤ i := hai
      have c1 : i ≤ s.size := by omega
      clear hy1 h13
      obtain ⟨Y, hY⟩ : ∃ Y, s.extract a i = Y := ⟨_, rfl⟩
      obtain ⟨T, hT⟩ : ∃ T, strl (hdl ((bs9 s).drop a)) = T := ⟨_, rfl⟩
      have hYT : st9 T = Y := by rw [← hT, HT.out, st9_bs9, hY]
      have E : Hid ((L ++ [T]) ++ linl ((bs9 s).drop (i + 1)) = G) := by
        show _ = _
        have h := lin_step has
        rw [hT, HL.out, show a + (i - a) + 1 = i + 1 by omega] at h
        rw [List.append_assoc, ← HG.out, h]; rfl
      have hsl : ∀ w', (Instr.slice 9 (.string s) (some (.int .i64 (a : Int))) (some (.int .i64 (i : Int))) none).run Tryd.prog w' = .ok (.string Y) w' := sl_both c0 c1 hY
      obtain ⟨W9, hW9⟩ : ∃ v, World.alloc wr (.cells #[.int .i64 ((L.length : Int) + 1), .string Y] 32) = v := ⟨_, rfl⟩
      have OW9 : Hid (OwnL W9 w.heap.size (.slice A L.length cp) L) := by rw [← hW9]; exact OW.out.on ((Below.refl _ _).alloc (Nat.le_refl _) _)
      have HB9 : Hid (Below w.heap.size w W9) := by rw [← hW9]; exact HB.out.alloc HB.out.size _
      have NEW : Hid (∀ j u, ([.int .i64 ((L.length + 1 : Nat) : Int), .string (st9 T)] : List Value)[j]? = some u → W9.cell? ((⟨wr.heap.size, 0, none⟩ : Addr).add j) = some u) := by
        show ∀ j u, _
        rw [← hW9, ← hYT]
        exact line_new L.length T _
      have HL9 : Hid (L.length ≤ 1000000) := by show _ ≤ _; omega
      clear hY hYT hT HT c0
      go_wp2_with (at_builtin; (try rw [hW9]); refine wpList_append_lies _ rfl (.tmp 45) (.tmp 54) 29 rfl w.heap.size 32 i0 (.agg #[.int .i64 0, .string ⟨#[]⟩]) 2 24 Tryd.underlying29 hi hz0 hz1 hz2 zcells2 (by decide) (.slice A L.length cp) L.length (row10 0 L) rfl OW9.out ⟨wr.heap.size, 0, none⟩ 1 1 [.int .i64 ((L.length + 1 : Nat) : Int), .string (st9 T)] rfl rfl NEW.out (by intro u hu; simp at hu; rcases hu with rfl | rfl <;> rfl) (by decide) (by have := HL9.out; unfold maxLen; omega) (by have := HL9.out; omega) HB9.out.size W9.heap.size rfl ?_; intro g4 cap4 w11 hown4 hgr4 hat4 hlt4; have OWB : Hid (OwnL w11 w.heap.size (.slice (some ⟨g4, 0, none⟩) (L.length + 1) cap4) (L ++ [T])) := (by show OwnL _ _ _ _; unfold OwnL; rw [List.length_append, row10_push, Nat.zero_add]; exact hown4); have HBB : Hid (Below w.heap.size w w11) := below_grown HB9.out OW9.out hgr4; clear hown4 hgr4 hat4 hlt4)
      go_round
      case rel => exact ⟨L ++ [T], i + 1, i + 1, OWB.out, by go_num, by go_num, Nat.le_refl _, by omega, by rw [List.length_append, List.length_singleton]; omega, fun _ => Nat.le_add_right _ _, fun e => e, E.out, HBB.out⟩
      case measure => simp [intOf] <;> omega
    · obtain rfl : i = s.size := by omega
      rcases Nat.lt_or_ge a s.size with has | hge2
      · have HL : Hid ((hdl ((bs9 s).drop a)).length = s.size - a) := by
          show _ = _
          have h1 := hd_le (Nat.le_of_lt has); have h2 := HH.out hle; omega
        have de : ((a : Int) == (s.size : Int)) = false := by rw [beq_eq_false_iff_ne]; omega
        clear l0 l1
        have hlt2 : a < s.size := has
        have d5 : decide ((a : Int) < (s.size : Int)) = true := decide_eq_true (by omega)
        have d6 : decide (a < s.size) = true := decide_eq_true hlt2
        obtain ⟨m, hm⟩ : ∃ m, m + 1 = s.size := ⟨s.size - 1, by omega⟩
        have em : (s.size : Int) - 1 = (m : Int) := by omega
        have hms : m < s.size := by omega
        obtain ⟨y, hy⟩ : ∃ y, y = (s[m]'hms).toNat := ⟨_, rfl⟩
        have ey : ((s[m]'hms).toNat : Int) = (y : Int) := by rw [hy]
        have hy1 : (bs9 s)[s.size - 1]? = some y := by rw [show s.size - 1 = m by omega, bs9_at s m hms, hy]
        clear hy
        by_cases h13 : y = 13
        case pos =>
          have d7 : ((y : Int) == 13) = true := by rw [h13]; rfl
          have HT : Hid (strl (hdl ((bs9 s).drop a)) = bs9 (s.extract a m)) := by rw [show m = s.size - 1 by omega]; exact line_cr HL.out (by omega) hlt2 (by rw [hy1, h13])
          have c0 : a ≤ m := by omega
          have c1 : m ≤ s.size := by omega
          clear hy1 h13
          obtain ⟨Y, hY⟩ : ∃ Y, s.extract a m = Y := ⟨_, rfl⟩
          obtain ⟨T, hT⟩ : ∃ T, strl (hdl ((bs9 s).drop a)) = T := ⟨_, rfl⟩
          have hYT : st9 T = Y := by rw [← hT, HT.out, st9_bs9, hY]
          have E : Hid ((L ++ [T]) ++ linl ((bs9 s).drop (s.size + 1)) = G) := by
            show _ = _
            have h := lin_step has
            rw [hT, HL.out, show a + (s.size - a) + 1 = s.size + 1 by omega] at h
            rw [List.append_assoc, ← HG.out, h]; rfl
          have hsl : ∀ w', (Instr.slice 9 (.string s) (some (.int .i64 (a : Int))) (some (.int .i64 (m : Int))) none).run Tryd.prog w' = .ok (.string Y) w' := sl_both c0 c1 hY
          obtain ⟨W9, hW9⟩ : ∃ v, World.alloc wr (.cells #[.int .i64 ((L.length : Int) + 1), .string Y] 32) = v := ⟨_, rfl⟩
          have OW9 : Hid (OwnL W9 w.heap.size (.slice A L.length cp) L) := by rw [← hW9]; exact OW.out.on ((Below.refl _ _).alloc (Nat.le_refl _) _)
          have HB9 : Hid (Below w.heap.size w W9) := by rw [← hW9]; exact HB.out.alloc HB.out.size _
          have NEW : Hid (∀ j u, ([.int .i64 ((L.length + 1 : Nat) : Int), .string (st9 T)] : List Value)[j]? = some u → W9.cell? ((⟨wr.heap.size, 0, none⟩ : Addr).add j) = some u) := by
            show ∀ j u, _
            rw [← hW9, ← hYT]
            exact line_new L.length T _
          have HL9 : Hid (L.length ≤ 1000000) := by show _ ≤ _; omega
          clear hY hYT hT HT c0
          go_wp2_with (at_builtin; (try rw [hW9]); refine wpList_append_lies _ rfl (.tmp 45) (.tmp 54) 29 rfl w.heap.size 32 i0 (.agg #[.int .i64 0, .string ⟨#[]⟩]) 2 24 Tryd.underlying29 hi hz0 hz1 hz2 zcells2 (by decide) (.slice A L.length cp) L.length (row10 0 L) rfl OW9.out ⟨wr.heap.size, 0, none⟩ 1 1 [.int .i64 ((L.length + 1 : Nat) : Int), .string (st9 T)] rfl rfl NEW.out (by intro u hu; simp at hu; rcases hu with rfl | rfl <;> rfl) (by decide) (by have := HL9.out; unfold maxLen; omega) (by have := HL9.out; omega) HB9.out.size W9.heap.size rfl ?_; intro g4 cap4 w11 hown4 hgr4 hat4 hlt4; have OWB : Hid (OwnL w11 w.heap.size (.slice (some ⟨g4, 0, none⟩) (L.length + 1) cap4) (L ++ [T])) := (by show OwnL _ _ _ _; unfold OwnL; rw [List.length_append, row10_push, Nat.zero_add]; exact hown4); have HBB : Hid (Below w.heap.size w w11) := below_grown HB9.out OW9.out hgr4; clear hown4 hgr4 hat4 hlt4)
          go_round
          case rel => exact ⟨L ++ [T], s.size + 1, s.size + 1, OWB.out, by go_num, by go_num, Nat.le_refl _, by omega, by rw [List.length_append, List.length_singleton]; omega, fun _ => Nat.le_add_right _ _, fun e => e, E.out, HBB.out⟩
          case measure => simp [intOf] <;> omega
        have d7 : ((y : Int) == 13) = false := by rw [beq_eq_false_iff_ne]; omega
        have HT : Hid (strl (hdl ((bs9 s).drop a)) = bs9 (s.extract a s.size)) := line_of HL.out hai (by omega) (.inr ⟨hlt2, by rw [hy1]; intro e; exact h13 (Option.some.inj e)⟩)
        have c0 : a ≤ s.size := hai
        have c1 : s.size ≤ s.size := by omega
        clear hy1 h13
        obtain ⟨Y, hY⟩ : ∃ Y, s.extract a s.size = Y := ⟨_, rfl⟩
        obtain ⟨T, hT⟩ : ∃ T, strl (hdl ((bs9 s).drop a)) = T := ⟨_, rfl⟩
        have hYT : st9 T = Y := by rw [← hT, HT.out, st9_bs9, hY]
        have E : Hid ((L ++ [T]) ++ linl ((bs9 s).drop (s.size + 1)) = G) := by
          show _ = _
          have h := lin_step has
          rw [hT, HL.out, show a + (s.size - a) + 1 = s.size + 1 by omega] at h
          rw [List.append_assoc, ← HG.out, h]; rfl
        have hsl : ∀ w', (Instr.slice 9 (.string s) (some (.int .i64 (a : Int))) (some (.int .i64 (s.size : Int))) none).run Tryd.prog w' = .ok (.string Y) w' := sl_both c0 c1 hY
        obtain ⟨W9, hW9⟩ : ∃ v, World.alloc wr (.cells #[.int .i64 ((L.length : Int) + 1), .string Y] 32) = v := ⟨_, rfl⟩
        have OW9 : Hid (OwnL W9 w.heap.size (.slice A L.length cp) L) := by rw [← hW9]; exact OW.out.on ((Below.refl _ _).alloc (Nat.le_refl _) _)
        have HB9 : Hid (Below w.heap.size w W9) := by rw [← hW9]; exact HB.out.alloc HB.out.size _
        have NEW : Hid (∀ j u, ([.int .i64 ((L.length + 1 : Nat) : Int), .string (st9 T)] : List Value)[j]? = some u → W9.cell? ((⟨wr.heap.size, 0, none⟩ : Addr).add j) = some u) := by
          show ∀ j u, _
          rw [← hW9, ← hYT]
          exact line_new L.length T _
        have HL9 : Hid (L.length ≤ 1000000) := by show _ ≤ _; omega
        clear hY hYT hT HT c0
        go_wp2_with (at_builtin; (try rw [hW9]); refine wpList_append_lies _ rfl (.tmp 45) (.tmp 54) 29 rfl w.heap.size 32 i0 (.agg #[.int .i64 0, .string ⟨#[]⟩]) 2 24 Tryd.underlying29 hi hz0 hz1 hz2 zcells2 (by decide) (.slice A L.length cp) L.length (row10 0 L) rfl OW9.out ⟨wr.heap.size, 0, none⟩ 1 1 [.int .i64 ((L.length + 1 : Nat) : Int), .string (st9 T)] rfl rfl NEW.out (by intro u hu; simp at hu; rcases hu with rfl | rfl <;> rfl) (by decide) (by have := HL9.out; unfold maxLen; omega) (by have := HL9.out; omega) HB9.out.size W9.heap.size rfl ?_; intro g4 cap4 w11 hown4 hgr4 hat4 hlt4; have OWB : Hid (OwnL w11 w.heap.size (.slice (some ⟨g4, 0, none⟩) (L.length + 1) cap4) (L ++ [T])) := (by show OwnL _ _ _ _; unfold OwnL; rw [List.length_append, row10_push, Nat.zero_add]; exact hown4); have HBB : Hid (Below w.heap.size w w11) := below_grown HB9.out OW9.out hgr4; clear hown4 hgr4 hat4 hlt4)
        go_round
        case rel => exact ⟨L ++ [T], s.size + 1, s.size + 1, OWB.out, by go_num, by go_num, Nat.le_refl _, by omega, by rw [List.length_append, List.length_singleton]; omega, fun _ => Nat.le_add_right _ _, fun e => e, E.out, HBB.out⟩
        case measure => simp [intOf] <;> omega
      · obtain rfl : a = s.size := by omega
        have E : Hid (L = G) := by show _ = _; rw [← HG.out, lin_end (Nat.le_refl _), List.append_nil]
        clear l0 l1
        go_wp2_with fail
        go_ret
        exact ⟨_, rfl, by rw [← E.out]; exact OW.out, HB.out⟩

end Go.Proofs.YthpoplgejenpgaaDoor
