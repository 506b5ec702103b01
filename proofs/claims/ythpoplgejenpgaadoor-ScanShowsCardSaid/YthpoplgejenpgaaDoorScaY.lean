/-
  ScanShows answers true.
-/
import Derived.Test.YthpoplgejenpgaaDoorScaK
import Derived.Test.YthpoplgejenpgaaDoorScaL
set_option linter.unusedVariables false
set_option linter.unusedSimpArgs false
namespace Go.Proofs.YthpoplgejenpgaaDoor
open Go.RowKit

theorem offset_is {s : ByteArray} {L C z : Int} {w : World} (h : of10 s L C = z) (hs : s.size ≤ 1000000) (hL : L ≤ 1000000) (hC : C ≤ 1000000) : Calls Tryd.prog 7 #[.string s, .agg #[.int .i64 L, .int .i64 C]] w (Ret9 w (.int .i64 z)) := h ▸ offset_any s L C w hs hL hC
theorem refoffset_is {s : ByteArray} {L C z : Int} {w : World} (h : of10 s L C = z) (hs : s.size ≤ 1000000) (hL : L ≤ 1000000) (hC : C ≤ 1000000) : Calls Tryd.prog 8 #[.string s, .agg #[.int .i64 L, .int .i64 C]] w (Ret9 w (.int .i64 z)) := h ▸ refoffset_any s L C w hs hL hC
theorem show_is {s A : ByteArray} {L C : Int} {w : World} (hT : Tab10 w) (h : st9 (shw10 s L C) = A) (hs : s.size ≤ 100000) (hL : L ≤ 1000000) (hC : C ≤ 1000000) : Calls Tryd.prog 5 #[.string s, .agg #[.int .i64 L, .int .i64 C]] w (Ret9 w (.string A)) := h ▸ show_any s L C w hT hs hL hC
theorem refshow_is {s A : ByteArray} {L C : Int} {w : World} (h : st9 (shw10 s L C) = A) (hs : s.size ≤ 100000) (hL : L ≤ 1000000) (hC : C ≤ 1000000) : Calls Tryd.prog 6 #[.string s, .agg #[.int .i64 L, .int .i64 C]] w (Ret9 w (.string A)) := h ▸ refshow_any s L C w hs hL hC
theorem shw10_lt (s : ByteArray) (L C : Int) : ∀ c ∈ shw10 s L C, c < 256 := by
  have hw : ∀ c ∈ wd10 s L, c < 256 := by
    intro c hc
    unfold wd10 at hc
    split at hc
    · exact absurd hc List.not_mem_nil
    · cases hb : bgnl (L - 1).toNat (bs9 s) with
      | none => rw [hb] at hc; exact absurd hc List.not_mem_nil
      | some f => rw [hb] at hc; exact line_lt s f c hc
  intro c hc
  unfold shw10 hd10 at hc
  simp only [List.mem_append] at hc
  rcases hc with (((((h | h) | h) | h) | h) | h)
  · exact num10_lt _ c h
  · simp at h; omega
  · exact hw c h
  · simp at h; omega
  · rw [(List.mem_replicate.1 h).2]; omega
  · simp at h; omega
/-- What is shown ends with a mark and a line's end. -/
theorem shw10_end {s A : ByteArray} {L C : Int} (h : st9 (shw10 s L C) = A) (hs : s.size ≤ 600) (hL : L ≤ 1000000) : ∃ m, A.size = m + 2 ∧ m ≤ 100000 ∧ ∃ hm : m < A.size, (A[m]'hm).toNat = 94 := by
  have hb : bs9 A = shw10 s L C := by rw [← h, bs9_st9 (shw10_lt s L C)]
  obtain ⟨X, hX⟩ : ∃ X, ((hd10 L ++ wd10 s L) ++ [10]) ++ List.replicate ((hd10 L).length + q10 (wd10 s L).length C) 32 = X := ⟨_, rfl⟩
  have hsh : shw10 s L C = X ++ [94, 10] := by unfold shw10; rw [hX]
  rw [hsh] at hb
  have hsz : A.size = X.length + 2 := by rw [← bs9_len, hb, List.length_append]; rfl
  have hXl : X.length ≤ 100000 := by
    have h1 := hd10_len hL
    have h2 := wd10_le s L
    have h3 : q10 (wd10 s L).length C ≤ (wd10 s L).length := Nat.min_le_right _ _
    rw [← hX]; simp; omega
  refine ⟨X.length, hsz, hXl, by omega, ?_⟩
  have := bs9_at A X.length (by omega)
  rw [hb, List.getElem?_append_right (Nat.le_refl _), Nat.sub_self] at this
  exact (Option.some.inj this).symm
/-- Each byte's place has that byte as its offset. -/
theorem of10_whr {s : ByteArray} {k : Nat} (h : k ≤ s.size) : of10 s (whr s (k : Int)).1 (whr s (k : Int)).2 = k ∧ (whr s (k : Int)).1 ≤ k + 1 ∧ (whr s (k : Int)).2 ≤ k + 1 := by
  have e : whr s (k : Int) = posl ((bs9 s).take k) := by unfold whr; rw [Int.toNat_natCast, Nat.min_eq_left h]
  obtain ⟨h1, h2, h3, h4⟩ := pos_bgn (bs9 s) (i := k) (by rw [bs9_len]; exact h)
  have h5 : (posl ((bs9 s).take k)).1 ≤ k + 1 := by
    have : ∀ (l : List Nat) (p : Nat × Nat), (l.foldl stp10 p).1 ≤ p.1 + l.length := by
      intro l
      induction l with
      | nil => intro p; exact Nat.le_refl _
      | cons b l ih =>
        intro p
        have := ih (stp10 p b)
        have h6 : (stp10 p b).1 ≤ p.1 + 1 := by unfold stp10; split <;> simp
        rw [List.foldl_cons, List.length_cons]; omega
    have h7 := this ((bs9 s).take k) (1, 1)
    rw [List.length_take] at h7
    unfold posl
    simp only at h7
    omega
  rw [e]
  refine ⟨?_, h5, h3⟩
  have hb : bg10 s ((posl ((bs9 s).take k)).1 : Int) = ((k + 1 - (posl ((bs9 s).take k)).2 : Nat) : Int) := by
    unfold bg10
    rw [if_neg (by omega), show (((posl ((bs9 s).take k)).1 : Int) - 1).toNat = (posl ((bs9 s).take k)).1 - 1 by omega, h4]; rfl
  unfold of10
  rw [hb, if_neg (by omega)]
  omega
theorem Fr.list8 {N : Nat} {a : Act} {l : List (Nat × Value)} (h : Fr N a l) : ∃ us : Nat → Value, a = ⟨((List.range N).map us).toArray, []⟩ ∧ ∀ q ∈ l, us q.1 = q.2 := by
  obtain ⟨h1, h2, h3⟩ := h
  refine ⟨fun i => a.tmps.getD i undef, ?_, fun q hq => ?_⟩
  · obtain ⟨t, ds⟩ := a
    simp only at h1 h2
    subst h2
    congr 1
    apply Array.ext
    · simp [h1]
    · intro i hi _
      simp [Array.getD_eq_getD_getElem?, Array.getElem?_eq_getElem hi]
  · simp only
    rw [Array.getD_eq_getD_getElem?, h3 q hq]; rfl
section
variable {o : Oper} {ρ : Operand → Value} {x y : Operand} {w : World}
set_option maxRecDepth 100000 in
theorem e_loadP {g : Nat} {x0 x1 : Value} (h : o.op = .load 23 x) (hx : ρ x = .pointer (some ⟨g, 0, none⟩)) (X : Bx2 w g x0 x1) : (execOp ρ o).run Tryd.prog w = .ok (.value (.agg #[x0, x1])) w := by
  obtain ⟨c0, c1, _, _, _⟩ := X
  unfold execOp; rw [h]
  simp only [hx]
  go_simp
set_option maxRecDepth 100000 in
theorem e_neS {s t : ByteArray} {b : Bool} (hb : (s.toList != t.toList) = b) (h : o.op = .binOp .neq 9 x y 9) (hx : ρ x = .string s) (hy : ρ y = .string t) : (execOp ρ o).run Tryd.prog w = .ok (.value (.bool b)) w := by
  subst hb
  unfold execOp; rw [h]
  simp only [hx, hy]
  go_simp
  simp [bne]
set_option maxRecDepth 100000 in
theorem e_neI {i j : Int} {b : Bool} {t t' : TypeId} (hb : (i != j) = b) (h : o.op = .binOp .neq t x y t') (hx : ρ x = .int .i64 i) (hy : ρ y = .int .i64 j) : (execOp ρ o).run Tryd.prog w = .ok (.value (.bool b)) w := by
  subst hb
  unfold execOp; rw [h]
  simp only [hx, hy]
  go_simp
set_option maxRecDepth 100000 in
theorem e_neU {i j : Int} {b : Bool} {t t' : TypeId} (hb : (i != j) = b) (h : o.op = .binOp .neq t x y t') (hx : ρ x = .int .u8 i) (hy : ρ y = .int .u8 j) : (execOp ρ o).run Tryd.prog w = .ok (.value (.bool b)) w := by
  subst hb
  unfold execOp; rw [h]
  simp only [hx, hy]
  go_simp
set_option maxRecDepth 100000 in
theorem e_lssI {i j : Int} {b : Bool} {t t' : TypeId} (hb : decide (i < j) = b) (h : o.op = .binOp .lss t x y t') (hx : ρ x = .int .i64 i) (hy : ρ y = .int .i64 j) : (execOp ρ o).run Tryd.prog w = .ok (.value (.bool b)) w := by
  subst hb
  unfold execOp; rw [h]
  simp only [hx, hy]
  go_simp
end

def sh4T : List Row3 := [(some 25, none, .move (.tmp 7)), (some 26, none, .move (.tmp 0)), (some 27, none, .load 23 (.tmp 4)), (some 28, none, .call { callee := .value (.func 6), args := #[.tmp 26, .tmp 27], argTypes := #[9, 23] }), (some 29, none, .binOp .neq 9 (.tmp 25) (.tmp 28) 9), (some 30, none, .move (.tmp 29)), (some 31, some (5, false), .move (.tmp 0)), (some 32, some (5, false), .load 23 (.tmp 4)), (some 33, some (5, false), .call { callee := .value (.func 7), args := #[.tmp 31, .tmp 32], argTypes := #[9, 23] }), (some 34, some (5, false), .move (.tmp 0)), (some 35, some (5, false), .load 23 (.tmp 4)), (some 36, some (5, false), .call { callee := .value (.func 8), args := #[.tmp 34, .tmp 35], argTypes := #[9, 23] }), (some 37, some (5, false), .binOp .neq 3 (.tmp 33) (.tmp 36) 3), (some 38, none, .pick (.tmp 30) (.const (.bool true)) (.tmp 37)), (some 39, none, .move (.tmp 38)), (some 40, some (14, false), .move (.tmp 7)), (some 41, some (14, false), .call { callee := .builtin .len, args := #[.tmp 40], argTypes := #[9] }), (some 42, some (14, false), .binOp .lss 3 (.tmp 41) (.const (.int .i64 2)) 3), (some 43, none, .pick (.tmp 39) (.const (.bool true)) (.tmp 42)), (some 44, none, .move (.tmp 43)), (some 45, some (19, false), .move (.tmp 7)), (some 46, some (19, false), .move (.tmp 7)), (some 47, some (19, false), .call { callee := .builtin .len, args := #[.tmp 46], argTypes := #[9] }), (some 48, some (19, false), .binOp .sub 3 (.tmp 47) (.const (.int .i64 2)) 3), (some 49, some (19, false), .index 9 (.tmp 45) (.tmp 48)), (some 50, some (19, false), .binOp .neq 5 (.tmp 49) (.const (.int .u8 94)) 5), (some 51, none, .pick (.tmp 44) (.const (.bool true)) (.tmp 50))]
set_option maxRecDepth 100000 in
theorem sh4Row : (opsAt Tryd.prog 3 4).toList.map row3 = sh4T := by kernel_rfl
theorem sh4Sel : Region.noSelect (opsAt Tryd.prog 3 4) = true := by kernel_rfl
theorem sh4Done : Region.ready .any (opsAt Tryd.prog 3 4) (upto (opsAt Tryd.prog 3 4).size (opsAt Tryd.prog 3 4).size []) = [] := by kernel_rfl
theorem sh4still0 : [(0, [], 0), (1, [], 1), (2, [], 2), (4, [], 4), (5, [], 5), (6, [], 6), (7, [], 7), (8, [], 9), (8, [9], 10), (12, [], 12)].all (stillB (opsAt Tryd.prog 3 4)) = true := by kernel_rfl
theorem sh4still1 : [(13, [], 13), (14, [], 14), (15, [], 15), (16, [], 16), (17, [], 17), (18, [], 18), (19, [], 19), (20, [], 20), (21, [], 21), (22, [], 22)].all (stillB (opsAt Tryd.prog 3 4)) = true := by kernel_rfl
theorem sh4still2 : [(23, [], 23), (24, [], 24), (25, [], 25), (26, [], 26)].all (stillB (opsAt Tryd.prog 3 4)) = true := by kernel_rfl
theorem sh4sole0 : [(3, [], 3), (8, [10, 9], 8), (11, [], 11)].all (soleB (opsAt Tryd.prog 3 4)) = true := by kernel_rfl
theorem sh4R : Reg (opsAt Tryd.prog 3 4) sh4T [(0, [], 0), (1, [], 1), (2, [], 2), (4, [], 4), (5, [], 5), (6, [], 6), (7, [], 7), (8, [], 9), (8, [9], 10), (12, [], 12), (13, [], 13), (14, [], 14), (15, [], 15), (16, [], 16), (17, [], 17), (18, [], 18), (19, [], 19), (20, [], 20), (21, [], 21), (22, [], 22), (23, [], 23), (24, [], 24), (25, [], 25), (26, [], 26)] [(3, [], 3), (8, [10, 9], 8), (11, [], 11)] := ⟨sh4Row, sh4Sel, (all_parts sh4still0 (all_parts sh4still1 (all_parts sh4still2 (fun k h => by cases h)))), (all_parts sh4sole0 (fun k h => by cases h)), sh4Done⟩

set_option maxHeartbeats 8000000 in
set_option maxRecDepth 100000 in
theorem shows10_law (s : ByteArray) (L C n : Int) (w : World) (hT : Tab10 w) (hn : Hid (-9223372036854775808 ≤ n ∧ n ≤ 9223372036854775807)) : Calls Tryd.prog 3 #[.string s, .agg #[.int .i64 L, .int .i64 C], .int .i64 n] w (Ret9 w (.bool true)) := by
  have HT := Lib.hid hT
  clear hT
  by_cases hbig : 600 < s.size ∨ 2000 < C ∨ 100000 < L
  case pos =>
    have dd : decide ((600 : Int) < (s.size : Int)) = true ∨ (decide ((600 : Int) < (s.size : Int)) = false ∧ decide ((2000 : Int) < C) = true) ∨ (decide ((600 : Int) < (s.size : Int)) = false ∧ decide ((2000 : Int) < C) = false ∧ decide ((100000 : Int) < L) = true) := by
      by_cases h1 : 600 < s.size
      · exact .inl (decide_eq_true (by omega))
      · by_cases h2 : 2000 < C
        · exact .inr (.inl ⟨decide_eq_false (by omega), decide_eq_true h2⟩)
        · exact .inr (.inr ⟨decide_eq_false (by omega), decide_eq_false h2, decide_eq_true (by omega)⟩)
    clear hbig
    rcases dd with d1 | ⟨d1, d2⟩ | ⟨d1, d2, d3⟩
    all_goals
      go_enter Tryd.func3, Tryd.ntmps3
      go_wp2_with fail
      refine (awake10 _).mono ?_; rintro e w1 ⟨rfl, hb⟩
      have E := Lib.hid (((Below.refl w.heap.size w).alloc (Nat.le_refl _) _).trans (hb.mono (by simp)))
      clear hb
      go_wp2_with fail
      go_ret
      exact ⟨rfl, E.out⟩
  have hs6 : s.size ≤ 600 := by omega
  have hs0 : s.size ≤ 100000 := by omega
  have hs1 : s.size ≤ 1000000 := by omega
  have hL : L ≤ 1000000 := by omega
  have hC : C ≤ 1000000 := by omega
  have d1 : decide ((600 : Int) < (s.size : Int)) = false := decide_eq_false (by omega)
  have d2 : decide ((2000 : Int) < C) = false := decide_eq_false (by omega)
  have d3 : decide ((100000 : Int) < L) = false := decide_eq_false (by omega)
  obtain ⟨A, hA⟩ : ∃ A, st9 (shw10 s L C) = A := ⟨_, rfl⟩
  obtain ⟨m, hAs, hm5, hmA, hm94⟩ := shw10_end hA hs6 hL
  obtain ⟨z, hz⟩ : ∃ z, of10 s L C = z := ⟨_, rfl⟩
  have HA := Lib.hid hA
  have HZ := Lib.hid hz
  have dlt : decide ((A.size : Int) < 2) = false := decide_eq_false (by omega)
  clear hA hz hbig
  go_enter Tryd.func3, Tryd.ntmps3
  go_wp2_with fail
  have X : Hid (Bx2 (w.alloc (.cells #[.int .i64 L, .int .i64 C] 23)) w.heap.size (.int .i64 L) (.int .i64 C)) := Bx2.newAt _ _ _ _ rfl
  have E : Hid (Below w.heap.size w (w.alloc (.cells #[.int .i64 L, .int .i64 C] 23))) := (Below.refl _ _).alloc (Nat.le_refl _) _
  generalize World.alloc w _ = W0 at X E ⊢
  refine (show_is (HT.out.on E.out) HA.out hs0 hL hC).mono ?_; rintro e w4 ⟨rfl, hb⟩
  replace X := Lib.hid (X.out.on hb); replace E := Lib.hid (E.out.trans (hb.mono E.out.size)); clear hb
  go_wp2_with fail
  rename_i K hK
  refine line_start (ops := opsAt Tryd.prog 3 4) (S := fun v : World => Bx2 v w.heap.size (.int .i64 L) (.int .i64 C)) (by kernel_rfl) (by kernel_rfl) (X.out.drew) ?_
  have hSw : (fun v : World => Bx2 v w.heap.size (.int .i64 L) (.int .i64 C)) w4.drew := X.out.drew
  generalize hA : Act.mk _ _ = a
  have ha : Fr 71 a [(0, .string s), (2, .int .i64 n), (4, .pointer (some ⟨w.heap.size, 0, none⟩)), (7, .string A)] := by rw [← hA]; exact ⟨rfl, rfl, by intro q hq; simp at hq; rcases hq with rfl | rfl | rfl | rfl <;> rfl⟩
  clear hA
  refine line_still sh4R 0 0 [] 25 (.string A) [(0, .string s), (2, .int .i64 n), (4, .pointer (some ⟨w.heap.size, 0, none⟩)), (7, .string A)] rfl (by decide) (by decide) (by decide) ha (fun o ho hg => y_of (wanted_none hg) (fun wx hS => e_move (.inl ho) (ha.ev (i := 7) (v := .string A) (by simp)))) (by simp) hSw ?_; intro a ha
  refine line_still sh4R 1 1 [] 26 (.string s) [(25, .string A), (0, .string s), (2, .int .i64 n), (4, .pointer (some ⟨w.heap.size, 0, none⟩)), (7, .string A)] rfl (by decide) (by decide) (by decide) ha (fun o ho hg => y_of (wanted_none hg) (fun wx hS => e_move (.inl ho) (ha.ev (i := 0) (v := .string s) (by simp)))) (by simp) hSw ?_; intro a ha
  refine line_still sh4R 2 2 [] 27 (.agg #[.int .i64 L, .int .i64 C]) [(26, .string s), (25, .string A), (0, .string s), (2, .int .i64 n), (4, .pointer (some ⟨w.heap.size, 0, none⟩)), (7, .string A)] rfl (by decide) (by decide) (by decide) ha (fun o ho hg => y_of (wanted_none hg) (fun wx hS => e_loadP ho (ha.ev (i := 4) (v := .pointer (some ⟨w.heap.size, 0, none⟩)) (by simp)) hS)) (by simp) hSw ?_; intro a ha
  refine line_call sh4R 3 3 [] 28 (args := #[.string s, .agg #[.int .i64 L, .int .i64 C]]) [(25, .string A), (0, .string s), (2, .int .i64 n), (4, .pointer (some ⟨w.heap.size, 0, none⟩)), (7, .string A)] rfl (by decide) (by decide) (by decide) ha (fun o ho hg => ⟨(wanted_none hg), e_call8 (by kernel_rfl) ho rfl (by have q0 := ha.ev (i := 26) (v := .string s) (by simp); have q1 := ha.ev (i := 27) (v := .agg #[.int .i64 L, .int .i64 C]) (by simp); simp only [List.map_toArray, List.map_cons, List.map_nil, ev_const, q0, q1])⟩) (by simp) ?_
  refine (refshow_is HA.out hs0 hL hC).mono ?_; rintro e w5 ⟨rfl, hb⟩
  have hSw : (fun v : World => Bx2 v w.heap.size (.int .i64 L) (.int .i64 C)) w5 := (X.out.drew).on hb
  have X := Lib.hid ((X.out.drew).on hb)
  replace E := Lib.hid (E.out.drew.trans (hb.mono E.out.drew.size)); clear hb
  refine ⟨_, rfl, hSw, ?_⟩; intro a ha
  refine line_still sh4R 4 4 [] 29 (.bool false) [(0, .string s), (2, .int .i64 n), (4, .pointer (some ⟨w.heap.size, 0, none⟩)), (7, .string A)] rfl (by decide) (by decide) (by decide) ha (fun o ho hg => y_of (wanted_none hg) (fun wx hS => e_neS (bne_self_eq_false _) ho (ha.ev (i := 25) (v := .string A) (by simp)) (ha.ev (i := 28) (v := .string A) (by simp)))) (by simp) hSw ?_; intro a ha
  refine line_still sh4R 5 5 [] 30 (.bool false) [(0, .string s), (2, .int .i64 n), (4, .pointer (some ⟨w.heap.size, 0, none⟩)), (7, .string A)] rfl (by decide) (by decide) (by decide) ha (fun o ho hg => y_of (wanted_none hg) (fun wx hS => e_move (.inl ho) (ha.ev (i := 29) (v := .bool false) (by simp)))) (by simp) hSw ?_; intro a ha
  refine line_still sh4R 6 6 [] 31 (.string s) [(30, .bool false), (0, .string s), (2, .int .i64 n), (4, .pointer (some ⟨w.heap.size, 0, none⟩)), (7, .string A)] rfl (by decide) (by decide) (by decide) ha (fun o ho hg => y_of (sh4R.wanted hg rfl ha (d := 30) (by simp)) (fun wx hS => e_move (.inl ho) (ha.ev (i := 0) (v := .string s) (by simp)))) (by simp) hSw ?_; intro a ha
  refine line_still sh4R 7 7 [] 32 (.agg #[.int .i64 L, .int .i64 C]) [(31, .string s), (30, .bool false), (0, .string s), (2, .int .i64 n), (4, .pointer (some ⟨w.heap.size, 0, none⟩)), (7, .string A)] rfl (by decide) (by decide) (by decide) ha (fun o ho hg => y_of (sh4R.wanted hg rfl ha (d := 30) (by simp)) (fun wx hS => e_loadP ho (ha.ev (i := 4) (v := .pointer (some ⟨w.heap.size, 0, none⟩)) (by simp)) hS)) (by simp) hSw ?_; intro a ha
  refine line_ahead sh4R 8 8 [] 9 34 (.string s) [(32, .agg #[.int .i64 L, .int .i64 C]), (31, .string s), (30, .bool false), (0, .string s), (2, .int .i64 n), (4, .pointer (some ⟨w.heap.size, 0, none⟩)), (7, .string A)] rfl (by decide) (by decide) (by decide) ha (fun o ho hg => y_of (sh4R.wanted hg rfl ha (d := 30) (by simp)) (fun wx hS => e_move (.inl ho) (ha.ev (i := 0) (v := .string s) (by simp)))) (by simp) hSw ?_; intro a ha
  refine line_ahead sh4R 9 8 [9] 10 35 (.agg #[.int .i64 L, .int .i64 C]) [(34, .string s), (32, .agg #[.int .i64 L, .int .i64 C]), (31, .string s), (30, .bool false), (0, .string s), (2, .int .i64 n), (7, .string A)] rfl (by decide) (by decide) (by decide) ha (fun o ho hg => y_of (sh4R.wanted hg rfl ha (d := 30) (by simp)) (fun wx hS => e_loadP ho (ha.ev (i := 4) (v := .pointer (some ⟨w.heap.size, 0, none⟩)) (by simp)) hS)) (by simp) hSw ?_; intro a ha
  refine line_call sh4R 10 8 [10, 9] 33 (args := #[.string s, .agg #[.int .i64 L, .int .i64 C]]) [(35, .agg #[.int .i64 L, .int .i64 C]), (34, .string s), (30, .bool false), (0, .string s), (2, .int .i64 n), (7, .string A)] rfl (by decide) (by decide) (by decide) ha (fun o ho hg => ⟨(sh4R.wanted hg rfl ha (d := 30) (by simp)), e_call8 (by kernel_rfl) ho rfl (by have q0 := ha.ev (i := 31) (v := .string s) (by simp); have q1 := ha.ev (i := 32) (v := .agg #[.int .i64 L, .int .i64 C]) (by simp); simp only [List.map_toArray, List.map_cons, List.map_nil, ev_const, q0, q1])⟩) (by simp) ?_
  refine (offset_is HZ.out hs1 hL hC).mono ?_; rintro e w6 ⟨rfl, hb⟩
  have hSw : (fun v : World => Bx2 v w.heap.size (.int .i64 L) (.int .i64 C)) w6 := (X.out).on hb
  have X := Lib.hid ((X.out).on hb)
  replace E := Lib.hid (E.out.trans (hb.mono E.out.size)); clear hb
  refine ⟨_, rfl, hSw, ?_⟩; intro a ha
  refine line_skip [10] (by intro i; simp <;> omega) ?_
  refine line_skip [] (by intro i; simp <;> omega) ?_
  refine line_call sh4R 11 11 [] 36 (args := #[.string s, .agg #[.int .i64 L, .int .i64 C]]) [(33, .int .i64 z), (30, .bool false), (0, .string s), (2, .int .i64 n), (7, .string A)] rfl (by decide) (by decide) (by decide) ha (fun o ho hg => ⟨(sh4R.wanted hg rfl ha (d := 30) (by simp)), e_call8 (by kernel_rfl) ho rfl (by have q0 := ha.ev (i := 34) (v := .string s) (by simp); have q1 := ha.ev (i := 35) (v := .agg #[.int .i64 L, .int .i64 C]) (by simp); simp only [List.map_toArray, List.map_cons, List.map_nil, ev_const, q0, q1])⟩) (by simp) ?_
  refine (refoffset_is HZ.out hs1 hL hC).mono ?_; rintro e w7 ⟨rfl, hb⟩
  have hSw : (fun v : World => Bx2 v w.heap.size (.int .i64 L) (.int .i64 C)) w7 := (X.out).on hb
  have X := Lib.hid ((X.out).on hb)
  replace E := Lib.hid (E.out.trans (hb.mono E.out.size)); clear hb
  refine ⟨_, rfl, hSw, ?_⟩; intro a ha
  refine line_still sh4R 12 12 [] 37 (.bool false) [(30, .bool false), (0, .string s), (2, .int .i64 n), (7, .string A)] rfl (by decide) (by decide) (by decide) ha (fun o ho hg => y_of (sh4R.wanted hg rfl ha (d := 30) (by simp)) (fun wx hS => e_neI (bne_self_eq_false _) ho (ha.ev (i := 33) (v := .int .i64 z) (by simp)) (ha.ev (i := 36) (v := .int .i64 z) (by simp)))) (by simp) hSw ?_; intro a ha
  refine line_still sh4R 13 13 [] 38 (.bool false) [(0, .string s), (2, .int .i64 n), (7, .string A)] rfl (by decide) (by decide) (by decide) ha (fun o ho hg => y_of (wanted_none hg) (fun wx hS => e_pick ho (ha.ev (i := 30) (v := .bool false) (by simp)) rfl (ha.ev (i := 37) (v := .bool false) (by simp)))) (by simp) hSw ?_; intro a ha
  refine line_still sh4R 14 14 [] 39 (.bool false) [(0, .string s), (2, .int .i64 n), (7, .string A)] rfl (by decide) (by decide) (by decide) ha (fun o ho hg => y_of (wanted_none hg) (fun wx hS => e_move (.inl ho) (ha.ev (i := 38) (v := .bool false) (by simp)))) (by simp) hSw ?_; intro a ha
  refine line_still sh4R 15 15 [] 40 (.string A) [(39, .bool false), (0, .string s), (2, .int .i64 n), (7, .string A)] rfl (by decide) (by decide) (by decide) ha (fun o ho hg => y_of (sh4R.wanted hg rfl ha (d := 39) (by simp)) (fun wx hS => e_move (.inl ho) (ha.ev (i := 7) (v := .string A) (by simp)))) (by simp) hSw ?_; intro a ha
  refine line_still sh4R 16 16 [] 41 (.int .i64 (A.size : Int)) [(39, .bool false), (0, .string s), (2, .int .i64 n), (7, .string A)] rfl (by decide) (by decide) (by decide) ha (fun o ho hg => y_of (sh4R.wanted hg rfl ha (d := 39) (by simp)) (fun wx hS => e_slenS ho (ha.ev (i := 40) (v := .string A) (by simp)))) (by simp) hSw ?_; intro a ha
  refine line_still sh4R 17 17 [] 42 (.bool false) [(39, .bool false), (0, .string s), (2, .int .i64 n), (7, .string A)] rfl (by decide) (by decide) (by decide) ha (fun o ho hg => y_of (sh4R.wanted hg rfl ha (d := 39) (by simp)) (fun wx hS => e_lssI dlt ho (ha.ev (i := 41) (v := .int .i64 (A.size : Int)) (by simp)) rfl)) (by simp) hSw ?_; intro a ha
  refine line_still sh4R 18 18 [] 43 (.bool false) [(0, .string s), (2, .int .i64 n), (7, .string A)] rfl (by decide) (by decide) (by decide) ha (fun o ho hg => y_of (wanted_none hg) (fun wx hS => e_pick ho (ha.ev (i := 39) (v := .bool false) (by simp)) rfl (ha.ev (i := 42) (v := .bool false) (by simp)))) (by simp) hSw ?_; intro a ha
  refine line_still sh4R 19 19 [] 44 (.bool false) [(0, .string s), (2, .int .i64 n), (7, .string A)] rfl (by decide) (by decide) (by decide) ha (fun o ho hg => y_of (wanted_none hg) (fun wx hS => e_move (.inl ho) (ha.ev (i := 43) (v := .bool false) (by simp)))) (by simp) hSw ?_; intro a ha
  refine line_still sh4R 20 20 [] 45 (.string A) [(44, .bool false), (0, .string s), (2, .int .i64 n), (7, .string A)] rfl (by decide) (by decide) (by decide) ha (fun o ho hg => y_of (sh4R.wanted hg rfl ha (d := 44) (by simp)) (fun wx hS => e_move (.inl ho) (ha.ev (i := 7) (v := .string A) (by simp)))) (by simp) hSw ?_; intro a ha
  refine line_still sh4R 21 21 [] 46 (.string A) [(45, .string A), (44, .bool false), (0, .string s), (2, .int .i64 n)] rfl (by decide) (by decide) (by decide) ha (fun o ho hg => y_of (sh4R.wanted hg rfl ha (d := 44) (by simp)) (fun wx hS => e_move (.inl ho) (ha.ev (i := 7) (v := .string A) (by simp)))) (by simp) hSw ?_; intro a ha
  refine line_still sh4R 22 22 [] 47 (.int .i64 (A.size : Int)) [(45, .string A), (44, .bool false), (0, .string s), (2, .int .i64 n)] rfl (by decide) (by decide) (by decide) ha (fun o ho hg => y_of (sh4R.wanted hg rfl ha (d := 44) (by simp)) (fun wx hS => e_slenS ho (ha.ev (i := 46) (v := .string A) (by simp)))) (by simp) hSw ?_; intro a ha
  refine line_still sh4R 23 23 [] 48 (.int .i64 (m : Int)) [(45, .string A), (44, .bool false), (0, .string s), (2, .int .i64 n)] rfl (by decide) (by decide) (by decide) ha (fun o ho hg => y_of (sh4R.wanted hg rfl ha (d := 44) (by simp)) (fun wx hS => e_subI (by omega) ⟨by omega, by omega⟩ ho (ha.ev (i := 47) (v := .int .i64 (A.size : Int)) (by simp)) rfl)) (by simp) hSw ?_; intro a ha
  refine line_still sh4R 24 24 [] 49 (.int .u8 (94 : Int)) [(44, .bool false), (0, .string s), (2, .int .i64 n)] rfl (by decide) (by decide) (by decide) ha (fun o ho hg => y_of (sh4R.wanted hg rfl ha (d := 44) (by simp)) (fun wx hS => e_idxS hmA hm94 ho (ha.ev (i := 45) (v := .string A) (by simp)) (ha.ev (i := 48) (v := .int .i64 (m : Int)) (by simp)))) (by simp) hSw ?_; intro a ha
  refine line_still sh4R 25 25 [] 50 (.bool false) [(44, .bool false), (0, .string s), (2, .int .i64 n)] rfl (by decide) (by decide) (by decide) ha (fun o ho hg => y_of (sh4R.wanted hg rfl ha (d := 44) (by simp)) (fun wx hS => e_neU (bne_self_eq_false _) ho (ha.ev (i := 49) (v := .int .u8 (94 : Int)) (by simp)) rfl)) (by simp) hSw ?_; intro a ha
  refine line_still sh4R 26 26 [] 51 (.bool false) [(0, .string s), (2, .int .i64 n)] rfl (by decide) (by decide) (by decide) ha (fun o ho hg => y_of (wanted_none hg) (fun wx hS => e_pick ho (ha.ev (i := 44) (v := .bool false) (by simp)) rfl (ha.ev (i := 50) (v := .bool false) (by simp)))) (by simp) hSw ?_; intro a ha
  refine line_end sh4R rfl ?_
  simp only [Exit.then]
  obtain ⟨us, rfl, hu⟩ := ha.list8
  have eu0 : us 0 = .string s := hu (0, .string s) (by simp)
  have eu2 : us 2 = .int .i64 n := hu (2, .int .i64 n) (by simp)
  have eu51 : us 51 = .bool false := hu (51, .bool false) (by simp)
  rw [show (List.range 71).map us = [us 0, us 1, us 2, us 3, us 4, us 5, us 6, us 7, us 8, us 9, us 10, us 11, us 12, us 13, us 14, us 15, us 16, us 17, us 18, us 19, us 20, us 21, us 22, us 23, us 24, us 25, us 26, us 27, us 28, us 29, us 30, us 31, us 32, us 33, us 34, us 35, us 36, us 37, us 38, us 39, us 40, us 41, us 42, us 43, us 44, us 45, us 46, us 47, us 48, us 49, us 50, us 51, us 52, us 53, us 54, us 55, us 56, us 57, us 58, us 59, us 60, us 61, us 62, us 63, us 64, us 65, us 66, us 67, us 68, us 69, us 70] from rfl, eu0, eu2, eu51]
  clear hu ha eu0 eu2 eu51 dlt hAs hmA hm94 HA HZ d1 d2 d3 hL hC
  refine hK _ _ ?_
  by_cases hat : n < 0 ∨ (s.size : Int) < n
  case pos =>
    have dd : decide (n < 0) = true ∨ (decide (n < 0) = false ∧ decide ((s.size : Int) < n) = true) := by
      by_cases h1 : n < 0
      · exact .inl (decide_eq_true h1)
      · exact .inr ⟨decide_eq_false h1, decide_eq_true (by omega)⟩
    clear hat
    rcases dd with d4 | ⟨d4, d5⟩
    all_goals
      go_wp2_with fail
      refine (awake10 _).mono ?_; rintro e w8 ⟨rfl, hb⟩; replace E := Lib.hid (E.out.trans (hb.mono E.out.size)); clear hb
      go_wp2_with fail
      go_ret
      exact ⟨rfl, E.out⟩
  obtain ⟨k, rfl⟩ : ∃ k : Nat, n = k := ⟨n.toNat, by omega⟩
  have d4 : decide ((k : Int) < 0) = false := decide_eq_false (by omega)
  have d5 : decide ((s.size : Int) < (k : Int)) = false := decide_eq_false (by omega)
  have d6 : decide (s.size < k) = false := decide_eq_false (by omega)
  obtain ⟨g1, g2, g3⟩ := of10_whr (s := s) (k := k) (by omega)
  obtain ⟨⟨L', C'⟩, hp⟩ : ∃ p, whr s (k : Int) = p := ⟨_, rfl⟩
  rw [hp] at g1 g2 g3
  have F1 := Lib.hid hp
  have F2 : Hid (of10 s (L' : Int) (C' : Int) = (k : Int)) := g1
  have g4 : L' ≤ 1000 := by have : L' ≤ k + 1 := g2; omega
  have g5 : C' ≤ 1000 := by have : C' ≤ k + 1 := g3; omega
  have hk6 : k ≤ 600 := by omega
  clear g1 g2 g3 hp hat hn
  go_wp2_with fail
  refine (where_is F1.out hs1).mono ?_; rintro e w8 ⟨rfl, hb⟩; replace E := Lib.hid (E.out.trans (hb.mono E.out.size)); clear hb
  go_wp2_with fail
  refine (offset_is F2.out hs1 (by omega) (by omega)).mono ?_; rintro e w9 ⟨rfl, hb⟩; replace E := Lib.hid (E.out.trans (hb.mono E.out.size)); clear hb
  go_wp2_with fail
  refine (awake10 _).mono ?_; rintro e w10 ⟨rfl, hb⟩; replace E := Lib.hid (E.out.trans (hb.mono E.out.size)); clear hb
  go_wp2_with fail
  go_ret
  exact ⟨rfl, E.out⟩

end Go.Proofs.YthpoplgejenpgaaDoor
