/- What the proofs of this layer need of the layer Lex, in one text. -/
import Derived.Test.YtjkandnbjbfeiaaGreatDoorAllLexAA
import Derived.Test.YtjkandnbjbfeiaaGreatDoorAllScaB
set_option linter.unusedVariables false
set_option linter.unusedSimpArgs false

/-
  Contracts of layer 12: the document's Next.
-/
namespace Go.Proofs.YtjkandnbjbfeiaaGreatDoor
open Go.RowKit

set_option maxHeartbeats 8000000 in
set_option maxRecDepth 100000 in
theorem next_none {D N : List Nat → Bool} {ok : World → Prop} (hk : Okw ok) (h8 : P08 D ok) (h7 : P07 N ok) {s : ByteArray} (h0 : s.size = 0) (hs : s.size ≤ 1000) (w : World) (hok : ok w) : Calls Tryz.prog 8 #[.string s] w (Ret9 w (nv (nxt D N (bs9 s)))) := by
  have d := str_emp h0
  rw [nil_of h0]
  go_enter Tryz.func8, Tryz.ntmps8
  have RB : Hid (Rz w (w.alloc (.cells #[.int .i64 0, .string ⟨#[]⟩, .int .i64 0, .int .i64 0] 34))) := Rbx.new _ _ _ _ _ _
  go_wp2_with fail
  exact bodyPost_ret (v := .tuple #[.agg #[.int .i64 0, .string ⟨#[]⟩, .int .i64 0, .int .i64 0], .int .i64 0, .int .i64 1]) (by simp [results, Tryz.results8, go_sem]) rfl ⟨rfl, RB.out.1⟩

set_option maxHeartbeats 8000000 in
set_option maxRecDepth 100000 in
theorem next_tag {D N : List Nat → Bool} {ok : World → Prop} (hk : Okw ok) (h8 : P08 D ok) (h7 : P07 N ok) {s : ByteArray} (h0 : 0 < s.size) {c : Nat} (hc : (s[0]'h0).toNat = c) (k : c = 35 ∨ c = 94) (hs : s.size ≤ 1000) (w : World) (hok : ok w) : Calls Tryz.prog 8 #[.string s] w (Ret9 w (nv (nxt D N (bs9 s)))) := by
  have hs6 : s.size ≤ 1000000 := by omega
  have d := str_ne h0
  have ex0 : ((s[0]'h0).toNat : Int) = (c : Int) := by rw [hc]
  obtain ⟨t, ht⟩ : ∃ t, (bs9 s).drop 1 = t := ⟨_, rfl⟩
  have HS : Hid (bs9 s = c :: t) := by
    show _ = _
    have e := bs9_get s 0 h0
    rw [List.drop_zero, hc] at e
    rw [e]; show c :: (bs9 s).drop 1 = _; rw [ht]
  obtain ⟨r, hr⟩ : ∃ r, nxt D N (bs9 s) = r := ⟨_, rfl⟩
  rw [hr]
  have HR := Lib.hid hr
  have HT := Lib.hid ht
  clear hr ht
  have d34 : ((c : Int) == 34) = false := by rw [beq_eq_false_iff_ne]; omega
  obtain ⟨S1, hS1⟩ : ∃ S, s.extract 1 s.size = S := ⟨_, rfl⟩
  have hsl1 : ∀ w', (Instr.slice 9 (.string s) (some (.int .i64 1)) none none).run Tryz.prog w' = .ok (.string S1) w' := sl_from (i := 1) h0 hS1
  have HS1 : Hid (bs9 S1 = t) := by show _ = _; rw [← hS1, bs9_drop, HT.out]
  have mS1 : S1.size ≤ 1000000 := by rw [← hS1]; simp only [ByteArray.size_extract]; omega
  obtain ⟨q, hq⟩ : ∃ q, runl (runB mT) (bs9 S1) = q := ⟨_, rfl⟩
  have hqs : q ≤ s.size - 1 := by
    have := runl_le (runB mT) (bs9 S1)
    rw [hq, bs9_len, ← hS1] at this
    simp only [ByteArray.size_extract] at this; omega
  have HQ : Hid (runl (runB (bs9 ⟨#[45, 95, 47, 46]⟩)) (bs9 S1) = q) := hq
  obtain ⟨n, hn⟩ : ∃ n, n = q + 1 := ⟨_, rfl⟩
  have en : 1 + (q : Int) = (n : Int) := by omega
  obtain ⟨Y, hY⟩ : ∃ Y, s.extract 1 n = Y := ⟨_, rfl⟩
  have hslY : ∀ w', (Instr.slice 9 (.string s) (some (.int .i64 1)) (some (.int .i64 (n : Int))) none).run Tryz.prog w' = .ok (.string Y) w' := sl_both (i := 1) (by omega) (by omega) hY
  have HYB : Hid (bs9 Y = t.take q) := by show _ = _; rw [← hY, bs9_extract, HT.out, hn, Nat.add_sub_cancel]
  have mY : Y.size ≤ 1000000 := by rw [← hY]; simp only [ByteArray.size_extract]; omega
  obtain ⟨b, hb⟩ : ∃ b, tagB (bs9 Y) = b := ⟨_, rfl⟩
  have HTB := Lib.hid hb
  have E0 : Hid (r = tkn (if c = 94 then 7 else 6) (bs9 Y) n b) := by
    show _ = _
    rw [← HR.out, HS.out, (nxt_of D N c t).2.1 k]; unfold tag12
    rw [← HS1.out, hq, HS1.out, ← HYB.out, hb, hn]
  have hn1 : 1 ≤ n := by omega
  have hns : n ≤ s.size := by omega
  clear hS1 hq hn hY hb
  rcases k with k35 | k94
  · have d35 : ((c : Int) == 35) = true := by rw [k35]; rfl
    have d94 : ((c : Int) == 94) = false := by rw [beq_eq_false_iff_ne]; omega
    cases b with
    | true =>
      have E : Hid (r = .inr (6, bs9 Y, n)) := by show _ = _; rw [E0.out, if_neg (by omega)]; rfl
      clear k35
      go_enter Tryz.func8, Tryz.ntmps8
      have RB : Hid (Rz w (w.alloc (.cells #[.int .i64 0, .string ⟨#[]⟩, .int .i64 0, .int .i64 0] 34))) := Rbx.new _ _ _ _ _ _
      go_wp2_with fail
      refine (run12 HQ.out mS1 (by decide) _).mono ?_; rintro e w4 ⟨rfl, hw⟩; obtain rfl := hw.symm
      go_wp2_with fail
      obtain ⟨p0, p1, p2, p3, pf0, pf1, pf2, pf3, plt⟩ := RB.out.2
      go_region_with (first | (go_at_call 31; refine (reftag_is HTB.out mY _).mono ?_; rintro e w4 ⟨rfl, hw⟩; obtain rfl := hw.symm) | (go_at_call 29; refine (token_ok 6 Y n _).mono ?_; rintro e w4 ⟨rfl, hb⟩; (first | (replace RB := Lib.hid (RB.out.on hb)) | (replace RB := Lib.hid (RB.out.on (((Below.refl _ _).drew).trans hb)))); clear hb p0 p1 p2 p3 pf0 pf1 pf2 pf3 plt; obtain ⟨p0, p1, p2, p3, pf0, pf1, pf2, pf3, plt⟩ := RB.out.2))
      all_goals try go_wp2_with fail
      have Z := ((((RB.out.2).set0 (.int .i64 6)).set1 (.string Y)).set2 (.int .i64 0)).set3 (.int .i64 0)
      obtain ⟨zc0, zc1, zc2, zc3, _, _, _, _, _⟩ := Z
      exact bodyPost_ret (v := .tuple #[.agg #[.int .i64 6, .string Y, .int .i64 0, .int .i64 0], .int .i64 (n : Int), .int .i64 0]) (by simp [results, Tryz.results8, go_sem, zc0, zc1, zc2, zc3]) rfl ⟨by rw [E.out, nv, st9_bs9]; rfl, (((RB.out.1.setCell (p := ⟨w.heap.size, 0, none⟩) (Nat.le_refl _) _).setCell (p := ⟨w.heap.size, 1, none⟩) (Nat.le_refl _) _).setCell (p := ⟨w.heap.size, 2, none⟩) (Nat.le_refl _) _).setCell (p := ⟨w.heap.size, 3, none⟩) (Nat.le_refl _) _⟩
    | false =>
      have E : Hid (r = .inl 3) := by show _ = _; rw [E0.out]; rfl
      clear k35
      go_enter Tryz.func8, Tryz.ntmps8
      have RB : Hid (Rz w (w.alloc (.cells #[.int .i64 0, .string ⟨#[]⟩, .int .i64 0, .int .i64 0] 34))) := Rbx.new _ _ _ _ _ _
      go_wp2_with fail
      refine (run12 HQ.out mS1 (by decide) _).mono ?_; rintro e w4 ⟨rfl, hw⟩; obtain rfl := hw.symm
      go_wp2_with fail
      obtain ⟨p0, p1, p2, p3, pf0, pf1, pf2, pf3, plt⟩ := RB.out.2
      go_region_with (first | (go_at_call 31; refine (reftag_is HTB.out mY _).mono ?_; rintro e w4 ⟨rfl, hw⟩; obtain rfl := hw.symm) | (go_at_call 29; refine (token_no 6 Y n _).mono ?_; rintro e w4 ⟨rfl, hb⟩; (first | (replace RB := Lib.hid (RB.out.on hb)) | (replace RB := Lib.hid (RB.out.on (((Below.refl _ _).drew).trans hb)))); clear hb p0 p1 p2 p3 pf0 pf1 pf2 pf3 plt; obtain ⟨p0, p1, p2, p3, pf0, pf1, pf2, pf3, plt⟩ := RB.out.2))
      all_goals try go_wp2_with fail
      have Z := ((((RB.out.2).set0 (.int .i64 0)).set1 (.string ⟨#[]⟩)).set2 (.int .i64 0)).set3 (.int .i64 0)
      obtain ⟨zc0, zc1, zc2, zc3, _, _, _, _, _⟩ := Z
      exact bodyPost_ret (v := .tuple #[.agg #[.int .i64 0, .string ⟨#[]⟩, .int .i64 0, .int .i64 0], .int .i64 0, .int .i64 3]) (by simp [results, Tryz.results8, go_sem, zc0, zc1, zc2, zc3]) rfl ⟨by rw [E.out, nv]; rfl, (((RB.out.1.setCell (p := ⟨w.heap.size, 0, none⟩) (Nat.le_refl _) _).setCell (p := ⟨w.heap.size, 1, none⟩) (Nat.le_refl _) _).setCell (p := ⟨w.heap.size, 2, none⟩) (Nat.le_refl _) _).setCell (p := ⟨w.heap.size, 3, none⟩) (Nat.le_refl _) _⟩
  · have d35 : ((c : Int) == 35) = false := by rw [beq_eq_false_iff_ne]; omega
    have d94 : ((c : Int) == 94) = true := by rw [k94]; rfl
    cases b with
    | true =>
      have E : Hid (r = .inr (7, bs9 Y, n)) := by show _ = _; rw [E0.out, if_pos (by omega)]; rfl
      clear k94
      go_enter Tryz.func8, Tryz.ntmps8
      have RB : Hid (Rz w (w.alloc (.cells #[.int .i64 0, .string ⟨#[]⟩, .int .i64 0, .int .i64 0] 34))) := Rbx.new _ _ _ _ _ _
      go_wp2_with fail
      refine (run12 HQ.out mS1 (by decide) _).mono ?_; rintro e w4 ⟨rfl, hw⟩; obtain rfl := hw.symm
      go_wp2_with fail
      obtain ⟨p0, p1, p2, p3, pf0, pf1, pf2, pf3, plt⟩ := RB.out.2
      go_region_with (first | (go_at_call 31; refine (reftag_is HTB.out mY _).mono ?_; rintro e w4 ⟨rfl, hw⟩; obtain rfl := hw.symm) | (go_at_call 29; refine (token_ok 7 Y n _).mono ?_; rintro e w4 ⟨rfl, hb⟩; (first | (replace RB := Lib.hid (RB.out.on hb)) | (replace RB := Lib.hid (RB.out.on (((Below.refl _ _).drew).trans hb)))); clear hb p0 p1 p2 p3 pf0 pf1 pf2 pf3 plt; obtain ⟨p0, p1, p2, p3, pf0, pf1, pf2, pf3, plt⟩ := RB.out.2))
      all_goals try go_wp2_with fail
      have Z := ((((RB.out.2).set0 (.int .i64 7)).set1 (.string Y)).set2 (.int .i64 0)).set3 (.int .i64 0)
      obtain ⟨zc0, zc1, zc2, zc3, _, _, _, _, _⟩ := Z
      exact bodyPost_ret (v := .tuple #[.agg #[.int .i64 7, .string Y, .int .i64 0, .int .i64 0], .int .i64 (n : Int), .int .i64 0]) (by simp [results, Tryz.results8, go_sem, zc0, zc1, zc2, zc3]) rfl ⟨by rw [E.out, nv, st9_bs9]; rfl, (((RB.out.1.setCell (p := ⟨w.heap.size, 0, none⟩) (Nat.le_refl _) _).setCell (p := ⟨w.heap.size, 1, none⟩) (Nat.le_refl _) _).setCell (p := ⟨w.heap.size, 2, none⟩) (Nat.le_refl _) _).setCell (p := ⟨w.heap.size, 3, none⟩) (Nat.le_refl _) _⟩
    | false =>
      have E : Hid (r = .inl 3) := by show _ = _; rw [E0.out]; rfl
      clear k94
      go_enter Tryz.func8, Tryz.ntmps8
      have RB : Hid (Rz w (w.alloc (.cells #[.int .i64 0, .string ⟨#[]⟩, .int .i64 0, .int .i64 0] 34))) := Rbx.new _ _ _ _ _ _
      go_wp2_with fail
      refine (run12 HQ.out mS1 (by decide) _).mono ?_; rintro e w4 ⟨rfl, hw⟩; obtain rfl := hw.symm
      go_wp2_with fail
      obtain ⟨p0, p1, p2, p3, pf0, pf1, pf2, pf3, plt⟩ := RB.out.2
      go_region_with (first | (go_at_call 31; refine (reftag_is HTB.out mY _).mono ?_; rintro e w4 ⟨rfl, hw⟩; obtain rfl := hw.symm) | (go_at_call 29; refine (token_no 7 Y n _).mono ?_; rintro e w4 ⟨rfl, hb⟩; (first | (replace RB := Lib.hid (RB.out.on hb)) | (replace RB := Lib.hid (RB.out.on (((Below.refl _ _).drew).trans hb)))); clear hb p0 p1 p2 p3 pf0 pf1 pf2 pf3 plt; obtain ⟨p0, p1, p2, p3, pf0, pf1, pf2, pf3, plt⟩ := RB.out.2))
      all_goals try go_wp2_with fail
      have Z := ((((RB.out.2).set0 (.int .i64 0)).set1 (.string ⟨#[]⟩)).set2 (.int .i64 0)).set3 (.int .i64 0)
      obtain ⟨zc0, zc1, zc2, zc3, _, _, _, _, _⟩ := Z
      exact bodyPost_ret (v := .tuple #[.agg #[.int .i64 0, .string ⟨#[]⟩, .int .i64 0, .int .i64 0], .int .i64 0, .int .i64 3]) (by simp [results, Tryz.results8, go_sem, zc0, zc1, zc2, zc3]) rfl ⟨by rw [E.out, nv]; rfl, (((RB.out.1.setCell (p := ⟨w.heap.size, 0, none⟩) (Nat.le_refl _) _).setCell (p := ⟨w.heap.size, 1, none⟩) (Nat.le_refl _) _).setCell (p := ⟨w.heap.size, 2, none⟩) (Nat.le_refl _) _).setCell (p := ⟨w.heap.size, 3, none⟩) (Nat.le_refl _) _⟩

set_option maxHeartbeats 8000000 in
set_option maxRecDepth 100000 in
theorem next_sign {D N : List Nat → Bool} {ok : World → Prop} (hk : Okw ok) (h8 : P08 D ok) (h7 : P07 N ok) {s : ByteArray} (h0 : 0 < s.size) {c : Nat} (hc : (s[0]'h0).toNat = c) (k1 : c ≠ 34) (k2 : ¬ (c = 35 ∨ c = 94)) (k3 : dgB c = false) (k4 : upB c = false) (k5 : lwB c = false) (hs : s.size ≤ 1000) (w : World) (hok : ok w) : Calls Tryz.prog 8 #[.string s] w (Ret9 w (nv (nxt D N (bs9 s)))) := by
  have hs6 : s.size ≤ 1000000 := by omega
  have d := str_ne h0
  have ex0 : ((s[0]'h0).toNat : Int) = (c : Int) := by rw [hc]
  obtain ⟨t, ht⟩ : ∃ t, (bs9 s).drop 1 = t := ⟨_, rfl⟩
  have HS : Hid (bs9 s = c :: t) := by
    show _ = _
    have e := bs9_get s 0 h0
    rw [List.drop_zero, hc] at e
    rw [e]; show c :: (bs9 s).drop 1 = _; rw [ht]
  obtain ⟨r, hr⟩ : ∃ r, nxt D N (bs9 s) = r := ⟨_, rfl⟩
  rw [hr]
  have HR := Lib.hid hr
  have HT := Lib.hid ht
  clear hr ht
  have d34 : ((c : Int) == 34) = false := by rw [beq_eq_false_iff_ne]; omega
  have d35 : ((c : Int) == 35) = false := by rw [beq_eq_false_iff_ne]; omega
  have d94 : ((c : Int) == 94) = false := by rw [beq_eq_false_iff_ne]; omega
  have DG := Lib.hid k3
  have U := Lib.hid k4
  have LW := Lib.hid k5
  obtain ⟨n, hn⟩ : ∃ n, mrk (bs9 s) = n := ⟨_, rfl⟩
  have hns : n ≤ s.size := by have := mrk_le (bs9 s); rw [hn, bs9_len] at this; exact this
  have HQ := Lib.hid hn
  obtain ⟨Y, hY⟩ : ∃ Y, s.extract 0 n = Y := ⟨_, rfl⟩
  have hslY : ∀ w', (Instr.slice 9 (.string s) none (some (.int .i64 (n : Int))) none).run Tryz.prog w' = .ok (.string Y) w' := sl_to hns hY
  have HYB : Hid (bs9 Y = (bs9 s).take n) := by show _ = _; rw [← hY, bs9_take]
  have E0 : Hid (r = tkn 10 (bs9 Y) n (decide (0 < n))) := by
    show _ = _
    rw [← HR.out, HS.out, (nxt_of D N c t).2.2.2.2.2 k1 k2 k3 k4 k5, ← HS.out, hn, ← HYB.out]
  clear hn hY k1 k2 k3 k4 k5
  rcases Nat.eq_zero_or_pos n with n0 | n0
  · have dn : decide ((0 : Int) < (n : Int)) = false := decide_eq_false (by omega)
    have dn' : decide (0 < n) = false := decide_eq_false (by omega)
    have E : Hid (r = .inl 3) := by show _ = _; rw [E0.out, dn']; rfl
    clear n0
    go_enter Tryz.func8, Tryz.ntmps8
    have RB : Hid (Rz w (w.alloc (.cells #[.int .i64 0, .string ⟨#[]⟩, .int .i64 0, .int .i64 0] 34))) := Rbx.new _ _ _ _ _ _
    go_wp2_with fail
    refine (dg12 DG.out _).mono ?_; rintro e w4 ⟨rfl, hw⟩; obtain rfl := hw.symm
    go_wp2_with fail
    refine (up12 U.out _).mono ?_; rintro e w4 ⟨rfl, hw⟩; obtain rfl := hw.symm
    go_wp2_with fail
    refine (lw12 LW.out _).mono ?_; rintro e w4 ⟨rfl, hw⟩; obtain rfl := hw.symm
    go_wp2_with fail
    refine (mark12 HQ.out hs6 _).mono ?_; rintro e w4 ⟨rfl, hb⟩; replace RB := Lib.hid (RB.out.on hb); clear hb
    go_wp2_with fail
    refine (token_no 10 Y n _).mono ?_; rintro e w4 ⟨rfl, hb⟩; replace RB := Lib.hid (RB.out.on hb); clear hb
    obtain ⟨p0, p1, p2, p3, pf0, pf1, pf2, pf3, plt⟩ := RB.out.2
    go_wp2_with fail
    have Z := ((((RB.out.2).set0 (.int .i64 0)).set1 (.string ⟨#[]⟩)).set2 (.int .i64 0)).set3 (.int .i64 0)
    obtain ⟨zc0, zc1, zc2, zc3, _, _, _, _, _⟩ := Z
    exact bodyPost_ret (v := .tuple #[.agg #[.int .i64 0, .string ⟨#[]⟩, .int .i64 0, .int .i64 0], .int .i64 0, .int .i64 3]) (by simp [results, Tryz.results8, go_sem, zc0, zc1, zc2, zc3]) rfl ⟨by rw [E.out, nv]; rfl, (((RB.out.1.setCell (p := ⟨w.heap.size, 0, none⟩) (Nat.le_refl _) _).setCell (p := ⟨w.heap.size, 1, none⟩) (Nat.le_refl _) _).setCell (p := ⟨w.heap.size, 2, none⟩) (Nat.le_refl _) _).setCell (p := ⟨w.heap.size, 3, none⟩) (Nat.le_refl _) _⟩
  · have dn : decide ((0 : Int) < (n : Int)) = true := decide_eq_true (by omega)
    have dn' : decide (0 < n) = true := decide_eq_true (by omega)
    have E : Hid (r = .inr (10, bs9 Y, n)) := by show _ = _; rw [E0.out, dn']; rfl
    clear n0
    go_enter Tryz.func8, Tryz.ntmps8
    have RB : Hid (Rz w (w.alloc (.cells #[.int .i64 0, .string ⟨#[]⟩, .int .i64 0, .int .i64 0] 34))) := Rbx.new _ _ _ _ _ _
    go_wp2_with fail
    refine (dg12 DG.out _).mono ?_; rintro e w4 ⟨rfl, hw⟩; obtain rfl := hw.symm
    go_wp2_with fail
    refine (up12 U.out _).mono ?_; rintro e w4 ⟨rfl, hw⟩; obtain rfl := hw.symm
    go_wp2_with fail
    refine (lw12 LW.out _).mono ?_; rintro e w4 ⟨rfl, hw⟩; obtain rfl := hw.symm
    go_wp2_with fail
    refine (mark12 HQ.out hs6 _).mono ?_; rintro e w4 ⟨rfl, hb⟩; replace RB := Lib.hid (RB.out.on hb); clear hb
    go_wp2_with fail
    refine (token_ok 10 Y n _).mono ?_; rintro e w4 ⟨rfl, hb⟩; replace RB := Lib.hid (RB.out.on hb); clear hb
    obtain ⟨p0, p1, p2, p3, pf0, pf1, pf2, pf3, plt⟩ := RB.out.2
    go_wp2_with fail
    have Z := ((((RB.out.2).set0 (.int .i64 10)).set1 (.string Y)).set2 (.int .i64 0)).set3 (.int .i64 0)
    obtain ⟨zc0, zc1, zc2, zc3, _, _, _, _, _⟩ := Z
    exact bodyPost_ret (v := .tuple #[.agg #[.int .i64 10, .string Y, .int .i64 0, .int .i64 0], .int .i64 (n : Int), .int .i64 0]) (by simp [results, Tryz.results8, go_sem, zc0, zc1, zc2, zc3]) rfl ⟨by rw [E.out, nv, st9_bs9]; rfl, (((RB.out.1.setCell (p := ⟨w.heap.size, 0, none⟩) (Nat.le_refl _) _).setCell (p := ⟨w.heap.size, 1, none⟩) (Nat.le_refl _) _).setCell (p := ⟨w.heap.size, 2, none⟩) (Nat.le_refl _) _).setCell (p := ⟨w.heap.size, 3, none⟩) (Nat.le_refl _) _⟩

theorem numeral_ok {D N : List Nat → Bool} {ok : World → Prop} (hk : Okw ok) (h8 : P08 D ok) (h7 : P07 N ok) {s Y : ByteArray} {k n : Nat} (h : num12 D N (bs9 s) = .inr (k, bs9 Y, n)) (hs : s.size ≤ 1000) (w : World) (hok : ok w) : Calls Tryz.prog 33 #[.string s] w (Ret9 w (.tuple #[.agg #[.int .i64 (k : Int), .string Y, .int .i64 0, .int .i64 0], .int .i64 (n : Int), .int .i64 0])) := by
  have := numeral12 hk h8 h7 h hs w hok
  rw [nv, tkv, st9_bs9] at this
  exact this
theorem numeral_no {D N : List Nat → Bool} {ok : World → Prop} (hk : Okw ok) (h8 : P08 D ok) (h7 : P07 N ok) {s : ByteArray} {e : Nat} (h : num12 D N (bs9 s) = .inl e) (hs : s.size ≤ 1000) (w : World) (hok : ok w) : Calls Tryz.prog 33 #[.string s] w (Ret9 w (.tuple #[.agg #[.int .i64 0, .string ⟨#[]⟩, .int .i64 0, .int .i64 0], .int .i64 0, .int .i64 (e : Int)])) := numeral12 hk h8 h7 h hs w hok
theorem num12_text {D N : List Nat → Bool} {s : ByteArray} {k n : Nat} {x : List Nat} (h : num12 D N (bs9 s) = .inr (k, x, n)) : ∃ Y : ByteArray, bs9 Y = x := by
  unfold num12 at h
  split at h
  · cases h; exact ⟨s.extract 0 10, bs9_take s 10⟩
  · obtain ⟨_, hp⟩ := tkn_ok h
    cases hp
    exact ⟨s.extract 0 (nmb (bs9 s)), bs9_take s _⟩
set_option maxHeartbeats 8000000 in
set_option maxRecDepth 100000 in
theorem next_digit {D N : List Nat → Bool} {ok : World → Prop} (hk : Okw ok) (h8 : P08 D ok) (h7 : P07 N ok) {s : ByteArray} (h0 : 0 < s.size) {c : Nat} (hc : (s[0]'h0).toNat = c) (k : dgB c = true) (hs : s.size ≤ 1000) (w : World) (hok : ok w) : Calls Tryz.prog 8 #[.string s] w (Ret9 w (nv (nxt D N (bs9 s)))) := by
  have H8 := Lib.hid h8
  have H7 := Lib.hid h7
  have HK : Hid (Okw ok) := hk
  have OK : Hid (∀ {W : World}, Below w.heap.size w W → ok W) := fun hb => hk hok hb
  have hs6 : s.size ≤ 1000000 := by omega
  have d := str_ne h0
  have ex0 : ((s[0]'h0).toNat : Int) = (c : Int) := by rw [hc]
  obtain ⟨t, ht⟩ : ∃ t, (bs9 s).drop 1 = t := ⟨_, rfl⟩
  have HS : Hid (bs9 s = c :: t) := by
    show _ = _
    have e := bs9_get s 0 h0
    rw [List.drop_zero, hc] at e
    rw [e]; show c :: (bs9 s).drop 1 = _; rw [ht]
  obtain ⟨r, hr⟩ : ∃ r, nxt D N (bs9 s) = r := ⟨_, rfl⟩
  rw [hr]
  have HR := Lib.hid hr
  have HT := Lib.hid ht
  clear hr ht
  have hc48 : 48 ≤ c ∧ c ≤ 57 := by have := k; unfold dgB at this; simpa using this
  have d34 : ((c : Int) == 34) = false := by rw [beq_eq_false_iff_ne]; omega
  have d35 : ((c : Int) == 35) = false := by rw [beq_eq_false_iff_ne]; omega
  have d94 : ((c : Int) == 94) = false := by rw [beq_eq_false_iff_ne]; omega
  have DG : Hid (dgB c = true) := k
  have E0 : Hid (num12 D N (bs9 s) = r) := by show _ = _; rw [← HR.out]; conv => rhs; rw [HS.out, (nxt_of D N c t).2.2.1 k, ← HS.out]
  clear k hc48 h8 h7 hk hok
  cases r with
  | inl e0 =>
    go_enter Tryz.func8, Tryz.ntmps8
    have RB : Hid (Rz w (w.alloc (.cells #[.int .i64 0, .string ⟨#[]⟩, .int .i64 0, .int .i64 0] 34))) := Rbx.new _ _ _ _ _ _
    go_wp2_with fail
    refine (dg12 DG.out _).mono ?_; rintro e w4 ⟨rfl, hw⟩; obtain rfl := hw.symm
    go_wp2_with fail
    refine (numeral_no HK.out H8.out H7.out E0.out hs _ (OK.out RB.out.1)).mono ?_; rintro e w4 ⟨rfl, hb⟩; replace RB := Lib.hid (RB.out.on hb); clear hb
    obtain ⟨p0, p1, p2, p3, pf0, pf1, pf2, pf3, plt⟩ := RB.out.2
    go_wp2_with fail
    have Z := ((((RB.out.2).set0 (.int .i64 0)).set1 (.string ⟨#[]⟩)).set2 (.int .i64 0)).set3 (.int .i64 0)
    obtain ⟨zc0, zc1, zc2, zc3, _, _, _, _, _⟩ := Z
    exact bodyPost_ret (v := .tuple #[.agg #[.int .i64 0, .string ⟨#[]⟩, .int .i64 0, .int .i64 0], .int .i64 0, .int .i64 (e0 : Int)]) (by simp [results, Tryz.results8, go_sem, zc0, zc1, zc2, zc3]) rfl ⟨by rw [nv]; rfl, (((RB.out.1.setCell (p := ⟨w.heap.size, 0, none⟩) (Nat.le_refl _) _).setCell (p := ⟨w.heap.size, 1, none⟩) (Nat.le_refl _) _).setCell (p := ⟨w.heap.size, 2, none⟩) (Nat.le_refl _) _).setCell (p := ⟨w.heap.size, 3, none⟩) (Nat.le_refl _) _⟩
  | inr p =>
    obtain ⟨q, x, n⟩ := p
    obtain ⟨Y, hY⟩ := num12_text E0.out
    subst hY
    go_enter Tryz.func8, Tryz.ntmps8
    have RB : Hid (Rz w (w.alloc (.cells #[.int .i64 0, .string ⟨#[]⟩, .int .i64 0, .int .i64 0] 34))) := Rbx.new _ _ _ _ _ _
    go_wp2_with fail
    refine (dg12 DG.out _).mono ?_; rintro e w4 ⟨rfl, hw⟩; obtain rfl := hw.symm
    go_wp2_with fail
    refine (numeral_ok HK.out H8.out H7.out E0.out hs _ (OK.out RB.out.1)).mono ?_; rintro e w4 ⟨rfl, hb⟩; replace RB := Lib.hid (RB.out.on hb); clear hb
    obtain ⟨p0, p1, p2, p3, pf0, pf1, pf2, pf3, plt⟩ := RB.out.2
    go_wp2_with fail
    have Z := ((((RB.out.2).set0 (.int .i64 (q : Int))).set1 (.string Y)).set2 (.int .i64 0)).set3 (.int .i64 0)
    obtain ⟨zc0, zc1, zc2, zc3, _, _, _, _, _⟩ := Z
    exact bodyPost_ret (v := .tuple #[.agg #[.int .i64 (q : Int), .string Y, .int .i64 0, .int .i64 0], .int .i64 (n : Int), .int .i64 0]) (by simp [results, Tryz.results8, go_sem, zc0, zc1, zc2, zc3]) rfl ⟨by rw [nv, st9_bs9]; rfl, (((RB.out.1.setCell (p := ⟨w.heap.size, 0, none⟩) (Nat.le_refl _) _).setCell (p := ⟨w.heap.size, 1, none⟩) (Nat.le_refl _) _).setCell (p := ⟨w.heap.size, 2, none⟩) (Nat.le_refl _) _).setCell (p := ⟨w.heap.size, 3, none⟩) (Nat.le_refl _) _⟩

theorem uqg_lt : ∀ (f : Nat) {l o : List Nat} {n : Nat}, l.length ≤ f → uqg l = .inr (o, n) → (∀ c ∈ l, c < 256) → ∀ c ∈ o, c < 256 := by
  intro f
  induction f with
  | zero => intro l o n hf h; rw [List.eq_nil_of_length_eq_zero (Nat.le_zero.1 hf), uqg] at h; cases h
  | succ f ih =>
    intro l o n hf h hl
    cases l with
    | nil => rw [uqg] at h; cases h
    | cons b t =>
      have one : ∀ {m d : Nat} {u : List Nat}, u.length ≤ f → d < 256 → (∀ c ∈ u, c < 256) → pre m d (uqg u) = .inr (o, n) → ∀ c ∈ o, c < 256 := by
        intro m d u hu hd hlu e c hc
        cases hq : uqg u with
        | inl y => rw [hq] at e; cases e
        | inr p =>
          obtain ⟨o', n'⟩ := p
          rw [hq] at e
          cases e
          rcases List.mem_cons.1 hc with rfl | hc
          · exact hd
          · exact ih hu hq hlu c hc
      have hf2 : t.length ≤ f := by simpa using hf
      by_cases h34 : b = 34
      · subst h34; rw [uqg_end] at h; cases h; intro c hc; cases hc
      · by_cases h92 : b = 92
        · subst h92
          cases t with
          | nil => rw [uqg, if_neg (by decide)] at h; cases h
          | cons c u =>
            cases hc : une c with
            | none => rw [uqg_none hc] at h; cases h
            | some d =>
              rw [uqg_esc hc] at h
              exact one (by simp at hf2; omega) (by unfold une at hc; (repeat' split at hc) <;> (try (cases hc; try decide))) (fun x hx => hl x (List.mem_cons_of_mem _ (List.mem_cons_of_mem _ hx))) h
        · rw [uqg_byte h34 h92] at h
          exact one hf2 (hl b List.mem_cons_self) (fun x hx => hl x (List.mem_cons_of_mem _ hx)) h
set_option maxHeartbeats 8000000 in
set_option maxRecDepth 100000 in
theorem next_text {D N : List Nat → Bool} {ok : World → Prop} (hk : Okw ok) (h8 : P08 D ok) (h7 : P07 N ok) {s : ByteArray} (h0 : 0 < s.size) {c : Nat} (hc : (s[0]'h0).toNat = c) (k : c = 34) (hs : s.size ≤ 1000) (w : World) (hok : ok w) : Calls Tryz.prog 8 #[.string s] w (Ret9 w (nv (nxt D N (bs9 s)))) := by
  have hs6 : s.size ≤ 1000000 := by omega
  have d := str_ne h0
  have ex0 : ((s[0]'h0).toNat : Int) = (c : Int) := by rw [hc]
  obtain ⟨t, ht⟩ : ∃ t, (bs9 s).drop 1 = t := ⟨_, rfl⟩
  have HS : Hid (bs9 s = c :: t) := by
    show _ = _
    have e := bs9_get s 0 h0
    rw [List.drop_zero, hc] at e
    rw [e]; show c :: (bs9 s).drop 1 = _; rw [ht]
  obtain ⟨r, hr⟩ : ∃ r, nxt D N (bs9 s) = r := ⟨_, rfl⟩
  rw [hr]
  have HR := Lib.hid hr
  have HT := Lib.hid ht
  clear hr ht
  have d34 : ((c : Int) == 34) = true := by rw [k]; rfl
  have E0 : Hid (txt12 (uqg t) = r) := by show _ = _; rw [← HR.out, HS.out, (nxt_of D N c t).1 k]
  have HU : Hid (uqv (bs9 s) = cmb [] 1 (uqg t)) := by show _ = _; rw [uqv_start h0 (by rw [hc]; exact k), HT.out]
  have HTL : Hid (∀ x ∈ t, x < 256) := fun x hx => bs9_lt s x (by rw [HS.out]; exact List.mem_cons_of_mem _ hx)
  clear k
  cases hu : uqg t with
  | inl e0 =>
    have E : Hid (r = .inl e0) := by show _ = _; rw [← E0.out, hu]; rfl
    have HV : Hid (uqv (bs9 s) = (bs9 ⟨#[]⟩, 0, e0)) := by show _ = _; rw [HU.out, hu]; rfl
    have hne : e0 ≠ 0 := by have := nxt_err (D := D) (N := N) (HR.out.trans E.out); omega
    have de : ((e0 : Int) != 0) = true := by rw [bne_iff_ne]; omega
    clear hu hne
    go_enter Tryz.func8, Tryz.ntmps8
    have RB : Hid (Rz w (w.alloc (.cells #[.int .i64 0, .string ⟨#[]⟩, .int .i64 0, .int .i64 0] 34))) := Rbx.new _ _ _ _ _ _
    go_wp2_with fail
    refine (refunquote_is HV.out hs6 _).mono ?_; rintro e w4 ⟨rfl, hw⟩; obtain rfl := hw.symm
    go_wp2_with fail
    exact bodyPost_ret (v := .tuple #[.agg #[.int .i64 0, .string ⟨#[]⟩, .int .i64 0, .int .i64 0], .int .i64 0, .int .i64 (e0 : Int)]) (by simp [results, Tryz.results8, go_sem]) rfl ⟨by rw [E.out, nv]; rfl, RB.out.1⟩
  | inr p =>
    obtain ⟨o, m⟩ := p
    obtain ⟨Y, hY⟩ : ∃ Y, bs9 Y = o := ⟨st9 o, bs9_st9 (uqg_lt _ (Nat.le_refl _) hu HTL.out)⟩
    subst hY
    have E : Hid (r = .inr (5, bs9 Y, m + 1)) := by show _ = _; rw [← E0.out, hu]; rfl
    obtain ⟨n, hn⟩ : ∃ n, n = m + 1 := ⟨_, rfl⟩
    rw [← hn] at E
    have HV : Hid (uqv (bs9 s) = (bs9 Y, n, 0)) := by show _ = _; rw [HU.out, hu, hn]; show ([] ++ bs9 Y, 1 + m, 0) = _; rw [Nat.add_comm]; rfl
    clear hu hn
    go_enter Tryz.func8, Tryz.ntmps8
    have RB : Hid (Rz w (w.alloc (.cells #[.int .i64 0, .string ⟨#[]⟩, .int .i64 0, .int .i64 0] 34))) := Rbx.new _ _ _ _ _ _
    go_wp2_with fail
    refine (refunquote_is HV.out hs6 _).mono ?_; rintro e w4 ⟨rfl, hw⟩; obtain rfl := hw.symm
    go_wp2_with fail
    refine (token_ok 5 Y n _).mono ?_; rintro e w4 ⟨rfl, hb⟩; replace RB := Lib.hid (RB.out.on hb); clear hb
    obtain ⟨p0, p1, p2, p3, pf0, pf1, pf2, pf3, plt⟩ := RB.out.2
    go_wp2_with fail
    have Z := ((((RB.out.2).set0 (.int .i64 5)).set1 (.string Y)).set2 (.int .i64 0)).set3 (.int .i64 0)
    obtain ⟨zc0, zc1, zc2, zc3, _, _, _, _, _⟩ := Z
    exact bodyPost_ret (v := .tuple #[.agg #[.int .i64 5, .string Y, .int .i64 0, .int .i64 0], .int .i64 (n : Int), .int .i64 0]) (by simp [results, Tryz.results8, go_sem, zc0, zc1, zc2, zc3]) rfl ⟨by rw [E.out, nv, st9_bs9]; rfl, (((RB.out.1.setCell (p := ⟨w.heap.size, 0, none⟩) (Nat.le_refl _) _).setCell (p := ⟨w.heap.size, 1, none⟩) (Nat.le_refl _) _).setCell (p := ⟨w.heap.size, 2, none⟩) (Nat.le_refl _) _).setCell (p := ⟨w.heap.size, 3, none⟩) (Nat.le_refl _) _⟩

end Go.Proofs.YtjkandnbjbfeiaaGreatDoor

/-
  Contracts of layer 12: the document's Next.
-/
namespace Go.Proofs.YtjkandnbjbfeiaaGreatDoor
open Go.RowKit

set_option maxHeartbeats 8000000 in
set_option maxRecDepth 100000 in
theorem next_upper {D N : List Nat → Bool} {ok : World → Prop} (hk : Okw ok) (h8 : P08 D ok) (h7 : P07 N ok) {s : ByteArray} (h0 : 0 < s.size) {c : Nat} (hc : (s[0]'h0).toNat = c) (k : upB c = true) (hs : s.size ≤ 1000) (w : World) (hok : ok w) : Calls Tryz.prog 8 #[.string s] w (Ret9 w (nv (nxt D N (bs9 s)))) := by
  have hs6 : s.size ≤ 1000000 := by omega
  have d := str_ne h0
  have ex0 : ((s[0]'h0).toNat : Int) = (c : Int) := by rw [hc]
  obtain ⟨t, ht⟩ : ∃ t, (bs9 s).drop 1 = t := ⟨_, rfl⟩
  have HS : Hid (bs9 s = c :: t) := by
    show _ = _
    have e := bs9_get s 0 h0
    rw [List.drop_zero, hc] at e
    rw [e]; show c :: (bs9 s).drop 1 = _; rw [ht]
  obtain ⟨r, hr⟩ : ∃ r, nxt D N (bs9 s) = r := ⟨_, rfl⟩
  rw [hr]
  have HR := Lib.hid hr
  have HT := Lib.hid ht
  clear hr ht
  have hc65 : 65 ≤ c ∧ c ≤ 90 := by have := k; unfold upB at this; simpa using this
  have d34 : ((c : Int) == 34) = false := by rw [beq_eq_false_iff_ne]; omega
  have d35 : ((c : Int) == 35) = false := by rw [beq_eq_false_iff_ne]; omega
  have d94 : ((c : Int) == 94) = false := by rw [beq_eq_false_iff_ne]; omega
  have DG : Hid (dgB c = false) := by show _ = _; unfold dgB; rw [decide_eq_true (show 48 ≤ c by omega), decide_eq_false (show ¬ c ≤ 57 by omega)]; rfl
  have U : Hid (upB c = true) := k
  obtain ⟨n, hn⟩ : ∃ n, runl (runB mA) (bs9 s) = n := ⟨_, rfl⟩
  have hns : n ≤ s.size := by have := runl_le (runB mA) (bs9 s); rw [hn, bs9_len] at this; exact this
  have HQ : Hid (runl (runB (bs9 ⟨#[58, 45, 46, 95, 39]⟩)) (bs9 s) = n) := hn
  obtain ⟨Y, hY⟩ : ∃ Y, s.extract 0 n = Y := ⟨_, rfl⟩
  have hslY : ∀ w', (Instr.slice 9 (.string s) none (some (.int .i64 (n : Int))) none).run Tryz.prog w' = .ok (.string Y) w' := sl_to hns hY
  have HYB : Hid (bs9 Y = (bs9 s).take n) := by show _ = _; rw [← hY, bs9_take]
  have mY : Y.size ≤ 1000000 := by rw [← hY]; simp only [ByteArray.size_extract]; omega
  obtain ⟨a, ha⟩ : ∃ a, accB (bs9 Y) = a := ⟨_, rfl⟩
  obtain ⟨b, hb⟩ : ∃ b, curB (bs9 Y) = b := ⟨_, rfl⟩
  have HA := Lib.hid ha
  have HCB := Lib.hid hb
  have E0 : Hid (r = if a = true then .inr (2, bs9 Y, n) else tkn 3 (bs9 Y) n b) := by
    show _ = _
    rw [← HR.out, HS.out, (nxt_of D N c t).2.2.2.1 k]; unfold acc12
    rw [← HS.out, hn, ← HYB.out, ha, hb]
  clear hn hY ha hb k hc65
  cases a with
  | true =>
    have E : Hid (r = .inr (2, bs9 Y, n)) := E0.out
    go_enter Tryz.func8, Tryz.ntmps8
    have RB : Hid (Rz w (w.alloc (.cells #[.int .i64 0, .string ⟨#[]⟩, .int .i64 0, .int .i64 0] 34))) := Rbx.new _ _ _ _ _ _
    go_wp2_with fail
    refine (dg12 DG.out _).mono ?_; rintro e w4 ⟨rfl, hw⟩; obtain rfl := hw.symm
    go_wp2_with fail
    refine (up12 U.out _).mono ?_; rintro e w4 ⟨rfl, hw⟩; obtain rfl := hw.symm
    go_wp2_with fail
    refine (run12 HQ.out hs6 (by decide) _).mono ?_; rintro e w4 ⟨rfl, hw⟩; obtain rfl := hw.symm
    go_wp2_with fail
    refine (refaccount_is HA.out mY _).mono ?_; rintro e w4 ⟨rfl, hb⟩; replace RB := Lib.hid (RB.out.on hb); clear hb
    go_wp2_with fail
    refine (token_ok 2 Y n _).mono ?_; rintro e w4 ⟨rfl, hb⟩; replace RB := Lib.hid (RB.out.on hb); clear hb
    obtain ⟨p0, p1, p2, p3, pf0, pf1, pf2, pf3, plt⟩ := RB.out.2
    go_wp2_with fail
    have Z := ((((RB.out.2).set0 (.int .i64 2)).set1 (.string Y)).set2 (.int .i64 0)).set3 (.int .i64 0)
    obtain ⟨zc0, zc1, zc2, zc3, _, _, _, _, _⟩ := Z
    exact bodyPost_ret (v := .tuple #[.agg #[.int .i64 2, .string Y, .int .i64 0, .int .i64 0], .int .i64 (n : Int), .int .i64 0]) (by simp [results, Tryz.results8, go_sem, zc0, zc1, zc2, zc3]) rfl ⟨by rw [E.out, nv, st9_bs9]; rfl, (((RB.out.1.setCell (p := ⟨w.heap.size, 0, none⟩) (Nat.le_refl _) _).setCell (p := ⟨w.heap.size, 1, none⟩) (Nat.le_refl _) _).setCell (p := ⟨w.heap.size, 2, none⟩) (Nat.le_refl _) _).setCell (p := ⟨w.heap.size, 3, none⟩) (Nat.le_refl _) _⟩
  | false =>
    cases b with
    | true =>
      have E : Hid (r = .inr (3, bs9 Y, n)) := E0.out
      go_enter Tryz.func8, Tryz.ntmps8
      have RB : Hid (Rz w (w.alloc (.cells #[.int .i64 0, .string ⟨#[]⟩, .int .i64 0, .int .i64 0] 34))) := Rbx.new _ _ _ _ _ _
      go_wp2_with fail
      refine (dg12 DG.out _).mono ?_; rintro e w4 ⟨rfl, hw⟩; obtain rfl := hw.symm
      go_wp2_with fail
      refine (up12 U.out _).mono ?_; rintro e w4 ⟨rfl, hw⟩; obtain rfl := hw.symm
      go_wp2_with fail
      refine (run12 HQ.out hs6 (by decide) _).mono ?_; rintro e w4 ⟨rfl, hw⟩; obtain rfl := hw.symm
      go_wp2_with fail
      refine (refaccount_is HA.out mY _).mono ?_; rintro e w4 ⟨rfl, hb⟩; replace RB := Lib.hid (RB.out.on hb); clear hb
      go_wp2_with fail
      obtain ⟨p0, p1, p2, p3, pf0, pf1, pf2, pf3, plt⟩ := RB.out.2
      go_region_with (first | (go_at_call 36; refine (refcurrency_is HCB.out mY _).mono ?_; rintro e w4 ⟨rfl, hw⟩; obtain rfl := hw.symm) | (go_at_call 29; refine (token_ok 3 Y n _).mono ?_; rintro e w4 ⟨rfl, hb⟩; (first | (replace RB := Lib.hid (RB.out.on hb)) | (replace RB := Lib.hid (RB.out.on (((Below.refl _ _).drew).trans hb)))); clear hb p0 p1 p2 p3 pf0 pf1 pf2 pf3 plt; obtain ⟨p0, p1, p2, p3, pf0, pf1, pf2, pf3, plt⟩ := RB.out.2))
      all_goals try go_wp2_with fail
      have Z := ((((RB.out.2).set0 (.int .i64 3)).set1 (.string Y)).set2 (.int .i64 0)).set3 (.int .i64 0)
      obtain ⟨zc0, zc1, zc2, zc3, _, _, _, _, _⟩ := Z
      exact bodyPost_ret (v := .tuple #[.agg #[.int .i64 3, .string Y, .int .i64 0, .int .i64 0], .int .i64 (n : Int), .int .i64 0]) (by simp [results, Tryz.results8, go_sem, zc0, zc1, zc2, zc3]) rfl ⟨by rw [E.out, nv, st9_bs9]; rfl, (((RB.out.1.setCell (p := ⟨w.heap.size, 0, none⟩) (Nat.le_refl _) _).setCell (p := ⟨w.heap.size, 1, none⟩) (Nat.le_refl _) _).setCell (p := ⟨w.heap.size, 2, none⟩) (Nat.le_refl _) _).setCell (p := ⟨w.heap.size, 3, none⟩) (Nat.le_refl _) _⟩
    | false =>
      have E : Hid (r = .inl 3) := E0.out
      go_enter Tryz.func8, Tryz.ntmps8
      have RB : Hid (Rz w (w.alloc (.cells #[.int .i64 0, .string ⟨#[]⟩, .int .i64 0, .int .i64 0] 34))) := Rbx.new _ _ _ _ _ _
      go_wp2_with fail
      refine (dg12 DG.out _).mono ?_; rintro e w4 ⟨rfl, hw⟩; obtain rfl := hw.symm
      go_wp2_with fail
      refine (up12 U.out _).mono ?_; rintro e w4 ⟨rfl, hw⟩; obtain rfl := hw.symm
      go_wp2_with fail
      refine (run12 HQ.out hs6 (by decide) _).mono ?_; rintro e w4 ⟨rfl, hw⟩; obtain rfl := hw.symm
      go_wp2_with fail
      refine (refaccount_is HA.out mY _).mono ?_; rintro e w4 ⟨rfl, hb⟩; replace RB := Lib.hid (RB.out.on hb); clear hb
      go_wp2_with fail
      obtain ⟨p0, p1, p2, p3, pf0, pf1, pf2, pf3, plt⟩ := RB.out.2
      go_region_with (first | (go_at_call 36; refine (refcurrency_is HCB.out mY _).mono ?_; rintro e w4 ⟨rfl, hw⟩; obtain rfl := hw.symm) | (go_at_call 29; refine (token_no 3 Y n _).mono ?_; rintro e w4 ⟨rfl, hb⟩; (first | (replace RB := Lib.hid (RB.out.on hb)) | (replace RB := Lib.hid (RB.out.on (((Below.refl _ _).drew).trans hb)))); clear hb p0 p1 p2 p3 pf0 pf1 pf2 pf3 plt; obtain ⟨p0, p1, p2, p3, pf0, pf1, pf2, pf3, plt⟩ := RB.out.2))
      all_goals try go_wp2_with fail
      have Z := ((((RB.out.2).set0 (.int .i64 0)).set1 (.string ⟨#[]⟩)).set2 (.int .i64 0)).set3 (.int .i64 0)
      obtain ⟨zc0, zc1, zc2, zc3, _, _, _, _, _⟩ := Z
      exact bodyPost_ret (v := .tuple #[.agg #[.int .i64 0, .string ⟨#[]⟩, .int .i64 0, .int .i64 0], .int .i64 0, .int .i64 3]) (by simp [results, Tryz.results8, go_sem, zc0, zc1, zc2, zc3]) rfl ⟨by rw [E.out, nv]; rfl, (((RB.out.1.setCell (p := ⟨w.heap.size, 0, none⟩) (Nat.le_refl _) _).setCell (p := ⟨w.heap.size, 1, none⟩) (Nat.le_refl _) _).setCell (p := ⟨w.heap.size, 2, none⟩) (Nat.le_refl _) _).setCell (p := ⟨w.heap.size, 3, none⟩) (Nat.le_refl _) _⟩

set_option maxHeartbeats 8000000 in
set_option maxRecDepth 100000 in
theorem next_lower {D N : List Nat → Bool} {ok : World → Prop} (hk : Okw ok) (h8 : P08 D ok) (h7 : P07 N ok) {s : ByteArray} (h0 : 0 < s.size) {c : Nat} (hc : (s[0]'h0).toNat = c) (k : lwB c = true) (hs : s.size ≤ 1000) (w : World) (hok : ok w) : Calls Tryz.prog 8 #[.string s] w (Ret9 w (nv (nxt D N (bs9 s)))) := by
  have hs6 : s.size ≤ 1000000 := by omega
  have d := str_ne h0
  have ex0 : ((s[0]'h0).toNat : Int) = (c : Int) := by rw [hc]
  obtain ⟨t, ht⟩ : ∃ t, (bs9 s).drop 1 = t := ⟨_, rfl⟩
  have HS : Hid (bs9 s = c :: t) := by
    show _ = _
    have e := bs9_get s 0 h0
    rw [List.drop_zero, hc] at e
    rw [e]; show c :: (bs9 s).drop 1 = _; rw [ht]
  obtain ⟨r, hr⟩ : ∃ r, nxt D N (bs9 s) = r := ⟨_, rfl⟩
  rw [hr]
  have HR := Lib.hid hr
  have HT := Lib.hid ht
  clear hr ht
  have hc97 : 97 ≤ c ∧ c ≤ 122 := by have := k; unfold lwB at this; simpa using this
  have d34 : ((c : Int) == 34) = false := by rw [beq_eq_false_iff_ne]; omega
  have d35 : ((c : Int) == 35) = false := by rw [beq_eq_false_iff_ne]; omega
  have d94 : ((c : Int) == 94) = false := by rw [beq_eq_false_iff_ne]; omega
  have DG : Hid (dgB c = false) := by show _ = _; unfold dgB; rw [decide_eq_true (show 48 ≤ c by omega), decide_eq_false (show ¬ c ≤ 57 by omega)]; rfl
  have U : Hid (upB c = false) := by show _ = _; unfold upB; rw [decide_eq_true (show 65 ≤ c by omega), decide_eq_false (show ¬ c ≤ 90 by omega)]; rfl
  have LW : Hid (lwB c = true) := k
  obtain ⟨n, hn⟩ : ∃ n, runl (runB mK) (bs9 s) = n := ⟨_, rfl⟩
  have hns : n ≤ s.size := by have := runl_le (runB mK) (bs9 s); rw [hn, bs9_len] at this; exact this
  have HQ : Hid (runl (runB (bs9 ⟨#[45, 95]⟩)) (bs9 s) = n) := hn
  obtain ⟨Y, hY⟩ : ∃ Y, s.extract 0 n = Y := ⟨_, rfl⟩
  have hslY : ∀ w', (Instr.slice 9 (.string s) none (some (.int .i64 (n : Int))) none).run Tryz.prog w' = .ok (.string Y) w' := sl_to hns hY
  have HYB : Hid (bs9 Y = (bs9 s).take n) := by show _ = _; rw [← hY, bs9_take]
  have mY : Y.size ≤ 1000000 := by rw [← hY]; simp only [ByteArray.size_extract]; omega
  obtain ⟨b, hb⟩ : ∃ b, keyB (bs9 Y) = b := ⟨_, rfl⟩
  have HKB := Lib.hid hb
  have hn9 : n ≤ 1000 := by omega
  have E0 : Hid (r = if (bs9 s)[n]? = some 58 then tkn 9 (bs9 Y) (n + 1) b else tkn 8 (bs9 Y) n b) := by
    show _ = _
    rw [← HR.out, HS.out, (nxt_of D N c t).2.2.2.2.1 k]; unfold key12
    rw [← HS.out, hn, ← HYB.out, hb]
  clear hn hY hb k hc97
  rcases Nat.lt_or_ge n s.size with hlt | hge
  · have dl : decide ((n : Int) < (s.size : Int)) = true := decide_eq_true (by omega)
    have dl' : decide (n < s.size) = true := decide_eq_true hlt
    obtain ⟨x, hx⟩ : ∃ x, x = (s[n]'hlt).toNat := ⟨_, rfl⟩
    have ex : ((s[n]'hlt).toNat : Int) = (x : Int) := by rw [hx]
    have hxs : (bs9 s)[n]? = some x := by rw [bs9_at s n hlt, hx]
    clear hx
    by_cases k58 : x = 58
    · have d58 : ((x : Int) == 58) = true := by rw [k58]; rfl
      have h58 : (bs9 s)[n]? = some 58 := by rw [hxs, k58]
      obtain ⟨n1, hn1⟩ : ∃ n1, n1 = n + 1 := ⟨_, rfl⟩
      have en : (n : Int) + 1 = (n1 : Int) := by omega
      have uw : IntKind.i64.wrap ((n : Int) + 1) = (n1 : Int) := by rw [en]; exact IntWalk.i64_in _ ⟨by omega, by omega⟩
      have uw2 : IntKind.i64.wrap (n1 : Int) = (n1 : Int) := IntWalk.i64_in _ ⟨by omega, by omega⟩
      have E1 : Hid (r = tkn 9 (bs9 Y) n1 b) := by show _ = _; rw [E0.out, if_pos h58, hn1]
      clear h58 k58 hxs hn1
      cases b with
    | true =>
      have E : Hid (r = .inr (9, bs9 Y, n1)) := E1.out
      go_enter Tryz.func8, Tryz.ntmps8
      have RB : Hid (Rz w (w.alloc (.cells #[.int .i64 0, .string ⟨#[]⟩, .int .i64 0, .int .i64 0] 34))) := Rbx.new _ _ _ _ _ _
      go_wp2_with fail
      refine (dg12 DG.out _).mono ?_; rintro e w4 ⟨rfl, hw⟩; obtain rfl := hw.symm
      go_wp2_with fail
      refine (up12 U.out _).mono ?_; rintro e w4 ⟨rfl, hw⟩; obtain rfl := hw.symm
      go_wp2_with fail
      refine (lw12 LW.out _).mono ?_; rintro e w4 ⟨rfl, hw⟩; obtain rfl := hw.symm
      go_wp2_with fail
      refine (run12 HQ.out hs6 (by decide) _).mono ?_; rintro e w4 ⟨rfl, hw⟩; obtain rfl := hw.symm
      go_wp2_with fail
      obtain ⟨p0, p1, p2, p3, pf0, pf1, pf2, pf3, plt⟩ := RB.out.2
      go_region_with (first | (go_at_call 38; refine (refkey_is HKB.out mY _).mono ?_; rintro e w4 ⟨rfl, hw⟩; obtain rfl := hw.symm) | (go_at_call 29; refine (token_ok 9 Y n1 _).mono ?_; rintro e w4 ⟨rfl, hb⟩; (first | (replace RB := Lib.hid (RB.out.on hb)) | (replace RB := Lib.hid (RB.out.on (((Below.refl _ _).drew).trans hb)))); clear hb p0 p1 p2 p3 pf0 pf1 pf2 pf3 plt; obtain ⟨p0, p1, p2, p3, pf0, pf1, pf2, pf3, plt⟩ := RB.out.2))
      all_goals try go_wp2_with fail
      have Z := ((((RB.out.2).set0 (.int .i64 9)).set1 (.string Y)).set2 (.int .i64 0)).set3 (.int .i64 0)
      obtain ⟨zc0, zc1, zc2, zc3, _, _, _, _, _⟩ := Z
      exact bodyPost_ret (v := .tuple #[.agg #[.int .i64 9, .string Y, .int .i64 0, .int .i64 0], .int .i64 (n1 : Int), .int .i64 0]) (by simp [results, Tryz.results8, go_sem, zc0, zc1, zc2, zc3]) rfl ⟨by rw [E.out, nv, st9_bs9]; rfl, (((RB.out.1.setCell (p := ⟨w.heap.size, 0, none⟩) (Nat.le_refl _) _).setCell (p := ⟨w.heap.size, 1, none⟩) (Nat.le_refl _) _).setCell (p := ⟨w.heap.size, 2, none⟩) (Nat.le_refl _) _).setCell (p := ⟨w.heap.size, 3, none⟩) (Nat.le_refl _) _⟩
    | false =>
      have E : Hid (r = .inl 3) := E1.out
      go_enter Tryz.func8, Tryz.ntmps8
      have RB : Hid (Rz w (w.alloc (.cells #[.int .i64 0, .string ⟨#[]⟩, .int .i64 0, .int .i64 0] 34))) := Rbx.new _ _ _ _ _ _
      go_wp2_with fail
      refine (dg12 DG.out _).mono ?_; rintro e w4 ⟨rfl, hw⟩; obtain rfl := hw.symm
      go_wp2_with fail
      refine (up12 U.out _).mono ?_; rintro e w4 ⟨rfl, hw⟩; obtain rfl := hw.symm
      go_wp2_with fail
      refine (lw12 LW.out _).mono ?_; rintro e w4 ⟨rfl, hw⟩; obtain rfl := hw.symm
      go_wp2_with fail
      refine (run12 HQ.out hs6 (by decide) _).mono ?_; rintro e w4 ⟨rfl, hw⟩; obtain rfl := hw.symm
      go_wp2_with fail
      obtain ⟨p0, p1, p2, p3, pf0, pf1, pf2, pf3, plt⟩ := RB.out.2
      go_region_with (first | (go_at_call 38; refine (refkey_is HKB.out mY _).mono ?_; rintro e w4 ⟨rfl, hw⟩; obtain rfl := hw.symm) | (go_at_call 29; refine (token_no 9 Y n1 _).mono ?_; rintro e w4 ⟨rfl, hb⟩; (first | (replace RB := Lib.hid (RB.out.on hb)) | (replace RB := Lib.hid (RB.out.on (((Below.refl _ _).drew).trans hb)))); clear hb p0 p1 p2 p3 pf0 pf1 pf2 pf3 plt; obtain ⟨p0, p1, p2, p3, pf0, pf1, pf2, pf3, plt⟩ := RB.out.2))
      all_goals try go_wp2_with fail
      have Z := ((((RB.out.2).set0 (.int .i64 0)).set1 (.string ⟨#[]⟩)).set2 (.int .i64 0)).set3 (.int .i64 0)
      obtain ⟨zc0, zc1, zc2, zc3, _, _, _, _, _⟩ := Z
      exact bodyPost_ret (v := .tuple #[.agg #[.int .i64 0, .string ⟨#[]⟩, .int .i64 0, .int .i64 0], .int .i64 0, .int .i64 3]) (by simp [results, Tryz.results8, go_sem, zc0, zc1, zc2, zc3]) rfl ⟨by rw [E.out, nv]; rfl, (((RB.out.1.setCell (p := ⟨w.heap.size, 0, none⟩) (Nat.le_refl _) _).setCell (p := ⟨w.heap.size, 1, none⟩) (Nat.le_refl _) _).setCell (p := ⟨w.heap.size, 2, none⟩) (Nat.le_refl _) _).setCell (p := ⟨w.heap.size, 3, none⟩) (Nat.le_refl _) _⟩
    · have d58 : ((x : Int) == 58) = false := by rw [beq_eq_false_iff_ne]; omega
      have h58 : ¬ (bs9 s)[n]? = some 58 := by rw [hxs]; intro e; exact k58 (Option.some.inj e)
      clear k58 hxs
      cases b with
      | true =>
        have E : Hid (r = .inr (8, bs9 Y, n)) := by show _ = _; rw [E0.out, if_neg h58]; rfl
        clear h58
        go_enter Tryz.func8, Tryz.ntmps8
        have RB : Hid (Rz w (w.alloc (.cells #[.int .i64 0, .string ⟨#[]⟩, .int .i64 0, .int .i64 0] 34))) := Rbx.new _ _ _ _ _ _
        go_wp2_with fail
        refine (dg12 DG.out _).mono ?_; rintro e w4 ⟨rfl, hw⟩; obtain rfl := hw.symm
        go_wp2_with fail
        refine (up12 U.out _).mono ?_; rintro e w4 ⟨rfl, hw⟩; obtain rfl := hw.symm
        go_wp2_with fail
        refine (lw12 LW.out _).mono ?_; rintro e w4 ⟨rfl, hw⟩; obtain rfl := hw.symm
        go_wp2_with fail
        refine (run12 HQ.out hs6 (by decide) _).mono ?_; rintro e w4 ⟨rfl, hw⟩; obtain rfl := hw.symm
        go_wp2_with fail
        obtain ⟨p0, p1, p2, p3, pf0, pf1, pf2, pf3, plt⟩ := RB.out.2
        go_region_with (first | (go_at_call 38; refine (refkey_is HKB.out mY _).mono ?_; rintro e w4 ⟨rfl, hw⟩; obtain rfl := hw.symm) | (go_at_call 29; refine (token_ok 8 Y n _).mono ?_; rintro e w4 ⟨rfl, hb⟩; (first | (replace RB := Lib.hid (RB.out.on hb)) | (replace RB := Lib.hid (RB.out.on (((Below.refl _ _).drew).trans hb)))); clear hb p0 p1 p2 p3 pf0 pf1 pf2 pf3 plt; obtain ⟨p0, p1, p2, p3, pf0, pf1, pf2, pf3, plt⟩ := RB.out.2))
        all_goals try go_wp2_with fail
        have Z := ((((RB.out.2).set0 (.int .i64 8)).set1 (.string Y)).set2 (.int .i64 0)).set3 (.int .i64 0)
        obtain ⟨zc0, zc1, zc2, zc3, _, _, _, _, _⟩ := Z
        exact bodyPost_ret (v := .tuple #[.agg #[.int .i64 8, .string Y, .int .i64 0, .int .i64 0], .int .i64 (n : Int), .int .i64 0]) (by simp [results, Tryz.results8, go_sem, zc0, zc1, zc2, zc3]) rfl ⟨by rw [E.out, nv, st9_bs9]; rfl, (((RB.out.1.setCell (p := ⟨w.heap.size, 0, none⟩) (Nat.le_refl _) _).setCell (p := ⟨w.heap.size, 1, none⟩) (Nat.le_refl _) _).setCell (p := ⟨w.heap.size, 2, none⟩) (Nat.le_refl _) _).setCell (p := ⟨w.heap.size, 3, none⟩) (Nat.le_refl _) _⟩
      | false =>
        have E : Hid (r = .inl 3) := by show _ = _; rw [E0.out, if_neg h58]; rfl
        clear h58
        go_enter Tryz.func8, Tryz.ntmps8
        have RB : Hid (Rz w (w.alloc (.cells #[.int .i64 0, .string ⟨#[]⟩, .int .i64 0, .int .i64 0] 34))) := Rbx.new _ _ _ _ _ _
        go_wp2_with fail
        refine (dg12 DG.out _).mono ?_; rintro e w4 ⟨rfl, hw⟩; obtain rfl := hw.symm
        go_wp2_with fail
        refine (up12 U.out _).mono ?_; rintro e w4 ⟨rfl, hw⟩; obtain rfl := hw.symm
        go_wp2_with fail
        refine (lw12 LW.out _).mono ?_; rintro e w4 ⟨rfl, hw⟩; obtain rfl := hw.symm
        go_wp2_with fail
        refine (run12 HQ.out hs6 (by decide) _).mono ?_; rintro e w4 ⟨rfl, hw⟩; obtain rfl := hw.symm
        go_wp2_with fail
        obtain ⟨p0, p1, p2, p3, pf0, pf1, pf2, pf3, plt⟩ := RB.out.2
        go_region_with (first | (go_at_call 38; refine (refkey_is HKB.out mY _).mono ?_; rintro e w4 ⟨rfl, hw⟩; obtain rfl := hw.symm) | (go_at_call 29; refine (token_no 8 Y n _).mono ?_; rintro e w4 ⟨rfl, hb⟩; (first | (replace RB := Lib.hid (RB.out.on hb)) | (replace RB := Lib.hid (RB.out.on (((Below.refl _ _).drew).trans hb)))); clear hb p0 p1 p2 p3 pf0 pf1 pf2 pf3 plt; obtain ⟨p0, p1, p2, p3, pf0, pf1, pf2, pf3, plt⟩ := RB.out.2))
        all_goals try go_wp2_with fail
        have Z := ((((RB.out.2).set0 (.int .i64 0)).set1 (.string ⟨#[]⟩)).set2 (.int .i64 0)).set3 (.int .i64 0)
        obtain ⟨zc0, zc1, zc2, zc3, _, _, _, _, _⟩ := Z
        exact bodyPost_ret (v := .tuple #[.agg #[.int .i64 0, .string ⟨#[]⟩, .int .i64 0, .int .i64 0], .int .i64 0, .int .i64 3]) (by simp [results, Tryz.results8, go_sem, zc0, zc1, zc2, zc3]) rfl ⟨by rw [E.out, nv]; rfl, (((RB.out.1.setCell (p := ⟨w.heap.size, 0, none⟩) (Nat.le_refl _) _).setCell (p := ⟨w.heap.size, 1, none⟩) (Nat.le_refl _) _).setCell (p := ⟨w.heap.size, 2, none⟩) (Nat.le_refl _) _).setCell (p := ⟨w.heap.size, 3, none⟩) (Nat.le_refl _) _⟩
  · have dl : decide ((n : Int) < (s.size : Int)) = false := decide_eq_false (by omega)
    have dl' : decide (n < s.size) = false := decide_eq_false (by omega)
    have h58 : ¬ (bs9 s)[n]? = some 58 := by rw [List.getElem?_eq_none (by rw [bs9_len]; exact hge)]; intro e; cases e
    cases b with
    | true =>
      have E : Hid (r = .inr (8, bs9 Y, n)) := by show _ = _; rw [E0.out, if_neg h58]; rfl
      clear h58
      go_enter Tryz.func8, Tryz.ntmps8
      have RB : Hid (Rz w (w.alloc (.cells #[.int .i64 0, .string ⟨#[]⟩, .int .i64 0, .int .i64 0] 34))) := Rbx.new _ _ _ _ _ _
      go_wp2_with fail
      refine (dg12 DG.out _).mono ?_; rintro e w4 ⟨rfl, hw⟩; obtain rfl := hw.symm
      go_wp2_with fail
      refine (up12 U.out _).mono ?_; rintro e w4 ⟨rfl, hw⟩; obtain rfl := hw.symm
      go_wp2_with fail
      refine (lw12 LW.out _).mono ?_; rintro e w4 ⟨rfl, hw⟩; obtain rfl := hw.symm
      go_wp2_with fail
      refine (run12 HQ.out hs6 (by decide) _).mono ?_; rintro e w4 ⟨rfl, hw⟩; obtain rfl := hw.symm
      go_wp2_with fail
      obtain ⟨p0, p1, p2, p3, pf0, pf1, pf2, pf3, plt⟩ := RB.out.2
      go_region_with (first | (go_at_call 38; refine (refkey_is HKB.out mY _).mono ?_; rintro e w4 ⟨rfl, hw⟩; obtain rfl := hw.symm) | (go_at_call 29; refine (token_ok 8 Y n _).mono ?_; rintro e w4 ⟨rfl, hb⟩; (first | (replace RB := Lib.hid (RB.out.on hb)) | (replace RB := Lib.hid (RB.out.on (((Below.refl _ _).drew).trans hb)))); clear hb p0 p1 p2 p3 pf0 pf1 pf2 pf3 plt; obtain ⟨p0, p1, p2, p3, pf0, pf1, pf2, pf3, plt⟩ := RB.out.2))
      all_goals try go_wp2_with fail
      have Z := ((((RB.out.2).set0 (.int .i64 8)).set1 (.string Y)).set2 (.int .i64 0)).set3 (.int .i64 0)
      obtain ⟨zc0, zc1, zc2, zc3, _, _, _, _, _⟩ := Z
      exact bodyPost_ret (v := .tuple #[.agg #[.int .i64 8, .string Y, .int .i64 0, .int .i64 0], .int .i64 (n : Int), .int .i64 0]) (by simp [results, Tryz.results8, go_sem, zc0, zc1, zc2, zc3]) rfl ⟨by rw [E.out, nv, st9_bs9]; rfl, (((RB.out.1.setCell (p := ⟨w.heap.size, 0, none⟩) (Nat.le_refl _) _).setCell (p := ⟨w.heap.size, 1, none⟩) (Nat.le_refl _) _).setCell (p := ⟨w.heap.size, 2, none⟩) (Nat.le_refl _) _).setCell (p := ⟨w.heap.size, 3, none⟩) (Nat.le_refl _) _⟩
    | false =>
      have E : Hid (r = .inl 3) := by show _ = _; rw [E0.out, if_neg h58]; rfl
      clear h58
      go_enter Tryz.func8, Tryz.ntmps8
      have RB : Hid (Rz w (w.alloc (.cells #[.int .i64 0, .string ⟨#[]⟩, .int .i64 0, .int .i64 0] 34))) := Rbx.new _ _ _ _ _ _
      go_wp2_with fail
      refine (dg12 DG.out _).mono ?_; rintro e w4 ⟨rfl, hw⟩; obtain rfl := hw.symm
      go_wp2_with fail
      refine (up12 U.out _).mono ?_; rintro e w4 ⟨rfl, hw⟩; obtain rfl := hw.symm
      go_wp2_with fail
      refine (lw12 LW.out _).mono ?_; rintro e w4 ⟨rfl, hw⟩; obtain rfl := hw.symm
      go_wp2_with fail
      refine (run12 HQ.out hs6 (by decide) _).mono ?_; rintro e w4 ⟨rfl, hw⟩; obtain rfl := hw.symm
      go_wp2_with fail
      obtain ⟨p0, p1, p2, p3, pf0, pf1, pf2, pf3, plt⟩ := RB.out.2
      go_region_with (first | (go_at_call 38; refine (refkey_is HKB.out mY _).mono ?_; rintro e w4 ⟨rfl, hw⟩; obtain rfl := hw.symm) | (go_at_call 29; refine (token_no 8 Y n _).mono ?_; rintro e w4 ⟨rfl, hb⟩; (first | (replace RB := Lib.hid (RB.out.on hb)) | (replace RB := Lib.hid (RB.out.on (((Below.refl _ _).drew).trans hb)))); clear hb p0 p1 p2 p3 pf0 pf1 pf2 pf3 plt; obtain ⟨p0, p1, p2, p3, pf0, pf1, pf2, pf3, plt⟩ := RB.out.2))
      all_goals try go_wp2_with fail
      have Z := ((((RB.out.2).set0 (.int .i64 0)).set1 (.string ⟨#[]⟩)).set2 (.int .i64 0)).set3 (.int .i64 0)
      obtain ⟨zc0, zc1, zc2, zc3, _, _, _, _, _⟩ := Z
      exact bodyPost_ret (v := .tuple #[.agg #[.int .i64 0, .string ⟨#[]⟩, .int .i64 0, .int .i64 0], .int .i64 0, .int .i64 3]) (by simp [results, Tryz.results8, go_sem, zc0, zc1, zc2, zc3]) rfl ⟨by rw [E.out, nv]; rfl, (((RB.out.1.setCell (p := ⟨w.heap.size, 0, none⟩) (Nat.le_refl _) _).setCell (p := ⟨w.heap.size, 1, none⟩) (Nat.le_refl _) _).setCell (p := ⟨w.heap.size, 2, none⟩) (Nat.le_refl _) _).setCell (p := ⟨w.heap.size, 3, none⟩) (Nat.le_refl _) _⟩

theorem next12 {D N : List Nat → Bool} {ok : World → Prop} (hk : Okw ok) (h8 : P08 D ok) (h7 : P07 N ok) (s : ByteArray) (hs : s.size ≤ 1000) (w : World) (hok : ok w) : Calls Tryz.prog 8 #[.string s] w (Ret9 w (nv (nxt D N (bs9 s)))) := by
  rcases Nat.eq_zero_or_pos s.size with h0 | h0
  · exact next_none hk h8 h7 h0 hs w hok
  · obtain ⟨c, hc⟩ : ∃ c, (s[0]'h0).toNat = c := ⟨_, rfl⟩
    by_cases k1 : c = 34
    · exact next_text hk h8 h7 h0 hc k1 hs w hok
    by_cases k2 : c = 35 ∨ c = 94
    · exact next_tag hk h8 h7 h0 hc k2 hs w hok
    cases k3 : dgB c with
    | true => exact next_digit hk h8 h7 h0 hc k3 hs w hok
    | false =>
      cases k4 : upB c with
      | true => exact next_upper hk h8 h7 h0 hc k4 hs w hok
      | false =>
        cases k5 : lwB c with
        | true => exact next_lower hk h8 h7 h0 hc k5 hs w hok
        | false => exact next_sign hk h8 h7 h0 hc k1 k2 k3 k4 k5 hs w hok

end Go.Proofs.YtjkandnbjbfeiaaGreatDoor

/-
  Contracts of layer 12: the document's Text.
-/
namespace Go.Proofs.YtjkandnbjbfeiaaGreatDoor
open Go.RowKit

set_option maxHeartbeats 4000000 in
set_option maxRecDepth 100000 in
theorem reftext_is {k : Nat} {X Y : ByteArray} (h : txt k (bs9 X) = bs9 Y) (hX : X.size ≤ 1000000) (l c : Int) (w : World) : Calls Tryz.prog 13 #[.agg #[.int .i64 (k : Int), .string X, .int .i64 l, .int .i64 c]] w (Ret9 w (.string Y)) := by
  have H := Lib.hid h
  clear h
  have HB : Hid (Below w.heap.size w (w.alloc (.cells #[.int .i64 (k : Int), .string X, .int .i64 l, .int .i64 c] 34))) := (Below.refl _ _).alloc (Nat.le_refl _) _
  by_cases k5 : k = 5
  · have d5 : ((k : Int) == 5) = true := by rw [k5]; rfl
    have E : Hid (qt (bs9 X) = bs9 Y) := by show _ = _; rw [← H.out, k5]; rfl
    clear k5
    go_enter Tryz.func13, Tryz.ntmps13
    go_wp2_with fail
    refine (refquote_is E.out hX _).mono ?_; rintro e w4 ⟨rfl, hw⟩; obtain rfl := hw.symm
    go_wp2_with fail
    go_ret
    exact ⟨rfl, HB.out⟩
  have d5 : ((k : Int) == 5) = false := by rw [beq_eq_false_iff_ne]; omega
  by_cases k6 : k = 6
  · have d6 : ((k : Int) == 6) = true := by rw [k6]; rfl
    have E : Hid (35 :: bs9 X = bs9 Y) := by show _ = _; rw [← H.out, k6]; rfl
    have hadd : ∀ w, (Op.stringOp .add ⟨#[35]⟩ X).run Tryz.prog w = .ok (.string Y) w := fun w => add9 (by rw [← E.out]; rfl) (by show 1 + X.size ≤ _; omega) w
    clear k6
    go_enter Tryz.func13, Tryz.ntmps13
    go_wp2_with fail
    go_ret
    exact ⟨rfl, HB.out⟩
  have d6 : ((k : Int) == 6) = false := by rw [beq_eq_false_iff_ne]; omega
  by_cases k7 : k = 7
  · have d7 : ((k : Int) == 7) = true := by rw [k7]; rfl
    have E : Hid (94 :: bs9 X = bs9 Y) := by show _ = _; rw [← H.out, k7]; rfl
    have hadd : ∀ w, (Op.stringOp .add ⟨#[94]⟩ X).run Tryz.prog w = .ok (.string Y) w := fun w => add9 (by rw [← E.out]; rfl) (by show 1 + X.size ≤ _; omega) w
    clear k7
    go_enter Tryz.func13, Tryz.ntmps13
    go_wp2_with fail
    go_ret
    exact ⟨rfl, HB.out⟩
  have d7 : ((k : Int) == 7) = false := by rw [beq_eq_false_iff_ne]; omega
  by_cases k9 : k = 9
  · have d9 : ((k : Int) == 9) = true := by rw [k9]; rfl
    have E : Hid (bs9 X ++ [58] = bs9 Y) := by show _ = _; rw [← H.out, k9]; rfl
    have hadd : ∀ w, (Op.stringOp .add X ⟨#[58]⟩).run Tryz.prog w = .ok (.string Y) w := fun w => add9 (by rw [← E.out]; rfl) (by show X.size + 1 ≤ _; omega) w
    clear k9
    go_enter Tryz.func13, Tryz.ntmps13
    go_wp2_with fail
    go_ret
    exact ⟨rfl, HB.out⟩
  have d9 : ((k : Int) == 9) = false := by rw [beq_eq_false_iff_ne]; omega
  have E : Hid (X = Y) := bs9_inj (by rw [← H.out]; unfold txt; rw [if_neg k5, if_neg k6, if_neg k7, if_neg k9])
  clear k5 k6 k7 k9
  go_enter Tryz.func13, Tryz.ntmps13
  go_wp2_with fail
  go_ret
  exact ⟨by rw [← E.out]; rfl, HB.out⟩

end Go.Proofs.YtjkandnbjbfeiaaGreatDoor

/-
  Contracts of layer 12: rows of words in memory; the document's Words.
-/
namespace Go.Proofs.YtjkandnbjbfeiaaGreatDoor
open Go.RowKit

theorem tk_lt {k n k' n' : Nat} {x y : List Nat} {g : Bool} (h : tkn k' y n' g = .inr (k, x, n)) (hy : ∀ c ∈ y, c < 256) : ∀ c ∈ x, c < 256 := by
  obtain ⟨_, hp⟩ := tkn_ok h
  cases hp
  exact hy
theorem nxt_lt {D N : List Nat → Bool} {l : List Nat} {k n : Nat} {x : List Nat} (h : nxt D N l = .inr (k, x, n)) (hl : ∀ c ∈ l, c < 256) : ∀ c ∈ x, c < 256 := by
  cases l with
  | nil => rw [nxt] at h; cases h
  | cons c t =>
    have ht : ∀ {m : Nat}, ∀ d ∈ t.take m, d < 256 := fun d hd => hl d (List.mem_cons_of_mem _ (List.mem_of_mem_take hd))
    have hc : ∀ {m : Nat}, ∀ d ∈ (c :: t).take m, d < 256 := fun d hd => hl d (List.mem_of_mem_take hd)
    rw [nxt] at h
    split at h
    · cases hq : uqg t with
      | inl y => rw [hq] at h; cases h
      | inr p =>
        obtain ⟨o, m⟩ := p
        rw [hq] at h
        cases h
        exact uqg_lt _ (Nat.le_refl _) hq (fun d hd => hl d (List.mem_cons_of_mem _ hd))
    split at h
    · exact tk_lt h ht
    split at h
    · unfold num12 at h
      split at h
      · cases h; exact hc
      · exact tk_lt h hc
    split at h
    · unfold acc12 at h
      split at h
      · cases h; exact hc
      · exact tk_lt h hc
    split at h
    · unfold key12 at h
      split at h
      · exact tk_lt h hc
      · exact tk_lt h hc
    · exact tk_lt h hc
theorem next_ok {D N : List Nat → Bool} {ok : World → Prop} (hk : Okw ok) (h8 : P08 D ok) (h7 : P07 N ok) {s Y : ByteArray} {k n : Nat} (h : nxt D N (bs9 s) = .inr (k, bs9 Y, n)) (hs : s.size ≤ 1000) (w : World) (hok : ok w) : Calls Tryz.prog 8 #[.string s] w (Ret9 w (.tuple #[.agg #[.int .i64 (k : Int), .string Y, .int .i64 0, .int .i64 0], .int .i64 (n : Int), .int .i64 0])) := by
  have := next12 hk h8 h7 s hs w hok
  rw [h, nv, tkv, st9_bs9] at this
  exact this
theorem next_no {D N : List Nat → Bool} {ok : World → Prop} (hk : Okw ok) (h8 : P08 D ok) (h7 : P07 N ok) {s : ByteArray} {e : Nat} (h : nxt D N (bs9 s) = .inl e) (hs : s.size ≤ 1000) (w : World) (hok : ok w) : Calls Tryz.prog 8 #[.string s] w (Ret9 w (.tuple #[.agg #[.int .i64 0, .string ⟨#[]⟩, .int .i64 0, .int .i64 0], .int .i64 0, .int .i64 (e : Int)])) := by
  have := next12 hk h8 h7 s hs w hok
  rw [h, nv, tkv] at this
  exact this

/-- Words as cells. -/
def rowT (no : Int) : List Wd → List Value
  | [] => []
  | t :: L => .int .i64 (t.1 : Int) :: .string (st9 t.2.1) :: .int .i64 no :: .int .i64 (t.2.2 : Int) :: rowT no L
theorem rowT_len (no : Int) : ∀ L : List Wd, (rowT no L).length = L.length * 4
  | [] => rfl
  | t :: L => by rw [rowT]; simp only [List.length_cons]; rw [rowT_len no L]; omega
theorem rowT_push (no : Int) : ∀ (L : List Wd) (t : Wd), rowT no (L ++ [t]) = rowT no L ++ [.int .i64 (t.1 : Int), .string (st9 t.2.1), .int .i64 no, .int .i64 (t.2.2 : Int)]
  | [], _ => rfl
  | u :: L, t => by rw [List.cons_append, rowT, rowT_push no L t, rowT]; rfl
theorem rowT_get (no : Int) : ∀ (L : List Wd) (j : Nat) (t : Wd), L[j]? = some t → (rowT no L)[j * 4]? = some (.int .i64 (t.1 : Int)) ∧ (rowT no L)[j * 4 + 1]? = some (.string (st9 t.2.1)) ∧ (rowT no L)[j * 4 + 2]? = some (.int .i64 no) ∧ (rowT no L)[j * 4 + 3]? = some (.int .i64 (t.2.2 : Int))
  | [], _, _, h => by cases h
  | u :: L, 0, t, h => by obtain rfl : u = t := Option.some.inj h; exact ⟨rfl, rfl, rfl, rfl⟩
  | u :: L, j + 1, t, h => by
    have := rowT_get no L j t h
    rw [show (j + 1) * 4 = j * 4 + 1 + 1 + 1 + 1 by omega, rowT]
    simpa only [List.getElem?_cons_succ] using this
theorem info_tok : (Tryz.prog.info? 34).map (fun i => (i.zero, i.size, i.bytes)) = some (some (.agg #[.int .i64 0, .string ⟨#[]⟩, .int .i64 0, .int .i64 0]), 4, 40) := by kernel_rfl
theorem zcells4 : (Value.agg #[.int .i64 0, .string ⟨#[]⟩, .int .i64 0, .int .i64 0]).cells.size = 4 := by simp [Value.cells]
/-- A row of words in memory of the call's own. -/
def OwnT (w : World) (base : Nat) (v : Value) (no : Int) (L : List Wd) : Prop := w.ownsRow base 34 4 v L.length (rowT no L)
/-- A row of words that is read. -/
def RdT (w : World) (A : Option Addr) (n c : Nat) (no : Int) (L : List Wd) : Prop := n = L.length ∧ n ≤ c ∧ c ≤ maxLen ∧ (L = [] ∨ ∃ b o, A = some ⟨b, o, none⟩ ∧ b < w.heap.size ∧ ∀ j u, (rowT no L)[j]? = some u → w.cell? ⟨b, o + j, none⟩ = some u)
section
variable {w w' : World} {base : Nat} {v : Value} {no : Int} {L : List Wd}
theorem OwnT.start (w : World) (base : Nat) (no : Int) : OwnT w base (.slice none 0 0) no [] := World.ownsRow_nil _ _ _ _
theorem OwnT.on (h : OwnT w base v no L) (hb : Below w.heap.size w w') : OwnT w' base v no L := World.ownsRow.kept h (grown10 hb) (by cases hv : v.ownBlock <;> simp)
theorem OwnT.slen (h : OwnT w base v no L) : ∃ A c, v = .slice A L.length c := by
  rcases h.2 with ⟨rfl, h0⟩ | ⟨g, cap, cur, rfl, _⟩
  · have : L = [] := List.eq_nil_of_length_eq_zero h0
    subst this
    exact ⟨none, 0, rfl⟩
  · exact ⟨_, _, rfl⟩
theorem RdT.on {A : Option Addr} {n c : Nat} (h : RdT w A n c no L) (hb : Below w.heap.size w w') : RdT w' A n c no L := by
  obtain ⟨h1, h2, h3, h | ⟨b, o, h4, h5, h6⟩⟩ := h
  · exact ⟨h1, h2, h3, .inl h⟩
  · exact ⟨h1, h2, h3, .inr ⟨b, o, h4, Nat.lt_of_lt_of_le h5 hb.size, fun j u hu => (hb.cell (p := ⟨b, o + j, none⟩) h5).trans (h6 j u hu)⟩⟩
theorem OwnT.rd (h : OwnT w base v no L) : ∃ A c, v = .slice A L.length c ∧ RdT w A L.length c no L := by
  have hlt := World.ownsRow.lt h
  have hc := fun g e => World.ownsRow.cells h (g := g) e
  rcases h.2 with ⟨rfl, h0⟩ | ⟨g, cap, cur, rfl, hb, hg, h3, h4, _⟩
  · have : L = [] := List.eq_nil_of_length_eq_zero h0
    subst this
    exact ⟨none, 0, rfl, rfl, Nat.le_refl _, Nat.zero_le _, .inl rfl⟩
  · refine ⟨_, _, rfl, rfl, h3, h4, .inr ⟨g, 0, rfl, (hlt g rfl).2, fun j u hu => ?_⟩⟩
    have := hc g rfl j u hu
    rwa [Addr.add_lit] at this
theorem belowT {w0 w w' : World} {v : Value} {no : Int} {l : List Wd} (h : Below w0.heap.size w0 w) (ho : OwnT w w0.heap.size v no l) (hg : w.grownBy w' v.ownBlock) : Below w0.heap.size w0 w' :=
  h.grown hg h.size (fun g e => (World.ownsRow.lt ho g e).1)
end
theorem tok_new (v : World) (x0 x1 x2 x3 : Value) (ty : TypeId) {g : Nat} (hg : g = v.heap.size) : ∀ j u, ([x0, x1, x2, x3] : List Value)[j]? = some u → (v.alloc (.cells #[x0, x1, x2, x3] ty)).cell? ((⟨g, 0, none⟩ : Addr).add j) = some u := by
  intro j u hu
  subst hg
  rw [Addr.add_lit, cell_of_row _ v.heap.size _ _ ty (0, 0) (heap_alloc_new v _), Nat.zero_add, ← Array.getElem?_toList]
  simpa using hu
/-- A block of three cells, none of them frozen. -/
structure Bx3 (v : World) (g : Nat) (x0 x1 x2 : Value) : Prop where
  c0 : v.cell? ⟨g, 0, none⟩ = some x0
  c1 : v.cell? ⟨g, 1, none⟩ = some x1
  c2 : v.cell? ⟨g, 2, none⟩ = some x2
  f0 : v.frozen? ⟨g, 0, none⟩ = false
  f1 : v.frozen? ⟨g, 1, none⟩ = false
  f2 : v.frozen? ⟨g, 2, none⟩ = false
  lt : g < v.heap.size
theorem Bx3.newAt {g : Nat} (v : World) (x0 x1 x2 : Value) (t : TypeId) (h : g = v.heap.size) : Bx3 (v.alloc (.cells #[x0, x1, x2] t)) g x0 x1 x2 := by
  subst h; exact ⟨by simp, by simp, by simp, by simp, by simp, by simp, by simp⟩
theorem Bx3.below {v v' : World} {g B : Nat} {x0 x1 x2 : Value} (h : Bx3 v g x0 x1 x2) (hb : Below B v v') (hg : g < B) : Bx3 v' g x0 x1 x2 :=
  ⟨(hb.cell (p := ⟨g, 0, none⟩) hg).trans h.c0, (hb.cell (p := ⟨g, 1, none⟩) hg).trans h.c1, (hb.cell (p := ⟨g, 2, none⟩) hg).trans h.c2,
   (hb.frozen (p := ⟨g, 0, none⟩) hg).trans h.f0, (hb.frozen (p := ⟨g, 1, none⟩) hg).trans h.f1, (hb.frozen (p := ⟨g, 2, none⟩) hg).trans h.f2, Nat.lt_of_lt_of_le h.lt hb.size⟩
theorem Bx3.on {v v' : World} {g : Nat} {x0 x1 x2 : Value} (h : Bx3 v g x0 x1 x2) (hb : Below v.heap.size v v') : Bx3 v' g x0 x1 x2 := h.below hb h.lt
theorem Bx3.set0 {v : World} {g : Nat} {x0 x1 x2 : Value} (h : Bx3 v g x0 x1 x2) (y : Value) : Bx3 (v.setCell ⟨g, 0, none⟩ y) g y x1 x2 :=
  ⟨World.cell?_setCell_same _ _ _ h.c0, (World.cell?_setCell_other _ _ _ _ (by simp)).trans h.c1, (World.cell?_setCell_other _ _ _ _ (by simp)).trans h.c2, by rw [World.frozen?_setCell]; exact h.f0, by rw [World.frozen?_setCell]; exact h.f1, by rw [World.frozen?_setCell]; exact h.f2, by have := h.lt; simpa using this⟩
theorem Bx3.set1 {v : World} {g : Nat} {x0 x1 x2 : Value} (h : Bx3 v g x0 x1 x2) (y : Value) : Bx3 (v.setCell ⟨g, 1, none⟩ y) g x0 y x2 :=
  ⟨(World.cell?_setCell_other _ _ _ _ (by simp)).trans h.c0, World.cell?_setCell_same _ _ _ h.c1, (World.cell?_setCell_other _ _ _ _ (by simp)).trans h.c2, by rw [World.frozen?_setCell]; exact h.f0, by rw [World.frozen?_setCell]; exact h.f1, by rw [World.frozen?_setCell]; exact h.f2, by have := h.lt; simpa using this⟩
theorem Bx3.set2 {v : World} {g : Nat} {x0 x1 x2 : Value} (h : Bx3 v g x0 x1 x2) (y : Value) : Bx3 (v.setCell ⟨g, 2, none⟩ y) g x0 x1 y :=
  ⟨(World.cell?_setCell_other _ _ _ _ (by simp)).trans h.c0, (World.cell?_setCell_other _ _ _ _ (by simp)).trans h.c1, World.cell?_setCell_same _ _ _ h.c2, by rw [World.frozen?_setCell]; exact h.f0, by rw [World.frozen?_setCell]; exact h.f1, by rw [World.frozen?_setCell]; exact h.f2, by have := h.lt; simpa using this⟩
/-- What stands in memory while a line is gone through: the line, the fault's box. -/
def Mw (w W : World) (no : Int) (s : ByteArray) : Prop := Below w.heap.size w W ∧ Bx2 W w.heap.size (.int .i64 no) (.string s) ∧ Bx3 W (w.heap.size + 1) (.int .i64 0) (.int .i64 0) (.int .i64 0)
theorem Mw.below {w W W' : World} {no : Int} {s : ByteArray} {B : Nat} (h : Mw w W no s) (hb : Below B W W') (hB : w.heap.size + 2 ≤ B) : Mw w W' no s :=
  ⟨h.1.trans (hb.mono (by omega)), h.2.1.below hb (by omega), h.2.2.below hb (by omega)⟩
theorem Mw.lt {w W : World} {no : Int} {s : ByteArray} (h : Mw w W no s) : w.heap.size + 2 ≤ W.heap.size := h.2.2.lt
theorem Mw.on {w W W' : World} {no : Int} {s : ByteArray} (h : Mw w W no s) (hb : Below W.heap.size W W') : Mw w W' no s := h.below hb h.lt
/-- Words ahead of what is left. -/
def appW (ts : List Wd) : (Nat × Nat) ⊕ List Wd → (Nat × Nat) ⊕ List Wd
  | .inl p => .inl p
  | .inr r => .inr (ts ++ r)
theorem appW_cons (ts : List Wd) (t : Wd) (r : (Nat × Nat) ⊕ List Wd) : appW ts (consW t r) = appW (ts ++ [t]) r := by
  cases r with
  | inl p => rfl
  | inr r => show Sum.inr (ts ++ t :: r) = Sum.inr (ts ++ [t] ++ r); rw [List.append_assoc]; rfl
theorem appW_nil (r : (Nat × Nat) ⊕ List Wd) : appW [] r = r := by cases r <;> rfl
/-- What Words hands back. -/
def RetW (W : World) (no : Int) : (Nat × Nat) ⊕ List Wd → Ending → World → Prop
  | .inl (c, x), e, w' => e = .returned (.tuple #[.slice none 0 0, .agg #[.int .i64 no, .int .i64 (c : Int), .int .i64 (x : Int)]]) ∧ Below W.heap.size W w'
  | .inr ts, e, w' => (∃ A c, e = .returned (.tuple #[.slice A ts.length c, .agg #[.int .i64 0, .int .i64 0, .int .i64 0]]) ∧ RdT w' A ts.length c no ts) ∧ Below W.heap.size W w'

set_option maxHeartbeats 8000000 in
set_option maxRecDepth 100000 in
theorem words12 {D N : List Nat → Bool} {ok : World → Prop} (hk : Okw ok) (hD : DayOk D) (h8 : P08 D ok) (h7 : P07 N ok) (no : Int) (s : ByteArray) (hs : s.size ≤ 1000) (w : World) (hok : ok w) : Calls Tryz.prog 6 #[.agg #[.int .i64 no, .string s]] w (RetW w no (WD D N 0 (bs9 s))) := by
  obtain ⟨i0, hi0, hz0, hz1, hz2⟩ := info_parts11 info_tok
  have H8 := Lib.hid h8
  have H7 := Lib.hid h7
  have HDY := Lib.hid hD
  have HK : Hid (Okw ok) := hk
  have OK : Hid (∀ {W : World}, Below w.heap.size w W → ok W) := fun hb => hk hok hb
  obtain ⟨G, hG⟩ : ∃ G, WD D N 0 (bs9 s) = G := ⟨_, rfl⟩
  rw [hG]
  have HG := Lib.hid hG
  have hs6 : s.size ≤ 1000000 := by omega
  have HL : Hid ((bs9 s).length = s.size) := bs9_len s
  obtain ⟨a0, ha0⟩ : ∃ a, indl (bs9 s) = a := ⟨_, rfl⟩
  have HA0 := Lib.hid ha0
  have ha0s : a0 ≤ s.size := by have := indl_le (bs9 s); rw [ha0, bs9_len] at this; exact this
  clear hG hD h8 h7 ha0 hk hok
  go_enter Tryz.func6, Tryz.ntmps6
  go_wp2_with fail
  generalize hW0 : World.alloc (World.alloc w _) _ = W0
  have MW : Hid (Mw w W0 no s) := by
    show Mw _ _ _ _
    rw [← hW0]
    exact ⟨((Below.refl _ _).alloc (Nat.le_refl _) _).alloc (by simp) _, (Bx2.newAt _ _ _ _ rfl).on ((Below.refl _ _).alloc (Nat.le_refl _) _), Bx3.newAt _ _ _ _ _ (by simp)⟩
  clear hW0
  refine (refindent_any s _ hs6).mono ?_; rintro e w1 ⟨rfl, hb⟩
  replace MW := Lib.hid (MW.out.on hb)
  rw [HA0.out]
  clear hb
  go_wp2_with fail
  go_loopw [4, 5] (fun ov av wr => ∃ (p a : Nat) (ts : List Wd), av = .int .i64 a ∧ p ≤ s.size ∧ a = p + indl ((bs9 s).drop p) ∧ a ≤ s.size ∧ OwnT wr (w.heap.size + 2) ov no ts ∧ G = appW ts (WD D N p ((bs9 s).drop p)) ∧ ts.length ≤ p ∧ Mw w wr no s) (fun _ av _ => s.size - (intOf av).toNat)
  case atStart => exact ⟨0, a0, [], rfl, Nat.zero_le _, by rw [Nat.zero_add]; exact HA0.out.symm, ha0s, OwnT.start _ _ _, by rw [appW_nil]; exact HG.out.symm, Nat.zero_le _, MW.out⟩
  case round =>
    obtain ⟨p, a, ts, rfl, hp, ha, has, hown, hgo, htl, hmw⟩ := hrel
    clear MW HG
    have MW := Lib.hid hmw
    have OW := Lib.hid hown
    have GO := Lib.hid hgo
    have HA := Lib.hid ha
    obtain ⟨A2, c2, hmv⟩ := OW.out.slen
    subst hmv
    clear hown hgo ha hmw
    have DR : Hid (((bs9 s).drop p).drop (indl ((bs9 s).drop p)) = (bs9 s).drop a) := by show _ = _; rw [List.drop_drop, ← HA.out]
    obtain ⟨q0, q1, qf0, qf1, qlt⟩ := MW.out.2.1
    obtain ⟨y0, y1, y2, yf0, yf1, yf2, ylt⟩ := MW.out.2.2
    have done : Hid (Stop12 ((bs9 s).drop a) → G = .inr ts) := fun h => by
      rw [GO.out, WD_stop (by rw [DR.out]; exact h)]
      show Sum.inr (ts ++ []) = _
      rw [List.append_nil]
    rcases Nat.lt_or_ge a s.size with hlt | hge
    · obtain ⟨x, hx⟩ : ∃ x, x = (s[a]'hlt).toNat := ⟨_, rfl⟩
      have ex : ((s[a]'hlt).toNat : Int) = (x : Int) := by rw [hx]
      have HX : Hid ((bs9 s).drop a = x :: (bs9 s).drop (a + 1)) := by show _ = _; rw [bs9_get s a hlt, hx]
      clear hx
      by_cases h59 : x = 59
      · have d59 : ((x : Int) == 59) = true := by rw [h59]; rfl
        have E := Lib.hid (done.out (.inr (by rw [HX.out, h59]; rfl)))
        clear h59
        go_wp2_with fail
        obtain ⟨A, c, hv, hr⟩ := OwnT.rd (ownsRow_setCell_below (ownsRow_setCell_below (ownsRow_setCell_below OW.out (a := ⟨w.heap.size + 1, 0, none⟩) (by simp) (.int .i64 0)) (a := ⟨w.heap.size + 1, 1, none⟩) (by simp) (.int .i64 0)) (a := ⟨w.heap.size + 1, 2, none⟩) (by simp) (.int .i64 0) : OwnT _ (w.heap.size + 2) (.slice A2 ts.length c2) no ts)
        injection hv with v1 v2 v3
        subst v1; subst v3
        have Z := ((MW.out.2.2.set0 (.int .i64 0)).set1 (.int .i64 0)).set2 (.int .i64 0)
        obtain ⟨zc0, zc1, zc2, _, _, _, _⟩ := Z
        have HBZ := Lib.hid (((MW.out.1.setCell (p := ⟨w.heap.size + 1, 0, none⟩) (by simp) (.int .i64 0)).setCell (p := ⟨w.heap.size + 1, 1, none⟩) (by simp) (.int .i64 0)).setCell (p := ⟨w.heap.size + 1, 2, none⟩) (by simp) (.int .i64 0))
        exact bodyPost_ret (v := .tuple #[.slice A2 ts.length c2, .agg #[.int .i64 0, .int .i64 0, .int .i64 0]]) (by simp [results, Tryz.results6, go_sem, zc0, zc1, zc2]) rfl (by rw [E.out]; exact ⟨⟨_, _, rfl, hr⟩, HBZ.out⟩)
      have d59 : ((x : Int) == 59) = false := by rw [beq_eq_false_iff_ne]; omega
      have NS : Hid (¬ Stop12 ((bs9 s).drop a)) := by
        rw [HX.out]
        rintro (e | e)
        · cases e
        · exact h59 (Option.some.inj e)
      clear h59
      obtain ⟨S, hS⟩ : ∃ S, s.extract a s.size = S := ⟨_, rfl⟩
      have hsl : ∀ w', (Instr.slice 9 (.string s) (some (.int .i64 (a : Int))) none none).run Tryz.prog w' = .ok (.string S) w' := sl_from has hS
      have HSB : Hid (bs9 S = (bs9 s).drop a) := by show _ = _; rw [← hS, bs9_drop]
      have mS : S.size ≤ 1000 := by rw [← hS]; simp only [ByteArray.size_extract]; omega
      obtain ⟨a1, ha1⟩ : ∃ a1, a1 = a + 1 := ⟨_, rfl⟩
      have ea : (a : Int) + 1 = (a1 : Int) := by omega
      clear hS
      cases hn : nxt D N (bs9 S) with
      | inl e0 =>
        have NE := Lib.hid hn
        have he0 := nxt_err hn
        have de : ((e0 : Int) != 0) = true := by rw [bne_iff_ne]; omega
        have E : Hid (G = .inl (a1, e0)) := by
          show _ = _
          rw [GO.out, WD_err (e := e0) (by rw [DR.out]; exact NS.out) (by rw [DR.out, ← HSB.out]; exact hn)]
          show Sum.inl (p + indl ((bs9 s).drop p) + 1, e0) = _
          rw [← HA.out, ha1]
        clear hn he0 ha1
        go_wp2_with fail
        refine (next_no HK.out H8.out H7.out NE.out mS _ (OK.out MW.out.1)).mono ?_; rintro e w2 ⟨rfl, hb⟩
        replace MW := Lib.hid (MW.out.on hb)
        clear hb q0 q1 qf0 qf1 qlt y0 y1 y2 yf0 yf1 yf2 ylt
        obtain ⟨q0, q1, qf0, qf1, qlt⟩ := MW.out.2.1
        obtain ⟨y0, y1, y2, yf0, yf1, yf2, ylt⟩ := MW.out.2.2
        go_wp2_with fail
        go_region
        all_goals go_wp2_with fail
        have Z := ((MW.out.2.2.set0 (.int .i64 no)).set1 (.int .i64 (a1 : Int))).set2 (.int .i64 (e0 : Int))
        have BZ := Lib.hid (((MW.out.1.setCell (p := ⟨w.heap.size + 1, 0, none⟩) (by simp) (.int .i64 no)).setCell (p := ⟨w.heap.size + 1, 1, none⟩) (by simp) (.int .i64 (a1 : Int))).setCell (p := ⟨w.heap.size + 1, 2, none⟩) (by simp) (.int .i64 (e0 : Int)))
        have BA := ((((Below.refl _ (((w2.setCell ⟨w.heap.size + 1, 0, none⟩ (.int .i64 no)).setCell ⟨w.heap.size + 1, 1, none⟩ (.int .i64 (a1 : Int))).setCell ⟨w.heap.size + 1, 2, none⟩ (.int .i64 (e0 : Int)))).alloc (Nat.le_refl _) (.cells #[.int .i64 0, .string ⟨#[]⟩, .int .i64 0, .int .i64 0] 34)).alloc (by simp) (.cells #[.int .i64 no, .int .i64 (a1 : Int)] 27)).drew)
        have HBZ := Lib.hid (BZ.out.trans (BA.mono BZ.out.size))
        obtain ⟨zc0, zc1, zc2, _, _, _, _⟩ := Z.on BA
        clear BA
        exact bodyPost_ret (v := .tuple #[.slice none 0 0, .agg #[.int .i64 no, .int .i64 (a1 : Int), .int .i64 (e0 : Int)]]) (by simp [results, Tryz.results6, go_sem, zc0, zc1, zc2]) rfl (by rw [E.out]; exact ⟨rfl, HBZ.out⟩)
      | inr r =>
        obtain ⟨k, y, n⟩ := r
        have hyl := nxt_lt hn (bs9_lt S)
        obtain ⟨Y, hY⟩ : ∃ Y, bs9 Y = y := ⟨st9 y, bs9_st9 hyl⟩
        subst hY
        have NE := Lib.hid hn
        obtain ⟨g1, g2, _⟩ := nxt_back HDY.out hn
        rw [bs9_len] at g2
        have HA1 := Lib.hid ha1
        have G12 : Hid (1 ≤ n ∧ n ≤ S.size) := ⟨g1, g2⟩
        have hn1000 : n ≤ 1000 := by omega
        clear hn hyl ha1 g1 g2
        obtain ⟨a2, ha2⟩ : ∃ a2, a2 = a + n := ⟨_, rfl⟩
        have ea2 : (a : Int) + (n : Int) = (a2 : Int) := by omega
        have hSs : S.size = s.size - a := by rw [← bs9_len S, HSB.out, List.length_drop, HL.out]
        have ha2s : a2 ≤ s.size := by have := G12.out; omega
        obtain ⟨S2, hS2⟩ : ∃ S, s.extract a2 s.size = S := ⟨_, rfl⟩
        have hsl2 : ∀ w', (Instr.slice 9 (.string s) (some (.int .i64 (a2 : Int))) none none).run Tryz.prog w' = .ok (.string S2) w' := sl_from ha2s hS2
        have HSB2 : Hid (bs9 S2 = (bs9 s).drop a2) := by show _ = _; rw [← hS2, bs9_drop]
        have mS2 : S2.size ≤ 1000000 := by rw [← hS2]; simp only [ByteArray.size_extract]; omega
        obtain ⟨i2, hi2⟩ : ∃ i, indl (bs9 S2) = i := ⟨_, rfl⟩
        have HI2 := Lib.hid hi2
        have hi2s : i2 ≤ s.size - a2 := by have := indl_le (bs9 S2); rw [hi2, bs9_len] at this; rw [← hS2] at this; simp only [ByteArray.size_extract] at this; omega
        obtain ⟨a3, ha3⟩ : ∃ a3, a3 = a2 + i2 := ⟨_, rfl⟩
        have ea3 : (a2 : Int) + (i2 : Int) = (a3 : Int) := by omega
        have FIN : Hid (a3 = a2 + indl ((bs9 s).drop a2) ∧ a3 ≤ s.size ∧ a < a3 ∧ p + 1 ≤ a2) := ⟨by rw [ha3, ← HSB2.out, hi2], by omega, by have := G12.out; omega, by have := G12.out; have := HA.out; omega⟩
        have GO2 : Hid (G = appW (ts ++ [(k, bs9 Y, a1)]) (WD D N a2 ((bs9 s).drop a2))) := by
          show _ = _
          rw [GO.out, WD_ok HDY.out (k := k) (n := n) (x := bs9 Y) (by rw [DR.out]; exact NS.out) (by rw [DR.out, ← HSB.out]; exact NE.out), appW_cons, DR.out, List.drop_drop, ← HA.out, ← HA1.out, ← ha2]
        clear hS2 hi2 ha2 ha3 hSs
        go_wp2_with fail
        refine (next_ok HK.out H8.out H7.out NE.out mS _ (OK.out MW.out.1)).mono ?_; rintro e w2 ⟨rfl, hb⟩
        replace MW := Lib.hid (MW.out.on hb)
        replace OW := Lib.hid (OW.out.on hb)
        clear hb q0 q1 qf0 qf1 qlt y0 y1 y2 yf0 yf1 yf2 ylt
        obtain ⟨q0, q1, qf0, qf1, qlt⟩ := MW.out.2.1
        obtain ⟨y0, y1, y2, yf0, yf1, yf2, ylt⟩ := MW.out.2.2
        obtain ⟨W9, hW9⟩ : ∃ v, World.alloc (World.alloc (World.alloc w2 (.cells #[.int .i64 (k : Int), .string Y, .int .i64 no, .int .i64 (a1 : Int)] 34)) (.cells #[.int .i64 no, .int .i64 (a1 : Int)] 27)) (.cells #[.int .i64 (k : Int), .string Y, .int .i64 no, .int .i64 (a1 : Int)] 34) = v := ⟨_, rfl⟩
        have B9 : Hid (Below w2.heap.size w2 W9) := by show Below _ _ _; rw [← hW9]; exact ((((Below.refl _ _).alloc (Nat.le_refl _) _).alloc (by simp) _).alloc (by simp; omega) _)
        have MW9 := Lib.hid (MW.out.on B9.out)
        have OW9 := Lib.hid (OW.out.on B9.out)
        have NEW : Hid (∀ j u, ([.int .i64 (k : Int), .string Y, .int .i64 no, .int .i64 (a1 : Int)] : List Value)[j]? = some u → W9.cell? ((⟨w2.heap.size + 1 + 1, 0, none⟩ : Addr).add j) = some u) := by
          show ∀ j u, _
          rw [← hW9]; exact tok_new _ _ _ _ _ _ (by simp)
        have HROW : Hid (rowT no (ts ++ [(k, bs9 Y, a1)]) = rowT no ts ++ [.int .i64 (k : Int), .string Y, .int .i64 no, .int .i64 (a1 : Int)]) := by show _ = _; rw [rowT_push, st9_bs9]
        have hts : ts.length ≤ 1000 := by omega
        go_wp2_with (at_builtin; (try rw [hW9]); refine wpList_append_lies _ rfl (.tmp 51) (.tmp 53) 25 rfl (w.heap.size + 2) 34 i0 (.agg #[.int .i64 0, .string ⟨#[]⟩, .int .i64 0, .int .i64 0]) 4 40 Tryz.underlying25 hi0 hz0 hz1 hz2 zcells4 (by decide) (.slice A2 ts.length c2) ts.length (rowT no ts) rfl OW9.out ⟨w2.heap.size + 1 + 1, 0, none⟩ 1 1 [.int .i64 (k : Int), .string Y, .int .i64 no, .int .i64 (a1 : Int)] rfl rfl NEW.out (by intro u hu; simp at hu; rcases hu with rfl | rfl | rfl | rfl <;> rfl) (by decide) (by unfold maxLen; omega) (by omega) MW9.out.lt W9.heap.size rfl ?_; intro g4 cap4 w11 hown4 hgr4 hat4 hlt4; have OWB : Hid (OwnT w11 (w.heap.size + 2) (.slice (some ⟨g4, 0, none⟩) (ts.length + 1) cap4) no (ts ++ [(k, bs9 Y, a1)])) := (by show OwnT _ _ _ _ _; unfold OwnT; rw [List.length_append, HROW.out]; exact hown4); have MWB : Hid (Mw w w11 no s) := Mw.below MW9.out (Below.grown (B := w.heap.size + 2) (Below.refl _ W9) hgr4 MW9.out.lt (fun g e => (World.ownsRow.lt OW9.out g e).1)) (Nat.le_refl _); clear hown4 hgr4 hat4 hlt4 q0 q1 qf0 qf1 qlt y0 y1 y2 yf0 yf1 yf2 ylt; obtain ⟨q0, q1, qf0, qf1, qlt⟩ := MWB.out.2.1)
        refine (refindent_any S2 _ mS2).mono ?_; rintro e w3 ⟨rfl, hb⟩
        rw [HI2.out]
        replace MWB := Lib.hid (MWB.out.on hb)
        replace OWB := Lib.hid (OWB.out.on hb)
        clear hb q0 q1 qf0 qf1 qlt
        go_wp2_with fail
        go_roundw
        case rel => exact ⟨a2, a3, ts ++ [(k, bs9 Y, a1)], by first | rfl | go_num, ha2s, FIN.out.1, FIN.out.2.1, by exact OWB.out, GO2.out, by have := FIN.out.2.2.2; simp; omega, MWB.out⟩
        case measure => have := FIN.out; simp [intOf] <;> omega
    · have E := Lib.hid (done.out (.inl (List.drop_of_length_le (by rw [HL.out]; exact hge))))
      go_wp2_with fail
      obtain ⟨A, c, hv, hr⟩ := OwnT.rd (ownsRow_setCell_below (ownsRow_setCell_below (ownsRow_setCell_below OW.out (a := ⟨w.heap.size + 1, 0, none⟩) (by simp) (.int .i64 0)) (a := ⟨w.heap.size + 1, 1, none⟩) (by simp) (.int .i64 0)) (a := ⟨w.heap.size + 1, 2, none⟩) (by simp) (.int .i64 0) : OwnT _ (w.heap.size + 2) (.slice A2 ts.length c2) no ts)
      injection hv with v1 v2 v3
      subst v1; subst v3
      have Z := ((MW.out.2.2.set0 (.int .i64 0)).set1 (.int .i64 0)).set2 (.int .i64 0)
      obtain ⟨zc0, zc1, zc2, _, _, _, _⟩ := Z
      have HBZ := Lib.hid (((MW.out.1.setCell (p := ⟨w.heap.size + 1, 0, none⟩) (by simp) (.int .i64 0)).setCell (p := ⟨w.heap.size + 1, 1, none⟩) (by simp) (.int .i64 0)).setCell (p := ⟨w.heap.size + 1, 2, none⟩) (by simp) (.int .i64 0))
      exact bodyPost_ret (v := .tuple #[.slice A2 ts.length c2, .agg #[.int .i64 0, .int .i64 0, .int .i64 0]]) (by simp [results, Tryz.results6, go_sem, zc0, zc1, zc2]) rfl (by rw [E.out]; exact ⟨⟨_, _, rfl, hr⟩, HBZ.out⟩)

end Go.Proofs.YtjkandnbjbfeiaaGreatDoor
