/-
  Contracts of layer 11: Parent, Leaf, Depth, Under and the document's.
-/
import Derived.Test.YtaaikbbgbnbmkaaDoorNamF
set_option linter.unusedVariables false
set_option linter.unusedSimpArgs false
namespace Go.Proofs.YtaaikbbgbnbmkaaDoor
open Go.RowKit

/-- How many parts a text has; none the empty one. -/
def dep (l : List Nat) : Nat := if l = [] then 0 else l.count 58 + 1

set_option maxHeartbeats 4000000 in
set_option maxRecDepth 100000 in
theorem parent_is {s X : ByteArray} (h : prl (bs9 s) = bs9 X) (hs : s.size ≤ 1000000) (w : World) : Calls Tryd.prog 20 #[.string s] w (fun e w' => e = .returned (.string X) ∧ w' = w) := by
  rcases last_or (bs9 s) with ⟨h1, h2, h3⟩ | ⟨h1, h2⟩
  · have HL : Hid (LI (bs9 s) (-1)) := ⟨fun e => absurd e h1, fun _ => rfl⟩
    obtain rfl : X = ⟨#[]⟩ := bs9_inj (by rw [← h, h2]; rfl)
    have hsl : ∀ w', (Instr.slice 9 (.string s) none (some (.int .i64 0)) none).run Tryd.prog w' = .ok (.string ⟨#[]⟩) w' := sl_to (i := 0) (Nat.zero_le _) (bs9_inj (by rw [bs9_take]; rfl))
    have hmx : max (-1 : Int) 0 = 0 := by decide
    clear h h1 h2 h3
    go_enter Tryd.func20, Tryd.ntmps20
    go_wp2_with fail
    refine (last_is hs HL.out).mono ?_; rintro e w1 ⟨rfl, rfl⟩
    go_wp2_with fail
    go_ret
    exact ⟨rfl, rfl⟩
  · obtain ⟨k, hk⟩ : ∃ k, (prl (bs9 s)).length = k := ⟨_, rfl⟩
    have hm : 58 ∈ bs9 s := by rw [h1]; simp
    have HL : Hid (LI (bs9 s) (k : Int)) := ⟨fun _ => by rw [hk], fun e => absurd hm e⟩
    have hks : k < s.size := by
      have := congrArg List.length h1
      rw [List.length_append, List.length_cons, bs9_len] at this; omega
    have hks' : k ≤ s.size := Nat.le_of_lt hks
    have hX : s.extract 0 k = X := bs9_inj (by
      rw [bs9_take, ← h, ← hk]
      exact (cut_at h1).1)
    have hsl : ∀ w', (Instr.slice 9 (.string s) none (some (.int .i64 (k : Int))) none).run Tryd.prog w' = .ok (.string X) w' := sl_to hks' hX
    have hk0 : (0 : Int) ≤ (k : Int) := by omega
    have hmx : max (k : Int) 0 = (k : Int) := by omega
    clear h h1 h2 hk hm hX
    go_enter Tryd.func20, Tryd.ntmps20
    go_wp2_with fail
    refine (last_is hs HL.out).mono ?_; rintro e w1 ⟨rfl, rfl⟩
    go_wp2_with fail
    go_ret
    exact ⟨rfl, rfl⟩

set_option maxHeartbeats 4000000 in
set_option maxRecDepth 100000 in
theorem leaf_is {s X : ByteArray} (h : lfl (bs9 s) = bs9 X) (hs : s.size ≤ 1000000) (w : World) : Calls Tryd.prog 24 #[.string s] w (fun e w' => e = .returned (.string X) ∧ w' = w) := by
  rcases last_or (bs9 s) with ⟨h1, h2, h3⟩ | ⟨h1, h2⟩
  · have HL : Hid (LI (bs9 s) (-1)) := ⟨fun e => absurd e h1, fun _ => rfl⟩
    obtain rfl : X = s := bs9_inj (by rw [← h, h3])
    have hsl : ∀ w', (Instr.slice 9 (.string X) (some (.int .i64 0)) none none).run Tryd.prog w' = .ok (.string X) w' := sl_from (i := 0) (Nat.zero_le _) (bs9_inj (by rw [bs9_drop]; rfl))
    clear h h1 h2 h3
    go_enter Tryd.func24, Tryd.ntmps24
    go_wp2_with fail
    refine (last_is hs HL.out).mono ?_; rintro e w1 ⟨rfl, rfl⟩
    go_wp2_with fail
    go_ret
    exact ⟨rfl, rfl⟩
  · obtain ⟨k, hk⟩ : ∃ k, (prl (bs9 s)).length = k := ⟨_, rfl⟩
    have hm : 58 ∈ bs9 s := by rw [h1]; simp
    have HL : Hid (LI (bs9 s) (k : Int)) := ⟨fun _ => by rw [hk], fun e => absurd hm e⟩
    have hks : k < s.size := by
      have := congrArg List.length h1
      rw [List.length_append, List.length_cons, bs9_len] at this; omega
    obtain ⟨k1, hk1⟩ : ∃ k1, k1 = k + 1 := ⟨_, rfl⟩
    have e1 : (k : Int) + 1 = (k1 : Int) := by omega
    have hks' : k1 ≤ s.size := by omega
    have hX : s.extract k1 s.size = X := bs9_inj (by
      rw [bs9_drop, ← h, hk1, ← hk]
      exact (cut_at h1).2)
    have hsl : ∀ w', (Instr.slice 9 (.string s) (some (.int .i64 (k1 : Int))) none none).run Tryd.prog w' = .ok (.string X) w' := sl_from hks' hX
    clear h h1 h2 hk hm hX hk1
    go_enter Tryd.func24, Tryd.ntmps24
    go_wp2_with fail
    refine (last_is hs HL.out).mono ?_; rintro e w1 ⟨rfl, rfl⟩
    go_wp2_with fail
    go_ret
    exact ⟨rfl, rfl⟩

set_option maxHeartbeats 4000000 in
set_option maxRecDepth 100000 in
theorem refparent_is {s X : ByteArray} (h : prl (bs9 s) = bs9 X) (hs : s.size ≤ 1000000) (w : World) : Calls Tryd.prog 21 #[.string s] w (fun e w' => e = .returned (.string X) ∧ w' = w) := by
  have H := Lib.hid h
  clear h
  go_enter Tryd.func21, Tryd.ntmps21
  go_wp2_with fail
  go_loopw [3] (fun iv wr => ∃ (z : Int) (k : Nat), iv = .int .i64 z ∧ z = (k : Int) - 1 ∧ k ≤ s.size ∧ 58 ∉ (bs9 s).drop k ∧ wr = w) (fun iv _ => (intOf iv + 1).toNat)
  case atStart => exact ⟨_, s.size, rfl, rfl, Nat.le_refl _, by rw [List.drop_of_length_le (by rw [bs9_len]; exact Nat.le_refl _)]; exact List.not_mem_nil, rfl⟩
  case round =>
    obtain ⟨z, k, rfl, hz, hk, hn, rfl⟩ := hrel
    have HN := Lib.hid hn
    clear hn
    rcases k with _ | j
    · obtain rfl : z = -1 := by omega
      have E : Hid (X = ⟨#[]⟩) := bs9_inj (by
        rw [← H.out]
        have hn := HN.out
        rw [List.drop_zero] at hn
        rcases last_or (bs9 s) with ⟨_, h2, _⟩ | ⟨h1, _⟩
        · rw [h2]; rfl
        · exact absurd (by rw [h1]; simp) hn)
      clear hz hk
      go_wp2_with fail
      go_ret
      exact ⟨by rw [E.out]; rfl, rfl⟩
    · obtain rfl : z = (j : Int) := by omega
      have hjs : j < s.size := by omega
      obtain ⟨x, hx⟩ : ∃ x, x = (s[j]'hjs).toNat := ⟨_, rfl⟩
      have ex : ((s[j]'hjs).toNat : Int) = (x : Int) := by rw [hx]
      have HX : Hid ((bs9 s).drop j = x :: (bs9 s).drop (j + 1)) := by show _ = _; rw [bs9_get s j hjs, hx]
      clear hx hz hk
      by_cases h58 : x = 58
      · have d : ((x : Int) == 58) = true := by rw [h58]; rfl
        have hX : s.extract 0 j = X := bs9_inj (by
          rw [bs9_take, ← H.out]
          have e : bs9 s = (bs9 s).take j ++ 58 :: (bs9 s).drop (j + 1) := by rw [← h58, ← HX.out, List.take_append_drop]
          have := (last_of (x := (bs9 s).take j) HN.out).1
          rw [← e] at this
          exact this.symm)
        have hsl : ∀ w', (Instr.slice 9 (.string s) none (some (.int .i64 (j : Int))) none).run Tryd.prog w' = .ok (.string X) w' := sl_to (Nat.le_of_lt hjs) hX
        clear h58 hX
        go_wp2_with fail
        go_ret
        exact ⟨rfl, rfl⟩
      · have d : ((x : Int) == 58) = false := by rw [beq_eq_false_iff_ne]; omega
        have HN2 : Hid (58 ∉ (bs9 s).drop j) := by
          show _ ∉ _
          rw [HX.out]
          intro e
          rcases List.mem_cons.1 e with e | e
          · exact h58 e.symm
          · exact HN.out e
        clear h58
        go_wp2_with fail
        go_roundw
        case rel => exact ⟨_, j, rfl, by omega, by omega, HN2.out, trivial⟩
        case measure => simp [intOf] <;> omega

set_option maxHeartbeats 4000000 in
set_option maxRecDepth 100000 in
theorem refleaf_is {s X : ByteArray} (h : lfl (bs9 s) = bs9 X) (hs : s.size ≤ 1000000) (w : World) : Calls Tryd.prog 25 #[.string s] w (Ret9 w (.string X)) := by
  have H := Lib.hid h
  clear h
  go_enter Tryd.func25, Tryd.ntmps25
  go_wp2_with fail
  refine (refparts_any s _ hs).mono ?_; rintro e w1 ⟨A, c, rfl, h, hb⟩
  obtain ⟨n, hn⟩ : ∃ n, (prt (bs9 s)).length = n := ⟨_, rfl⟩
  have hn0 : 0 < n := by rw [← hn]; exact List.length_pos_iff.2 (prt_ne _)
  obtain ⟨m, hm⟩ : ∃ m, m + 1 = n := ⟨n - 1, by omega⟩
  rw [hn] at h ⊢
  obtain ⟨b, o, rfl, r1, r2, r3, t, r4, r5⟩ := h.at_ (k := m) (by omega)
  have em : (n : Int) - 1 = (m : Int) := by omega
  have hn9 : n ≤ 9223372036854775807 := Nat.le_trans r1 r2
  have hmn : m < n := by omega
  have e1 : st9 t = X := by
    have := prt_last (bs9 s)
    rw [List.getLast?_eq_getElem?, hn, ← hm, Nat.add_sub_cancel, r4] at this
    rw [Option.some.inj this, H.out, st9_bs9]
  rw [e1] at r5
  have HB := Lib.hid hb
  clear hb h r4 e1 hn hm
  go_wp2_with fail
  go_ret
  exact ⟨rfl, HB.out⟩

set_option maxHeartbeats 4000000 in
set_option maxRecDepth 100000 in
theorem depth_is {s : ByteArray} {z : Nat} (h : dep (bs9 s) = z) (hs : s.size ≤ 1000000) (w : World) : Calls Tryd.prog 22 #[.string s] w (fun e w' => e = .returned (.int .i64 (z : Int)) ∧ w' = w) := by
  have H := Lib.hid h
  clear h
  rcases Nat.eq_zero_or_pos s.size with h0 | h0
  · have d := str_emp h0
    have E : Hid (z = 0) := by show _ = _; rw [← H.out, nil_of h0]; rfl
    go_enter Tryd.func22, Tryd.ntmps22
    go_wp2_with fail
    go_ret
    exact ⟨by rw [E.out]; rfl, rfl⟩
  · have d := str_ne h0
    obtain ⟨k, hk⟩ : ∃ k, (bs9 s).count 58 = k := ⟨_, rfl⟩
    have E : Hid (z = k + 1) := by show _ = _; rw [← H.out, ← hk]; unfold dep; rw [if_neg (fun e => by have := bs9_len s; rw [e] at this; simp at this; omega)]
    have hkl : k ≤ 1000000 := by rw [← hk]; have := List.count_le_length (a := 58) (l := bs9 s); rw [bs9_len] at this; omega
    have HK := Lib.hid hk
    clear hk
    go_enter Tryd.func22, Tryd.ntmps22
    go_wp2_with fail
    refine (count_is HK.out).mono ?_; rintro e w1 ⟨rfl, rfl⟩
    go_wp2_with fail
    go_ret
    exact ⟨by rw [E.out]; rfl, rfl⟩
set_option maxHeartbeats 4000000 in
set_option maxRecDepth 100000 in
theorem refdepth_is {s : ByteArray} {z : Nat} (h : dep (bs9 s) = z) (hs : s.size ≤ 1000000) (w : World) : Calls Tryd.prog 23 #[.string s] w (Ret9 w (.int .i64 (z : Int))) := by
  have H := Lib.hid h
  clear h
  rcases Nat.eq_zero_or_pos s.size with h0 | h0
  · have d := str_emp h0
    have E : Hid (z = 0) := by show _ = _; rw [← H.out, nil_of h0]; rfl
    go_enter Tryd.func23, Tryd.ntmps23
    go_wp2_with fail
    go_ret
    exact ⟨by rw [E.out]; rfl, Below.refl _ _⟩
  · have d := str_ne h0
    have E : Hid ((prt (bs9 s)).length = z) := by show _ = _; rw [← H.out, prt_len]; unfold dep; rw [if_neg (fun e => by have := bs9_len s; rw [e] at this; simp at this; omega)]
    go_enter Tryd.func23, Tryd.ntmps23
    go_wp2_with fail
    refine (refparts_any s _ hs).mono ?_; rintro e w1 ⟨A, c, rfl, h, hb⟩
    have HB := Lib.hid hb
    rw [E.out] at h ⊢
    clear hb h
    go_wp2_with fail
    go_ret
    exact ⟨rfl, HB.out⟩

/-- b tells whether s is under t. -/
def UB (s t : List Nat) (b : Bool) : Prop := Und s t ↔ b = true
theorem ub_any (s t : List Nat) : ∃ b, UB s t b := ⟨@decide _ (Classical.propDecidable _), (@decide_eq_true_iff _ (Classical.propDecidable _)).symm⟩
theorem eq_yes {s t : ByteArray} (h : s = t) : (s.toList == t.toList) = true := by rw [h, beq_iff_eq]
theorem eq_not {s t : ByteArray} (h : s ≠ t) : (s.toList == t.toList) = false := by
  rw [beq_eq_false_iff_ne]
  intro e
  apply h
  rw [ByteArray.toList_eq, ByteArray.toList_eq] at e
  exact bs9_inj (by unfold bs9; rw [e])
set_option maxHeartbeats 4000000 in
set_option maxRecDepth 100000 in
theorem under_is {s t : ByteArray} {b : Bool} (h : UB (bs9 s) (bs9 t) b) (hs : s.size ≤ 1000000) (ht : t.size ≤ 1000000) (w : World) : Calls Tryd.prog 18 #[.string s, .string t] w (fun e w' => e = .returned (.bool b) ∧ w' = w) := by
  have H := Lib.hid h
  clear h
  rcases Nat.eq_zero_or_pos t.size with h0 | h0
  · have d := str_emp h0
    have E : Hid (b = true) := H.out.1 (.inl (nil_of h0))
    go_enter Tryd.func18, Tryd.ntmps18
    go_wp2_with fail
    go_ret
    exact ⟨rb9 E.out.symm, rfl⟩
  have d := str_ne h0
  have hne : bs9 t ≠ [] := fun e => by have := bs9_len t; rw [e] at this; simp at this; omega
  by_cases he : s = t
  · have d2 := eq_yes he
    have E : Hid (b = true) := H.out.1 (.inr (.inl (by rw [he])))
    clear he
    go_enter Tryd.func18, Tryd.ntmps18
    go_wp2_with fail
    go_ret
    exact ⟨rb9 E.out.symm, rfl⟩
  · have d2 := eq_not he
    obtain ⟨T, hT⟩ : ∃ T, t ++ ⟨#[58]⟩ = T := ⟨_, rfl⟩
    have hTb : bs9 T = bs9 t ++ [58] := by rw [← hT, bs9_append]; rfl
    have hadd : ∀ w, (Op.stringOp .add t ⟨#[58]⟩).run Tryd.prog w = .ok (.string T) w := fun w => add9 hTb.symm (by show t.size + 1 ≤ _; omega) w
    have E : Hid ((∃ u, bs9 s = bs9 T ++ u) ↔ b = true) := by
      show _ ↔ _
      rw [← show Und (bs9 s) (bs9 t) ↔ b = true from H.out, hTb]
      constructor
      · rintro ⟨u, hu⟩; exact .inr (.inr ⟨u, by rw [hu]; simp⟩)
      · rintro (e | e | ⟨u, hu⟩)
        · exact absurd e hne
        · exact absurd (bs9_inj e) he
        · exact ⟨u, by rw [hu]; simp⟩
    clear he hT hTb hne
    go_enter Tryd.func18, Tryd.ntmps18
    go_wp2_with fail
    refine (prefix_is E.out).mono ?_; rintro e w1 ⟨rfl, rfl⟩
    go_wp2_with fail
    go_ret
    exact ⟨rfl, rfl⟩
set_option maxHeartbeats 4000000 in
set_option maxRecDepth 100000 in
theorem refunder_is {s t : ByteArray} {b : Bool} (h : UB (bs9 s) (bs9 t) b) (hs : s.size ≤ 1000000) (ht : t.size ≤ 1000000) (w : World) : Calls Tryd.prog 19 #[.string s, .string t] w (fun e w' => e = .returned (.bool b) ∧ w' = w) := by
  have H := Lib.hid h
  clear h
  rcases Nat.eq_zero_or_pos t.size with h0 | h0
  · have d := str_emp h0
    have E : Hid (b = true) := H.out.1 (.inl (nil_of h0))
    go_enter Tryd.func19, Tryd.ntmps19
    go_wp2_with fail
    go_ret
    exact ⟨rb9 E.out.symm, rfl⟩
  have d := str_ne h0
  have hne : bs9 t ≠ [] := fun e => by have := bs9_len t; rw [e] at this; simp at this; omega
  by_cases he : s = t
  · have d2 := eq_yes he
    have E : Hid (b = true) := H.out.1 (.inr (.inl (by rw [he])))
    clear he
    go_enter Tryd.func19, Tryd.ntmps19
    go_wp2_with fail
    go_ret
    exact ⟨rb9 E.out.symm, rfl⟩
  have d2 := eq_not he
  have HE := Lib.hid he
  have HNE := Lib.hid hne
  clear he hne
  have no : ∀ {P : Prop}, Hid (P → b = true) → ¬ P → True := fun _ _ => trivial
  clear no
  rcases Nat.lt_or_ge t.size s.size with hlt | hge
  · have d3 : decide ((t.size : Int) < (s.size : Int)) = true := decide_eq_true (by omega)
    obtain ⟨X, hX⟩ : ∃ X, s.extract 0 t.size = X := ⟨_, rfl⟩
    have hsl : ∀ w', (Instr.slice 9 (.string s) none (some (.int .i64 (t.size : Int))) none).run Tryd.prog w' = .ok (.string X) w' := sl_to (Nat.le_of_lt hlt) hX
    have HXB : Hid (bs9 X = (bs9 s).take t.size) := by show _ = _; rw [← hX, bs9_take]
    clear hX
    obtain ⟨x, hx⟩ : ∃ x, x = (s[t.size]'hlt).toNat := ⟨_, rfl⟩
    have ex : ((s[t.size]'hlt).toNat : Int) = (x : Int) := by rw [hx]
    have HX : Hid ((bs9 s).drop t.size = x :: (bs9 s).drop (t.size + 1)) := by show _ = _; rw [bs9_get s t.size hlt, hx]
    clear hx
    by_cases hXt : X = t
    · have d4 := eq_yes hXt
      have E : Hid (((x : Int) == 58) = b) := by
        show _ = _
        rw [Bool.eq_iff_iff, ← show Und (bs9 s) (bs9 t) ↔ b = true from H.out, beq_iff_eq]
        have e := List.take_append_drop t.size (bs9 s)
        rw [← HXB.out, hXt, HX.out] at e
        constructor
        · intro hx; exact .inr (.inr ⟨_, by rw [← e, show x = 58 by omega]⟩)
        · rintro (k | k | ⟨u, k⟩)
          · exact absurd k HNE.out
          · exact absurd (bs9_inj k) HE.out
          · rw [← e] at k
            have := (List.cons.inj (List.append_cancel_left k)).1
            omega
      clear hXt
      go_enter Tryd.func19, Tryd.ntmps19
      go_wp2_with fail
      go_ret
      exact ⟨rb9 E.out, rfl⟩
    · have d4 := eq_not hXt
      have E : Hid (b = false) := by
        cases hb : b with
        | false => rfl
        | true =>
          exfalso
          rcases H.out.2 hb with k | k | ⟨u, k⟩
          · exact HNE.out k
          · exact HE.out (bs9_inj k)
          · exact hXt (bs9_inj (by rw [HXB.out, k, ← bs9_len t]; exact List.take_left' rfl))
      clear hXt
      go_enter Tryd.func19, Tryd.ntmps19
      go_wp2_with fail
      go_ret
      exact ⟨rb9 E.out.symm, rfl⟩
  · have d3 : decide ((t.size : Int) < (s.size : Int)) = false := decide_eq_false (by omega)
    have E : Hid (b = false) := by
      cases hb : b with
      | false => rfl
      | true =>
        exfalso
        rcases H.out.2 hb with k | k | ⟨u, k⟩
        · exact HNE.out k
        · exact HE.out (bs9_inj k)
        · have := congrArg List.length k
          rw [List.length_append, List.length_cons, bs9_len, bs9_len] at this
          omega
    go_enter Tryd.func19, Tryd.ntmps19
    go_wp2_with fail
    go_ret
    exact ⟨rb9 E.out.symm, rfl⟩

end Go.Proofs.YtaaikbbgbnbmkaaDoor
