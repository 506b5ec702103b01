/-
  Contract of layer 3: guess: a limb is guessed, and gone round by goto until it is not too much.
-/
import Derived.Test.YtenelfclalnfhaaDivA
import Derived.ScopeJumps
namespace Go.Proofs.Ytenelfclalnfhaa
open Go.RowKit

section
variable {P : Program} {a : Act} {w : World} {Q : Exit → Act → World → Prop}
/-- A scope in which the run jumps back to one label: what follows the label is walked once. -/
theorem wp_scope_two {c rest : Code} (l : Nat) (J : Act → World → Prop) (μ : Act → World → Nat) (hf : findLabel c l = some (Code.skip.seq rest))
    (pass : ∀ a w, J a w → rest.wp P (Exit.jump l (fun a' w' => J a' w' ∧ μ a' w' < μ a w) Q) a w)
    (first : Hid (∀ a w, J a w → rest.wp P (Exit.jump l J Q) a w) → c.wp P (Exit.jump l J Q) a w) : (Code.scope c).wp P Q a w := by
  refine wp_scope_jumps l J μ hf (first fun a w hJ => wp_mono (pass a w hJ) ?_) fun a w hJ => wp_seq (wp_skip (pass a w hJ))
  intro e a' w' h
  cases e with
  | goto l' => exact ⟨h.1, h.2.1⟩
  | normal => exact h
  | exit id => exact h
  | ret => exact h
  | panic ch => exact h
  | outgrown => exact h
end

theorem guess_move {T L v1 : Nat} (h : 0 < T) : (T - 1) * v1 + (L + v1) = T * v1 + L := by
  obtain ⟨t, rfl⟩ : ∃ t, T = t + 1 := ⟨T - 1, by omega⟩
  rw [Nat.add_sub_cancel, Nat.add_mul]; omega

/-- How the frame stands at guess's label: how often (T), and what is left (L). -/
def GuessAt (R S : Value) (n v1 v2 high m : Nat) (w0 : World) (a : Act) (w : World) : Prop :=
  ∃ (T L : Nat) (u11 u12 u13 u14 u15 u16 u17 u18 u19 u20 u21 u22 u23 u24 u25 u26 u27 u28 u29 u30 u31 u32 u33 u34 u35 u36 u37 u38 u39 u40 u41 u42 u43 u44 u45 u46 u47 u48 u49 u50 u51 u52 u53 u54 u55 u56 u57 u58 u59 u60 u61 u62 u63 u64 u65 u66 u67 : Value), a = { tmps := #[R, S, undef, undef, .int .u32 0, .int .i64 n, .int .u64 v1, .int .u64 v2, .int .u64 high, .int .u64 T, .int .u64 L, u11, u12, u13, u14, u15, u16, u17, u18, u19, u20, u21, u22, u23, u24, u25, u26, u27, u28, u29, u30, u31, u32, u33, u34, u35, u36, u37, u38, u39, u40, u41, u42, u43, u44, u45, u46, u47, u48, u49, u50, u51, u52, u53, u54, u55, u56, u57, u58, u59, u60, u61, u62, u63, u64, u65, u66, u67, undef, undef], defers := [] } ∧
    T * v1 + L = high ∧ m ≤ T ∧ L < 1000000000 ∧ T ≤ high ∧ Below w0.heap.size w0 w

set_option maxHeartbeats 2000000 in
set_option maxRecDepth 100000 in
theorem guess_any (A A' : Option Addr) (n c c' : Nat) (xs bs : List Nat) (w : World) (h : Lim w w.heap.size A (n + 1) c xs) (h' : Lim w w.heap.size A' n c' bs) (hx : limbs xs) (hb : limbs bs) (hn : 2 ≤ n) (hn2 : n ≤ 1000000000) (hv1 : 0 < gd bs (n - 1)) (hu0 : gd xs n ≤ gd bs (n - 1)) :
    Calls Try.prog 50 #[.slice A (n + 1) c, .slice A' n c'] w (RetVal w (.int .u32 (guessN ((gd xs n * 1000000000 + gd xs (n - 1)) * 1000000000 + gd xs (n - 2)) (gd bs (n - 1) * 1000000000 + gd bs (n - 2)) : Nat))) := by
  have hm := h.room
  have hcap := h.cap
  have hm' := h'.room
  have hcap' := h'.cap
  unfold maxLen at hm hm'
  obtain ⟨b0, o0, rfl, hB0, hc0⟩ := h.at_ (show n < n + 1 by omega)
  obtain ⟨b1, o1, e1, _, hc1⟩ := h.at_ (show n - 1 < n + 1 by omega)
  injection e1 with e1; injection e1 with e1 e2; subst e1; subst e2
  obtain ⟨b2, o2, e1, _, hc2⟩ := h.at_ (show n - 2 < n + 1 by omega)
  injection e1 with e1; injection e1 with e1 e2; subst e1; subst e2
  obtain ⟨b3, o3, rfl, _, hc3⟩ := h'.at_ (show n - 1 < n by omega)
  obtain ⟨b4, o4, e1, _, hc4⟩ := h'.at_ (show n - 2 < n by omega)
  injection e1 with e1; injection e1 with e1 e2; subst e1; subst e2
  have hu1 := gd_lt hx (n - 1)
  have hu2 := gd_lt hx (n - 2)
  have hw1 := gd_lt hb (n - 1)
  have hw2 := gd_lt hb (n - 2)
  generalize gd xs n = u0 at *
  generalize gd xs (n - 1) = u1 at *
  generalize gd xs (n - 2) = u2 at *
  generalize gd bs (n - 1) = v1 at *
  generalize gd bs (n - 2) = v2 at *
  clear h h' hx hb
  go_enter Try.func50, Try.ntmps50
  go_wp2
  refine wp_scope_two 0 (GuessAt (.slice (some ⟨b0, o0, none⟩) (n + 1) c) (.slice (some ⟨b3, o3, none⟩) n c') n v1 v2 (u0 * 1000000000 + u1) (guessN ((u0 * 1000000000 + u1) * 1000000000 + u2) (v1 * 1000000000 + v2)) w) (fun a _ => 1000000000 - (intOf (a.tmps.getD 10 undef)).toNat) rfl ?_ ?_
  · rintro a1 w1 ⟨T, L, u11, u12, u13, u14, u15, u16, u17, u18, u19, u20, u21, u22, u23, u24, u25, u26, u27, u28, u29, u30, u31, u32, u33, u34, u35, u36, u37, u38, u39, u40, u41, u42, u43, u44, u45, u46, u47, u48, u49, u50, u51, u52, u53, u54, u55, u56, u57, u58, u59, u60, u61, u62, u63, u64, u65, u66, u67, rfl, hT, hG, hL, hTh, hb⟩
    have HB := Lib.hid hb
    have hc2' := (HB.out.cell (p := ⟨b0, o0 + (n - 2), none⟩) hB0).trans hc2
    have hhb : u0 * 1000000000 + u1 < (v1 + 1) * 1000000000 := by omega
    have hhi : u0 * 1000000000 + u1 < 1000000000000000000 := by omega
    clear hb hc0 hc1 hc2 hc3 hc4
    have HT := Lib.hid hT
    have HG := Lib.hid hG
    have hTi : T < 1000000000000000000 := by omega
    have HHB := Lib.hid hhb
    have HTH := Lib.hid hTh
    clear hT hG hTh hhb hhi
    rcases Nat.lt_or_ge T 1000000000 with hTB | hTB
    · have hp := row_mul_le hTB hw2
      have E : Hid ((T : Int) * (v2 : Int) = ((T * v2 : Nat) : Int)) := by show _ = _; rw [Int.natCast_mul]
      have hp0 : 0 ≤ (T : Int) * (v2 : Int) := by rw [E.out]; omega
      have hp1 : (T : Int) * (v2 : Int) ≤ 999999998000000001 := by rw [E.out]; omega
      have hd0 : decide ((1000000000 : Int) ≤ (T : Int)) = false := by rw [decide_eq_false_iff_not]; omega
      have HTB := Lib.hid hTB
      rcases Nat.lt_or_ge (L * 1000000000 + u2) (T * v2) with hs | hs
      · have hd : decide ((L : Int) * 1000000000 + (u2 : Int) < (T : Int) * (v2 : Int)) = true := by rw [decide_eq_true_iff, E.out]; omega
        have HL := Lib.hid (guess_less (v := v1 * 1000000000 + v2) (v1 := v1) (v2 := v2) rfl rfl HT.out HG.out (.inr hs))
        have hT0 : 0 < T := by
          rcases Nat.eq_zero_or_pos T with h0 | h0
          · subst h0; omega
          · exact h0
        rcases Nat.lt_or_ge (L + v1) 1000000000 with hgo | hgo
        · have hd2 : decide ((L : Int) + (v1 : Int) < 1000000000) = true := by rw [decide_eq_true_iff]; omega
          have HGO := Lib.hid hgo
          clear hp hs hgo hTB
          go_wp2
          go_step3
          have e0 : ((u0 : Int) * 1000000000 + (u1 : Int)) = ((u0 * 1000000000 + u1 : Nat) : Int) := by omega
          have e1 : (T : Int) - 1 = ((T - 1 : Nat) : Int) := by omega
          have e2 : (L : Int) + (v1 : Int) = ((L + v1 : Nat) : Int) := by omega
          rw [e0, e1, e2]
          refine (show (0 = 0 ∧ _ ∧ _) from ⟨rfl, ⟨T - 1, L + v1, _, _, _, _, _, _, _, _, _, _, _, _, _, _, _, _, _, _, _, _, _, _, _, _, _, _, _, _, _, _, _, _, _, _, _, _, _, _, _, _, _, _, _, _, _, _, _, _, _, _, _, _, _, _, _, _, _, rfl, ?_, HL.out, HGO.out, Nat.le_trans (Nat.sub_le _ _) HTH.out, HB.out⟩, ?_⟩)
          · rw [← HT.out]; exact guess_move hT0
          · simp [intOf]; have := HGO.out; omega
        · have hd2 : decide ((L : Int) + (v1 : Int) < 1000000000) = false := by rw [decide_eq_false_iff_not]; omega
          have HGO := Lib.hid hgo
          clear hp hs hgo hTB
          go_wp2
          simp only [Exit.jump]
          go_ret
          have HTT := guess_move (L := L) (v1 := v1) hT0
          rw [HT.out] at HTT
          have hT3 := guess_high HHB.out HTT (by have := HGO.out; omega)
          have hEq := guess_is hv1 rfl rfl HTT HL.out hT3 (guess_over hw2 hT3 HGO.out)
          exact ⟨ret_int (by rw [← hEq]; omega), HB.out⟩
      · have hd : decide ((L : Int) * 1000000000 + (u2 : Int) < (T : Int) * (v2 : Int)) = false := by rw [decide_eq_false_iff_not, E.out]; omega
        have HS := Lib.hid hs
        clear hp hs hTB
        go_wp2
        simp only [Exit.jump]
        go_ret
        have hEq := guess_is hv1 rfl rfl HT.out HG.out HTB.out HS.out
        exact ⟨ret_int (by rw [← hEq]; have := HTB.out; omega), HB.out⟩
    · have hd0 : decide ((1000000000 : Int) ≤ (T : Int)) = true := by rw [decide_eq_true_iff]; omega
      have HL := Lib.hid (guess_less (v := v1 * 1000000000 + v2) (v1 := v1) (v2 := v2) rfl rfl HT.out HG.out (.inl hTB))
      have hT0 : 0 < T := by omega
      have HTB := Lib.hid hTB
      rcases Nat.lt_or_ge (L + v1) 1000000000 with hgo | hgo
      · have hd2 : decide ((L : Int) + (v1 : Int) < 1000000000) = true := by rw [decide_eq_true_iff]; omega
        have HGO := Lib.hid hgo
        clear hgo hTB
        go_wp2
        go_step3
        have e0 : ((u0 : Int) * 1000000000 + (u1 : Int)) = ((u0 * 1000000000 + u1 : Nat) : Int) := by omega
        have e1 : (T : Int) - 1 = ((T - 1 : Nat) : Int) := by omega
        have e2 : (L : Int) + (v1 : Int) = ((L + v1 : Nat) : Int) := by omega
        rw [e0, e1, e2]
        refine (show (0 = 0 ∧ _ ∧ _) from ⟨rfl, ⟨T - 1, L + v1, _, _, _, _, _, _, _, _, _, _, _, _, _, _, _, _, _, _, _, _, _, _, _, _, _, _, _, _, _, _, _, _, _, _, _, _, _, _, _, _, _, _, _, _, _, _, _, _, _, _, _, _, _, _, _, _, _, rfl, ?_, HL.out, HGO.out, Nat.le_trans (Nat.sub_le _ _) HTH.out, HB.out⟩, ?_⟩)
        · rw [← HT.out]; exact guess_move hT0
        · simp [intOf]; have := HGO.out; omega
      · have hd2 : decide ((L : Int) + (v1 : Int) < 1000000000) = false := by rw [decide_eq_false_iff_not]; omega
        have HGO := Lib.hid hgo
        clear hgo hTB
        go_wp2
        simp only [Exit.jump]
        go_ret
        have HTT := guess_move (L := L) (v1 := v1) hT0
        rw [HT.out] at HTT
        have hT3 := guess_high HHB.out HTT (by have := HGO.out; omega)
        have hEq := guess_is hv1 rfl rfl HTT HL.out hT3 (guess_over hw2 hT3 HGO.out)
        exact ⟨ret_int (by rw [← hEq]; omega), HB.out⟩
  · intro PASS
    go_wp2
    go_region
    go_wp2
    go_region
    go_wp2
    go_region
    go_wp2
    go_step3
    simp only [Exit.then]
    rename_i K
    have e1 : ((u0 : Int) * 1000000000 + (u1 : Int)) = ((u0 * 1000000000 + u1 : Nat) : Int) := by omega
    have e2 : (((u0 * 1000000000 + u1 : Nat) : Int)) / (v1 : Int) = (((u0 * 1000000000 + u1) / v1 : Nat) : Int) := (Int.natCast_ediv _ _).symm
    have e3 : (((u0 * 1000000000 + u1 : Nat) : Int)) % (v1 : Int) = (((u0 * 1000000000 + u1) % v1 : Nat) : Int) := (Int.natCast_emod _ _).symm
    rw [e1, e2, e3]
    refine K _ _ (PASS.out _ _ ⟨(u0 * 1000000000 + u1) / v1, (u0 * 1000000000 + u1) % v1, _, _, _, _, _, _, _, _, _, _, _, _, _, _, _, _, _, _, _, _, _, _, _, _, _, _, _, _, _, _, _, _, _, _, _, _, _, _, _, _, _, _, _, _, _, _, _, _, _, _, _, _, _, _, _, _, _, rfl, ?_, ?_, ?_, ?_, ?_⟩)
    · rw [Nat.mul_comm]; exact Nat.div_add_mod _ _
    · exact guess_first hv1 rfl hu2 rfl
    · exact Nat.lt_trans (Nat.mod_lt _ hv1) hw1
    · exact Nat.div_le_self _ _
    · exact (Below.refl _ _).drew.drew.drew

end Go.Proofs.Ytenelfclalnfhaa
