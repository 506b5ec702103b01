/-
  natdiv.Div once more: its quotient and its rest lie in memory of the call's own.
-/
import Derived.Test.YtllcjahekckbfaaRouK
import Derived.Laws.AppendOwnNone
import Derived.Deep.DeepMust
set_option linter.unusedVariables false
set_option linter.unusedSimpArgs false
namespace Go.Proofs.Ytllcjahekckbfaa
open Go.RowKit

set_option maxRecDepth 100000 in
set_option maxHeartbeats 400000 in
theorem make_fresh (N : Nat) (hN : Hid (N < 18446744073709551616)) (w : World) :
    Calls Try.prog 42 #[.int .u64 N] w (RetNew w N) := by
  obtain ⟨i0, hi, hz0, hz1, hz2⟩ := info_parts info_limb
  go_enter Try.func42, Try.ntmps42
  go_wp2
  go_loopw [0, 3] (fun i v wr => ∃ (m : Nat) (A : Option Addr) (k c : Nat) (xs : List Nat), m ≤ N ∧ i = .int .u64 m ∧ v = .slice A k c ∧ wr.ownsRow w.heap.size 67 1 (.slice A k c) k (vals xs) ∧ xs ++ dg m = dg N ∧ limbs xs ∧ Below w.heap.size w wr) (fun i _ _ => (intOf i).toNat)
  case atStart => exact ⟨N, none, 0, 0, [], Nat.le_refl _, rfl, rfl, World.ownsRow_nil _ _ _ _, rfl, limbs_nil, Below.refl _ _⟩
  case round =>
    obtain ⟨m, A, k, c, xs, hm, rfl, rfl, hown, hx, hlim, hb⟩ := hrel
    have K3 := make_len hx hN.out hown.1
    have HX := Lib.hid hx
    have HO := Lib.hid hown
    have HL := Lib.hid hlim
    have HB := Lib.hid hb
    clear hx hown hlim hb
    rcases Nat.eq_zero_or_pos m with h0 | h0
    · subst h0
      go_wp2
      go_ret
      exact ⟨_, _, _, rfl, Lim.of_own (by have := HX.out; rw [dg_zero, List.append_nil] at this; rw [← this]; exact HO.out) (fun x hx => by have := limbs_dg _ x hx; omega), (fun ad hA => by subst hA; exact (HO.out.lt _ rfl).1), HB.out⟩
    · go_wp2_with (at_builtin; (refine wpList_append_lim rfl (.tmp 8) (.tmp 12) 23 23 rfl w.heap.size 67 67 i0 Try.underlying23 Try.underlying23 hi hz0 hz1 hz2 A k c xs rfl (HO.out.alloc _) _ _ 1 1 [m % 1000000000] rfl (Lim.one _ _ _ (by omega) (by omega) _) (by omega) (Nat.le_trans HB.out.size (by simp)) ?_; intro A2 c2 w2 hown hgr))
      go_roundw
      case rel => exact ⟨m / 1000000000, A2, k + 1, c2, xs ++ [m % 1000000000], by omega, ret_u64 (u64_div hm hN.out), rfl, hown, make_step HX.out h0, limbs_append.2 ⟨HL.out, limbs_cons.2 ⟨by omega, limbs_nil⟩⟩, (HB.out.alloc HB.out.size _).grown hgr (Nat.le_trans HB.out.size (by simp)) (fun g hg => (HO.out.lt g hg).1)⟩
      case measure => simp [intOf]; rw [u64_div hm hN.out]; omega


/-- What long hands back, in memory of its own. -/
def RetTwoF (W : World) (q r : Nat) (e : Ending) (w' : World) : Prop :=
  ∃ A n c A' n' c', e = .returned (.tuple #[.slice A n c, .slice A' n' c']) ∧ Num w' w'.heap.size A n c q ∧ Num w' w'.heap.size A' n' c' r ∧ (∀ ad, A = some ad → W.heap.size ≤ ad.block) ∧ (∀ ad, A' = some ad → W.heap.size ≤ ad.block) ∧ Below W.heap.size W w'
/-- What comes back of a division, in memory of its own. -/
def RetDivF (W : World) (q r : Nat) (e : Ending) (w' : World) : Prop :=
  ∃ A n c A' n' c', e = .returned (.tuple #[.slice A n c, .slice A' n' c', .int .i64 0]) ∧ Num w' w'.heap.size A n c q ∧ Num w' w'.heap.size A' n' c' r ∧ (∀ ad, A = some ad → W.heap.size ≤ ad.block) ∧ (∀ ad, A' = some ad → W.heap.size ≤ ad.block) ∧ Below W.heap.size W w'
set_option maxRecDepth 100000 in
theorem dsmall_fresh_is {A : Option Addr} {n c a N q r : Nat} {v : Int} {w : World} (h : Num w w.heap.size A n c a) (hn : n ≤ 100000000) (hN0 : 0 < N) (hN : N < 4294967296) (hv : v = N) (hq : a / N = q) (hr : a % N = r) :
    Calls Try.prog 65 #[.slice A n c, .int .u32 v] w (RetSmallF w q r) := by
  subst hv; subst hq; subst hr
  exact dsmall_fresh A n c a N w h hn hN0 hN

set_option maxHeartbeats 4000000 in
set_option maxRecDepth 100000 in
theorem long_fresh (A A' : Option Addr) (n c k c' a b : Nat) (w : World) (h : Num w w.heap.size A n c a) (h' : Num w w.heap.size A' (k + 2) c' b) (hn : n ≤ 100000) (hba : b ≤ a) :
    Calls Try.prog 66 #[.slice A n c, .slice A' (k + 2) c'] w (RetTwoF w (a / b) (a % b)) := by
  obtain ⟨i0, hi, hz0, hz1, hz2⟩ := info_parts info_limb
  have hkn : k + 2 ≤ n := by have := dg_len_mono hba; rw [h.len, h'.len] at this; exact this
  have hm := h.room
  have hcap := h.cap
  have hm' := h'.room
  have hcap' := h'.cap
  unfold maxLen at hm hm'
  obtain ⟨b3, o3, rfl, _, hc3⟩ := h'.at_ (show k + 1 < k + 2 by omega)
  obtain ⟨t, et⟩ : ∃ t, gd (dg b) (k + 1) = t := ⟨_, rfl⟩
  obtain ⟨d, ed⟩ : ∃ d, d = 1000000000 / (t + 1) := ⟨_, rfl⟩
  have NF := norm_facts h'.len (by omega) et ed
  have ht : t < 1000000000 := by rw [← et]; exact gd_lt (limbs_dg b) _
  rw [et] at hc3
  have hd2 := NF.2.2.1
  have ED : Hid ((1000000000 : Int) / ((t : Int) + 1) = (d : Int)) := by show _ = _; rw [ed, Int.natCast_ediv]; rfl
  have NF := Lib.hid NF
  obtain ⟨b', eb'⟩ : ∃ b', b * d = b' := ⟨_, rfl⟩
  obtain ⟨a', ea'⟩ : ∃ a', a * d = a' := ⟨_, rfl⟩
  obtain ⟨m, hmn⟩ : ∃ m, m + (k + 1) = n := ⟨n - (k + 1), by omega⟩
  have LB : Hid ((dg b').length = k + 2) := by show _ = _; rw [← eb']; exact NF.out.2.2.2.1
  have LA : Hid ((dg a').length ≤ n + 1) := by show _ ≤ _; rw [← ea']; exact norm_len h.len hd2
  have ST : Hid (a' < 1000000000 ^ m * b') := by show _ < _; rw [← ea', ← eb']; exact norm_start h.len NF.out.2.2.2.2 NF.out.2.1 (by omega) hmn
  have HNE : Hid (∀ q r, a' = q * b' + r → r < b' → q = a / b ∧ r / d = a % b) := by intro q r hqr hr; rw [← ea', ← eb'] at hqr; rw [← eb'] at hr; exact norm_end hqr hr
  have EA := Lib.hid ea'
  have EB := Lib.hid eb'
  have HD0 := NF.out.2.1
  have HB0 : Hid (0 < b') := by
    show _ < _
    rcases Nat.eq_zero_or_pos b' with h0 | h0
    · have := LB.out; rw [h0, dg_zero] at this; simp at this
    · exact h0
  have HBL : Hid (b' < 1000000000 ^ (k + 2)) := by show _ < _; have := lt_pow_dg b'; rwa [LB.out] at this
  have H := Lib.hid h
  have H' := Lib.hid h'
  clear h h' et ed ea' eb' hba
  go_enter Try.func66, Try.ntmps66
  go_wp2
  refine wp_scope_three 0 (LongAt (.slice A n c) k n m d b' a' w) (fun a _ => (intOf (a.tmps.getD 8 undef)).toNat) rfl ?_ ?_
  · refine fun a9 w9 nn hJ => LongAt.elim (X := fun a w => (intOf (a.tmps.getD 8 undef)).toNat = nn → Code.wp Try.prog _ _ a w) ?_ a9 w9 hJ
    intro w9 i zs qs w1 A1 c1 g2 us hi1 hlz hzl hlq hql hq0 hT hlt hoz hoq hbw h1 hb01 hg12
    intro hnn
    have hnn : i = nn := by rw [← hnn]; simp [intOf]
    have NN := Lib.hid hnn
    clear hnn
    show Code.wp _ _ _ _ _
    have GG := guess_good hzl LB.out hlt
    obtain ⟨G, eG⟩ : ∃ G, guessN ((gd zs (i + (k + 2)) * 1000000000 + gd zs (i + (k + 1))) * 1000000000 + gd zs (i + k)) (gd (dg b') (k + 1) * 1000000000 + gd (dg b') k) = G := ⟨_, rfl⟩
    have hGl : G < 1000000000 := by rw [← eG]; exact Nat.lt_of_le_of_lt (Nat.min_le_right _ _) (by omega)
    have HZ := Lib.hid hoz
    have HQ := Lib.hid hoq
    have HBW := Lib.hid hbw
    have H1 := Lib.hid (h1.below hbw)
    have H1W := Lib.hid h1
    have HLZ := Lib.hid hzl
    have LZ := Lib.hid hlz
    have LQ := Lib.hid hlq
    have LQL := Lib.hid hql
    have Q0 := Lib.hid hq0
    have HT := Lib.hid hT
    have HLT := Lib.hid hlt
    have HB01 := Lib.hid hb01
    have CG := Lib.hid (fun p cr hp hcr hcr2 => guess_is_at (A := some ⟨w1.heap.size, i, none⟩) (p := p) (c := cr) (hoz.part hzl (by rw [hlz]; omega) hcr hcr2) (H1.out.more (Nat.le_of_lt hoz.lt)) (limbs_take (limbs_drop hzl _) _) hp (by omega) (gd_part (by omega)) (gd_part (by omega)) (gd_part (by omega)) GG.2.1 GG.1 eG)
    have GG := Lib.hid GG
    have EG := Lib.hid eG
    clear hlz hzl hlq hql hq0 hT hlt hoz hoq hbw h1 hb01 eG
    have hcq := HQ.out.cell (i := i) (by rw [LQ.out]; exact hi1)
    go_wp2_with fail
    refine (CG.out _ _ (by omega) (by omega) (by omega)).mono ?_; rintro e w2 ⟨rfl, hb2⟩
    have Z2 := Lib.hid (HZ.out.below hb2 HZ.out.lt)
    have Q2 := Lib.hid (HQ.out.below hb2 HQ.out.lt)
    have HB2 := Lib.hid (HBW.out.trans (hb2.mono (Nat.le_of_lt HZ.out.lt)))
    clear hb2 hcq
    have hcq := Q2.out.cell (i := i) (by rw [LQ.out]; exact hi1)
    have hfq := Q2.out.frozen i
    go_wp2_with fail
    have Z3 := Lib.hid (Z2.out.other (g' := g2) i (.int .u32 (G : Nat)) (by omega))
    have Q3 := Lib.hid (Q2.out.store i G (G : Nat) rfl)
    have HB3 := Lib.hid (HB2.out.setCell (p := ⟨g2, i, none⟩) (Nat.le_of_lt hg12) (.int .u32 (G : Nat)))
    have N3 := Lib.hid (H1W.out.below HB3.out)
    generalize w2.setCell ⟨g2, i, none⟩ (.int .u32 (G : Nat)) = w3 at *
    clear hcq hfq
    refine (take_is (p := i + (k + 2) + 1 - i) Z3 HLZ LZ.out (by omega) (by omega) N3.out hGl (by omega) (by omega)).mono ?_; rintro e w4 ⟨cy, ys, rfl, hoy, hly, hyl, hay, hval, hk4⟩
    have OY := Lib.hid hoy
    have LY := Lib.hid hly
    have LLY := Lib.hid hyl
    have AY := Lib.hid hay
    have VY := Lib.hid hval
    have Q4 := Lib.hid (Q3.out.kept hk4 (by omega))
    have HB4 := Lib.hid (HB3.out.trans (hk4.below (Nat.le_refl _)))
    clear hoy hly hyl hay hval hk4
    rcases GG.out.2.2.2 with hq | hq
    · have QEQ : G = val zs / (1000000000 ^ i * b') := EG.out.symm.trans hq
      have QLT : G < 1000000000 := hGl
      have RF := round_fits GG.out.2.2.1 LLY.out AY.out VY.out QEQ
      obtain rfl := RF.1
      have VF := Lib.hid RF.2
      have QF := Q4
      rw [QEQ] at QF
      have OF := OY
      have LF := LY
      have LLF := LLY
      have HBF := HB4
      have QEQ := Lib.hid QEQ
      clear RF hq
      have LQS : Hid ((qs.set i (val zs / (1000000000 ^ i * b'))).length = m) := by show _ = _; rw [List.length_set]; exact LQ.out
      have LIM : Hid (limbs (qs.set i (val zs / (1000000000 ^ i * b')))) := limbs_set LQL.out i (by rw [← QEQ.out]; exact QLT)
      have STEP := Lib.hid (long_step (q := val zs / (1000000000 ^ i * b')) HT.out (by rw [LQ.out]; exact hi1) (Q0.out i (by omega)) rfl)
      have LESS : Hid (val ys < 1000000000 ^ i * b') := by show _ < _; rw [VF.out]; exact Nat.mod_lt _ (Nat.mul_pos (Nat.pow_pos (by omega)) HB0.out)
      rw [← VF.out] at STEP
      rcases Nat.eq_zero_or_pos i with h0 | h0
      · subst h0
        have NE := Lib.hid (HNE.out _ _ STEP.out (by have := LESS.out; rwa [Nat.pow_zero, Nat.one_mul] at this))
        have LT1 := Lib.hid (own_lim_is OF.out LLF.out LF.out (by omega))
        go_wp2_with fail
        refine (trim_is LT1.out LLF.out (by omega) rfl).mono ?_; rintro e w5 ⟨A5, n5, c5, rfl, h5, hb5⟩
        have hn5 : n5 ≤ n + 1 := by
          rw [← h5.len]; exact dg_len_le (by have := val_lt LLF.out; rwa [LF.out] at this)
        have H5 := Lib.hid h5
        have Q5 := Lib.hid (QF.out.below hb5 QF.out.lt)
        have HB5 := Lib.hid (HBF.out.trans (hb5.mono (Nat.le_of_lt OF.out.lt)))
        clear h5 hb5
        go_wp2_with fail
        refine (dsmall_fresh_is H5.out (by omega) HD0 (by omega) rfl NE.out.2 rfl).mono ?_; rintro e w6 ⟨A6, n6, c6, rfl, h6, f6, hb6⟩
        have H6 := Lib.hid h6
        have F6 := Lib.hid f6
        clear f6
        have Q6 := Lib.hid (Q5.out.below hb6 Q5.out.lt)
        have HB6 := Lib.hid (HB5.out.trans (hb6.mono HB5.out.size))
        have LT2 := Lib.hid (own_lim_is Q6.out LIM.out LQS.out (by omega))
        clear h6 hb6
        go_wp2_with fail
        refine (trim_new LT2.out LIM.out (by omega) NE.out.1).mono ?_; rintro e w7 ⟨A7, n7, c7, rfl, h7, f7, hb7⟩
        have H7 := Lib.hid h7
        have F7 := Lib.hid f7
        clear f7
        have H6 := Lib.hid ((H6.out.below hb7).more hb7.size)
        have HB7 := Lib.hid (HB6.out.trans (hb7.mono HB6.out.size))
        clear h7 hb7
        go_wp2_with fail
        simp only [Exit.jump]
        go_ret2
        exact ⟨_, _, _, _, _, _, rfl, H7.out, H6.out, fun ad h => Nat.le_trans (Nat.le_trans HB01.out.size HB6.out.size) (F7.out ad h), fun ad h => Nat.le_trans (Nat.le_trans HB01.out.size HB5.out.size) (F6.out ad h), HB01.out.trans (HB7.out.mono HB01.out.size)⟩
      · go_wp2_with fail
        go_step3
        rw [show ((i : Int) - 1) = ((i - 1 : Nat) : Int) from by omega]
        refine (show (0 = 0 ∧ _ ∧ _) from ⟨rfl, LongAt.make (i := i - 1) (zs := ys) (qs := qs.set i (val zs / (1000000000 ^ i * b'))) (w1 := w1) (A1 := A1) (c1 := c1) (g2 := g2) (by omega) LF.out LLF.out LQS.out LIM.out ?_ STEP.out ?_ OF.out QF.out HBF.out H1W.out HB01.out hg12, ?_⟩)
        · intro j hj; exact sdiv_zero Q0.out (by rw [LQ.out]; exact hi1) j (by omega)
        · rw [show i - 1 + 1 = i by omega]; exact LESS.out
        · simp [intOf]; have := NN.out; omega
    · have QEQ1 : G = val zs / (1000000000 ^ i * b') + 1 := EG.out.symm.trans hq
      have RM := round_much HBL.out HB0.out GG.out.2.2.1 LLY.out AY.out VY.out QEQ1
      have hcy := RM.1
      have RM := Lib.hid RM.2
      have hcq := Q4.out.cell (i := i) (by rw [List.length_set, LQ.out]; exact hi1)
      have hfq := Q4.out.frozen i
      rw [gd_set _ _ _ _ (by rw [LQ.out]; exact hi1), if_pos rfl] at hcq
      obtain ⟨G1, hG1⟩ : ∃ G1, G1 = val zs / (1000000000 ^ i * b') := ⟨_, rfl⟩
      rw [← hG1] at QEQ1
      have QLT : G1 < 1000000000 := by omega
      have QEQ := Lib.hid hG1
      clear hG1
      subst QEQ1
      clear hq
      go_wp2_with fail
      have Z5 := Lib.hid (OY.out.other (g' := g2) i (.int .u32 (G1 : Nat)) (by omega))
      have Q5 := Lib.hid (Q4.out.store i G1 (G1 : Nat) rfl)
      have HB5 := Lib.hid (HB4.out.setCell (p := ⟨g2, i, none⟩) (Nat.le_of_lt hg12) (.int .u32 (G1 : Nat)))
      have N5 := Lib.hid (H1W.out.below HB5.out)
      have QF0 := Q5
      rw [List.set_set] at QF0
      generalize w4.setCell ⟨g2, i, none⟩ (.int .u32 (G1 : Nat)) = w5 at *
      clear hcq hfq Q5
      refine (putBack_is (p := i + (k + 2) + 1 - i) Z5 LLY LY.out (by omega) (by omega) N5.out (by omega) (by omega)).mono ?_; rintro e w6 ⟨cy2, xs, rfl, hoy, hly, hyl, hay, hval, hk6⟩
      have OF := Lib.hid hoy
      have LF := Lib.hid hly
      have LLF := Lib.hid hyl
      have VF := Lib.hid (RM.out xs cy2 hyl hay hval)
      have QF := Lib.hid (QF0.out.kept hk6 (by omega))
      have HBF := Lib.hid (HB5.out.trans (hk6.below (Nat.le_refl _)))
      rw [QEQ.out] at QF
      clear hoy hly hyl hay hval hk6
      have LQS : Hid ((qs.set i (val zs / (1000000000 ^ i * b'))).length = m) := by show _ = _; rw [List.length_set]; exact LQ.out
      have LIM : Hid (limbs (qs.set i (val zs / (1000000000 ^ i * b')))) := limbs_set LQL.out i (by rw [← QEQ]; exact QLT)
      have STEP := Lib.hid (long_step (q := val zs / (1000000000 ^ i * b')) HT.out (by rw [LQ.out]; exact hi1) (Q0.out i (by omega)) rfl)
      have LESS : Hid (val xs < 1000000000 ^ i * b') := by show _ < _; rw [VF.out]; exact Nat.mod_lt _ (Nat.mul_pos (Nat.pow_pos (by omega)) HB0.out)
      rw [← VF.out] at STEP
      rcases Nat.eq_zero_or_pos i with h0 | h0
      · subst h0
        have NE := Lib.hid (HNE.out _ _ STEP.out (by have := LESS.out; rwa [Nat.pow_zero, Nat.one_mul] at this))
        have LT1 := Lib.hid (own_lim_is OF.out LLF.out LF.out (by omega))
        go_wp2_with fail
        refine (trim_is LT1.out LLF.out (by omega) rfl).mono ?_; rintro e w7 ⟨A5, n5, c5, rfl, h5, hb5⟩
        have hn5 : n5 ≤ n + 1 := by
          rw [← h5.len]; exact dg_len_le (by have := val_lt LLF.out; rwa [LF.out] at this)
        have H5 := Lib.hid h5
        have Q5 := Lib.hid (QF.out.below hb5 QF.out.lt)
        have HB5 := Lib.hid (HBF.out.trans (hb5.mono (Nat.le_of_lt OF.out.lt)))
        clear h5 hb5
        go_wp2_with fail
        refine (dsmall_fresh_is H5.out (by omega) HD0 (by omega) rfl NE.out.2 rfl).mono ?_; rintro e w8 ⟨A6, n6, c6, rfl, h6, f6, hb6⟩
        have H6 := Lib.hid h6
        have F6 := Lib.hid f6
        clear f6
        have Q6 := Lib.hid (Q5.out.below hb6 Q5.out.lt)
        have HB6 := Lib.hid (HB5.out.trans (hb6.mono HB5.out.size))
        have LT2 := Lib.hid (own_lim_is Q6.out LIM.out LQS.out (by omega))
        clear h6 hb6
        go_wp2_with fail
        refine (trim_new LT2.out LIM.out (by omega) NE.out.1).mono ?_; rintro e w9x ⟨A7, n7, c7, rfl, h7, f7, hb7⟩
        have H7 := Lib.hid h7
        have F7 := Lib.hid f7
        clear f7
        have H6 := Lib.hid ((H6.out.below hb7).more hb7.size)
        have HB7 := Lib.hid (HB6.out.trans (hb7.mono HB6.out.size))
        clear h7 hb7
        go_wp2_with fail
        simp only [Exit.jump]
        go_ret2
        exact ⟨_, _, _, _, _, _, rfl, H7.out, H6.out, fun ad h => Nat.le_trans (Nat.le_trans HB01.out.size HB6.out.size) (F7.out ad h), fun ad h => Nat.le_trans (Nat.le_trans HB01.out.size HB5.out.size) (F6.out ad h), HB01.out.trans (HB7.out.mono HB01.out.size)⟩
      · go_wp2_with fail
        go_step3
        rw [show ((i : Int) - 1) = ((i - 1 : Nat) : Int) from by omega]
        refine (show (0 = 0 ∧ _ ∧ _) from ⟨rfl, LongAt.make (i := i - 1) (zs := xs) (qs := qs.set i (val zs / (1000000000 ^ i * b'))) (w1 := w1) (A1 := A1) (c1 := c1) (g2 := g2) (by omega) LF.out LLF.out LQS.out LIM.out ?_ STEP.out ?_ OF.out QF.out HBF.out H1W.out HB01.out hg12, ?_⟩)
        · intro j hj; exact sdiv_zero Q0.out (by rw [LQ.out]; exact hi1) j (by omega)
        · rw [show i - 1 + 1 = i by omega]; exact LESS.out
        · simp [intOf]; have := NN.out; omega
  · intro PASS
    go_wp2_with fail
    rw [ED.out]
    refine (times_is H'.out (by omega) (by omega) EB.out).mono ?_; rintro e w1 ⟨A1, n1, c1, rfl, h1, hb1⟩
    obtain rfl : n1 = k + 2 := h1.len.symm.trans LB.out
    have H1 := Lib.hid h1
    have HB1 := Lib.hid hb1
    have X1 := Lib.hid ((H.out.below hb1).more hb1.size)
    clear h1 hb1
    go_wp2_with (first | (at_make; go_must (refine wpList_make_full _ rfl _ _ 23 rfl w1.heap.size 67 i0 (.int .u32 0) 1 Try.underlying23 hi hz0 hz1 _ _ _ _ (n + 1) rfl rfl (by omega) (by omega) (by rw [hz2]; omega) (by unfold maxLen; omega) (Nat.le_refl _) ?_; intro w2 hown2 hgr2; have M2 : Hid (Own w2 w1.heap.size (List.replicate (n + 1) 0)) := Own.of_made hown2; have HB2 : Hid (Below w1.heap.size w1 w2) := (Below.refl _ _).grown hgr2 (Nat.le_refl _) (fun k hk => by cases hk); clear hown2 hgr2)) | fail)
    refine (times_is ((X1.out.below HB2.out).more HB2.out.size) (by omega) (by omega) EA.out).mono ?_; rintro e w3 ⟨A3, n3, c3, rfl, h3, hb3⟩
    have hn3 : n3 ≤ n + 1 := by rw [← h3.len]; exact LA.out
    have H3 := Lib.hid h3
    have HB3 := Lib.hid (HB2.out.trans (hb3.mono HB2.out.size))
    have M3 := Lib.hid (M2.out.below hb3 M2.out.lt)
    have hm3 := h3.room
    have hcap3 := h3.cap
    unfold maxLen at hm3
    clear h3 hb3
    go_wp2_with (first | (at_make; go_must (refine wpList_make_full _ rfl _ _ 23 rfl w4.heap.size 67 i0 (.int .u32 0) 1 Try.underlying23 hi hz0 hz1 _ _ _ _ m (by first | rfl | (exact congrArg (Value.int IntKind.i64) (by omega))) (by first | rfl | (exact congrArg (Value.int IntKind.i64) (by omega))) (by omega) (by omega) (by rw [hz2]; omega) (by unfold maxLen; omega) (Nat.le_refl _) ?_; intro w5 hown5 hgr5; have M5 : Hid (Own w5 w4.heap.size (List.replicate m 0)) := Own.of_made hown5; have HB5 : Hid (Below w4.heap.size w4 w5) := (Below.refl _ _).grown hgr5 (Nat.le_refl _) (fun k hk => by cases hk); clear hown5 hgr5)) | ((with_reducible show wpList _ _ _ (⟨some 29, _, _, _, _, _⟩ :: _) _ _); go_must (refine wpList_copy_splice rfl (.tmp 25) (.tmp 28) 23 23 rfl 67 Try.underlying23 info_one _ _ _ _ _ _ rfl rfl w1.heap.size 0 (vals (List.replicate (n + 1) 0)) 67 M3.out (vals (dg a')) (copy_len H3.out hn3).1 (fun hp => ⟨rfl, lim_src H3.out hp⟩) (copy_len H3.out hn3).2 (vals_one _) w1.heap.size w1 HB3.out (Nat.le_refl _) ?_; intro w4 hg4 hb4; have O4 := Lib.hid (own_copied H3.out hn3 hg4); have HB4 := Lib.hid hb4; clear hg4 hb4)) | fail)
    go_step3
    simp only [Exit.then]
    rename_i K
    rw [show ((m : Int) - 1) = ((m - 1 : Nat) : Int) from by omega]
    refine K _ _ (PASS.out _ _ (LongAt.make (i := m - 1) (zs := dg a' ++ List.replicate (n + 1 - n3) 0) (qs := List.replicate m 0) (w1 := w1) (A1 := A1) (c1 := c1) (g2 := w4.heap.size) (by omega) ?_ ?_ (by simp) (zeros_limbs _) (fun j _ => gd_zeros _ _) ?_ ?_ ?_ M5.out ?_ H1.out HB1.out ?_))
    · rw [List.length_append, List.length_replicate, H3.out.len]; omega
    · exact limbs_append.2 ⟨limbs_dg _, zeros_limbs _⟩
    · rw [val_append, val_zeros, val_zeros, val_dg]; simp
    · rw [val_append, val_zeros, val_dg, Nat.mul_zero, Nat.add_zero, show m - 1 + 1 = m by omega]; exact ST.out
    · exact O4.out.below HB5.out O4.out.lt
    · exact HB4.out.trans (HB5.out.mono HB4.out.size)
    · exact O4.out.lt


set_option maxRecDepth 100000 in
set_option maxHeartbeats 1000000 in
theorem div_fresh (A A' : Option Addr) (n c n' c' a b : Nat) (w : World) (h : Num w w.heap.size A n c a) (h' : Num w w.heap.size A' n' c' b) (hn : n ≤ 100000) (hb : 0 < b) :
    Calls Try.prog 48 #[.slice A n c, .slice A' n' c'] w (RetDivF w (a / b) (a % b)) := by
  have hn' := dg_len_pos h'.len hb
  have hm' := h'.room
  have hcap' := h'.cap
  unfold maxLen at hm'
  have C := Lib.hid (sound_is h)
  have C' := Lib.hid (sound_is h')
  rcases Nat.lt_or_ge a b with hlt | hge
  · have CC := Lib.hid (cmp_is h h' (cmpN_lt hlt))
    have HQ : Hid (a / b = 0) := Nat.div_eq_of_lt hlt
    have HR : Hid (a % b = a) := Nat.mod_eq_of_lt hlt
    have H := Lib.hid h
    clear h h' hlt hb
    go_enter Try.func48, Try.ntmps48
    go_wp2_with fail
    refine C.out.mono ?_; rintro e w' ⟨rfl, rfl⟩
    go_wp2_with fail
    refine C'.out.mono ?_; rintro e w' ⟨rfl, rfl⟩
    go_wp2_with fail
    refine CC.out.mono ?_; rintro e w1 ⟨rfl, hb1⟩
    have HB1 := Lib.hid hb1
    have H1 := Lib.hid ((H.out.below hb1).more hb1.size)
    clear hb1
    go_wp2_with fail
    refine (trim_new H1.out (limbs_dg a) (by omega) (val_dg a)).mono ?_; rintro e w2 ⟨A2, n2, c2, rfl, h2, f2, hb2⟩
    have F2 := Lib.hid f2
    clear f2
    have H2 := Lib.hid h2
    have HB2 := Lib.hid (HB1.out.trans (hb2.mono HB1.out.size))
    clear h2 hb2
    go_wp2_with fail
    go_ret3
    exact ⟨_, _, _, _, _, _, rfl, by rw [HQ.out, Num, dg_zero]; exact Lim.nil, by rw [HR.out]; exact H2.out, fun ad h => (by cases h), fun ad h => Nat.le_trans HB1.out.size (F2.out ad h), HB2.out⟩
  · have hs : 0 ≤ cmpN a b := by
      rcases Int.lt_or_le (cmpN a b) 0 with h1 | h1
      · rw [cmpN_neg] at h1; omega
      · exact h1
    have CC := Lib.hid (fun w1 (hb1 : Below w.heap.size w w1) => cmp_any A A' n c n' c' a b w1 ((h.below hb1).more hb1.size) ((h'.below hb1).more hb1.size))
    generalize cmpN a b = s at *
    rcases Nat.eq_or_lt_of_le (show 1 ≤ n' from hn') with h1 | h1
    · subst h1
      have D1 := dg_one h'.len
      obtain ⟨b3, o3, rfl, hB3, hc3⟩ := h'.at_ (show 0 < 1 by omega)
      have hc4 : w.cell? ⟨b3, o3, none⟩ = some (.int .u32 (b : Nat)) := by rw [Nat.add_zero, D1.1, gd_cons_zero] at hc3; exact hc3
      have hbl := D1.2
      have H := Lib.hid h
      clear h h' hge hc3 D1
      go_enter Try.func48, Try.ntmps48
      go_wp2_with fail
      refine C.out.mono ?_; rintro e w' ⟨rfl, rfl⟩
      go_wp2_with fail
      refine C'.out.mono ?_; rintro e w' ⟨rfl, rfl⟩
      go_wp2_with fail
      refine (CC.out w (Below.refl _ _)).mono ?_; rintro e w1 ⟨rfl, hb1⟩
      have HB1 := Lib.hid hb1
      have H1 := Lib.hid ((H.out.below hb1).more hb1.size)
      have hc5 := (hb1.cell (p := ⟨b3, o3, none⟩) hB3).trans hc4
      clear hb1 hc4
      go_wp2_with fail
      refine (dsmall_fresh_is H1.out (by omega) hb (by omega) rfl rfl rfl).mono ?_; rintro e w2 ⟨A2, n2, c2, rfl, h2, f2, hb2⟩
      have F2 := Lib.hid f2
      clear f2
      have H2 := Lib.hid h2
      have HB2 := Lib.hid (HB1.out.trans (hb2.mono HB1.out.size))
      have hr : a % b < 1000000000 := Nat.lt_trans (Nat.mod_lt _ hb) hbl
      have HR := Lib.hid hr
      clear h2 hb2 hc5 hr
      obtain ⟨r, hr⟩ : ∃ r, a % b = r := ⟨_, rfl⟩
      rw [hr] at HR ⊢
      have hrl := HR.out
      have HRE := Lib.hid hr
      clear hr HR
      go_wp2_with fail
      refine (make_fresh r (Lib.hid (by omega)) w2).mono ?_; rintro e w3 ⟨A3, n3, c3, rfl, h3, f3, hb3⟩
      have F3 := Lib.hid f3
      clear f3
      have H3 := Lib.hid h3
      have H2 := Lib.hid ((H2.out.below hb3).more hb3.size)
      have HB3 := Lib.hid (HB2.out.trans (hb3.mono HB2.out.size))
      clear h3 hb3
      go_wp2_with fail
      go_ret3
      exact ⟨_, _, _, _, _, _, rfl, H2.out, by rw [HRE.out]; exact H3.out, fun ad h => Nat.le_trans HB1.out.size (F2.out ad h), fun ad h => Nat.le_trans HB2.out.size (F3.out ad h), HB3.out⟩
    · obtain ⟨k, rfl⟩ : ∃ k, n' = k + 2 := ⟨n' - 2, by omega⟩
      have LL := Lib.hid (fun w1 (hb1 : Below w.heap.size w w1) => long_fresh A A' n c k c' a b w1 ((h.below hb1).more hb1.size) ((h'.below hb1).more hb1.size) hn hge)
      clear h h' hge hb
      go_enter Try.func48, Try.ntmps48
      go_wp2_with fail
      refine C.out.mono ?_; rintro e w' ⟨rfl, rfl⟩
      go_wp2_with fail
      refine C'.out.mono ?_; rintro e w' ⟨rfl, rfl⟩
      go_wp2_with fail
      refine (CC.out w (Below.refl _ _)).mono ?_; rintro e w1 ⟨rfl, hb1⟩
      have HB1 := Lib.hid hb1
      clear hb1
      go_wp2_with fail
      refine (LL.out w1 HB1.out).mono ?_; rintro e w2 ⟨A2, n2, c2, A3, n3, c3, rfl, h2, h3, f2, f3, hb2⟩
      have F2 := Lib.hid f2
      have F3 := Lib.hid f3
      clear f2 f3
      have H2 := Lib.hid h2
      have H3 := Lib.hid h3
      have HB2 := Lib.hid (HB1.out.trans (hb2.mono HB1.out.size))
      clear h2 h3 hb2
      go_wp2_with fail
      go_ret3
      exact ⟨_, _, _, _, _, _, rfl, H2.out, H3.out, fun ad h => Nat.le_trans HB1.out.size (F2.out ad h), fun ad h => Nat.le_trans HB1.out.size (F3.out ad h), HB2.out⟩

end Go.Proofs.Ytllcjahekckbfaa
