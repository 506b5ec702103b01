/-
 The contract of Allocate, where no part is above nought; what the law RoundWhole needs of plain mathematics.
-/
import Derived.Test.YthlhpgphmfnlgaaGreatRouR
import Derived.Test.YthlhpgphmfnlgaaGreatRouU
set_option maxRecDepth 100000
set_option maxHeartbeats 32000000
set_option linter.unusedVariables false
set_option linter.unusedSimpArgs false
namespace Go.Proofs.YthlhpgphmfnlgaaGreat
open Go.RowKit
def RetNoneErr (W : World) (er : Int) (e : Ending) (w' : World) : Prop := e = .returned (.tuple #[.slice none 0 0, .int .i64 er]) ∧ Below W.heap.size W w'
theorem alloc_none (A A1 : Option Addr) (n c s m c1 : Nat) (i v : Int) (d : Nat → Int × Nat) (p : Nat → Option Addr × Nat × Nat) (w : World) (h : Num w w.heap.size A n c i.natAbs) (hD : Decs w w.heap.size A1 m c1 d p)
   (hneg : ∀ j, j < m → (d j).1 = 0) :
   Calls Tryz.prog 6 #[.agg #[.bool (ngB i), .slice A n c, .int .i64 (s : Int)], .slice A1 m c1, .int .i64 v] w (RetNoneErr w 4) := by
 have H := Lib.hid h
 have HD := Lib.hid hD
 have HNEG : Hid (¬ ∃ j, j < m ∧ ngB (d j).1 = true) := by
   rintro ⟨j, hj, h1⟩
   have := hneg j hj
   have := of_decide_eq_true h1
   omega
 have HPOS : Hid (¬ ∃ j, j < m ∧ decide (0 < (d j).1) = true) := by
   rintro ⟨j, hj, h1⟩
   have := hneg j hj
   have := of_decide_eq_true h1
   omega
 clear h hD hneg
 go_enter Tryz.func6, Tryz.ntmps6
 go_wp2_with fail
 generalize hW : World.alloc w _ = W0
 have E0 : St w W0 [(A, n, c, i.natAbs)] [(w.heap.size, .bool (ngB i), .slice A n c, .int .i64 (s : Int))] := by rw [← hW]; exact (start_one H.out).lay rfl
 have E := Lib.hid E0
 clear hW E0
 refine (some_any 22 ngB by_below 12 60 A1 m c1 d p _ (DecsG.of (HD.out.on E.out.bel))).mono ?_
 rintro e w1 ⟨⟨b, rfl, hb0⟩, hb⟩
 obtain rfl : b = false := by
   cases b with
   | false => rfl
   | true => exact absurd (hb0.1 rfl) HNEG.out
 replace E := Lib.hid (St.step E.out hb)
 clear hb hb0
 go_wp2_with fail
 refine (some_any 23 (fun i => decide (0 < i)) by_above 12 60 A1 m c1 d p _ (DecsG.of (HD.out.on E.out.bel))).mono ?_
 rintro e w2 ⟨⟨b, rfl, hb0⟩, hb⟩
 obtain rfl : b = false := by
   cases b with
   | false => rfl
   | true => exact absurd (hb0.1 rfl) HPOS.out
 replace E := Lib.hid (St.step E.out hb)
 clear hb hb0
 go_wp2_with fail
 go_ret2
 exact ⟨rfl, E.out.bel⟩
theorem sgn_plus (b : Bool) (x y : Nat) : sgn b x + sgn b y = sgn b (x + y) := by
 unfold sgn; cases b <;> simp <;> omega
theorem sgn_zero (b : Bool) : sgn b 0 = 0 := by unfold sgn; cases b <;> rfl
theorem sum_sgn {d : Nat → Int × Nat} {x : Nat → Nat} {S : Nat} {b : Bool} : ∀ {m : Nat}, (∀ j, j < m → d j = (sgn b (x j), S)) → sumI d m = sgn b (sumN x m) ∧ (0 < m → sumS d m = S) ∧ sumS d m ≤ S
 | 0, _ => ⟨(sgn_zero b).symm, fun h => absurd h (Nat.not_lt_zero _), Nat.zero_le _⟩
 | m + 1, h => by
   obtain ⟨h1, h2, h3⟩ := sum_sgn (m := m) (fun j hj => h j (by omega))
   have h4 := h m (by omega)
   have h5 : sumS d (m + 1) = S := by
     show max (sumS d m) (d m).2 = S
     rw [h4]; show max (sumS d m) S = S; omega
   refine ⟨?_, fun _ => h5, by omega⟩
   show addZ (sumI d m) (sumS d m) (d m).1 (d m).2 = sgn b (sumN x m + x m)
   have h6 : max (sumS d m) S = S := by omega
   rw [h4, h1]
   show up _ _ (max (sumS d m) S) + up _ S (max (sumS d m) S) = _
   rw [h6, up_same, ← sgn_plus]
   rcases Nat.eq_zero_or_pos m with h0 | h0
   · subst h0; show up (sgn b 0) _ _ + _ = sgn b 0 + _; rw [sgn_zero, up_zero]
   · rw [h2 h0, up_same]
theorem up_strip {i : Int} {s M : Nat} (h : s ≤ M) : up (stripI i s 0) (s - stripK i s 0) M = up i s M := by
 have h1 := strip_mul i s 0
 have h2 := stripK_le i s 0
 unfold up
 rw [show M - (s - stripK i s 0) = stripK i s 0 + (M - s) by omega, Nat.pow_add, Int.natCast_mul, ← Int.mul_assoc, h1]
theorem tot_congr {d d' : Nat → Int × Nat} {M : Nat} : ∀ {k : Nat}, (∀ j, j < k → up (d j).1 (d j).2 M = up (d' j).1 (d' j).2 M) → tot d M k = tot d' M k
 | 0, _ => rfl
 | k + 1, h => by
   show tot d M k + _ = tot d' M k + _
   rw [tot_congr (k := k) (fun j hj => h j (by omega)), h k (by omega)]
theorem nonneg_of_up {x : Int} {s M : Nat} (h : 0 ≤ up x s M) : 0 ≤ x := by
 refine Decidable.byContradiction fun hn => ?_
 have h2 : up x s M < 0 := by
   unfold up
   exact Int.mul_neg_of_neg_of_pos (by omega) (by have := ten_pos (M - s); omega)
 omega
theorem sumI_nonneg {d : Nat → Int × Nat} {m : Nat} (h : ∀ j, j < m → 0 ≤ (d j).1) : 0 ≤ sumI d m := by
 have h1 := sum_up (d := d) (M := sumS d m) (k := m) (fun j hj => sumS_ge hj)
 have h2 := tot_nat (d := d) (M := sumS d m) (k := m) (fun j hj => up_nonneg (h j hj))
 refine nonneg_of_up (s := sumS d m) (M := sumS d m) ?_
 rw [h1.2, h2]
 exact Int.natCast_nonneg _
theorem whole_by {d : Nat → Int × Nat} {m : Nat} (h : ∀ j, j < m → 0 ≤ (d j).1) : (sumI d m).natAbs * 10 ^ sumS (shS d) m = wholeW d m * 10 ^ sumS d m := by
 have h1 := sum_up (d := d) (M := sumS d m + sumS (shS d) m) (k := m) (fun j hj => Nat.le_trans (sumS_ge hj) (Nat.le_add_right _ _))
 have h2 := sum_up (d := shS d) (M := sumS d m + sumS (shS d) m) (k := m) (fun j hj => Nat.le_trans (sumS_ge hj) (Nat.le_add_left _ _))
 have h3 : tot (shS d) (sumS d m + sumS (shS d) m) m = tot d (sumS d m + sumS (shS d) m) m := tot_congr fun j hj => up_strip (Nat.le_trans (sumS_ge hj) (Nat.le_add_right _ _))
 have h4 := congrArg Int.natAbs (h2.2.trans (h3.trans h1.2.symm))
 rw [abs_up, abs_up, Nat.add_sub_cancel, Nat.add_sub_cancel_left] at h4
 exact h4.symm
theorem sum_above {d : Nat → Int × Nat} {m : Nat} (h : ∀ j, j < m → 0 ≤ (d j).1) (hp : ∃ j, j < m ∧ 0 < (d j).1) : (sumI d m).sign = 1 := by
 have h1 := whole_by h
 have h2 := whole_pos h hp
 have h3 : 0 < wholeW d m * 10 ^ sumS d m := Nat.mul_pos h2 (ten_pos _)
 rw [← h1] at h3
 have h4 := Nat.pos_of_mul_pos_right h3
 have h5 := sumI_nonneg h
 exact Int.sign_eq_one_of_pos (by omega)
theorem sum_nought {d : Nat → Int × Nat} : ∀ {m : Nat}, (∀ j, j < m → (d j).1 = 0) → sumI d m = 0
 | 0, _ => rfl
 | m + 1, h => by
   show addZ (sumI d m) (sumS d m) (d m).1 (d m).2 = 0
   rw [sum_nought (m := m) (fun j hj => h j (by omega)), h m (by omega)]
   unfold addZ
   rw [up_zero, up_zero]; rfl
theorem Raws.take {w : World} {B n c k : Nat} {A : Option Addr} {r : Nat → Rw} (h : Raws w B A n c r) (hk : k ≤ n) : Raws w B A k c r := by
 refine ⟨Nat.le_trans hk h.cap, h.room, ?_, fun j hj => h.lim j (by omega), h.addr⟩
 rcases h.row with h0 | ⟨b, o, hA, hB, hc⟩
 · exact .inl (by omega)
 · exact .inr ⟨b, o, hA, hB, fun j hj => hc j (by omega)⟩
theorem first_bad (q : Nat → Bool) : ∀ n, ∃ k, k ≤ n ∧ (∀ j, j < k → q j = false) ∧ (k = n ∨ q k = true)
 | 0 => ⟨0, Nat.le_refl _, fun j hj => absurd hj (Nat.not_lt_zero _), .inl rfl⟩
 | n + 1 => by
   obtain ⟨k, hk, h1, h2⟩ := first_bad q n
   rcases h2 with rfl | h2
   · cases hq : q k with
     | true => exact ⟨k, by omega, h1, .inr hq⟩
     | false => exact ⟨k + 1, by omega, fun j hj => by
         rcases Nat.lt_or_ge j k with h3 | h3
         · exact h1 j h3
         · obtain rfl : j = k := by omega
           exact hq, .inl rfl⟩
   · exact ⟨k, by omega, h1, .inr h2⟩
end Go.Proofs.YthlhpgphmfnlgaaGreat
