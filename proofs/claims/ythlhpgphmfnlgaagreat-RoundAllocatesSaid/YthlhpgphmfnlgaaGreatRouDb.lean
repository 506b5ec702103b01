/-
 The greatest of what is left, taken again and again, plain; the document's shares and rests against Allocate's.
-/
import Derived.Test.YthlhpgphmfnlgaaGreatRouS
set_option maxRecDepth 100000
set_option maxHeartbeats 32000000
set_option linter.unusedVariables false
set_option linter.unusedSimpArgs false
namespace Go.Proofs.YthlhpgphmfnlgaaGreat
open Go.RowKit
def am (g : Nat → Int) : Nat → Nat
 | 0 => 0
 | i + 1 => if g (am g i) < g i then i else am g i
theorem am_lt (g : Nat → Int) : ∀ {m : Nat}, 0 < m → am g m < m
 | 0, h => absurd h (Nat.not_lt_zero _)
 | m + 1, _ => by
   show (if _ then m else am g m) < m + 1
   split
   · omega
   · rcases Nat.eq_zero_or_pos m with rfl | h
     · show 0 < 1; omega
     · have := am_lt g h; omega
theorem am_top (g : Nat → Int) : ∀ {m j : Nat}, j < m → g j ≤ g (am g m)
 | 0, _, h => absurd h (Nat.not_lt_zero _)
 | m + 1, j, h => by
   show g j ≤ g (if g (am g m) < g m then m else am g m)
   rcases Nat.lt_or_ge j m with h1 | h1
   · have h2 := am_top g h1
     split <;> omega
   · obtain rfl : j = m := by omega
     split <;> omega
theorem am_first (g : Nat → Int) : ∀ {m j : Nat}, j < am g m → g j < g (am g m)
 | 0, _, h => absurd h (Nat.not_lt_zero _)
 | m + 1, j, h => by
   change j < (if g (am g m) < g m then m else am g m) at h
   show g j < g (if g (am g m) < g m then m else am g m)
   by_cases e : g (am g m) < g m
   · rw [if_pos e] at h ⊢
     have := am_top g h
     omega
   · rw [if_neg e] at h ⊢
     exact am_first g h
theorem am_is {g : Nat → Int} {m z : Nat} (hz : z < m) (h1 : ∀ j, j < m → g j ≤ g z) (h2 : ∀ j, j < z → g j < g z) : am g m = z := by
 have a1 := am_lt g (show 0 < m by omega)
 have a2 := am_top g hz
 have a3 := h1 _ a1
 rcases Nat.lt_trichotomy (am g m) z with h | h | h
 · have := h2 _ h; omega
 · exact h
 · have := am_first g h; omega
def curR (neg : Int) (f : Nat → Int) (zs : List Nat) : Nat → Nat → Int
 | 0, j => f j
 | k + 1, j => if j = gd zs k then neg else curR neg f zs k j
section
variable {neg : Int} {f : Nat → Int} {zs : List Nat} {m : Nat}
theorem curR_had (h : Srt f zs m) : ∀ {k b : Nat}, b < k → k ≤ m → curR neg f zs k (gd zs b) = neg
 | 0, _, h, _ => absurd h (Nat.not_lt_zero _)
 | k + 1, b, hb, hk => by
   show (if gd zs b = gd zs k then neg else _) = neg
   by_cases e : gd zs b = gd zs k
   · rw [if_pos e]
   · rw [if_neg e]
     refine curR_had h ?_ (by omega)
     rcases Nat.lt_or_ge b k with h1 | h1
     · exact h1
     · obtain rfl : b = k := by omega
       exact absurd rfl e
theorem curR_yet (h : Srt f zs m) : ∀ {k b : Nat}, k ≤ b → b < m → curR neg f zs k (gd zs b) = f (gd zs b)
 | 0, _, _, _ => rfl
 | k + 1, b, hb, hm => by
   show (if gd zs b = gd zs k then neg else _) = _
   rw [if_neg (fun e => srt_ne h (show k < b by omega) hm e.symm)]
   exact curR_yet h (by omega) hm
theorem am_cur (h : Srt f zs m) (hn : ∀ j, j < m → neg < f j) {k : Nat} (hk : k < m) : am (curR neg f zs k) m = gd zs k := by
 refine am_is (h.1 k hk) (fun j hj => ?_) (fun j hj => ?_)
 · obtain ⟨b, hb, rfl⟩ := srt_all h hj
   rw [curR_yet h (Nat.le_refl k) hk]
   rcases Nat.lt_or_ge b k with h1 | h1
   · rw [curR_had h h1 (by omega)]
     have := hn _ (h.1 k hk); omega
   · rw [curR_yet h h1 hb]
     exact srt_le h h1 hb
 · have hjm : j < m := Nat.lt_trans hj (h.1 k hk)
   obtain ⟨b, hb, rfl⟩ := srt_all h hjm
   rw [curR_yet h (Nat.le_refl k) hk]
   rcases Nat.lt_or_ge b k with h1 | h1
   · rw [curR_had h h1 (by omega)]
     exact hn _ (h.1 k hk)
   · rw [curR_yet h h1 hb]
     rcases Nat.lt_or_ge k b with h2 | h2
     · have := h.2 k b h2 hb
       unfold Bef at this
       omega
     · obtain rfl : k = b := by omega
       omega
end
theorem srt_like {f g : Nat → Int} {zs : List Nat} {m : Nat} (h : Srt f zs m) (hlt : ∀ i j, i < m → j < m → (f i < f j ↔ g i < g j)) : Srt g zs m := by
 refine ⟨h.1, fun a b hab hb => ?_⟩
 have h1 := h.2 a b hab hb
 have h2 := hlt (gd zs a) (gd zs b) (h.1 a (by omega)) (h.1 b hb)
 have h3 := hlt (gd zs b) (gd zs a) (h.1 b hb) (h.1 a (by omega))
 unfold Bef at h1 ⊢
 omega
def downN (i j k : Int) (s t u S : Nat) : Nat := (i * j).natAbs * 10 ^ (S + u) / (k.natAbs * 10 ^ (s + t))
theorem div_alike {N1 D1 N2 D2 : Nat} (h1 : 0 < D1) (h2 : 0 < D2) (h : N1 * D2 = N2 * D1) : N1 / D1 = N2 / D2 := by
 rw [← Nat.mul_div_mul_right N1 D1 h2, h, Nat.mul_comm D1 D2, Nat.mul_div_mul_right N2 D2 h1]
theorem quant_whole {i : Int} {s S : Nat} (h : exactB i s S = true) : (quantZ i s S).natAbs * 10 ^ s = i.natAbs * 10 ^ S := by
 have h1 := quant_exact i s S true h
 have h2 : subZ i s (quantZ i s S) S = 0 := by
   rw [beq_iff_eq, Int.sign_eq_zero_iff_zero] at h1; omega
 have h3 := up_subZ (i := i) (j := quantZ i s S) (s := s) (t := S) (M := s + S) (by omega) (by omega)
 rw [h2, up_zero] at h3
 have h4 : up i s (s + S) = up (quantZ i s S) S (s + S) := by omega
 have h5 := congrArg Int.natAbs h4
 rw [abs_up, abs_up, Nat.add_sub_cancel_left, Nat.add_sub_cancel] at h5
 exact h5.symm
theorem part_own {d : Nat → Int × Nat} {m j : Nat} (hj : j < m) : partP d m j * 10 ^ (d j).2 = (d j).1.natAbs * 10 ^ sumS (shS d) m := by
 have h1 : up (up (shS d j).1 (shS d j).2 (sumS (shS d) m)) (sumS (shS d) m) ((d j).2 + sumS (shS d) m) = up (shS d j).1 (shS d j).2 ((d j).2 + sumS (shS d) m) := up_up (sumS_ge hj) (Nat.le_add_left _ _)
 have h2 : up (shS d j).1 (shS d j).2 ((d j).2 + sumS (shS d) m) = up (d j).1 (d j).2 ((d j).2 + sumS (shS d) m) := up_strip (Nat.le_add_right _ _)
 have h3 := congrArg Int.natAbs (h1.trans h2)
 rw [abs_up (up (shS d j).1 _ _), abs_up (d j).1, Nat.add_sub_cancel, Nat.add_sub_cancel_left] at h3
 exact h3
theorem alike_cross {a b c z x W A B T U M : Nat} (hM : 0 < M) (Hz : z * A = a * B) (Hp : x * T = b * M) (Hw : c * M = W * U) : a * b * (B * U) * W = z * x * (c * (A * T)) := by
 refine Nat.eq_of_mul_eq_mul_right hM ?_
 have e1 : z * x * (c * (A * T)) * M = z * A * (x * T) * (c * M) := by grind
 rw [e1, Hz, Hp, Hw]
 grind
theorem alike_top {a b z x A B T M C D : Nat} (hA : 0 < A * T) (Hz : z * A = a * B) (Hp : x * T = b * M) (HD : D * (A * T) = C * (B * M)) : a * b * D = z * x * C := by
 refine Nat.eq_of_mul_eq_mul_right hA ?_
 have e1 : z * x * C * (A * T) = z * A * (x * T) * C := by grind
 have e2 : a * b * D * (A * T) = a * b * (D * (A * T)) := by grind
 rw [e1, e2, Hz, Hp, HD]
 grind
theorem alike_low {q c W B U M C F : Nat} (hB : 0 < B * U) (Hw : c * M = W * U) (HF : F * (B * U) = C * (B * M)) : q * c * F = q * W * C := by
 refine Nat.eq_of_mul_eq_mul_right hB ?_
 have e1 : q * c * F * (B * U) = q * c * (F * (B * U)) := by grind
 have e2 : q * W * C * (B * U) = q * (W * U) * C * B := by grind
 rw [e1, e2, HF, ← Hw]
 grind
theorem down_share {i : Int} {s S m j : Nat} {d : Nat → Int × Nat} (hex : exactB i s S = true) (hneg : ∀ j, j < m → 0 ≤ (d j).1) (hW : 0 < wholeW d m) (hj : j < m) :
   downN i (d j).1 (sumI d m) s (d j).2 (sumS d m) S = (quantZ i s S).natAbs * partP d m j / wholeW d m := by
 have hP : 0 < (sumI d m).natAbs := by
   have h1 := whole_by hneg
   have h2 : 0 < wholeW d m * 10 ^ sumS d m := Nat.mul_pos hW (ten_pos _)
   rw [← h1] at h2
   exact Nat.pos_of_mul_pos_right h2
 unfold downN
 refine div_alike (Nat.mul_pos hP (ten_pos _)) hW ?_
 rw [Int.natAbs_mul, Nat.pow_add, Nat.pow_add]
 exact alike_cross (ten_pos _) (quant_whole hex) (part_own hj) (whole_by hneg)
theorem ten_whole {b c M : Nat} (h : b + c ≤ M) : 10 ^ (M - (b + c)) * (10 ^ b * 10 ^ c) = 10 ^ M := by
 rw [← Nat.pow_add, ← Nat.pow_add]; congr 1; omega
theorem down_rest {i : Int} {s S m j MM : Nat} {d : Nat → Int × Nat} (hex : exactB i s S = true) (hneg : ∀ j, j < m → 0 ≤ (d j).1) (hW : 0 < wholeW d m) (hj : j < m) (h1 : s + (d j).2 ≤ MM) (h2 : S + sumS d m ≤ MM) (h3 : S + sumS (shS d) m ≤ MM) :
   up (subZ ((i * (d j).1).natAbs : Int) (s + (d j).2) (((downN i (d j).1 (sumI d m) s (d j).2 (sumS d m) S : Nat) : Int) * sumI d m) (S + sumS d m)) (max (s + (d j).2) (S + sumS d m)) MM = ((restN (quantZ i s S).natAbs d m j * 10 ^ (MM - (S + sumS (shS d) m)) : Nat) : Int) := by
 have hP := sumI_nonneg hneg
 obtain ⟨c, hc⟩ : ∃ c : Nat, sumI d m = (c : Int) := ⟨(sumI d m).natAbs, by omega⟩
 rw [up_subZ h1 h2, down_share hex hneg hW hj]
 have hw := whole_by hneg
 rw [hc, Int.natAbs_natCast] at hw
 have e1 := alike_top (a := i.natAbs) (b := (d j).1.natAbs) (C := 10 ^ (MM - (S + sumS (shS d) m))) (D := 10 ^ (MM - (s + (d j).2))) (Nat.mul_pos (ten_pos s) (ten_pos (d j).2)) (quant_whole hex) (part_own hj) ((ten_whole h1).trans (ten_whole h3).symm)
 have e2 := alike_low (q := (quantZ i s S).natAbs * partP d m j / wholeW d m) (C := 10 ^ (MM - (S + sumS (shS d) m))) (F := 10 ^ (MM - (S + sumS d m))) (Nat.mul_pos (ten_pos S) (ten_pos (sumS d m))) hw ((ten_whole h2).trans (ten_whole h3).symm)
 have e3 := Nat.div_add_mod ((quantZ i s S).natAbs * partP d m j) (wholeW d m)
 show ((i * (d j).1).natAbs : Int) * ((10 ^ (MM - (s + (d j).2)) : Nat) : Int) - ((_ : Nat) : Int) * sumI d m * ((10 ^ (MM - (S + sumS d m)) : Nat) : Int) = _
 rw [hc, Int.natAbs_mul, ← Int.natCast_mul, ← Int.natCast_mul, ← Int.natCast_mul, e1, e2]
 have e4 : (quantZ i s S).natAbs * partP d m j * 10 ^ (MM - (S + sumS (shS d) m)) = (quantZ i s S).natAbs * partP d m j / wholeW d m * wholeW d m * 10 ^ (MM - (S + sumS (shS d) m)) + restN (quantZ i s S).natAbs d m j * 10 ^ (MM - (S + sumS (shS d) m)) := by
   rw [← Nat.add_mul, Nat.mul_comm _ (wholeW d m)]
   unfold restN
   rw [e3]
 rw [e4]
 omega
end Go.Proofs.YthlhpgphmfnlgaaGreat
