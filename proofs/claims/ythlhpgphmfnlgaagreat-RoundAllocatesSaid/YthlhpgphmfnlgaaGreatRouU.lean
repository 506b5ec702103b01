/-
 Layer 6, plain: what the laws say of the values.
-/
import Derived.Test.YthlhpgphmfnlgaaGreatAllRouMathA
import Derived.Test.YthlhpgphmfnlgaaGreatAllDecD
set_option maxRecDepth 100000
set_option maxHeartbeats 32000000
set_option linter.unusedVariables false
set_option linter.unusedSimpArgs false
namespace Go.Proofs.YthlhpgphmfnlgaaGreat
open Go.RowKit
theorem near_bound {a b x : Nat} (hb : 0 < b) (h : a < x * b) : nearN a b ≤ x := by
 obtain ⟨_, g, _⟩ := near_spec (a := a) hb
 rcases Nat.lt_or_ge x (nearN a b) with h1 | h1
 · have := Nat.mul_le_mul_right b (show x + 1 ≤ nearN a b from h1)
   rw [Nat.succ_mul] at this
   generalize nearN a b * b = Y at *
   generalize x * b = Z at *
   omega
 · exact h1
theorem Sz.quant {i : Int} {s K : Nat} (S : Nat) (h : Sz i s K) : Sz (quantZ i s S) S (K + 1) := by
 unfold Sz at h ⊢
 unfold quantZ
 rw [abs_sgn]
 have e : 10 ^ (K + S) * 10 ^ s = 10 ^ (K + s) * 10 ^ S := by rw [← Nat.pow_add, ← Nat.pow_add]; congr 1; omega
 have h1 : nearN (i.natAbs * 10 ^ S) (10 ^ s) ≤ 10 ^ (K + S) := near_bound (ten_pos s) (by rw [e]; exact Nat.mul_lt_mul_of_pos_right h (ten_pos S))
 have h2 : 10 ^ (K + 1 + S) = 10 ^ (K + S) * 10 := by rw [show K + 1 + S = (K + S) + 1 by omega, Nat.pow_succ]
 have := ten_pos (K + S)
 rw [h2]; omega
theorem Sz.quot {i j : Int} {s K : Nat} (t S : Nat) (h : Sz i s K) (h0 : j ≠ 0) : Sz (divZ i s j t S) S (K + s + t + 1) := by
 unfold Sz at h ⊢
 unfold divZ
 rw [abs_sgn]
 have hb : 0 < j.natAbs * 10 ^ s := Nat.mul_pos (by omega) (ten_pos s)
 have e : 10 ^ (K + s + t + S) = 10 ^ (K + s) * 10 ^ (S + t) := by rw [← Nat.pow_add]; congr 1; omega
 have h1 : nearN (i.natAbs * 10 ^ (S + t)) (j.natAbs * 10 ^ s) ≤ 10 ^ (K + s + t + S) := near_bound hb (by
   rw [e]
   refine Nat.lt_of_lt_of_le (Nat.mul_lt_mul_of_pos_right h (ten_pos _)) (Nat.le_mul_of_pos_right _ hb))
 have h2 : 10 ^ (K + s + t + 1 + S) = 10 ^ (K + s + t + S) * 10 := by rw [show K + s + t + 1 + S = (K + s + t + S) + 1 by omega, Nat.pow_succ]
 have := ten_pos (K + s + t + S)
 rw [h2]; omega
theorem sgn_times (b : Bool) (x k : Nat) : sgn b x * (k : Int) = sgn b (x * k) := by
 unfold sgn
 cases b <;> simp [Int.natCast_mul, Int.neg_mul]
theorem tz_ge : ∀ {k a : Nat}, 0 < a → a % 10 ^ k = 0 → k ≤ tz a := by
 intro k
 induction k with
 | zero => intro _ _ _; exact Nat.zero_le _
 | succ k ih =>
   intro a ha h
   rw [Nat.pow_succ, Nat.mul_comm, Nat.mod_mul] at h
   have h1 : a % 10 = 0 := by omega
   have h2 : a / 10 % 10 ^ k = 0 := by omega
   have := tz_yes ha h1
   have := ih (a := a / 10) (by omega) h2
   omega
theorem quant_exact (i : Int) (s S : Nat) (b : Bool) (hb : decide (s - stripK i s S ≤ S) = b) : ((((subZ i s (quantZ i s S) S).natAbs : Nat) : Int).sign == 0) = b := by
 have e1 := sgn_ng i
 have key : subZ i s (quantZ i s S) S = 0 ↔ s - stripK i s S ≤ S := by
   unfold subZ
   rcases Nat.le_total s S with hs | hs
   · have hm : max s S = S := by omega
     have e : quantZ i s S = up i s S := by
       unfold quantZ
       rw [show i.natAbs * 10 ^ S = i.natAbs * 10 ^ (S - s) * 10 ^ s by rw [Nat.mul_assoc, ← Nat.pow_add]; congr 2; omega, near_exact _ (ten_pos s)]
       exact sgn_up i s S
     rw [hm, e, up_same]
     exact ⟨fun _ => by have := stripK_le i s S; omega, fun _ => Int.sub_self _⟩
   · have hm : max s S = s := by omega
     rw [hm, up_same]
     have e : i.natAbs * 10 ^ S = i.natAbs * 10 ^ S := rfl
     have hq : quantZ i s S = sgn (ngB i) (nearN i.natAbs (10 ^ (s - S))) := by
       unfold quantZ
       rw [show 10 ^ s = 10 ^ (s - S) * 10 ^ S by rw [← Nat.pow_add]; congr 1; omega, near_scale (ten_pos _) (ten_pos _)]
     rw [hq]
     unfold up
     by_cases h0 : i = 0
     · subst h0
       have hz : nearN (Int.natAbs 0) (10 ^ (s - S)) = 0 := near_small (by have := ten_pos (s - S); simpa using this)
       rw [hz]
       have hk : stripK 0 s S = s - S := by unfold stripK; rw [if_pos rfl]
       rw [hk]
       exact ⟨fun _ => by omega, fun _ => by unfold sgn; cases ngB 0 <;> simp⟩
     · have ha : 0 < i.natAbs := by omega
       have hk : stripK i s S = min (s - S) (tz i.natAbs) := by unfold stripK; rw [if_neg h0]
       rw [hk]
       constructor
       · intro h
         have h1 : i = sgn (ngB i) (nearN i.natAbs (10 ^ (s - S)) * 10 ^ (s - S)) := by rw [← sgn_times]; omega
         have h2 : i.natAbs = nearN i.natAbs (10 ^ (s - S)) * 10 ^ (s - S) := by
           have := congrArg Int.natAbs h1
           rwa [abs_sgn] at this
         have h3 : i.natAbs % 10 ^ (s - S) = 0 := by rw [h2]; exact Nat.mul_mod_left _ _
         have := tz_ge ha h3
         omega
       · intro h
         have h3 : s - S ≤ tz i.natAbs := by omega
         obtain ⟨h4, _⟩ := tz_div ha (s - S) h3
         have h5 : nearN i.natAbs (10 ^ (s - S)) = i.natAbs / 10 ^ (s - S) := by
           have := near_exact (i.natAbs / 10 ^ (s - S)) (ten_pos (s - S))
           rwa [h4] at this
         rw [h5, sgn_times, h4, e1]
         exact Int.sub_self _
 rw [← hb]
 rw [Bool.eq_iff_iff, decide_eq_true_iff, ← key, beq_iff_eq, Int.sign_eq_zero_iff_zero]
 omega
end Go.Proofs.YthlhpgphmfnlgaaGreat
