/-
  What DecStrips needs of plain mathematics: a decimal stripped; sums of parts.
-/
import Derived.Test.YtafbkoejobkncaaDecO
namespace Go.Proofs.Ytafbkoejobkncaa
open Go.RowKit

theorem tz_div {a : Nat} (ha : 0 < a) : ∀ k, k ≤ tz a → a / 10 ^ k * 10 ^ k = a ∧ tz (a / 10 ^ k) = tz a - k := by
  intro k
  induction k with
  | zero => intro _; simp
  | succ k ih =>
    intro hk
    obtain ⟨h1, h2⟩ := ih (by omega)
    have e : a / 10 ^ (k + 1) = a / 10 ^ k / 10 := by rw [Nat.pow_succ, Nat.div_div_eq_div_mul]
    have hb : 0 < a / 10 ^ k := by
      rcases Nat.eq_zero_or_pos (a / 10 ^ k) with h0 | h0
      · rw [h0] at h1; omega
      · exact h0
    have hz : a / 10 ^ k % 10 = 0 := by
      rcases Nat.eq_zero_or_pos (a / 10 ^ k % 10) with h0 | h0
      · exact h0
      · have := tz_no (a := a / 10 ^ k) (by omega); omega
    have hy := tz_yes hb hz
    rw [e]
    refine ⟨?_, by omega⟩
    rw [Nat.pow_succ, Nat.mul_comm (10 ^ k) 10, ← Nat.mul_assoc]
    have : a / 10 ^ k / 10 * 10 = a / 10 ^ k := by omega
    rw [this, h1]
theorem strip_abs (i : Int) (s L : Nat) : (stripI i s L).natAbs * 10 ^ stripK i s L = i.natAbs ∧ (i ≠ 0 → tz (stripI i s L).natAbs = tz i.natAbs - stripK i s L) := by
  unfold stripI
  rw [abs_sgn]
  by_cases h0 : i = 0
  · subst h0; exact ⟨by simp, fun h => absurd rfl h⟩
  · have hk : stripK i s L ≤ tz i.natAbs := by unfold stripK; rw [if_neg h0]; omega
    obtain ⟨h1, h2⟩ := tz_div (a := i.natAbs) (by omega) _ hk
    exact ⟨h1, fun _ => h2⟩
theorem strip_zero' {i : Int} {s L : Nat} (h : stripI i s L = 0) : i = 0 := by
  have := (strip_abs i s L).1
  rw [h] at this
  simp at this; omega
theorem strip_none (s L : Nat) : stripI 0 s L = 0 := by
  unfold stripI
  cases ngB 0 <;> simp [sgn]
theorem strip_mul (i : Int) (s L : Nat) : stripI i s L * ((10 ^ stripK i s L : Nat) : Int) = i := by
  have h1 := (strip_abs i s L).1
  have h2 : ngB (stripI i s L) = (ngB i && decide (0 < i.natAbs / 10 ^ stripK i s L)) := by unfold stripI; exact ng_sgn _ _
  have e : (stripI i s L).natAbs = i.natAbs / 10 ^ stripK i s L := by unfold stripI; rw [abs_sgn]
  have hi := sgn_ng i
  generalize 10 ^ stripK i s L = P at *
  generalize stripI i s L = x at *
  rw [← h1] at hi
  refine Eq.trans ?_ hi
  rcases Nat.eq_zero_or_pos x.natAbs with h0 | h0
  · have hx : x = 0 := by omega
    rw [hx]
    cases ngB i <;> simp [sgn]
  · rw [← e, decide_eq_true h0, Bool.and_true] at h2
    rw [← h2]
    unfold sgn ngB
    by_cases hx : x < 0
    · rw [decide_eq_true hx, if_pos rfl, Int.natCast_mul, ← Int.neg_mul]; congr 1; omega
    · rw [decide_eq_false hx, if_neg (by simp), Int.natCast_mul]; congr 1; omega
theorem strip_same (i : Int) (s L : Nat) : (cmpD (stripI i s L) (s - stripK i s L) i s == 0) = true := by
  have hk := stripK_le i s L
  unfold cmpD
  have e : up (stripI i s L) (s - stripK i s L) (max (s - stripK i s L) s) = up i s (max (s - stripK i s L) s) := by
    have hm : max (s - stripK i s L) s = s := by omega
    rw [hm]
    unfold up
    have e1 : s - (s - stripK i s L) = stripK i s L := by omega
    rw [e1, strip_mul, Nat.sub_self]; simp
  rw [cmpZ_eq e]; rfl
theorem strip_again (i : Int) (s L : Nat) : stripK (stripI i s L) (s - stripK i s L) L = 0 := by
  have h2 := (strip_abs i s L).2
  by_cases h0 : i = 0
  · subst h0
    have e := strip_none s L
    rw [e]
    unfold stripK
    simp only [if_true]; omega
  · have h3 : stripI i s L ≠ 0 := fun h => h0 (strip_zero' h)
    have h4 := h2 h0
    have hk : stripK i s L = min (s - L) (tz i.natAbs) := by unfold stripK; rw [if_neg h0]
    generalize stripI i s L = x at *
    generalize stripK i s L = k at *
    unfold stripK
    rw [if_neg h3]; omega
theorem strip_twice (i : Int) (s L : Nat) : stripI (stripI i s L) (s - stripK i s L) L = stripI i s L := by
  have h := strip_again i s L
  generalize stripI i s L = x at *
  unfold stripI
  rw [h, Nat.pow_zero, Nat.div_one, sgn_ng]
theorem strip_end {i : Int} {s L : Nat} (h : stripI i s L ≠ 0) (hL : L < s - stripK i s L) : tz (stripI i s L).natAbs = 0 := by
  have h0 : i ≠ 0 := fun e => h (by subst e; exact strip_none s L)
  have h4 := (strip_abs i s L).2 h0
  have hk : stripK i s L = min (s - L) (tz i.natAbs) := by unfold stripK; rw [if_neg h0]
  omega
theorem Decs.take {w : World} {B n c k : Nat} {A : Option Addr} {d : Nat → Int × Nat} {p : Nat → Option Addr × Nat × Nat} (h : Decs w B A n c d p) (hk : k ≤ n) : Decs w B A k c d p := by
  refine ⟨Nat.le_trans hk h.cap, h.room, ?_, fun j hj => h.num j (by omega), fun j hj => h.short j (by omega), h.addr⟩
  rcases h.row with h0 | ⟨b, o, hA, hB, hc⟩
  · exact .inl (by omega)
  · exact .inr ⟨b, o, hA, hB, fun j hj => hc j (by omega)⟩
theorem Decs.drop {w : World} {B n c k : Nat} {b o : Nat} {d : Nat → Int × Nat} {p : Nat → Option Addr × Nat × Nat} (h : Decs w B (some ⟨b, o, none⟩) n c d p) (hk : k ≤ n) : Decs w B (some ⟨b, o + k * 3, none⟩) (n - k) (c - k) (fun j => d (k + j)) (fun j => p (k + j)) := by
  have hc0 := h.cap
  have hm := h.room
  refine ⟨by omega, by omega, ?_, fun j hj => h.num (k + j) (by omega), fun j hj => h.short (k + j) (by omega), fun h => by cases h⟩
  rcases h.row with h0 | ⟨b', o', hA, hB, hc⟩
  · exact .inl (by omega)
  · cases hA
    refine .inr ⟨b, o + k * 3, rfl, hB, fun j hj => ?_⟩
    have hc := hc (k + j) (by omega)
    have e : o + k * 3 + j * 3 = o + (k + j) * 3 := by omega
    rw [e]; exact hc
/-- The sum of two halves is the sum of all. -/
theorem sum_halves {d : Nat → Int × Nat} {n k : Nat} (hd : Short d n) (hk : k ≤ n) : (cmpD (sumI d n) (sumS d n) (addZ (sumI d k) (sumS d k) (sumI (fun j => d (k + j)) (n - k)) (sumS (fun j => d (k + j)) (n - k))) (max (sumS d k) (sumS (fun j => d (k + j)) (n - k))) == 0) = true := by
  have h1 := sum_up (d := d) (M := 60) (k := n) (fun j hj => (hd j hj).2)
  have h2 := sum_up (d := d) (M := 60) (k := k) (fun j hj => (hd j (by omega)).2)
  have h3 := sum_up (d := fun j => d (k + j)) (M := 60) (k := n - k) (fun j hj => (hd (k + j) (by omega)).2)
  rw [cmpD_at (M := 60) h1.1 (by omega), up_addZ h2.1 h3.1, h1.2, h2.2, h3.2, ← tot_split, show k + (n - k) = n from by omega, cmpZ_eq rfl]; rfl

end Go.Proofs.Ytafbkoejobkncaa
