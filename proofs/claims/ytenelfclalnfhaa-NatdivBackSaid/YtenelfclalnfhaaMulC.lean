/-
  Contracts of layer 2, the third part: halves, Fast, Square.
-/
import Derived.Test.YtenelfclalnfhaaMulB
namespace Go.Proofs.Ytenelfclalnfhaa
open Go.RowKit

theorem Lim.quiet {w : World} {B n c k : Nat} {A : Option Addr} {xs : List Nat} (h : Lim w B A n c xs) : Lim (w.drewN k) B A n c xs := h.below (below_drewN (Below.refl _ _) k)

theorem val_take_mod (a k : Nat) : val ((dg a).take k) = a % 1000000000 ^ k ∧ val ((dg a).drop k) = a / 1000000000 ^ k := by
  have hp : 0 < 1000000000 ^ k := Nat.pow_pos (by omega)
  have hlt : val ((dg a).take k) < 1000000000 ^ k := by
    refine Nat.lt_of_lt_of_le (val_lt (limbs_take (limbs_dg a) k)) (Nat.pow_le_pow_right (by omega) ?_)
    rw [List.length_take]; omega
  have e : a = val ((dg a).take k) + 1000000000 ^ k * val ((dg a).drop k) := by
    rcases Nat.lt_or_ge (dg a).length k with h | h
    · rw [List.take_of_length_le (by omega), List.drop_of_length_le (by omega), val_dg]; rfl
    · rw [← val_take_drop _ _ h, val_dg]
  generalize 1000000000 ^ k = P at *
  generalize val ((dg a).take k) = x at *
  generalize val ((dg a).drop k) = y at *
  subst e
  constructor
  · rw [Nat.add_mul_mod_self_left, Nat.mod_eq_of_lt hlt]
  · rw [Nat.add_mul_div_left _ _ hp, Nat.div_eq_of_lt hlt, Nat.zero_add]

theorem Lim.rest {w : World} {B n c b o k : Nat} {xs : List Nat} (h : Lim w B (some ⟨b, o, none⟩) n c xs) (hk : k ≤ n) (A : Option Addr) (hA : k < n → A = some ⟨b, o + k, none⟩) (hA' : A = none → c - k = 0) : Lim w B A (n - k) (c - k) (xs.drop k) := by
  refine ⟨by rw [List.length_drop, h.len], by have := h.cap; omega, by have := h.room; omega, fun x hx => h.fit x (List.mem_of_mem_drop hx), ?_, hA'⟩
  rcases Nat.lt_or_ge k n with hlt | hge
  · obtain rfl := hA hlt
    rcases h.row with h0 | ⟨b', o', he, hb, hc⟩
    · left
      have := congrArg List.length h0
      rw [vals_len, h.len] at this
      simp at this; omega
    · injection he with he
      injection he with he1 he2
      subst he1; subst he2
      refine .inr ⟨b, o + k, rfl, hb, fun j u hu => ?_⟩
      rw [Nat.add_assoc]
      refine hc (k + j) u ?_
      rw [vals, List.map_drop, List.getElem?_drop] at hu
      exact hu
  · left
    rw [List.drop_of_length_le (by rw [h.len]; exact hge)]; rfl

/-- What halves hands back. -/
def RetHalves (W : World) (x y : Nat) (e : Ending) (w' : World) : Prop :=
  ∃ A1 n1 c1 A2 n2 c2, e = .returned (.tuple #[.slice A1 n1 c1, .slice A2 n2 c2]) ∧ Num w' w'.heap.size A1 n1 c1 x ∧ Num w' w'.heap.size A2 n2 c2 y ∧ Below W.heap.size W w'

theorem halves_ret {W : World} {x y k n1 n2 : Nat} {V1 V2 : Value} {xs ys : List Nat} {A1 A2 : Option Addr} (hv : val xs = x ∧ val ys = y)
    (h1 : ∃ A' n' c', V1 = .slice A' n' c' ∧ n' ≤ n1 ∧ (A' = none ∨ A' = A1) ∧ Lim W W.heap.size A' n' c' (dg (val xs))) (h2 : ∃ A' n' c', V2 = .slice A' n' c' ∧ n' ≤ n2 ∧ (A' = none ∨ A' = A2) ∧ Lim W W.heap.size A' n' c' (dg (val ys))) :
    RetHalves W x y (.returned (.tuple #[V1, V2])) (W.drewN k) := by
  obtain ⟨rfl, rfl⟩ := hv
  obtain ⟨A1, n1, c1, rfl, _, _, l1⟩ := h1
  obtain ⟨A2, n2, c2, rfl, _, _, l2⟩ := h2
  exact ⟨A1, n1, c1, A2, n2, c2, rfl, l1.quiet, l2.quiet, below_drewN (Below.refl _ _) k⟩

set_option maxHeartbeats 1000000 in
set_option maxRecDepth 100000 in
theorem halves_any (A : Option Addr) (n c a k : Nat) (w : World) (h : Num w w.heap.size A n c a) (hn0 : 0 < n) (hk0 : 0 < k) (hk : k ≤ 1000000000) :
    Calls Try.prog 55 #[.slice A n c, .int .i64 k] w (RetHalves w (a % 1000000000 ^ k) (a / 1000000000 ^ k)) := by
  have hm := h.room
  have hcap := h.cap
  unfold maxLen at hm
  obtain ⟨m, hmk, hmn, hm0, htk, hdr, hmm⟩ : ∃ m, m ≤ k ∧ m ≤ n ∧ 0 < m ∧ (dg a).take m = (dg a).take k ∧ (dg a).drop m = (dg a).drop k ∧ ((n < k ∧ m = n) ∨ (k ≤ n ∧ m = k)) := by
    rcases Nat.lt_or_ge n k with h1 | h1
    · refine ⟨n, by omega, by omega, hn0, ?_, ?_, .inl ⟨h1, rfl⟩⟩
      · rw [List.take_of_length_le (by rw [h.len]; exact Nat.le_refl _), List.take_of_length_le (by rw [h.len]; omega)]
      · rw [List.drop_of_length_le (by rw [h.len]; exact Nat.le_refl _), List.drop_of_length_le (by rw [h.len]; omega)]
    · exact ⟨k, by omega, h1, hk0, rfl, rfl, .inr ⟨h1, rfl⟩⟩
  obtain ⟨b, o, rfl, hb, _⟩ := h.at_ hn0
  have HT : Hid (Lim w w.heap.size (some ⟨b, o, none⟩) m m ((dg a).take k)) := by
    have := h.take hmn
    rw [htk] at this
    exact ⟨this.len, Nat.le_refl _, Nat.le_trans this.cap this.room, this.fit, this.row, fun hA => by cases hA⟩
  have HD : Hid (∀ A' p q (v : World), p = n - m → q = c - m → (m < n → A' = some ⟨b, o + m, none⟩) → (A' = none → c - m = 0) → Below w.heap.size w v → Lim v w.heap.size A' p q ((dg a).drop k)) := by
    intro A' p q v hp hq h1 h2 hv
    subst hp; subst hq
    have := h.rest hmn A' h1 h2
    rw [hdr] at this
    exact this.below hv
  have ET := Lib.hid (val_take_mod a k)
  have LT := Lib.hid (limbs_take (limbs_dg a) k)
  have LD := Lib.hid (limbs_drop (limbs_dg a) k)
  clear h htk hdr
  rcases hmm with ⟨h1, h2⟩ | ⟨h1, h2⟩
  all_goals
    first | obtain rfl : n = m := h2.symm | obtain rfl : k = m := h2.symm
    rcases Nat.eq_or_lt_of_le (show _ ≤ c from Nat.le_trans hmn hcap) with hmc | hmc
    all_goals
      try subst hmc
      go_enter Try.func55, Try.ntmps55
      go_wp2
      go_quiet ((go_at_call 45; first | exact Calls.quiet_of_same (mcut_q _ _ _ _ ((dg a).take k) _ HT.out.quiet LT.out) | exact Calls.quiet_of_same (mcut_q _ _ _ _ ((dg a).drop k) _ (HD.out _ _ _ _ (by omega) (by omega) (fun _ => by first | rfl | omega) (fun h => by cases h) (below_drewN (Below.refl _ _) _)) LD.out)))
      go_wp2
      go_ret2
      exact halves_ret ET.out (cutV_lim HT.out LT.out) (cutV_lim (HD.out _ _ _ _ rfl rfl (fun _ => by first | rfl | omega) (fun h => by cases h) (Below.refl _ _)) LD.out)

end Go.Proofs.Ytenelfclalnfhaa
