/-
  Contracts of layer 2, the fourth part: Fast, Square.
-/
import Derived.Test.YtecgmdomhbmbkaaDoorMulC
namespace Go.Proofs.YtecgmdomhbmbkaaDoor
open Go.RowKit

/-- The halves of two numbers, by name. -/
theorem fast_facts {a b n m h : Nat} (hn : (dg a).length = n) (hm : (dg b).length = m) (h1 : n ≤ 2 * h) (h2 : m ≤ 2 * h) (h3 : 2 * h ≤ n + m) :
    ∃ la ha lb hb, a % 1000000000 ^ h = la ∧ a / 1000000000 ^ h = ha ∧ b % 1000000000 ^ h = lb ∧ b / 1000000000 ^ h = hb ∧
      (dg la).length ≤ h ∧ (dg ha).length ≤ n - h ∧ (dg lb).length ≤ h ∧ (dg hb).length ≤ m - h ∧ (dg (la + ha)).length ≤ h + 1 ∧ (dg (lb + hb)).length ≤ h + 1 ∧
      (dg (la * lb)).length ≤ 2 * h ∧ (dg (ha * hb)).length ≤ n + m - 2 * h ∧ la * lb ≤ (la + ha) * (lb + hb) ∧ ha * hb ≤ (la + ha) * (lb + hb) - la * lb ∧
      (la * lb + 1000000000 ^ (2 * h) * (ha * hb)) + 1000000000 ^ h * ((la + ha) * (lb + hb) - la * lb - ha * hb) = a * b :=
  ⟨_, _, _, _, rfl, rfl, rfl, rfl, mod_len a h, div_len hn, mod_len b h, div_len hm, half_len hn h1, half_len hm h2, low_len, high_len hn hm h3, mid_le1 a b h, mid_le2 a b h, kara a b h⟩

theorem Env.two {w : World} {A1 A2 : Option Addr} {n1 n2 c1 c2 a b : Nat} (h1 : Num w w.heap.size A1 n1 c1 a) (h2 : Num w w.heap.size A2 n2 c2 b) : Hid (Env w w [(A1, n1, c1, a), (A2, n2, c2, b)]) := by
  refine ⟨Below.refl _ _, fun q hq => ?_⟩
  rcases List.mem_cons.1 hq with rfl | hq
  · exact h1
  · rcases List.mem_cons.1 hq with rfl | hq
    · exact h2
    · cases hq
theorem vals_splice (L cs : List Nat) (off : Nat) : splice (vals L) off (vals cs) = vals (splice L off cs) := by
  simp [splice, vals, List.map_append, List.map_take, List.map_drop]
theorem own_spliced {w : World} {g off : Nat} {L cs : List Nat} (h : Hid (w.heap[g]? = some (.cells (splice (vals L) off (vals cs)).toArray 36 (0, 0)))) : Hid (Own w g (splice L off cs)) := by
  have := h.out
  rw [vals_splice] at this
  exact this
theorem copy_ok {w : World} {B n c k off : Nat} {A : Option Addr} {xs L : List Nat} (h : Lim w B A n c xs) (hk : n ≤ k) (hl : off + k ≤ L.length) : (vals xs).length = Nat.min n k ∧ off + (vals xs).length ≤ (vals L).length := by
  rw [vals_len, vals_len, h.len]
  exact ⟨(Nat.min_eq_left hk).symm, by omega⟩

theorem own_lim_is {w : World} {g m : Nat} {zs : List Nat} (h : Own w g zs) (hz : limbs zs) (hl : zs.length = m) (hm : m ≤ 1000000000000) : Lim w w.heap.size (some ⟨g, 0, none⟩) m m zs := by
  subst hl; exact h.lim hz hm

/-- Two numbers are laid into a room of noughts: the first one at its head, the second one at place p. -/
theorem two_laid {N p x y : Nat} (h1 : (dg x).length ≤ p) (h2 : p + (dg y).length ≤ N) :
    (splice (splice (List.replicate N 0) 0 (dg x)) p (dg y)).length = N ∧ limbs (splice (splice (List.replicate N 0) 0 (dg x)) p (dg y)) ∧ val (splice (splice (List.replicate N 0) 0 (dg x)) p (dg y)) = x + 1000000000 ^ p * y := by
  have e1 : 0 + (dg x).length ≤ (List.replicate N 0).length := by simp; omega
  have e2 : p + (dg y).length ≤ (splice (List.replicate N 0) 0 (dg x)).length := by
    rw [splice, len_splice e1]; simp; omega
  refine ⟨?_, ?_, ?_⟩
  · rw [splice, len_splice e2, splice, len_splice e1]; simp
  · exact limbs_splice (limbs_splice (zeros_limbs _) (limbs_dg x)) (limbs_dg y)
  · rw [splice, val_splice e2, splice, val_splice e1, val_zeros, val_dg, val_dg]
    · simp
    · intro j _; exact gd_zeros _ _
    · intro j hj; exact gd_splice e1 (fun j _ => gd_zeros _ _) j (by omega)

end Go.Proofs.YtecgmdomhbmbkaaDoor
